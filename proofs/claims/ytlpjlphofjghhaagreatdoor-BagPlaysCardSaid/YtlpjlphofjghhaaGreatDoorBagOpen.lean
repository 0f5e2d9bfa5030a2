/- The acts that are handed to layer 15's laws. -/
import Derived.Test.YtlpjlphofjghhaaGreatDoorBagE
namespace Go.Proofs.YtlpjlphofjghhaaGreatDoor.Ba
open Go.ChangeShapes Go.WideShapes Go.ChangeAt Go.RowKit Go.Maps Rw Hi Mt
set_option linter.unusedVariables false

/-- An act: Do, ID, Old, Now, State. -/
structure Ax where
  do_ : Int
  id : Int
  old : Int
  now : Int
  st : Int
def encA (a : Ax) : List Value := [.int .u8 a.do_, .int .u64 a.id, .int .u64 a.old, .int .u64 a.now, .int .i64 a.st]
theorem encA_len (a : Ax) : (encA a).length = 5 := rfl
structure Ax.ok (a : Ax) : Prop where
  d : 0 ≤ a.do_ ∧ a.do_ ≤ 255
  i : U64 a.id
  o : U64 a.old
  n : U64 a.now
  s : -9223372036854775808 ≤ a.st ∧ a.st ≤ 9223372036854775807
theorem actA_at {w : World} {B : Nat} {A : Option Addr} {n c : Nat} {xs : List Ax} (h : Rs encA 5 w B A n c xs) {k : Nat} (hk : k < n) :
    ∃ b o x, A = some ⟨b, o, none⟩ ∧ b < B ∧ xs[k]? = some x ∧ w.cell? ⟨b, o + k * 5, none⟩ = some (.int .u8 x.do_) ∧ w.cell? ⟨b, o + k * 5 + 1, none⟩ = some (.int .u64 x.id) ∧ w.cell? ⟨b, o + k * 5 + 2, none⟩ = some (.int .u64 x.old) ∧ w.cell? ⟨b, o + k * 5 + 3, none⟩ = some (.int .u64 x.now) ∧ w.cell? ⟨b, o + k * 5 + 4, none⟩ = some (.int .i64 x.st) := by
  obtain ⟨b, o, x, hA, hb, hx, hc⟩ := h.get hk
  exact ⟨b, o, x, hA, hb, hx, hc 0 _ (by omega) rfl, hc 1 _ (by omega) rfl, hc 2 _ (by omega) rfl, hc 3 _ (by omega) rfl, hc 4 _ (by omega) rfl⟩
set_option maxRecDepth 100000 in
theorem open_acts {H : Type} {enc : TypeId × Value → H} {W : World} {base b0 : Nat} {sp : Nat → Bool} {held : Bool} {v : Value} {d : DataW H} {p : List MemPlace}
    (k0 : Value.okWide Tryz.prog W .any b0 22 v) (h0 : DataW.Trod enc Tryz.prog W base sp held 22 v d p) :
    ∃ A n c xs, v = .slice A n c ∧ Rs encA 5 W W.heap.size A n c xs ∧ ∀ x ∈ xs, x.ok := by
  rcases Lw.slice_structs Tryz.underlying22 Tryz.underlying32 (by kernel_rfl) (by kernel_rfl) k0 h0 with rfl | ⟨ad, len, cap, rfl, hl, hm, hc⟩
  · exact ⟨none, 0, 0, [], rfl, Rs.nil_, fun x hx => by cases hx⟩
  · unfold maxLen at hm
    by_cases h00 : len = 0
    · subst h00
      exact ⟨some ad, 0, cap, [], rfl, Rs.empty _ (by omega), fun x hx => by cases hx⟩
    have hs : ad.spot = none := by
      obtain ⟨x, y, n, hx, _⟩ := hc 0 (by omega) 0 _ rfl
      exact Lw.spot_none (a := ad) hx
    have hall : ∀ i, ∃ q : Ax, i < len → (∀ j u, j < 5 → (encA q)[j]? = some u → W.cell? ⟨ad.block, ad.off + i * 5 + j, none⟩ = some u) ∧ q.ok := by
      intro i
      by_cases hi : i < len
      · obtain ⟨x0, y0, n0, c0, t0⟩ := hc i hi 0 _ rfl
        obtain ⟨x1, y1, n1, c1, t1⟩ := hc i hi 1 _ rfl
        obtain ⟨x2, y2, n2, c2, t2⟩ := hc i hi 2 _ rfl
        obtain ⟨x3, y3, n3, c3, t3⟩ := hc i hi 3 _ rfl
        obtain ⟨x4, y4, n4, c4, t4⟩ := hc i hi 4 _ rfl
        obtain ⟨z0, e0, -, u0⟩ := DataW.trod_int Tryz.underlying5 t0
        obtain ⟨z1, e1, -, u1⟩ := DataW.trod_int Tryz.underlying30 t1
        obtain ⟨z2, e2, -, u2⟩ := DataW.trod_int Tryz.underlying30 t2
        obtain ⟨z3, e3, -, u3⟩ := DataW.trod_int Tryz.underlying30 t3
        obtain ⟨z4, e4, -, u4⟩ := DataW.trod_int Tryz.underlying3 t4
        simp only [List.cons.injEq, and_true] at e0 e1 e2 e3 e4
        subst e0 e1 e2 e3 e4
        rw [Lw.add_eq hs] at c0 c1 c2 c3 c4
        refine ⟨⟨z0, z1, z2, z3, z4⟩, fun _ => ⟨fun j u hj hu => ?_, Wd.lo_u8 u0, Wd.lo_u64 u1, Wd.lo_u64 u2, Wd.lo_u64 u3, Wd.lo_i64 u4⟩⟩
        match j, hj, hu with
        | 0, _, hu => simp [encA] at hu; subst hu; exact c0
        | 1, _, hu => simp [encA] at hu; subst hu; exact c1
        | 2, _, hu => simp [encA] at hu; subst hu; exact c2
        | 3, _, hu => simp [encA] at hu; subst hu; exact c3
        | 4, _, hu => simp [encA] at hu; subst hu; exact c4
      · exact ⟨⟨0, 0, 0, 0, 0⟩, fun h => absurd h hi⟩
    obtain ⟨Q, hQ⟩ := Classical.axiomOfChoice hall
    have hblk : ad.block < W.heap.size := Lw.lt_heap (a := ⟨ad.block, ad.off + 0 * 5 + 0, none⟩) ((hQ 0 (by omega)).1 0 _ (by omega) rfl)
    refine ⟨some ad, len, cap, (List.range len).map Q, rfl, ⟨by simp, hl, by omega, fun _ => ⟨ad.block, ad.off, by cases ad; simp at hs; subst hs; rfl, hblk, fun j x hx i u hi hu => ?_⟩⟩, fun x hx => ?_⟩
    · obtain ⟨hj, rfl⟩ := List.getElem?_eq_some_iff.1 hx
      simp at hj hu
      exact (hQ j hj).1 i u hi hu
    · obtain ⟨i, hi, rfl⟩ := List.mem_map.1 hx
      exact (hQ i (List.mem_range.1 hi)).2
end Go.Proofs.YtlpjlphofjghhaaGreatDoor.Ba
