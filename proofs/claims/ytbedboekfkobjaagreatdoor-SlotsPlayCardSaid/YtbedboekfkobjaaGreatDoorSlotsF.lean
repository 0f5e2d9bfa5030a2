/- Slots and the document's, each call told by one function of the list; acts opened. -/
import Derived.Test.YtbedboekfkobjaaGreatDoorSlotsRefB
import Derived.Test.YtbedboekfkobjaaGreatDoorSlotsOrderWalk
namespace Go.Proofs.YtbedboekfkobjaaGreatDoor.St
open Go.ChangeShapes Go.WideShapes Go.ChangeAt Go.RowKit Go.Deep Rw Hi
set_option linter.unusedVariables false

/-- What Fill does and tells. -/
def fillR (L : List Sx) (i : Int) : List Sx × Int × Bool := if i = 0 then (L, 0, false) else match L.findIdx? free with
  | some k => (match L[k]? with | some x => (fillAt L k x i, x.1, true) | none => (L, 0, false))
  | none => (L, 0, false)
/-- What Take does and tells. -/
def takeR (L : List Sx) (t : Int) : List Sx × Int × Bool := match L.findIdx? (hit t) with
  | some k => (match L[k]? with | some x => (L.eraseIdx k, x.2.2, true) | none => (L, 0, false))
  | none => (L, 0, false)
theorem fillR_len (L : List Sx) (i : Int) : (fillR L i).1.length = L.length := by
  unfold fillR
  split
  · rfl
  · split
    · split
      · exact fillAt_len _ _ _ _
      · rfl
    · rfl
theorem takeR_len (L : List Sx) (t : Int) : (takeR L t).1.length ≤ L.length := by
  unfold takeR
  split
  · split
    · exact List.length_eraseIdx_le _ _
    · exact Nat.le_refl _
  · exact Nat.le_refl _
theorem Fr.of_below {w w' : World} {a b : Option Nat} (h : Below w.heap.size w w') : Fr a b w w' := ⟨h.os, h.tape, h.output, h.size, fun k hk _ _ => h.block k hk⟩
theorem fillU (w : World) (B p : Nat) (r : Option Nat) (L : List Sx) (i : Int) (h : Ss w B p r L) :
    Calls Tryz.prog 12 #[.pointer (some ⟨p, 0, none⟩), .int .u64 i] w fun e w' => e = .returned (.tuple #[.int .i64 (fillR L i).2.1, .bool (fillR L i).2.2]) ∧ Ss w' B p r (fillR L i).1 ∧ Fr (some p) r w w' := by
  unfold fillR
  by_cases hi : i = 0
  · subst hi
    simp only [if_true]
    refine (fill_zero_any w p).mono ?_
    rintro e w' ⟨rfl, rfl⟩
    exact ⟨rfl, h, Fr.refl _ _ _⟩
  · rw [if_neg hi]
    cases hf : L.findIdx? free with
    | none =>
      refine (fill_miss_any w B p r L i h hf hi).mono ?_
      rintro e w' ⟨rfl, hb⟩
      exact ⟨rfl, h.later hb, Fr.of_below hb⟩
    | some k =>
      obtain ⟨x, hx, _, _⟩ := ix_hit hf
      simp only [hx]
      exact fill_hit_any w B p r L i k x h hf hx hi
theorem takeU (w : World) (B p : Nat) (r : Option Nat) (L : List Sx) (t : Int) (h : Ss w B p r L) :
    Calls Tryz.prog 15 #[.pointer (some ⟨p, 0, none⟩), .int .i64 t] w fun e w' => e = .returned (.tuple #[.int .u64 (takeR L t).2.1, .bool (takeR L t).2.2]) ∧ Ss w' B p r (takeR L t).1 ∧ Fr (some p) r w w' := by
  unfold takeR
  cases hf : L.findIdx? (hit t) with
  | none =>
    refine (take_miss_any w B p r L t h hf).mono ?_
    rintro e w' ⟨rfl, hb⟩
    exact ⟨rfl, h.later hb, Fr.of_below hb⟩
  | some k =>
    obtain ⟨x, hx, _, _⟩ := ix_hit hf
    simp only [hx]
    exact take_hit_any w B p r L t k x h hf hx
theorem parkU (w : World) (B p : Nat) (r : Option Nat) (L : List Sx) (t d : Int) (h : Ss w B p r L) (hn : L.length ≤ 1000) :
    Calls Tryz.prog 13 #[.pointer (some ⟨p, 0, none⟩), .int .i64 t, .int .u64 d] w fun e w' => e = .returned (.int .i64 (parkE L t)) ∧ ∃ r', Ss w' B p r' (parkL L t d) ∧ Fr (some p) r w w' ∧ (∀ g, r' = some g → r = some g ∨ w.heap.size ≤ g) := by
  cases hf : L.findIdx? (hit t) with
  | none =>
    obtain ⟨e1, e2⟩ := park_miss (d := d) hf
    rw [e1, e2]
    exact park_miss_any w B p r L t d h hf hn
  | some k =>
    obtain ⟨e1, e2⟩ := park_hit (d := d) hf
    rw [e1, e2]
    refine (park_hit_any w B p r L t d k h hf).mono ?_
    rintro e w' ⟨rfl, hb⟩
    exact ⟨rfl, r, h.later hb, Fr.of_below hb, fun g hg => .inl hg⟩
theorem rfillU (A : Option Addr) (n c : Nat) (L : List Sx) (i : Int) (w : World) (h : Rs enc3 3 w w.heap.size A n c L) (hn : n ≤ 1000) :
    Calls Tryz.prog 14 #[.slice A n c, .int .u64 i] w fun e w' => ∃ A' n' c', e = .returned (.tuple #[.slice A' n' c', .int .i64 (fillR L i).2.1, .bool (fillR L i).2.2]) ∧ Rs enc3 3 w' w'.heap.size A' n' c' (fillR L i).1 ∧ New1 w w' (.slice A n c) (.slice A' n' c') ∧ Below w.heap.size w w' := by
  unfold fillR
  by_cases hi : i = 0
  · subst hi
    simp only [if_true]
    refine (rfill_zero A n c w).mono ?_
    rintro e w' ⟨rfl, rfl⟩
    exact ⟨A, n, c, rfl, h, .inl rfl, Below.refl _ _⟩
  · rw [if_neg hi]
    cases hf : L.findIdx? free with
    | none =>
      refine (rfill_miss A n c L i w h hi hf).mono ?_
      rintro e w' ⟨rfl, hb⟩
      exact ⟨A, n, c, rfl, h.later hb, .inl rfl, hb⟩
    | some k =>
      obtain ⟨x, hx, _, _⟩ := ix_hit hf
      simp only [hx]
      refine (rfill_hit A n c L i k x w h hi hn hf hx).mono ?_
      rintro e w' ⟨A', c', rfl, h1, h2, h3⟩
      exact ⟨A', n, c', rfl, h1, h2, h3⟩
theorem rtakeU (A : Option Addr) (n c : Nat) (L : List Sx) (t : Int) (w : World) (h : Rs enc3 3 w w.heap.size A n c L) (hn : n ≤ 1000) :
    Calls Tryz.prog 16 #[.slice A n c, .int .i64 t] w fun e w' => ∃ A' n' c', e = .returned (.tuple #[.slice A' n' c', .int .u64 (takeR L t).2.1, .bool (takeR L t).2.2]) ∧ Rs enc3 3 w' w'.heap.size A' n' c' (takeR L t).1 ∧ New1 w w' (.slice A n c) (.slice A' n' c') ∧ Below w.heap.size w w' := by
  unfold takeR
  cases hf : L.findIdx? (hit t) with
  | none =>
    refine (rtake_miss A n c L t w h hf).mono ?_
    rintro e w' ⟨rfl, hb⟩
    exact ⟨A, n, c, rfl, h.later hb, .inl rfl, hb⟩
  | some k =>
    obtain ⟨x, hx, _, _⟩ := ix_hit hf
    simp only [hx]
    refine (rtake_hit A n c L t k x w h hn hf hx).mono ?_
    rintro e w' ⟨A', c', rfl, h1, h2, h3⟩
    exact ⟨A', n - 1, c', rfl, h1, h2, h3⟩

/-- The document's row, apart from slots. -/
theorem rs_fr {w w' : World} {A : Option Addr} {n c : Nat} {L : List Sx} {p : Nat} {r : Option Nat} (h : Rs enc3 3 w w.heap.size A n c L) (hf : Fr (some p) r w w') (ha : Apart (.slice A n c) p r) : Rs enc3 3 w' w'.heap.size A n c L :=
  ⟨h.len, h.cap, h.top, fun hn => by
    obtain ⟨b, o, e, hb, hc⟩ := h.at_ hn
    subst e
    have h1 := ha b rfl
    exact ⟨b, o, rfl, Nat.lt_of_lt_of_le hb hf.size, fun j x hx i u hi hu => (hf.cell (p := ⟨b, o + j * 3 + i, none⟩) hb (fun e => h1.1 (by injection e)) (fun e => h1.2 e.symm)).trans (hc j x hx i u hi hu)⟩⟩
theorem Apart.new {w w' : World} {A A' : Option Addr} {n c n' c' : Nat} {p : Nat} {r : Option Nat} (ha : Apart (.slice A n c) p r) (h : New1 w w' (.slice A n c) (.slice A' n' c')) (hp : p < w.heap.size) (hr : ∀ g, r = some g → g < w.heap.size) : Apart (.slice A' n' c') p r := fun g hg => by
  rcases h with e | e
  · exact ha g (e.symm.trans hg)
  · have := (e g hg).1
    exact ⟨by omega, fun e2 => by have := hr g e2; omega⟩

/-- An act: what to do, the thread, the number. -/
def encK (x : Sx) : List Value := [.int .u8 x.1, .int .i64 x.2.1, .int .u64 x.2.2]
theorem encK_len (x : Sx) : (encK x).length = 3 := rfl
theorem act_at {w : World} {B : Nat} {A : Option Addr} {n c k : Nat} {l : List Sx} (h : Rs encK 3 w B A n c l) (hk : k < n) : ∃ b o x, A = some ⟨b, o, none⟩ ∧ b < B ∧ l[k]? = some x ∧
    w.cell? ⟨b, o + k * 3, none⟩ = some (.int .u8 x.1) ∧ w.cell? ⟨b, o + k * 3 + 1, none⟩ = some (.int .i64 x.2.1) ∧ w.cell? ⟨b, o + k * 3 + 2, none⟩ = some (.int .u64 x.2.2) := by
  obtain ⟨b, o, e, h1, h2, h3, hc⟩ := h.get hk
  exact ⟨b, o, e, h1, h2, h3, hc 0 _ (by omega) rfl, hc 1 _ (by omega) rfl, hc 2 _ (by omega) rfl⟩
set_option maxRecDepth 100000 in
theorem open_acts {H : Type} {enc : TypeId × Value → H} {W : World} {base b0 : Nat} {sp : Nat → Bool} {held : Bool} {v : Value} {d : DataW H} {p : List MemPlace}
    (k0 : Value.okWide Tryz.prog W .any b0 22 v) (h0 : DataW.Trod enc Tryz.prog W base sp held 22 v d p) :
    ∃ A n c xs, v = .slice A n c ∧ Rs encK 3 W W.heap.size A n c xs ∧ ∀ x ∈ xs, 0 ≤ x.1 ∧ x.1 ≤ 255 := by
  rcases Lw.slice_structs Tryz.underlying22 Tryz.underlying29 (by kernel_rfl) (by kernel_rfl) k0 h0 with rfl | ⟨ad, len, cap, rfl, hl, hm, hc⟩
  · exact ⟨none, 0, 0, [], rfl, Rs.nil_, fun x hx => by cases hx⟩
  · unfold maxLen at hm
    by_cases h00 : len = 0
    · subst h00
      exact ⟨some ad, 0, cap, [], rfl, Rs.empty _ (by omega), fun x hx => by cases hx⟩
    have hs : ad.spot = none := by
      obtain ⟨x, y, n, hx, _⟩ := hc 0 (by omega) 0 _ rfl
      exact Lw.spot_none (a := ad) hx
    have hall : ∀ i, ∃ q : Sx, i < len → (∀ j u, j < 3 → (encK q)[j]? = some u → W.cell? ⟨ad.block, ad.off + i * 3 + j, none⟩ = some u) ∧ 0 ≤ q.1 ∧ q.1 ≤ 255 := by
      intro i
      by_cases hi : i < len
      · obtain ⟨x0, y0, n0, c0, t0⟩ := hc i hi 0 _ rfl
        obtain ⟨x1, y1, n1, c1, t1⟩ := hc i hi 1 _ rfl
        obtain ⟨x2, y2, n2, c2, t2⟩ := hc i hi 2 _ rfl
        obtain ⟨z0, e0, -, u0⟩ := DataW.trod_int Tryz.underlying5 t0
        obtain ⟨z1, e1, -, u1⟩ := DataW.trod_int Tryz.underlying3 t1
        obtain ⟨z2, e2, -, u2⟩ := DataW.trod_int Tryz.underlying27 t2
        simp only [List.cons.injEq, and_true] at e0 e1 e2
        subst e0 e1 e2
        rw [Lw.add_eq hs] at c0 c1 c2
        refine ⟨(z0, z1, z2), fun _ => ⟨fun j u hj hu => ?_, Wd.lo_u8 u0⟩⟩
        match j, hj, hu with
        | 0, _, hu => simp [encK] at hu; subst hu; exact c0
        | 1, _, hu => simp [encK] at hu; subst hu; exact c1
        | 2, _, hu => simp [encK] at hu; subst hu; exact c2
      · exact ⟨(0, 0, 0), fun h => absurd h hi⟩
    obtain ⟨Q, hQ⟩ := Classical.axiomOfChoice hall
    have hblk : ad.block < W.heap.size := Lw.lt_heap (a := ⟨ad.block, ad.off + 0 * 3 + 0, none⟩) ((hQ 0 (by omega)).1 0 _ (by omega) rfl)
    refine ⟨some ad, len, cap, (List.range len).map Q, rfl, ⟨by simp, hl, by omega, fun _ => ⟨ad.block, ad.off, by cases ad; simp at hs; subst hs; rfl, hblk, fun j x hx i u hi hu => ?_⟩⟩, fun x hx => ?_⟩
    · obtain ⟨hj, rfl⟩ := List.getElem?_eq_some_iff.1 hx
      simp at hj hu
      exact (hQ j hj).1 i u hi hu
    · obtain ⟨i, hi, rfl⟩ := List.mem_map.1 hx
      exact (hQ i (List.mem_range.1 hi)).2
end Go.Proofs.YtbedboekfkobjaaGreatDoor.St
