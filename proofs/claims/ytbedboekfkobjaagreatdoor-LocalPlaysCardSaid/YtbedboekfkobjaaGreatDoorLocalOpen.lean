/- Acts of layer 12, opened: a slice of structs, one of whose fields is a slice. -/
import Derived.Test.YtbedboekfkobjaaGreatDoorLocalPlaysWalk
namespace Go.Proofs.YtbedboekfkobjaaGreatDoor.Lc
open Go Go.ChangeShapes Go.WideShapes Go.ChangeAt Go.RowKit Go.Deep Rw
set_option linter.unusedVariables false

section
variable {H : Type} {en : TypeId × Value → H} {P : Program} {w : World} {base : Nat} {spare : Nat → Bool} {held : Bool}
/-- A cell that holds a slice of integers. -/
theorem open_cell {t e : TypeId} {k : IntKind} {x : Value} {fuel : Nat} {y : DataW H × List MemPlace} (ht : P.underlying t = some (.slice e)) (he : P.underlying e = some (.int k)) (hC : P.cellsOf e = 1)
    (hf : DataW.trod en P w base spare held fuel t [x] = some y) :
    ∃ (A : Option Addr) (n c : Nat) (xs : List Int), x = .slice A n c ∧ Rd (Value.int k) w w.heap.size A n c xs := by
  rcases open_slice ht hf with ⟨h0, _⟩ | ⟨a, len, cap, m, n, D, Pl, hcs, _, hl, hm, hmm, _, hi⟩
  · simp at h0
    subst h0
    exact ⟨none, 0, 0, [], rfl, Rd.nil_⟩
  · simp at hcs
    subst hcs
    have hcell : ∀ i, i < len → ∃ x : Int, w.cell? (a.add i) = some (.int k x) ∧ (Lit.int k x).wf = true := by
      intro i hil
      obtain ⟨cs', hc, ht'⟩ := hi i (by rw [hmm]; split <;> omega)
      rw [hC] at hc
      obtain ⟨_, hcl, hat⟩ := World.cells?_some hc
      obtain ⟨z, hz, _, hw⟩ := DataW.trod_int he ht'
      refine ⟨z, ?_, hw⟩
      have h1 := hat 0 (by omega)
      rw [Go.Deep.add_add] at h1
      simp only [Nat.mul_one, Nat.add_zero] at h1
      rw [h1, hz]
      rfl
    obtain ⟨f, hf⟩ := choose_lt hcell
    unfold maxLen at hm
    refine ⟨_, _, _, (List.range len).map f, rfl, ⟨by simp, hl, hm, fun hn => ?_⟩⟩
    have hs : a.spot = none := Lw.spot_none (a := a) (by have := (hf 0 hn).1; simpa [Addr.add] using this)
    refine ⟨a.block, a.off, by cases a; simp at hs; subst hs; rfl, ?_, fun j x hx => ?_⟩
    · have := Lw.lt_heap (hf 0 hn).1
      simpa [Addr.add] using this
    · obtain ⟨hj, rfl⟩ := List.getElem?_eq_some_iff.1 hx
      simp at hj
      rw [← Lw.add_eq hs, (hf j hj).1]
      simp
end
set_option maxRecDepth 100000 in
theorem open_acts {H : Type} {enc : TypeId × Value → H} {W : World} {base b0 : Nat} {sp : Nat → Bool} {held : Bool} {v : Value} {d : DataW H} {p : List MemPlace}
    (k0 : Value.okWide Tryz.prog W .any b0 63 v) (h0 : DataW.Trod enc Tryz.prog W base sp held 63 v d p) :
    ∃ A n c xs, v = .slice A n c ∧ Rs encX 4 W W.heap.size A n c xs ∧ ∀ x ∈ xs, Rd (Value.int .u64) W W.heap.size x.A x.n x.c x.ids := by
  rcases Lw.slice_structs Tryz.underlying63 Tryz.underlying69 (by kernel_rfl) (by kernel_rfl) k0 h0 with rfl | ⟨ad, len, cap, rfl, hl, hm, hc⟩
  · exact ⟨none, 0, 0, [], rfl, Rs.nil_, fun x hx => by cases hx⟩
  · unfold maxLen at hm
    by_cases h00 : len = 0
    · subst h00
      exact ⟨some ad, 0, cap, [], rfl, Rs.empty _ (by omega), fun x hx => by cases hx⟩
    have hs : ad.spot = none := by
      obtain ⟨x, y, n, hx, _⟩ := hc 0 (by omega) 0 _ rfl
      exact Lw.spot_none (a := ad) hx
    have hall : ∀ i, ∃ q : Ax, i < len → (∀ j u, j < 4 → (encX q)[j]? = some u → W.cell? ⟨ad.block, ad.off + i * 4 + j, none⟩ = some u) ∧ Rd (Value.int .u64) W W.heap.size q.A q.n q.c q.ids := by
      intro i
      by_cases hi : i < len
      · obtain ⟨x0, y0, n0, c0, t0⟩ := hc i hi 0 _ rfl
        obtain ⟨x1, y1, n1, c1, t1⟩ := hc i hi 1 _ rfl
        obtain ⟨x2, y2, n2, c2, t2⟩ := hc i hi 2 _ rfl
        obtain ⟨x3, y3, n3, c3, t3⟩ := hc i hi 3 _ rfl
        obtain ⟨z0, e0, -, u0⟩ := DataW.trod_int Tryz.underlying3 t0
        obtain ⟨A1, m1, k1, ids, rfl, hr⟩ := open_cell Tryz.underlying56 Tryz.underlying27 (by kernel_rfl) t1
        obtain ⟨z2, e2, _⟩ := DataW.trod_bool Tryz.underlying4 t2
        obtain ⟨z3, e3, _⟩ := DataW.trod_bool Tryz.underlying4 t3
        simp only [List.cons.injEq, and_true] at e0 e2 e3
        subst e0 e2 e3
        rw [Lw.add_eq hs] at c0 c1 c2 c3
        refine ⟨⟨z0, A1, m1, k1, ids, z2, z3⟩, fun _ => ⟨fun j u hj hu => ?_, hr⟩⟩
        match j, hj, hu with
        | 0, _, hu => simp [encX] at hu; subst hu; exact c0
        | 1, _, hu => simp [encX] at hu; subst hu; exact c1
        | 2, _, hu => simp [encX] at hu; subst hu; exact c2
        | 3, _, hu => simp [encX] at hu; subst hu; exact c3
      · exact ⟨⟨0, none, 0, 0, [], false, false⟩, fun h => absurd h hi⟩
    obtain ⟨Q, hQ⟩ := Classical.axiomOfChoice hall
    have hblk : ad.block < W.heap.size := Lw.lt_heap (a := ⟨ad.block, ad.off + 0 * 4 + 0, none⟩) ((hQ 0 (by omega)).1 0 _ (by omega) rfl)
    refine ⟨some ad, len, cap, (List.range len).map Q, rfl, ⟨by simp, hl, by omega, fun _ => ⟨ad.block, ad.off, by cases ad; simp at hs; subst hs; rfl, hblk, fun j x hx i u hi hu => ?_⟩⟩, fun x hx => ?_⟩
    · obtain ⟨hj, rfl⟩ := List.getElem?_eq_some_iff.1 hx
      simp at hj hu
      exact (hQ j hj).1 i u hi hu
    · obtain ⟨i, hi, rfl⟩ := List.mem_map.1 hx
      exact (hQ i (List.mem_range.1 hi)).2
end Go.Proofs.YtbedboekfkobjaaGreatDoor.Lc
