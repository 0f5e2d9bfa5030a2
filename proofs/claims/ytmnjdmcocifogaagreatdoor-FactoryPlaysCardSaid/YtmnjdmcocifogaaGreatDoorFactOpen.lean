/- Arguments of layer 10: scripts and acts, opened; ranges over a set. -/
import Derived.Test.YtmnjdmcocifogaaGreatDoorFactC
import Derived.Test.YtmnjdmcocifogaaGreatDoorHistOpen
namespace Go.Proofs.YtmnjdmcocifogaaGreatDoor.Fc
open Go Go.ChangeShapes Go.WideShapes Go.ChangeAt Go.RowKit Go.Deep Go.Maps Rw
set_option linter.unusedVariables false
section
variable {H : Type} {en : TypeId × Value → H} {P : Program} {w : World} {base : Nat} {spare : Nat → Bool} {held : Bool}
/-- A slice of bools that came in. -/
theorem bools_open {t e : TypeId} {v : Value} {d : DataW H} {p : List MemPlace} {b0 : Nat} (ht : P.underlying t = some (.slice e)) (he : P.underlying e = some .bool) (hC : P.cellsOf e = 1)
    (hv : Value.okWide P w .any b0 t v) (h : DataW.Trod en P w base spare held t v d p) :
    ∃ (A : Option Addr) (n c : Nat) (xs : List Bool), v = .slice A n c ∧ Rd Value.bool w w.heap.size A n c xs := by
  obtain ⟨a0, len0, cap0, rfl⟩ := okWide_slice ht hv
  obtain ⟨fuel, hf⟩ := h
  rcases open_slice ht hf with ⟨h0, _⟩ | ⟨a, len, cap, m, n, D, Pl, hcs, _, hl, hm, hmm, _, hi⟩
  · simp [Value.cells] at h0
    obtain ⟨rfl, rfl, rfl⟩ := h0
    exact ⟨none, 0, 0, [], rfl, Rd.nil_⟩
  · simp [Value.cells] at hcs
    obtain ⟨rfl, rfl, rfl⟩ := hcs
    have hcell : ∀ i, i < len0 → ∃ x : Bool, w.cell? (a.add i) = some (.bool x) ∧ True := by
      intro i hil
      obtain ⟨cs', hc, ht'⟩ := hi i (by rw [hmm]; split <;> omega)
      rw [hC] at hc
      obtain ⟨_, hcl, hat⟩ := World.cells?_some hc
      obtain ⟨z, hz, _⟩ := DataW.trod_bool he ht'
      refine ⟨z, ?_, trivial⟩
      have h1 := hat 0 (by omega)
      rw [Go.Deep.add_add] at h1
      simp only [Nat.mul_one, Nat.add_zero] at h1
      rw [h1, hz]
      rfl
    obtain ⟨f, hf⟩ := choose_lt hcell
    unfold maxLen at hm
    refine ⟨_, _, _, (List.range len0).map f, rfl, ⟨by simp, hl, hm, fun hn => ?_⟩⟩
    have hs : a.spot = none := Lw.spot_none (a := a) (by have := (hf 0 hn).1; simpa [Addr.add] using this)
    refine ⟨a.block, a.off, by cases a; simp at hs; subst hs; rfl, ?_, fun j x hx => ?_⟩
    · have := Lw.lt_heap (hf 0 hn).1
      simpa [Addr.add] using this
    · obtain ⟨hj, rfl⟩ := List.getElem?_eq_some_iff.1 hx
      simp at hj
      rw [← Lw.add_eq hs, (hf j hj).1]
      simp
end
structure Ac where
  do_ : Int
  id : Int
def encA (a : Ac) : List Value := [.int .u8 a.do_, .int .u64 a.id]
theorem encA_len (a : Ac) : (encA a).length = 2 := rfl
structure Ac.ok (a : Ac) : Prop where
  do_ : 0 ≤ a.do_ ∧ a.do_ ≤ 255
  id : 0 ≤ a.id ∧ a.id ≤ 18446744073709551615
set_option maxRecDepth 100000 in
theorem open_acts {H : Type} {enc : TypeId × Value → H} {W : World} {base b0 : Nat} {sp : Nat → Bool} {held : Bool} {v : Value} {d : DataW H} {p : List MemPlace}
    (k0 : Value.okWide Tryz.prog W .any b0 51 v) (h0 : DataW.Trod enc Tryz.prog W base sp held 51 v d p) :
    ∃ A n c xs, v = .slice A n c ∧ Rs encA 2 W W.heap.size A n c xs ∧ ∀ x ∈ xs, x.ok := by
  rcases Lw.slice_structs Tryz.underlying51 Tryz.underlying57 (by kernel_rfl) (by kernel_rfl) k0 h0 with rfl | ⟨ad, len, cap, rfl, hl, hm, hc⟩
  · exact ⟨none, 0, 0, [], rfl, Rs.nil_, fun x hx => by cases hx⟩
  · unfold maxLen at hm
    by_cases h00 : len = 0
    · subst h00
      exact ⟨some ad, 0, cap, [], rfl, Rs.empty _ (by omega), fun x hx => by cases hx⟩
    have hs : ad.spot = none := by
      obtain ⟨x, y, n, hx, _⟩ := hc 0 (by omega) 0 _ rfl
      exact Lw.spot_none (a := ad) hx
    have hall : ∀ i, ∃ q : Ac, i < len → (∀ j u, j < 2 → (encA q)[j]? = some u → W.cell? ⟨ad.block, ad.off + i * 2 + j, none⟩ = some u) ∧ q.ok := by
      intro i
      by_cases hi : i < len
      · obtain ⟨x0, y0, n0, c0, t0⟩ := hc i hi 0 _ rfl
        obtain ⟨x1, y1, n1, c1, t1⟩ := hc i hi 1 _ rfl
        obtain ⟨z0, e0, -, u0⟩ := DataW.trod_int Tryz.underlying5 t0
        obtain ⟨z1, e1, -, u1⟩ := DataW.trod_int Tryz.underlying23 t1
        simp only [List.cons.injEq, and_true] at e0 e1
        subst e0 e1
        rw [Lw.add_eq hs] at c0 c1
        refine ⟨⟨z0, z1⟩, fun _ => ⟨fun j u hj hu => ?_, ⟨Wd.lo_u8 u0, Wd.lo_u64 u1⟩⟩⟩
        match j, hj, hu with
        | 0, _, hu => simp [encA] at hu; subst hu; exact c0
        | 1, _, hu => simp [encA] at hu; subst hu; exact c1
      · exact ⟨⟨0, 0⟩, fun h => absurd h hi⟩
    obtain ⟨Q, hQ⟩ := Classical.axiomOfChoice hall
    have hblk : ad.block < W.heap.size := Lw.lt_heap (a := ⟨ad.block, ad.off + 0 * 2 + 0, none⟩) ((hQ 0 (by omega)).1 0 _ (by omega) rfl)
    refine ⟨some ad, len, cap, (List.range len).map Q, rfl, ⟨by simp, hl, by omega, fun _ => ⟨ad.block, ad.off, by cases ad; simp at hs; subst hs; rfl, hblk, fun j x hx i u hi hu => ?_⟩⟩, fun x hx => ?_⟩
    · obtain ⟨hj, rfl⟩ := List.getElem?_eq_some_iff.1 hx
      simp at hj hu
      exact (hQ j hj).1 i u hi hu
    · obtain ⟨i, hi, rfl⟩ := List.mem_map.1 hx
      exact (hQ i (List.mem_range.1 hi)).2
theorem two_at {w : World} {B : Nat} {A : Option Addr} {n c k : Nat} {l : List Ac} (h : Rs encA 2 w B A n c l) (hk : k < n) : ∃ b o e, A = some ⟨b, o, none⟩ ∧ b < B ∧ l[k]? = some e ∧
    w.cell? ⟨b, o + k * 2, none⟩ = some (.int .u8 e.do_) ∧ w.cell? ⟨b, o + k * 2 + 1, none⟩ = some (.int .u64 e.id) := by
  obtain ⟨b, o, e, h1, h2, h3, hc⟩ := h.get hk
  exact ⟨b, o, e, h1, h2, h3, hc 0 _ (by omega) rfl, hc 1 _ (by omega) rfl⟩

/-- The next key of a range over a set of the call's own: it is one of it. -/
theorem next_set {P : Program} (w : World) {ops : Array Oper} {rest : List Oper} {o : Oper} {a : Act} {Q : Exit → Act → World → Prop}
    (hg : o.guard = none) (it : Operand) (hop : o.op = Op.next it false) (k e : TypeId) (hk : P.underlying k = some (.int .u64)) (he : P.underlying e = some .bool)
    (b r n : Nat) (acc : List Int) (left : Lit → Bool) (cnt : Nat) (hit : a.eval it = .pointer (some ⟨r, 0, none⟩)) (h : w.ranges P k (plainElem P e) b r n (Mp.setD .u64 acc) left cnt)
    (hDone : wpList P ops Q rest (a.put o.dst (.tuple #[.bool false])) w)
    (hMore : ∀ (x : Int) (v : Value) (w' : World) (left' : Lit → Bool) (cnt' : Nat), x ∈ acc → (0 ≤ x ∧ x ≤ 18446744073709551615) → w'.ranges P k (plainElem P e) b r n (Mp.setD .u64 acc) left' cnt' → w'.rangeLeft b r < w.rangeLeft b r → w.grownBy w' (some r) →
      (Instr.entry (.pointer (some ⟨r, 0, none⟩))).run P w' = .ok (.tuple #[.int .u64 x, v]) w' → wpList P ops Q rest (a.put o.dst (.tuple #[.bool true, .int .u64 x, v])) w') : wpList P ops Q (o :: rest) a w := by
  refine wpList_next_ranges w hg it hop k (int_keyed hk) (plainElem P e) (Value.int .u64) Value.bool (fun key kl hkey => by obtain ⟨x, rfl, _⟩ := Maps.keyOf_int_inv hk hkey; exact ⟨x, rfl⟩) (fun v y hv => ?_) b r n _ left cnt hit h (fun _ _ => hDone) ?_
  · unfold plainElem at hv
    rw [he] at hv
    cases v <;> simp at hv
    exact ⟨_, rfl⟩
  · intro x c kl y w' cnt' hkey hlk hv hat hrg hlt hgr hsz hen
    obtain ⟨x', ex, rfl, hwx⟩ := Maps.keyOf_int_inv hk hkey
    cases ex
    refine hMore x (.bool c) w' _ cnt' ?_ (Wd.lo_u64 hwx) hrg (by rw [hrg.left_eq, h.left_eq]; exact hlt) hgr hen
    refine Classical.byContradiction fun hn => ?_
    have hno : Maps.has (Mp.setD .u64 acc) (.int .u64 x) = false := by rw [Wl.setD_has]; exact decide_eq_false hn
    have h1 := (Maps.atKey_of_not_has hno .nil).symm.trans (hat .nil)
    have h2 := (Maps.atKey_of_not_has hno (.lit (.bool true))).symm.trans (hat (.lit (.bool true)))
    rw [← h1] at h2
    cases h2
/-- 1 to n. -/
def upto (n : Nat) : List Int := (List.range n).map fun (i : Nat) => (i : Int) + 1
theorem upto_succ (n : Nat) : upto (n + 1) = upto n ++ [(n : Int) + 1] := by simp [upto, List.range_succ]
theorem upto_len (n : Nat) : (upto n).length = n := by simp [upto]
theorem mem_upto (n : Nat) (x : Int) : x ∈ upto n ↔ 1 ≤ x ∧ x ≤ n := by
  simp only [upto, List.mem_map, List.mem_range]
  constructor
  · rintro ⟨i, hi, rfl⟩; omega
  · intro h; exact ⟨(x - 1).toNat, by omega, by omega⟩
theorem upto_nodup : ∀ n, (upto n).Nodup
  | 0 => List.nodup_nil
  | n + 1 => by
    rw [upto_succ, List.nodup_append]
    refine ⟨upto_nodup n, by simp, fun a ha b hb => ?_⟩
    simp at hb
    subst hb
    intro e
    have := (mem_upto n a).1 ha
    omega
theorem parts_len (p : Int → Bool) : ∀ l : List Int, (l.filter p).length + (l.filter fun x => !p x).length = l.length
  | [] => rfl
  | x :: l => by
    have := parts_len p l
    cases h : p x <;> simp [h] <;> omega
theorem ids_count (C : List Int) (n : Nat) (hn : C.Nodup) (hC : ∀ x ∈ C, 1 ≤ x ∧ x ≤ n) : (ids C n).length + C.length = n := by
  have h1 : ids C n = (upto n).filter fun x => !decide (x ∈ C) := by
    have : ∀ k, ids C k = (upto k).filter fun x => !decide (x ∈ C) := by
      intro k
      induction k with
      | zero => rfl
      | succ k ih =>
        rw [upto_succ, List.filter_append, ← ih, show ids C (k + 1) = (if ((k : Int) + 1) ∈ C then ids C k else ids C k ++ [(k : Int) + 1]) from rfl]
        split <;> rename_i h <;> simp [h]
    exact this n
  have h2 : ((upto n).filter fun x => decide (x ∈ C)).Perm C := by
    rw [List.perm_ext_iff_of_nodup ((upto_nodup n).filter _) hn]
    intro a
    simp only [List.mem_filter, decide_eq_true_eq, mem_upto]
    exact ⟨fun h => h.2, fun h => ⟨hC a h, h⟩⟩
  have h3 := h2.length_eq
  have h4 := parts_len (fun x => decide (x ∈ C)) (upto n)
  rw [upto_len] at h4
  rw [h1]
  omega
end Go.Proofs.YtmnjdmcocifogaaGreatDoor.Fc
