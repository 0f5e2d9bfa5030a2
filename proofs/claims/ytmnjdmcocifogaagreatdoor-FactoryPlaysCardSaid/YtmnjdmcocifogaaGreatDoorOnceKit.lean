/- What WheelOnce wants besides: a set's size, and look-ups as equations on their runs. -/
import Derived.Test.YtmnjdmcocifogaaGreatDoorAwake5
namespace Go.Proofs.YtmnjdmcocifogaaGreatDoor.Wl
open Go.ChangeShapes Go.WideShapes Go.ChangeAt Go.RowKit Go.Maps Rw Sl Sn Ck
set_option linter.unusedVariables false

theorem setD_has (acc : List Int) (x : Int) : Maps.has (Mp.setD .u64 acc) (.int .u64 x) = decide (x ∈ acc) := by
  unfold Mp.setD
  rw [Maps.has_setOf _ _ _ (fun y hy => by obtain ⟨z, _, rfl⟩ := List.mem_map.1 hy; trivial), List.any_map, Bool.eq_iff_iff, List.any_eq_true, decide_eq_true_eq]
  constructor
  · rintro ⟨y, hy, h⟩
    have : y = x := by simpa [Lit.sameKey] using h
    exact this ▸ hy
  · intro h
    exact ⟨x, h, by simp [Lit.sameKey]⟩
theorem setD_tidy (acc : List Int) : Maps.Tidy (Mp.setD .u64 acc) := by
  unfold Mp.setD
  exact Maps.tidy_setOf _ _ (fun y hy => by obtain ⟨z, _, rfl⟩ := List.mem_map.1 hy; trivial)
theorem setD_size : ∀ (acc : List Int), acc.Nodup → Maps.size (Mp.setD .u64 acc) = acc.length := by
  intro acc
  induction h : acc.length generalizing acc with
  | zero =>
    intro _
    obtain rfl := List.eq_nil_of_length_eq_zero h
    rfl
  | succ n ih =>
    intro hn
    obtain ⟨l, y, rfl⟩ : ∃ l y, acc = l ++ [y] := ⟨acc.dropLast, acc.getLast (by intro e; simp [e] at h), (List.dropLast_concat_getLast _).symm⟩
    rw [List.nodup_append] at hn
    have hl : l.length = n := by simpa using h
    have hy : y ∉ l := fun hm => hn.2.2 y hm y (by simp) rfl
    rw [Mp.setD_snoc, Maps.size_put (setD_tidy l), setD_has, decide_eq_false hy, ih l hl hn.1]
    simp
theorem set_run_gen {P : Program} (w : World) (t k e : TypeId) (q : IntKind) (hk : P.underlying k = some (.int q)) (ht : P.underlying t = some (.map k e)) (he : P.underlying e = some .bool) (hz : (zeroValue e).run P w = .ok (.bool false) w) (b n : Nat) (acc : List Int)
    (hown : w.ownsMap P k (plainElem P e) b n (Mp.setD q acc)) (y : Int) (hw : (Lit.int q y).wf = true) :
    (Instr.lookup t (.map (some b)) (.int q y) false).run P w = .ok (.bool (decide (y ∈ acc))) w := by
  obtain ⟨v, ps, hrun, hv⟩ := hown.lookup (int_keyed hk) ht hz (plainElem_bool he false) (keyOf_int_mk hk hw)
  rw [Mp.setD_at] at hv
  have hv' : v = .bool (decide (y ∈ acc)) := by
    unfold plainElem at hv
    rw [he] at hv
    cases v <;> simp at hv
    rw [hv.1]
  subst hv'
  exact hrun
theorem set_run {w : World} {b n : Nat} {acc : List Int} {y : Int} (hy : 0 ≤ y ∧ y ≤ 18446744073709551615) (ho : w.ownsMap Tryz.prog 23 (plainElem Tryz.prog 4) b n (Mp.setD .u64 acc)) :
    (Instr.lookup 72 (.map (some b)) (.int .u64 y) false).run Tryz.prog w = .ok (.bool (decide (y ∈ acc))) w :=
  set_run_gen w _ _ _ .u64 Tryz.underlying23 Tryz.underlying72 Tryz.underlying4 (Sn.zero_bool w) b n acc ho y (wf64 hy)
theorem look_run_gen {P : Program} (w : World) (t k e : TypeId) (q r : IntKind) (hk : P.underlying k = some (.int q)) (ht : P.underlying t = some (.map k e)) (he : P.underlying e = some (.int r)) (hz : (zeroValue e).run P w = .ok (.int r 0) w) (b n : Nat) (D : DataW Unit) (c : Int)
    (hown : w.ownsMap P k (plainElem P e) b n D) (y : Int) (hw : (Lit.int q y).wf = true) (hc : D.atKey (.int q y) (.lit (.int r 0)) = .lit (.int r c)) (h0 : (Lit.int r 0).wf = true) :
    (Instr.lookup t (.map (some b)) (.int q y) false).run P w = .ok (.int r c) w := by
  obtain ⟨v, ps, hrun, hv⟩ := hown.lookup (int_keyed hk) ht hz (plainElem_int he h0) (keyOf_int_mk hk hw)
  rw [hc] at hv
  obtain ⟨a, rfl, hz, _⟩ := plainElem_int_inv he hv
  obtain rfl : c = a := by injection hz with hz _; injection hz with hz; injection hz
  exact hrun
theorem look_tick {w : World} {b : Nat} {l : List (Int × Int)} {y : Int} (hy : 0 ≤ y ∧ y ≤ 18446744073709551615) (h : Mw w b l) (hl : Tms l) :
    (Instr.lookup 177 (.map (some b)) (.int .u64 y) false).run Tryz.prog w = .ok (.int .u64 (Wl.tick l y)) w := by
  obtain ⟨D, ho, ht⟩ := h
  exact look_run_gen w _ _ _ .u64 .u64 Tryz.underlying23 Tryz.underlying177 Tryz.underlying23 (zeroE w) b _ D _ ho y (wf64 hy) (ht.tick hl y) (by decide)
theorem min_cut (t : Int) : min t 1152921504606846976 = cut t := by unfold cut; split <;> omega
end Go.Proofs.YtmnjdmcocifogaaGreatDoor.Wl
