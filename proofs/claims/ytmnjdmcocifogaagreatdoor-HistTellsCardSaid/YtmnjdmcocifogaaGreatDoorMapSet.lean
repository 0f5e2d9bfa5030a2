/- A map[K]bool of the call's own that is a set of numbers: asked by 'm[x]', and filled by 'm[x] = true'. No program is named here. -/
import Derived.Maps.OwnSet
import Derived.Maps.AppendAt
namespace Go.Proofs.YtmnjdmcocifogaaGreatDoor.Mp
open Go Go.Maps Go.RowKit
set_option linter.unusedVariables false

/-- The set of these numbers, each with true. -/
def setD (q : IntKind) (acc : List Int) : DataW Unit := setOf (.lit (.bool true)) (acc.map (Lit.int q))
theorem setD_nil (q : IntKind) : setD q [] = .map [] := rfl
theorem setD_snoc (q : IntKind) (acc : List Int) (x : Int) : setD q (acc ++ [x]) = (setD q acc).put (.int q x) (.lit (.bool true)) := by
  unfold setD
  rw [List.map_append, List.map_cons, List.map_nil, setOf_snoc]
theorem setD_is (q : IntKind) (acc : List Int) : IsMap (setD q acc) := by
  unfold setD setOf
  generalize hd : (DataW.map [] : DataW Unit) = d
  have h : IsMap d := by subst hd; exact isMap_empty
  clear hd
  induction acc generalizing d with
  | nil => exact h
  | cons y l ih => exact ih _ (h.put _ _)
theorem setD_at (q : IntKind) (x : Int) : ∀ acc : List Int, (setD q acc).atKey (.int q x) (.lit (.bool false)) = .lit (.bool (decide (x ∈ acc))) := by
  intro acc
  induction h : acc.length generalizing acc with
  | zero =>
    obtain rfl := List.eq_nil_of_length_eq_zero h
    simp [setD_nil, DataW.atKey]
  | succ n ih =>
    obtain ⟨l, y, rfl⟩ : ∃ l y, acc = l ++ [y] := ⟨acc.dropLast, acc.getLast (by intro e; simp [e] at h), (List.dropLast_concat_getLast _).symm⟩
    rw [setD_snoc]
    by_cases e : x = y
    · subst e
      rw [atKey_put_same (k := .int q x) (setD_is q l) trivial]
      simp
    · rw [atKey_put_other (by simp [e]), ih l (by simpa using h)]
      simp [e]

/-- 'm[x]' of such a set: is x among them? -/
theorem lookup_set {P : Program} (w : World) {ops : Array Oper} {rest : List Oper} {o : Oper} {a : Act} {Q : Exit → Act → World → Prop}
    (hg : o.guard = none) (m x : Operand) (t : TypeId) (hop : o.op = Op.lookup t m x false)
    (k e : TypeId) (q : IntKind) (hk : P.underlying k = some (.int q)) (ht : P.underlying t = some (.map k e)) (he : P.underlying e = some .bool) (hz : (zeroValue e).run P w = .ok (.bool false) w) (b n : Nat) (acc : List Int)
    (hm : a.eval m = .map (some b)) (hown : w.ownsMap P k (plainElem P e) b n (setD q acc)) (y : Int) (hx : a.eval x = .int q y) (hw : (Lit.int q y).wf = true)
    (hK : wpList P ops Q rest (a.put o.dst (.bool (decide (y ∈ acc)))) w) :
    wpList P ops Q (o :: rest) a w := by
  refine wpList_plain hg fun K' hK' => ?_
  obtain ⟨v, ps, hrun, hv⟩ := hown.lookup (int_keyed hk) ht hz (plainElem_bool he false) (keyOf_int_mk hk hw)
  rw [setD_at] at hv
  have hv' : v = .bool (decide (y ∈ acc)) := by
    unfold plainElem at hv
    rw [he] at hv
    cases v <;> simp at hv
    rw [hv.1]
  subst hv'
  unfold Oper.wp
  simp [execOp, hop, hm, hx, hrun, Result.andThen]
  exact hK' _ _ hK

/-- 'm[x] = true' of such a set: x comes to them. -/
theorem update_set {P : Program} (w : World) {ops : Array Oper} {rest : List Oper} {o : Oper} {a : Act} {Q : Exit → Act → World → Prop}
    (hg : o.guard = none) (m x v : Operand) (t : TypeId) (hop : o.op = Op.mapUpdate t m x v)
    (k e : TypeId) (q : IntKind) (hk : P.underlying k = some (.int q)) (ht : P.underlying t = some (.map k e)) (he : P.underlying e = some .bool) (b n : Nat) (acc : List Int)
    (hm : a.eval m = .map (some b)) (hown : w.ownsMap P k (plainElem P e) b n (setD q acc)) (hn : n < maxLen) (y : Int) (hx : a.eval x = .int q y) (hv : a.eval v = .bool true) (hw : (Lit.int q y).wf = true)
    (hK : ∀ w', w'.ownsMap P k (plainElem P e) b (n + 1) (setD q (acc ++ [y])) → w.grownBy w' (some b) → wpList P ops Q rest (a.put o.dst undef) w') :
    wpList P ops Q (o :: rest) a w := by
  refine wpList_mapUpdate_own w hg m x v t hop k e (int_keyed hk) ht (plainElem P e) b n (setD q acc) hm hown hn _ _ _ hx hv (keyOf_int_mk hk hw) (.lit (.bool true)) [] (plainElem_bool he true) ?_
  intro w' h1 h2
  rw [← setD_snoc] at h1
  exact hK w' h1 h2
end Go.Proofs.YtmnjdmcocifogaaGreatDoor.Mp
