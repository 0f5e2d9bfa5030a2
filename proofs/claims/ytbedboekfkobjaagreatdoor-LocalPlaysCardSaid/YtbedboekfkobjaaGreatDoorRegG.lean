/- A region that draws its order: operations under a guard, by what its slot holds. No program is named here. -/
import Derived.Test.YtbedboekfkobjaaGreatDoorBase1
namespace Go.Proofs.YtbedboekfkobjaaGreatDoor.Rw
open Go Go.RowKit
set_option linter.unusedVariables false

section
variable {P : Program} {ops : Array Oper} {Q : Exit → Act → World → Prop} {md : Region.Mode} {S : World → Prop} {n : Nat}
theorem wanted_of {o : Oper} {a : Act} {g : Nat} {p b : Bool} {d : Tmp} (hg : o.guard = some (g, p)) (hd : dstOf ops g = some d) (hv : a.tmps[d]? = some (.bool b)) : Region.wanted o (yielded ops a.tmps) = (b == p) := by
  have hy : yielded ops a.tmps g = some b := by
    unfold yielded
    unfold dstOf at hd
    simp only [hd]
    simp [hv]
  unfold Region.wanted
  rw [hg]
  simp only [hy]
  cases b <;> cases p <;> rfl
theorem wanted_yes {o : Oper} {a : Act} {g : Nat} {p : Bool} {d : Tmp} (hg : o.guard = some (g, p)) (hd : dstOf ops g = some d) (hv : a.tmps[d]? = some (.bool p)) : Region.wanted o (yielded ops a.tmps) = true := by
  rw [wanted_of hg hd hv]; cases p <;> rfl
theorem wanted_no {o : Oper} {a : Act} {g : Nat} {p b : Bool} {d : Tmp} (hg : o.guard = some (g, p)) (hd : dstOf ops g = some d) (hv : a.tmps[d]? = some (.bool b)) (hb : (b == p) = false) : Region.wanted o (yielded ops a.tmps) = false := by
  rw [wanted_of hg hd hv, hb]
/-- What a slot holds behind puts into others. -/
theorem at_ne {a : Act} {d : Option Tmp} {v : Value} {s : Tmp} {x : Option Value} (h : d ≠ some s) (hx : a.tmps[s]? = x) : (a.put d v).tmps[s]? = x := (put_at_ne a d v s h).trans hx
theorem at_eq {a : Act} {d : Tmp} {v : Value} (h : d < a.tmps.size) : (a.put (some d) v).tmps[d]? = some v := put_at_eq a d v h
theorem sz_put {a : Act} {d : Option Tmp} {v : Value} {k : Nat} (h : k < a.tmps.size) : k < (a.put d v).tmps.size := by rw [put_size]; exact h
end
end Go.Proofs.YtbedboekfkobjaaGreatDoor.Rw
