/- A part of the claim: the texts RatioD. -/
import Derived.Test.YthmdiaingolfnaaGreatDoorZRatioC
import Derived.Test.YthmdiaingolfnaaGreatDoorZShareMath
namespace Go.Proofs.YthmdiaingolfnaaGreatDoor.Fl
open Go.ChangeShapes Go.WideShapes Go.ChangeAt Go.RowKit Rw Ck Ieee
set_option linter.unusedVariables false
section
variable {x y : Nat} (hx : x < 18446744073709551616) (hy : y < 18446744073709551616)
include hx hy
theorem o_gt : (FloatKind.f64.format.order x y == some Ordering.gt) = (!(isN x || isN y) && decide (Ko y < Ko x)) := by
  rw [format_eq, order_eq hx hy]
  cases isN x || isN y
  · rw [if_neg (by decide), cmp_gt]; rfl
  · rfl
theorem o_lt : (FloatKind.f64.format.order x y == some Ordering.lt) = (!(isN x || isN y) && decide (Ko x < Ko y)) := by
  rw [format_eq, order_eq hx hy]
  cases isN x || isN y
  · rw [if_neg (by decide), cmp_lt]; rfl
  · rfl
end
end Go.Proofs.YthmdiaingolfnaaGreatDoor.Fl
