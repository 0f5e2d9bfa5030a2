/- A part of the claim: the texts RatioB. -/
import Derived.Test.YthmdiaingolfnaaGreatDoorZBase2
import Derived.Test.YthmdiaingolfnaaGreatDoorZShareMath
namespace Go.Proofs.YthmdiaingolfnaaGreatDoor.Fl
open Go.ChangeShapes Go.WideShapes Go.ChangeAt Go.RowKit Rw Ck
set_option linter.unusedVariables false
theorem ord_self {x : Nat} (hx : x < 18446744073709551616) : (FloatKind.f64.format.order x x != some Ordering.eq) = isN x := by
  rw [format_eq, order_eq hx hx, Bool.or_self]
  cases isN x
  · simp only [Bool.false_eq_true, if_false]
    have : compare (Ko x) (Ko x) = .eq := by simp only [compare, compareOfLessAndEq]; simp
    rw [this]
    rfl
  · rfl
theorem isnan_any (x : Nat) (w : World) (hx : x < 18446744073709551616) : Calls Tryz.prog 111 #[.float .f64 x] w fun e w' => e = .returned (.bool (isN x)) ∧ w = w' := by
  have h := ord_self hx
  generalize isN x = b at *
  go_enter Tryz.func111, Tryz.ntmps111
  go_wp2
  go_ret
  exact ⟨rfl, rfl⟩
def isI (x : Nat) : Bool := FloatKind.f64.format.order x 9218868437227405311 == some Ordering.gt
theorem isinf_any (x : Nat) (w : World) : Calls Tryz.prog 175 #[.float .f64 x, .int .i64 1] w fun e w' => e = .returned (.bool (isI x)) ∧ w = w' := by
  go_enter Tryz.func175, Tryz.ntmps175
  go_wp2
  go_ret
  exact ⟨rfl, rfl⟩
end Go.Proofs.YthmdiaingolfnaaGreatDoor.Fl
