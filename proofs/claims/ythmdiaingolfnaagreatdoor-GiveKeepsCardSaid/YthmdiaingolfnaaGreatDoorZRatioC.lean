/- A part of the claim: the texts RatioC. -/
import Derived.Test.YthmdiaingolfnaaGreatDoorZRatioB
import Derived.Laws.Bits64b
namespace Go.Proofs.YthmdiaingolfnaaGreatDoor.Fl
open Go.ChangeShapes Go.WideShapes Go.ChangeAt Go.RowKit Rw Ck
set_option linter.unusedVariables false
def pl (x : Nat) : Nat := if isN x then 18446744073709551615 else if SG ≤ x then 18446744073709551615 - x else x + SG
theorem and63 (x : Nat) : x &&& 2 ^ 63 = (x.testBit 63).toNat * 2 ^ 63 := by
  apply Nat.eq_of_testBit_eq
  intro i
  rw [Nat.testBit_and, Nat.testBit_two_pow]
  by_cases h : 63 = i
  · subst h
    cases hx : x.testBit 63
    · simp
    · decide
  · cases hx : x.testBit 63
    · simp [h]
    · simp only [h, decide_false, Bool.and_false, Bool.toNat_true, Nat.one_mul]
      rw [Nat.testBit_two_pow]; simp [h]
end Go.Proofs.YthmdiaingolfnaaGreatDoor.Fl
