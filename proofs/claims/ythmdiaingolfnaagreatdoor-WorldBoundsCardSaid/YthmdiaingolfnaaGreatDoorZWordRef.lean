/- A part of the claim: the texts WordRef. -/
import Derived.Test.YthmdiaingolfnaaGreatDoorZBase1
namespace Go.Proofs.YthmdiaingolfnaaGreatDoor.Wd
open Go.ChangeShapes Go.WideShapes Go.ChangeAt Go.RowKit
set_option linter.unusedVariables false
theorem six (x : Int) : x = 0 ∨ x = 1 ∨ x = 2 ∨ x = 3 ∨ x < 0 ∨ (0 ≤ x ∧ 3 < x) := by omega
end Go.Proofs.YthmdiaingolfnaaGreatDoor.Wd
