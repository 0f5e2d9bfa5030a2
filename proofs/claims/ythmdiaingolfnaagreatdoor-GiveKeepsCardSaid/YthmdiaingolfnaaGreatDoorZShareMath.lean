/- A part of the claim: the texts ShareMath. -/
import Derived.Test.YthmdiaingolfnaaGreatDoorZBase2
namespace Go.Proofs.YthmdiaingolfnaaGreatDoor.Fl
open Ieee
set_option linter.unusedVariables false
def p2 (L : Nat) : Nat := double.nearest false 1 L
def cl (x : Nat) : Nat := if rg x = 0 then 0 else x
end Go.Proofs.YthmdiaingolfnaaGreatDoor.Fl
