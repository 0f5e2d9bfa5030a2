/- A part of the claim: the texts BagOpen. -/
import Derived.Test.YthmdiaingolfnaaGreatDoorZGBag
namespace Go.Proofs.YthmdiaingolfnaaGreatDoor.Ba
open Go.ChangeShapes Go.WideShapes Go.ChangeAt Go.RowKit Go.Maps Rw Hi Mt
set_option linter.unusedVariables false
structure Ax where
  do_ : Int
  id : Int
  old : Int
  now : Int
  st : Int
structure Ax.ok (a : Ax) : Prop where
  d : 0 ≤ a.do_ ∧ a.do_ ≤ 255
  i : U64 a.id
  o : U64 a.old
  n : U64 a.now
  s : -9223372036854775808 ≤ a.st ∧ a.st ≤ 9223372036854775807
end Go.Proofs.YthmdiaingolfnaaGreatDoor.Ba
