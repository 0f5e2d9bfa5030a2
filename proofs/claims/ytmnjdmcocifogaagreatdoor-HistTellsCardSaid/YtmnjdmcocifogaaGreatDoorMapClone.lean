/- The shelf's contract of maps.Clone, laid at map[uint64]uint64. -/
import Derived.Test.YtmnjdmcocifogaaGreatDoorRows
import Derived.Test.YtmnjdmcocifogaaGreatDoorRow
import Derived.Shelf.SlMaps.Clone
namespace Go.Proofs.YtmnjdmcocifogaaGreatDoor.Sf
open Go.ChangeShapes Go.WideShapes Go.ChangeAt Go.RowKit Rw Go.Shelf
set_option linter.unusedVariables false

def mcT (k : Nat) : Nat := if k = 4 then 4 else if k = 20 then 20 else if k = 23 then 177 else if k = 25 then 23 else if k = 3 then 23 else 0
end Go.Proofs.YtmnjdmcocifogaaGreatDoor.Sf
