/- The shelf's contract of slices.SortFunc, laid at []float64. -/
import Derived.Test.YtmnjdmcocifogaaGreatDoorRows
import Derived.Test.YtmnjdmcocifogaaGreatDoorRow
import Derived.Shelf.SlSortCmp.Whole1
namespace Go.Proofs.YtmnjdmcocifogaaGreatDoor.Sf
open Go.ChangeShapes Go.WideShapes Go.ChangeAt Go.RowKit Rw Go.Shelf Go.Sort
set_option linter.unusedVariables false

end Go.Proofs.YtmnjdmcocifogaaGreatDoor.Sf
