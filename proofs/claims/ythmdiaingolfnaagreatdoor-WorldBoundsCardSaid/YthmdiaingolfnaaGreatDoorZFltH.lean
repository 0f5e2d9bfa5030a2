/- A part of the claim: the texts FltH. -/
import Derived.Test.YthmdiaingolfnaaGreatDoorZFltB
import Derived.Test.YthmdiaingolfnaaGreatDoorZFltC
import Derived.Test.YthmdiaingolfnaaGreatDoorZTabs
namespace Go.Proofs.YthmdiaingolfnaaGreatDoor.Ff
open Go.ChangeShapes Go.WideShapes Go.ChangeAt Go.RowKit Rw Go.Shelf Go.Sort
set_option linter.unusedVariables false
structure Ft (w : World) : Prop where
  tab : Tx.Tab w
  pow : Pw Tb.hiT Tb.loT w
theorem Ft.below {w w' : World} (h : Ft w) (hb : Below w.heap.size w w') : Ft w' := ⟨h.tab.below hb, h.pow.below hb⟩
end Go.Proofs.YthmdiaingolfnaaGreatDoor.Ff
