/- A part of the claim: the texts IterU. -/
import Derived.Test.YthmdiaingolfnaaGreatDoorZGBag
import Derived.Test.YthmdiaingolfnaaGreatDoorZBase8
import Derived.Shelf.SlIterI.Sorted
import Derived.Sort.MapsRangeIn
namespace Go.Proofs.YthmdiaingolfnaaGreatDoor.Iu
open Go Go.ChangeMaps Go.Maps Go.MapKept Go.RowKit Go.Sort Go.Shelf Rw Mt Ba
set_option linter.unusedVariables false
section
variable {β : Type} {E : Enc β} {P : Program} {k e t : TypeId} {F : Fence} {n : Nat} (w : World) {ops : Array Oper} {rest : List Oper} {o : Oper} {a : Act} {Q : Exit → Act → World → Prop}
end
abbrev eU : Int → Value := Value.int .u64
def ren : Ren := { f := fun _ => 0, t := fun k => if k = 24 then 54 else if k = 26 then 22 else 0, g := fun x => x }
abbrev rec_ (fn : FuncId) (sv : Value) (Bs D : Nat) (st : LoopState) (pend : Option Code) : Loop := AnyZI.apRec ren fn sv Bs D st pend
structure Ap (w0 : World) (fn : FuncId) (sv : Value) (Bs l D : Nat) (ss : List Int) (W : World) : Prop where
  box : ∃ v, W.heap[Bs]? = some (.cells #[v] 54 (0, 0)) ∧ W.ownsRow w0.heap.size 22 1 v ss.length (ss.map eU)
  L : W.heap[l]? = some (.loop (rec_ fn sv Bs D .ready none))
  K : W.heap[D]? = some (.deferred (some []))
  below : Below w0.heap.size w0 W
end Go.Proofs.YthmdiaingolfnaaGreatDoor.Iu
