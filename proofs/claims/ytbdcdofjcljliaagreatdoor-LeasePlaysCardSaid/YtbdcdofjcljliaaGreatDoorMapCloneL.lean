/- The shelf's contract of maps.Clone, laid at map[uint64]lease.lease. -/
import Derived.Test.YtbdcdofjcljliaaGreatDoorRows
import Derived.Test.YtbdcdofjcljliaaGreatDoorBase1
import Derived.Shelf.SlMaps.Clone
namespace Go.Proofs.YtbdcdofjcljliaaGreatDoor.Sf
open Go.ChangeShapes Go.WideShapes Go.ChangeAt Go.RowKit Rw Go.Shelf
set_option linter.unusedVariables false

def mlF (k : Nat) : Nat := if k = 5 then 21 else if k = 7 then 45 else 0
def mlT (k : Nat) : Nat := if k = 4 then 4 else if k = 20 then 20 else if k = 23 then 49 else if k = 25 then 22 else if k = 3 then 57 else 0
def mlRen : Ren := { f := mlF, t := mlT, g := fun x => x }
theorem mlLays : SlLaysW.n5 Tryz.prog mlRen := {
  mixed := by kernel_rfl
  f5 := ⟨ "maps.Clone[map[uint64]hackney/lease.lease,uint64,hackney/lease.lease]", by kernel_rfl, by kernel_rfl⟩
  f7 := by kernel_rfl
  t4 := by kernel_rfl
  a4 := fun w => by kernel_rfl
  z4 := fun w => by kernel_rfl
  v4 := fun w => by kernel_rfl
  t20 := by kernel_rfl
  a20 := fun w => by kernel_rfl
  z20 := fun w => by kernel_rfl
  v20 := fun w => by kernel_rfl
  t23 := by kernel_rfl
  a23 := fun w => by kernel_rfl
  z23 := fun w => by kernel_rfl
  v23 := fun w => by kernel_rfl }
end Go.Proofs.YtbdcdofjcljliaaGreatDoor.Sf
