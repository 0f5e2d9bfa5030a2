/- The shelf's contract of maps.Clone, laid at map[uint64]bool. -/
import Derived.Test.YtmnjdmcocifogaaGreatDoorRows
import Derived.Test.YtmnjdmcocifogaaGreatDoorRow
import Derived.Shelf.SlMaps.Clone
namespace Go.Proofs.YtmnjdmcocifogaaGreatDoor.Sf
open Go.ChangeShapes Go.WideShapes Go.ChangeAt Go.RowKit Rw Go.Shelf
set_option linter.unusedVariables false

def mbF (k : Nat) : Nat := if k = 5 then 51 else if k = 7 then 64 else 0
def mbT (k : Nat) : Nat := if k = 4 then 4 else if k = 20 then 20 else if k = 23 then 72 else if k = 25 then 23 else if k = 3 then 4 else 0
def mbRen : Ren := { f := mbF, t := mbT, g := fun x => x }
theorem mbLays : SlLaysW.n5 Tryz.prog mbRen := {
  mixed := by kernel_rfl
  f5 := ⟨ "maps.Clone[map[uint64]bool,uint64,bool]", by kernel_rfl, by kernel_rfl⟩
  f7 := by kernel_rfl
  t4 := by kernel_rfl
  a4 := fun w => by kernel_rfl
  z4 := fun w => by kernel_rfl
  v4 := fun w => by kernel_rfl
  t20 := by kernel_rfl
  a20 := fun w => by kernel_rfl
  z20 := fun w => by kernel_rfl
  v20 := fun w => by kernel_rfl
  t23 := by kernel_rfl
  a23 := fun w => by kernel_rfl
  z23 := fun w => by kernel_rfl
  v23 := fun w => by kernel_rfl }
end Go.Proofs.YtmnjdmcocifogaaGreatDoor.Sf
