/- The shelf's contract of maps.Clone, laid at map[uint64]uint64. -/
import Derived.Test.YthamnebbecmegaaRows
import Derived.Test.YthamnebbecmegaaRow
import Derived.Shelf.SlMaps.Clone
namespace Go.Proofs.Ythamnebbecmegaa.Sf
open Go.ChangeShapes Go.WideShapes Go.ChangeAt Go.RowKit Rw Go.Shelf
set_option linter.unusedVariables false

def mcF (k : Nat) : Nat := if k = 5 then 67 else if k = 7 then 102 else 0
def mcT (k : Nat) : Nat := if k = 4 then 4 else if k = 20 then 20 else if k = 23 then 63 else if k = 25 then 31 else if k = 3 then 31 else 0
def mcRen : Ren := { f := mcF, t := mcT, g := fun x => x }
theorem mcLays : SlLaysW.n5 Try.prog mcRen := {
  mixed := by kernel_rfl
  f5 := ⟨ "maps.Clone[map[uint64]uint64,uint64,uint64]", by kernel_rfl, by kernel_rfl⟩
  f7 := by kernel_rfl
  t4 := by kernel_rfl
  a4 := fun w => by kernel_rfl
  z4 := fun w => by kernel_rfl
  v4 := fun w => by kernel_rfl
  t20 := by kernel_rfl
  a20 := fun w => by kernel_rfl
  z20 := fun w => by kernel_rfl
  v20 := fun w => by kernel_rfl
  t23 := by kernel_rfl
  a23 := fun w => by kernel_rfl
  z23 := fun w => by kernel_rfl
  v23 := fun w => by kernel_rfl }
end Go.Proofs.Ythamnebbecmegaa.Sf
