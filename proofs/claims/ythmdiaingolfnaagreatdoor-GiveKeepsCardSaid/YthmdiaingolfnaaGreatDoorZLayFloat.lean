/- A part of the claim: the texts LayFloat. -/
import Derived.Test.YthmdiaingolfnaaGreatDoorRows
import Derived.Test.YthmdiaingolfnaaGreatDoorZBase1
import Derived.Shelf.Strconv.Itoa3
import Derived.Shelf.Bits.Mul64
namespace Go.Proofs.YthmdiaingolfnaaGreatDoor.Ff
open Go.ChangeShapes Go.WideShapes Go.ChangeAt Go.RowKit Rw Go.Shelf Go.Sort
set_option linter.unusedVariables false
def ffF (k : Nat) : Nat := if k = 129 then 192 else if k = 264 then 255 else if k = 284 then 195 else if k = 285 then 196 else if k = 317 then 209 else if k = 318 then 210 else 0
def ffT (k : Nat) : Nat := if k = 0 then 0 else if k = 2 then 2 else if k = 3 then 3 else if k = 4 then 4 else if k = 5 then 5 else if k = 9 then 9 else if k = 37 then 79 else if k = 46 then 173 else if k = 51 then 286 else if k = 53 then 22 else if k = 212 then 299 else 0
def ffG (k : Nat) : Nat := if k = 17 then 2 else 0
def ffRen : Ren := { f := ffF, t := ffT, g := ffG }
theorem ffMul : Lays.n264 Tryz.prog ffRen := {
  mixed := by kernel_rfl
  f264 := by kernel_rfl
  t46 := by kernel_rfl
  a46 := fun w => by kernel_rfl
  z46 := fun w => by kernel_rfl
  v46 := fun w => by kernel_rfl
  t53 := by kernel_rfl
  a53 := fun w => by kernel_rfl
  z53 := fun w => by kernel_rfl
  v53 := fun w => by kernel_rfl }
theorem ffBase : Lays.n285 Tryz.prog ffRen := {
  mixed := by kernel_rfl
  f285 := by kernel_rfl
  t0 := by kernel_rfl
  a0 := fun w => by kernel_rfl
  z0 := fun w => by kernel_rfl
  v0 := fun w => by kernel_rfl
  t3 := by kernel_rfl
  a3 := fun w => by kernel_rfl
  z3 := fun w => by kernel_rfl
  v3 := fun w => by kernel_rfl
  t4 := by kernel_rfl
  a4 := fun w => by kernel_rfl
  z4 := fun w => by kernel_rfl
  v4 := fun w => by kernel_rfl
  t5 := by kernel_rfl
  a5 := fun w => by kernel_rfl
  z5 := fun w => by kernel_rfl
  v5 := fun w => by kernel_rfl
  t9 := by kernel_rfl
  a9 := fun w => by kernel_rfl
  z9 := fun w => by kernel_rfl
  v9 := fun w => by kernel_rfl
  t37 := by kernel_rfl
  a37 := fun w => by kernel_rfl
  z37 := fun w => by kernel_rfl
  v37 := fun w => by kernel_rfl
  t51 := by kernel_rfl
  a51 := fun w => by kernel_rfl
  z51 := fun w => by kernel_rfl
  v51 := fun w => by kernel_rfl
  t53 := by kernel_rfl
  a53 := fun w => by kernel_rfl
  z53 := fun w => by kernel_rfl
  v53 := fun w => by kernel_rfl }
end Go.Proofs.YthmdiaingolfnaaGreatDoor.Ff
