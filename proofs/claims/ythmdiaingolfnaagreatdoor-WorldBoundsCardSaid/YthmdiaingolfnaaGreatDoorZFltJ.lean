/- A part of the claim: the texts FltJ. -/
import Derived.Test.YthmdiaingolfnaaGreatDoorZFltH
import Derived.Test.YthmdiaingolfnaaGreatDoorZFltI
import Derived.Laws.MakeOwn
namespace Go.Proofs.YthmdiaingolfnaaGreatDoor.Ff
open Go.ChangeShapes Go.WideShapes Go.ChangeAt Go.RowKit Go.Deep Rw Go.Shelf Go.Sort
set_option linter.unusedVariables false
def By (l : List Int) : Prop := ∀ y ∈ l, 0 ≤ y ∧ y ≤ 255
theorem By.app {l m : List Int} (h : By l) (h' : By m) : By (l ++ m) := fun y hy => (List.mem_append.1 hy).elim (h y) (h' y)
theorem By.one {x : Int} (h : 0 ≤ x ∧ x ≤ 255) : By [x] := fun y hy => by rw [List.mem_singleton.1 hy]; exact h
theorem By.cons {x : Int} {l : List Int} (h : 0 ≤ x ∧ x ≤ 255) (h' : By l) : By (x :: l) := fun y hy => by
  rcases List.mem_cons.1 hy with rfl | hy
  · exact h
  · exact h' y hy
theorem By.take {l : List Int} (h : By l) (n : Nat) : By (l.take n) := fun y hy => h y (List.mem_of_mem_take hy)
theorem By.drop {l : List Int} (h : By l) (n : Nat) : By (l.drop n) := fun y hy => h y (List.mem_of_mem_drop hy)
theorem By.nil : By [] := fun y hy => by cases hy
end Go.Proofs.YthmdiaingolfnaaGreatDoor.Ff
