/- A part of the claim: the texts BagTold. -/
import Derived.Test.YthmdiaingolfnaaGreatDoorZGBagRef
import Derived.Test.YthmdiaingolfnaaGreatDoorZIterU
import Derived.Test.YthmdiaingolfnaaGreatDoorZBase1
import Derived.Deep.CutRange
import Derived.Deep.CutBlock
namespace Go.Proofs.YthmdiaingolfnaaGreatDoor.Ba
open Go.ChangeShapes Go.WideShapes Go.ChangeAt Go.RowKit Go.Maps Rw Hi Mt
set_option linter.unusedVariables false
def F5 (w : World) (g : Nat) (x wd bo si pr : Int) : Prop := w.cell? ⟨g, 0, none⟩ = some (.int .u64 x) ∧ w.cell? ⟨g, 1, none⟩ = some (.int .u64 wd) ∧ w.cell? ⟨g, 2, none⟩ = some (.int .u64 bo) ∧ w.cell? ⟨g, 3, none⟩ = some (.int .u64 si) ∧ w.cell? ⟨g, 4, none⟩ = some (.int .u64 pr)
theorem F5.same {w w' : World} {g : Nat} {x wd bo si pr : Int} (h : F5 w g x wd bo si pr) (hk : w'.heap[g]? = w.heap[g]?) : F5 w' g x wd bo si pr := by
  obtain ⟨h0, h1, h2, h3, h4⟩ := h
  exact ⟨(World.cell?_of_block (a := ⟨g, 0, none⟩) hk).trans h0, (World.cell?_of_block (a := ⟨g, 1, none⟩) hk).trans h1, (World.cell?_of_block (a := ⟨g, 2, none⟩) hk).trans h2, (World.cell?_of_block (a := ⟨g, 3, none⟩) hk).trans h3, (World.cell?_of_block (a := ⟨g, 4, none⟩) hk).trans h4⟩
theorem F5.new (w : World) (t : TypeId) (x wd bo si pr : Int) : F5 (w.alloc (.cells #[.int .u64 x, .int .u64 wd, .int .u64 bo, .int .u64 si, .int .u64 pr] t)) w.heap.size x wd bo si pr := by
  refine ⟨?_, ?_, ?_, ?_, ?_⟩ <;> go_simp
theorem F5.lt {w : World} {g : Nat} {x wd bo si pr : Int} (h : F5 w g x wd bo si pr) : g < w.heap.size := Lw.lt_heap h.1
section
variable {C R K : Nat → Prop} (A A2 : Option Addr) (n c n2 c2 p a : Nat) (D : List (Int × Ex)) (S : List Int) (w : World)
end
end Go.Proofs.YthmdiaingolfnaaGreatDoor.Ba
