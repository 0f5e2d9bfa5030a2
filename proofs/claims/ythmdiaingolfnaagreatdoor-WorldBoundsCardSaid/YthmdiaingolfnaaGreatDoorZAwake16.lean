/- A part of the claim: the texts Awake16. -/
import Derived.Test.YthmdiaingolfnaaGreatDoorZGWorld
namespace Go.Proofs.YthmdiaingolfnaaGreatDoor.Wo
open Go Go.ChangeShapes Go.WideShapes Go.ChangeAt Go.RowKit Go.Maps Rw Hi Mt Ba
open Cn (Cf cfE)
set_option linter.unusedVariables false
set_option maxRecDepth 100000 in
theorem awake16_any (w : World) (hT : Tb.Tabs w) :
    Calls Tryz.prog 5 #[] w fun e w' => e = .returned (.bool true) ∧ Below w.heap.size w w' := by
  have HT := Lib.hid hT
  have HN := Lib.hid (new_ok ⟨1, 0, 0, 0, 0, 0, 0⟩ ⟨by decide, by decide, by decide, by decide, by decide⟩ (by decide +kernel) none none 0 0 0 0 0 0 [] [] w Rd.nil_ Rd.nil_ (Nat.zero_le _) (Nat.zero_le _) (by decide) (by decide))
  clear hT
  go_enter Tryz.func5, Tryz.ntmps5
  go_wp2_with fail
  refine HN.out.mono ?_
  rintro e w1 ⟨x, col, rfl, h1, b1⟩
  have H1 := Lib.hid h1
  have B1 := Lib.hid b1
  clear h1 b1 HN
  go_wp2_with fail
  refine (Ba.Awake15_any _ (HT.out.below B1.out)).mono ?_
  rintro e w2 ⟨rfl, b2⟩
  have H2 := Lib.hid (H1.out.later b2)
  have B2 := Lib.hid (B1.out.trans (b2.mono B1.out.size))
  clear b2 H1
  go_wp2_with fail
  refine (grow_any w2 H2.out (by decide) (by decide)).mono ?_
  rintro e w3 ⟨rfl, h3, z3⟩
  have H3 := Lib.hid h3
  have B3 := Lib.hid (B2.out.trans (z3.below B2.out.size (fun g hg => H2.out.lo g (by omega))))
  clear h3 z3
  go_wp2_with fail
  refine (grow_any w3 H3.out (by decide) (by decide)).mono ?_
  rintro e w4 ⟨rfl, h4, z4⟩
  have B4 := Lib.hid (B3.out.trans (z4.below B3.out.size (fun g hg => H2.out.lo g (by omega))))
  clear h4 z4
  go_wp2_with fail
  go_ret
  exact ⟨rfl, B4.out⟩
end Go.Proofs.YthmdiaingolfnaaGreatDoor.Wo
