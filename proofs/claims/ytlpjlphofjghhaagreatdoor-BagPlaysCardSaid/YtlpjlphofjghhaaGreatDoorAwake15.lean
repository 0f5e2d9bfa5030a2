/- What wakes layer 15; of a nil bag nothing is told. -/
import Derived.Test.YtlpjlphofjghhaaGreatDoorBagE
import Derived.Test.YtlpjlphofjghhaaGreatDoorAwake14
namespace Go.Proofs.YtlpjlphofjghhaaGreatDoor.Ba
open Go Go.ChangeShapes Go.WideShapes Go.ChangeAt Go.RowKit Go.Maps Rw Hi Mt
set_option linter.unusedVariables false

set_option maxRecDepth 100000 in
set_option maxHeartbeats 1000000 in
theorem awake15_any (w : World) (hT : Tb.Tabs w) :
    Calls Tryz.prog 6 #[] w fun e w' => e = .returned (.bool true) ∧ Below w.heap.size w w' := by
  have HT := Lib.hid hT
  clear hT
  go_enter Tryz.func6, Tryz.ntmps6
  go_wp2_with fail
  refine (bnew_any w).mono ?_
  rintro e w1 ⟨rfl, h1, b1⟩
  have H1 := Lib.hid h1
  have B1 := Lib.hid b1
  clear h1 b1
  go_wp2_with fail
  refine (enter_any w1 _ _ _ _ 1 H1.out (by decide) 0 5 (by decide) (by decide)).mono ?_
  rintro e w2 ⟨rfl, h2, z2⟩
  have e1 : eE ([] : List (Int × Ex)) 1 0 = 0 := rfl
  have e2 : ins ([] : List (Int × Ex)) 1 ⟨Wd.wOf 0 0, 5, 5, 5⟩ = [(1, ⟨0, 5, 5, 5⟩)] := rfl
  rw [e1, if_pos rfl, e2] at h2
  rw [e1]
  have H2 := Lib.hid h2
  have B2 := Lib.hid (B1.out.trans (z2.below B1.out.size (fun k h => h)))
  clear h2 z2 e1 e2
  go_wp2_with fail
  refine (load_any w2 _ _ _ _ 1 H2.out (by decide)).mono ?_
  rintro e w3 ⟨rfl, rfl⟩
  have e1 : bW [((1 : Int), (⟨0, 5, 5, 5⟩ : Ex))] 1 = 0 := rfl
  have e2 : (fnd [((1 : Int), (⟨0, 5, 5, 5⟩ : Ex))] 1).isSome = true := rfl
  rw [e1, e2]
  clear e1 e2
  go_wp2_with fail
  refine (swap_any w2 _ _ _ _ 1 H2.out (by decide) 0 1 6 (by decide) (by decide)).mono ?_
  rintro e w3 ⟨rfl, h3, z3⟩
  have e1 : bV [((1 : Int), (⟨0, 5, 5, 5⟩ : Ex))] 1 0 1 = 5 := rfl
  have e2 : bK [((1 : Int), (⟨0, 5, 5, 5⟩ : Ex))] 1 0 1 = true := rfl
  rw [e1, e2]
  have B3 := Lib.hid (B2.out.trans (z3.below B2.out.size (fun k h => by rcases h with h | h; exact h.2; exact Nat.le_trans B1.out.size h)))
  clear e1 e2 h3 z3
  go_wp2_with fail
  refine (Le.Awake14_any w3 (HT.out.below B3.out)).mono ?_
  rintro e w4 ⟨rfl, b4⟩
  have B4 := Lib.hid (B3.out.trans (b4.mono B3.out.size))
  clear b4
  go_wp2_with fail
  go_ret
  exact ⟨rfl, B4.out⟩
theorem Awake15_any (w : World) (hT : Tb.Tabs w) :
    Calls Tryz.prog 64 #[] w fun e w' => e = .returned (.bool true) ∧ Below w.heap.size w w' := by
  go_enter Tryz.func64, Tryz.ntmps64
  go_wp2_with fail
  refine (awake15_any w hT).mono ?_
  rintro e w1 ⟨rfl, h1⟩
  go_wp2_with fail
  go_ret
  exact ⟨rfl, h1⟩
theorem ids_nil (w : World) : Calls Tryz.prog 61 #[.pointer none] w fun e w' => e = .returned (.slice none 0 0) ∧ w = w' := by
  go_enter Tryz.func61, Tryz.ntmps61
  go_wp2_with fail
  go_ret
  exact ⟨rfl, rfl⟩
theorem clone_nil (w : World) : Calls Tryz.prog 8 #[.pointer none] w fun e w' => e = .returned (.pointer none) ∧ w = w' := by
  go_enter Tryz.func8, Tryz.ntmps8
  go_wp2_with fail
  go_ret
  exact ⟨rfl, rfl⟩
end Go.Proofs.YtlpjlphofjghhaaGreatDoor.Ba
