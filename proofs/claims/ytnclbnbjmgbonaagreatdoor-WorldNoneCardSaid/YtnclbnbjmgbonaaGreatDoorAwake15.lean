/- What wakes layer 15; of a nil bag nothing is told. -/
import Derived.Test.YtnclbnbjmgbonaaGreatDoorBagE
import Derived.Test.YtnclbnbjmgbonaaGreatDoorAwake14
namespace Go.Proofs.YtnclbnbjmgbonaaGreatDoor.Ba
open Go Go.ChangeShapes Go.WideShapes Go.ChangeAt Go.RowKit Go.Maps Rw Hi Mt
set_option linter.unusedVariables false

set_option maxRecDepth 100000 in
set_option maxHeartbeats 1000000 in
theorem awake15_any (w : World) (hT : Tb.Tabs w) :
    Calls Tryz.prog 10 #[] w fun e w' => e = .returned (.bool true) ∧ Below w.heap.size w w' := by
  have HT := Lib.hid hT
  clear hT
  go_enter Tryz.func10, Tryz.ntmps10
  go_wp2_with fail
  refine (bnew_any w).mono ?_
  rintro e w1 ⟨rfl, h1, b1⟩
  have H1 := Lib.hid h1
  have B1 := Lib.hid b1
  clear h1 b1
  go_wp2_with fail
  refine (enter_any w1 _ _ _ _ 1 H1.out (by decide) 0 5 (by decide) (by decide)).mono ?_
  rintro e w2 ⟨rfl, h2, z2⟩
  have e1 : eE ([] : List (Int × Ex)) 1 0 = 0 := rfl
  have e2 : ins ([] : List (Int × Ex)) 1 ⟨Wd.wOf 0 0, 5, 5, 5⟩ = [(1, ⟨0, 5, 5, 5⟩)] := rfl
  rw [e1, if_pos rfl, e2] at h2
  rw [e1]
  have H2 := Lib.hid h2
  have B2 := Lib.hid (B1.out.trans (z2.below B1.out.size (fun k h => h)))
  clear h2 z2 e1 e2
  go_wp2_with fail
  refine (load_any w2 _ _ _ _ 1 H2.out (by decide)).mono ?_
  rintro e w3 ⟨rfl, rfl⟩
  have e1 : bW [((1 : Int), (⟨0, 5, 5, 5⟩ : Ex))] 1 = 0 := rfl
  have e2 : (fnd [((1 : Int), (⟨0, 5, 5, 5⟩ : Ex))] 1).isSome = true := rfl
  rw [e1, e2]
  clear e1 e2
  go_wp2_with fail
  refine (swap_any w2 _ _ _ _ 1 H2.out (by decide) 0 1 6 (by decide) (by decide)).mono ?_
  rintro e w3 ⟨rfl, h3, z3⟩
  have e1 : bV [((1 : Int), (⟨0, 5, 5, 5⟩ : Ex))] 1 0 1 = 5 := rfl
  have e2 : bK [((1 : Int), (⟨0, 5, 5, 5⟩ : Ex))] 1 0 1 = true := rfl
  rw [e1, e2]
  have B3 := Lib.hid (B2.out.trans (z3.below B2.out.size (fun k h => by rcases h with h | h; exact h.2; exact Nat.le_trans B1.out.size h)))
  clear e1 e2 h3 z3
  go_wp2_with fail
  refine (Le.Awake14_any w3 (HT.out.below B3.out)).mono ?_
  rintro e w4 ⟨rfl, b4⟩
  have B4 := Lib.hid (B3.out.trans (b4.mono B3.out.size))
  clear b4
  go_wp2_with fail
  go_ret
  exact ⟨rfl, B4.out⟩
theorem Awake15_any (w : World) (hT : Tb.Tabs w) :
    Calls Tryz.prog 77 #[] w fun e w' => e = .returned (.bool true) ∧ Below w.heap.size w w' := by
  go_enter Tryz.func77, Tryz.ntmps77
  go_wp2_with fail
  refine (awake15_any w hT).mono ?_
  rintro e w1 ⟨rfl, h1⟩
  go_wp2_with fail
  go_ret
  exact ⟨rfl, h1⟩
theorem ids_nil (w : World) : Calls Tryz.prog 31 #[.pointer none] w fun e w' => e = .returned (.slice none 0 0) ∧ w = w' := by
  go_enter Tryz.func31, Tryz.ntmps31
  go_wp2_with fail
  go_ret
  exact ⟨rfl, rfl⟩
theorem clone_nil (w : World) : Calls Tryz.prog 12 #[.pointer none] w fun e w' => e = .returned (.pointer none) ∧ w = w' := by
  go_enter Tryz.func12, Tryz.ntmps12
  go_wp2_with fail
  go_ret
  exact ⟨rfl, rfl⟩
set_option maxRecDepth 100000 in
set_option maxHeartbeats 1000000 in
theorem none_any (w : World) (hT : Tb.Tabs w) :
    Calls Tryz.prog 5 #[] w fun e w' => e = .returned (.bool true) ∧ Below w.heap.size w w' := by
  have HT := Lib.hid hT
  clear hT
  go_enter Tryz.func5, Tryz.ntmps5
  go_wp2_with fail
  refine (load_nil _ _).mono ?_
  rintro e w1 ⟨rfl, rfl⟩
  go_wp2_with fail
  refine (swapT_nil _ _ _ _ _).mono ?_
  rintro e w1 ⟨rfl, rfl⟩
  go_wp2_with fail
  refine (entry_nil _ _).mono ?_
  rintro e w1 ⟨rfl, b1⟩
  have B1 := Lib.hid b1
  clear b1
  go_wp2_with fail
  refine with_below (B := w.heap.size) (w := w) ?_ ?_
  · have := B1.out.size
    repeat' (first | exact B1.out | apply Below.setCell | apply Below.alloc)
    all_goals (first | exact this | (simp; omega))
  intro b2
  have B2 := Lib.hid b2
  clear b2
  refine (awake15_any _ (HT.out.below B2.out)).mono ?_
  rintro e w3 ⟨rfl, b3⟩
  have B3 := Lib.hid (B2.out.trans (b3.mono B2.out.size))
  clear b3 B2
  go_wp2_with fail
  refine (enter_nil _ _ _ _).mono ?_
  rintro e w4 ⟨rfl, rfl⟩
  go_wp2_with fail
  refine (proved_nil _ _ _).mono ?_
  rintro e w4 ⟨rfl, rfl⟩
  go_wp2_with fail
  refine (publish_nil _ _).mono ?_
  rintro e w4 ⟨rfl, rfl⟩
  go_wp2_with fail
  refine (unlist_nil _ _).mono ?_
  rintro e w4 ⟨rfl, rfl⟩
  go_wp2_with fail
  refine (ids_nil _).mono ?_
  rintro e w4 ⟨rfl, rfl⟩
  go_wp2_with fail
  refine (list_nil _).mono ?_
  rintro e w5 ⟨rfl, b5⟩
  have B5 := Lib.hid (B3.out.trans (b5.mono B3.out.size))
  clear b5
  go_wp2_with fail
  refine (Sn.len_any _ [] 0 _ ⟨⟨none, 0, 0, rfl, Rd.nil_⟩, List.nodup_nil, fun x hx => (by cases hx)⟩).mono ?_
  rintro e w6 ⟨rfl, b6⟩
  have B6 := Lib.hid (B5.out.trans (b6.mono B5.out.size))
  clear b6
  go_wp2_with fail
  refine (count_nil _ _).mono ?_
  rintro e w7 ⟨rfl, rfl⟩
  go_wp2_with fail
  refine (clone_nil _).mono ?_
  rintro e w7 ⟨rfl, rfl⟩
  go_wp2_with fail
  go_ret
  exact ⟨rfl, B6.out⟩
end Go.Proofs.YtnclbnbjmgbonaaGreatDoor.Ba
