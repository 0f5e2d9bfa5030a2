/- A part of the claim: the texts Awake14 Awake15. -/
import Derived.Test.YthmdiaingolfnaaGreatDoorZBase6
import Derived.Test.YthmdiaingolfnaaGreatDoorZAwake13B
import Derived.Test.YthmdiaingolfnaaGreatDoorZGBag
namespace Go.Proofs.YthmdiaingolfnaaGreatDoor.Le
open Go.ChangeShapes Go.WideShapes Go.ChangeAt Go.RowKit Go.Maps Rw Hi Mt Ck
set_option linter.unusedVariables false
theorem t14 : Wl.arm [] 7 (cAdd 3 5) = [(7, 8)] := by decide +kernel
theorem d7 : Wl.due [(7, 8)] 7 = [] := by decide +kernel
theorem l7 : Wl.left [(7, 8)] 7 = [(7, 8)] := by decide +kernel
theorem d8 : Wl.due [(7, 8)] 8 = [(7, 8)] := by decide +kernel
theorem fr3 {w w' : World} {a m B : Nat} (h : Fr (some a) (some m) w w') (hB : B ≤ w.heap.size) (ha : B ≤ a) (hm : B ≤ m) : Below B w w' := h.below hB (fun k hk => by injection hk with hk; omega) (fun k hk => by injection hk with hk; omega)
set_option maxHeartbeats 1000000 in
set_option maxRecDepth 100000 in
theorem awake14_any (w : World) (hT : Tb.Tabs w) :
    Calls Tryz.prog 137 #[] w fun e w' => e = .returned (.bool true) ∧ Below w.heap.size w w' := by
  have HT := Lib.hid hT
  clear hT
  go_enter Tryz.func137, Tryz.ntmps137
  go_wp2_with fail
  refine (new_any _ 5).mono ?_
  rintro e w1 ⟨x, rfl, k1, b1, xp, xa, xb, xq, xm⟩
  have K1 := Lib.hid k1
  have B1 := Lib.hid b1
  clear k1 b1
  go_wp2_with fail
  refine (begin_leak w1 x 5 [] [] [] 7 1 3 K1.out (by omega) (by omega) (by omega) (by omega) (by omega) (by omega) rfl (by decide) (by decide)).mono ?_
  rintro e w2 ⟨rfl, k2, f2⟩
  rw [t14] at k2
  have K2 := Lib.hid k2
  have B2 := Lib.hid (B1.out.trans (fr3 f2 B1.out.size xa xm))
  clear k2 f2 K1
  go_wp2_with fail
  refine (Cn.Awake13_any _ (HT.out.below B2.out)).mono ?_
  rintro e w3 ⟨rfl, b3⟩
  have K3 := Lib.hid (K2.out.later b3)
  have B3 := Lib.hid (B2.out.trans (b3.mono B2.out.size))
  clear b3 K2
  go_wp2_with fail
  refine (leaks_any w3 x 5 _ [] [(7, 8)] 7 K3.out (by omega) (by decide) (by decide)).mono ?_
  rintro e w4 ⟨A4, c4, rfl, r4, k4, f4⟩
  rw [d7, l7] at k4
  have K4 := Lib.hid k4
  have B4 := Lib.hid (B3.out.trans (fr3 f4 B3.out.size xa xm))
  have e4 : ((Wl.due [(7, 8)] 7).length : Int) = 0 := by rw [d7]; rfl
  clear r4 k4 f4 K3
  go_wp2_with fail
  refine (leaks_any w4 x 5 _ [] [(7, 8)] 8 K4.out (by omega) (by decide) (by decide)).mono ?_
  rintro e w5 ⟨A5, c5, rfl, r5, k5, f5⟩
  rw [d8] at r5 ⊢
  have R5 := Lib.hid (Rd.own_rd r5)
  have B5 := Lib.hid (B4.out.trans (fr3 f5 B4.out.size xa xm))
  have hs5 := B5.out.size
  clear r5 k5 f5 K4 e4
  go_wp2_with fail
  refine (Sl.equal_any A5 (some ⟨w5.heap.size, 0, none⟩) 1 c5 1 1 [7] [7] _ _ _ (R5.out.alloc (Nat.le_refl _) _) (rd_one (enc := Value.int .u64) w5 7 22)).mono ?_
  rintro e w6 ⟨rfl, q, rfl⟩
  rw [decide_eq_true rfl]
  go_wp2_with fail
  go_ret
  exact ⟨rfl, Rw.below_drewN (B5.out.alloc hs5 _) q⟩
theorem Awake14_any (w : World) (hT : Tb.Tabs w) :
    Calls Tryz.prog 110 #[] w fun e w' => e = .returned (.bool true) ∧ Below w.heap.size w w' := by
  go_enter Tryz.func110, Tryz.ntmps110
  go_wp2_with fail
  refine (awake14_any _ hT).mono ?_
  rintro e w1 ⟨rfl, b1⟩
  go_wp2_with fail
  go_ret
  exact ⟨rfl, b1⟩
end Go.Proofs.YthmdiaingolfnaaGreatDoor.Le
namespace Go.Proofs.YthmdiaingolfnaaGreatDoor.Ba
open Go Go.ChangeShapes Go.WideShapes Go.ChangeAt Go.RowKit Go.Maps Rw Hi Mt
set_option linter.unusedVariables false
set_option maxRecDepth 100000 in
set_option maxHeartbeats 1000000 in
theorem awake15_any (w : World) (hT : Tb.Tabs w) :
    Calls Tryz.prog 75 #[] w fun e w' => e = .returned (.bool true) ∧ Below w.heap.size w w' := by
  have HT := Lib.hid hT
  clear hT
  go_enter Tryz.func75, Tryz.ntmps75
  go_wp2_with fail
  refine (bnew_any w).mono ?_
  rintro e w1 ⟨rfl, h1, b1⟩
  have H1 := Lib.hid h1
  have B1 := Lib.hid b1
  clear h1 b1
  go_wp2_with fail
  refine (enter_any w1 _ _ _ _ 1 H1.out (by decide) 0 5 (by decide) (by decide)).mono ?_
  rintro e w2 ⟨rfl, h2, z2⟩
  have e1 : eE ([] : List (Int × Ex)) 1 0 = 0 := rfl
  have e2 : ins ([] : List (Int × Ex)) 1 ⟨Wd.wOf 0 0, 5, 5, 5⟩ = [(1, ⟨0, 5, 5, 5⟩)] := rfl
  rw [e1, if_pos rfl, e2] at h2
  rw [e1]
  have H2 := Lib.hid h2
  have B2 := Lib.hid (B1.out.trans (z2.below B1.out.size (fun k h => h)))
  clear h2 z2 e1 e2
  go_wp2_with fail
  refine (load_any w2 _ _ _ _ 1 H2.out (by decide)).mono ?_
  rintro e w3 ⟨rfl, rfl⟩
  have e1 : bW [((1 : Int), (⟨0, 5, 5, 5⟩ : Ex))] 1 = 0 := rfl
  have e2 : (fnd [((1 : Int), (⟨0, 5, 5, 5⟩ : Ex))] 1).isSome = true := rfl
  rw [e1, e2]
  clear e1 e2
  go_wp2_with fail
  refine (swap_any w2 _ _ _ _ 1 H2.out (by decide) 0 1 6 (by decide) (by decide)).mono ?_
  rintro e w3 ⟨rfl, h3, z3⟩
  have e1 : bV [((1 : Int), (⟨0, 5, 5, 5⟩ : Ex))] 1 0 1 = 5 := rfl
  have e2 : bK [((1 : Int), (⟨0, 5, 5, 5⟩ : Ex))] 1 0 1 = true := rfl
  rw [e1, e2]
  have B3 := Lib.hid (B2.out.trans (z3.below B2.out.size (fun k h => by rcases h with h | h; exact h.2; exact Nat.le_trans B1.out.size h)))
  clear e1 e2 h3 z3
  go_wp2_with fail
  refine (Le.Awake14_any w3 (HT.out.below B3.out)).mono ?_
  rintro e w4 ⟨rfl, b4⟩
  have B4 := Lib.hid (B3.out.trans (b4.mono B3.out.size))
  clear b4
  go_wp2_with fail
  go_ret
  exact ⟨rfl, B4.out⟩
theorem Awake15_any (w : World) (hT : Tb.Tabs w) :
    Calls Tryz.prog 28 #[] w fun e w' => e = .returned (.bool true) ∧ Below w.heap.size w w' := by
  go_enter Tryz.func28, Tryz.ntmps28
  go_wp2_with fail
  refine (awake15_any w hT).mono ?_
  rintro e w1 ⟨rfl, h1⟩
  go_wp2_with fail
  go_ret
  exact ⟨rfl, h1⟩
end Go.Proofs.YthmdiaingolfnaaGreatDoor.Ba
