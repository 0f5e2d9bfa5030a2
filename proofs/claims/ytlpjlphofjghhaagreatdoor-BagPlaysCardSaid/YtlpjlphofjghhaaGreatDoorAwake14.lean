/- What wakes layer 14; a nil book. -/
import Derived.Test.YtlpjlphofjghhaaGreatDoorBase6
import Derived.Test.YtlpjlphofjghhaaGreatDoorAwake13B
namespace Go.Proofs.YtlpjlphofjghhaaGreatDoor.Le
open Go.ChangeShapes Go.WideShapes Go.ChangeAt Go.RowKit Go.Maps Rw Hi Mt Ck
set_option linter.unusedVariables false
theorem t14 : Wl.arm [] 7 (cAdd 3 5) = [(7, 8)] := by decide +kernel
theorem d7 : Wl.due [(7, 8)] 7 = [] := by decide +kernel
theorem l7 : Wl.left [(7, 8)] 7 = [(7, 8)] := by decide +kernel
theorem d8 : Wl.due [(7, 8)] 8 = [(7, 8)] := by decide +kernel
theorem fr3 {w w' : World} {a m B : Nat} (h : Fr (some a) (some m) w w') (hB : B ≤ w.heap.size) (ha : B ≤ a) (hm : B ≤ m) : Below B w w' := h.below hB (fun k hk => by injection hk with hk; omega) (fun k hk => by injection hk with hk; omega)
set_option maxHeartbeats 1000000 in
set_option maxRecDepth 100000 in
theorem awake14_any (w : World) (hT : Tb.Tabs w) :
    Calls Tryz.prog 115 #[] w fun e w' => e = .returned (.bool true) ∧ Below w.heap.size w w' := by
  have HT := Lib.hid hT
  clear hT
  go_enter Tryz.func115, Tryz.ntmps115
  go_wp2_with fail
  refine (new_any _ 5).mono ?_
  rintro e w1 ⟨x, rfl, k1, b1, xp, xa, xb, xq, xm⟩
  have K1 := Lib.hid k1
  have B1 := Lib.hid b1
  clear k1 b1
  go_wp2_with fail
  refine (begin_leak w1 x 5 [] [] [] 7 1 3 K1.out (by omega) (by omega) (by omega) (by omega) (by omega) (by omega) rfl (by decide) (by decide)).mono ?_
  rintro e w2 ⟨rfl, k2, f2⟩
  rw [t14] at k2
  have K2 := Lib.hid k2
  have B2 := Lib.hid (B1.out.trans (fr3 f2 B1.out.size xa xm))
  clear k2 f2 K1
  go_wp2_with fail
  refine (Cn.Awake13_any _ (HT.out.below B2.out)).mono ?_
  rintro e w3 ⟨rfl, b3⟩
  have K3 := Lib.hid (K2.out.later b3)
  have B3 := Lib.hid (B2.out.trans (b3.mono B2.out.size))
  clear b3 K2
  go_wp2_with fail
  refine (leaks_any w3 x 5 _ [] [(7, 8)] 7 K3.out (by omega) (by decide) (by decide)).mono ?_
  rintro e w4 ⟨A4, c4, rfl, r4, k4, f4⟩
  rw [d7, l7] at k4
  have K4 := Lib.hid k4
  have B4 := Lib.hid (B3.out.trans (fr3 f4 B3.out.size xa xm))
  have e4 : ((Wl.due [(7, 8)] 7).length : Int) = 0 := by rw [d7]; rfl
  clear r4 k4 f4 K3
  go_wp2_with fail
  refine (leaks_any w4 x 5 _ [] [(7, 8)] 8 K4.out (by omega) (by decide) (by decide)).mono ?_
  rintro e w5 ⟨A5, c5, rfl, r5, k5, f5⟩
  rw [d8] at r5 ⊢
  have R5 := Lib.hid (Rd.own_rd r5)
  have B5 := Lib.hid (B4.out.trans (fr3 f5 B4.out.size xa xm))
  have hs5 := B5.out.size
  clear r5 k5 f5 K4 e4
  go_wp2_with fail
  refine (Sl.equal_any A5 (some ⟨w5.heap.size, 0, none⟩) 1 c5 1 1 [7] [7] _ _ _ (R5.out.alloc (Nat.le_refl _) _) (rd_one (enc := Value.int .u64) w5 7 30)).mono ?_
  rintro e w6 ⟨rfl, q, rfl⟩
  rw [decide_eq_true rfl]
  go_wp2_with fail
  go_ret
  exact ⟨rfl, Rw.below_drewN (B5.out.alloc hs5 _) q⟩
theorem Awake14_any (w : World) (hT : Tb.Tabs w) :
    Calls Tryz.prog 43 #[] w fun e w' => e = .returned (.bool true) ∧ Below w.heap.size w w' := by
  go_enter Tryz.func43, Tryz.ntmps43
  go_wp2_with fail
  refine (awake14_any _ hT).mono ?_
  rintro e w1 ⟨rfl, b1⟩
  go_wp2_with fail
  go_ret
  exact ⟨rfl, b1⟩
end Go.Proofs.YtlpjlphofjghhaaGreatDoor.Le
