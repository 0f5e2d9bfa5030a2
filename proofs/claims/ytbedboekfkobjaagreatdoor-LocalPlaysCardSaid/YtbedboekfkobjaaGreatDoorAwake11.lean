/- What wakes layer 11; slots that are nil. -/
import Derived.Test.YtbedboekfkobjaaGreatDoorBase4
import Derived.Test.YtbedboekfkobjaaGreatDoorSlotsD
namespace Go.Proofs.YtbedboekfkobjaaGreatDoor.St
open Go.ChangeShapes Go.WideShapes Go.ChangeAt Go.RowKit Rw Hi
set_option linter.unusedVariables false

theorem Awake10_any (w : World) (hT : Tx.Tab w) :
    Calls Tryz.prog 40 #[] w fun e w' => e = .returned (.bool true) ∧ Below w.heap.size w w' := by
  go_enter Tryz.func40, Tryz.ntmps40
  go_wp2_with fail
  refine (Fc.awake10_any _ hT).mono ?_
  rintro e w1 ⟨rfl, hb⟩
  go_wp2_with fail
  go_ret
  exact ⟨rfl, hb⟩
set_option maxHeartbeats 1000000 in
set_option maxRecDepth 100000 in
theorem awake11_any (w : World) (hT : Tx.Tab w) :
    Calls Tryz.prog 9 #[] w fun e w' => e = .returned (.bool true) ∧ Below w.heap.size w w' := by
  have HT := Lib.hid hT
  clear hT
  go_enter Tryz.func9, Tryz.ntmps9
  go_wp2_with fail
  refine (new_any _ w.heap.size (Nat.le_refl _)).mono ?_
  rintro e w1 ⟨p, rfl, h1, hp1, hb1⟩
  go_wp2_with fail
  refine (park_miss_any _ _ _ _ _ 2 9 h1 rfl (by simp)).mono ?_
  rintro e w2 ⟨rfl, r2, h2, hf2, hr2⟩
  have b2 : Below w.heap.size w w2 := hb1.trans (hf2.below hb1.size (fun k hk => by cases hk; omega) (fun k hk => by cases hk))
  have q2 : ∀ g, r2 = some g → w.heap.size ≤ g := fun g hg => (h2.rowlt g hg).1
  clear h1 hb1 hf2 hr2
  go_wp2_with fail
  refine (park_miss_any _ _ _ _ _ 1 5 h2 (by simp [List.findIdx?_cons, hit]) (by simp)).mono ?_
  rintro e w3 ⟨rfl, r3, h3, hf3, hr3⟩
  have b3 : Below w.heap.size w w3 := b2.trans (hf3.below b2.size (fun k hk => by cases hk; omega) (fun k hk => q2 k hk))
  have q3 : ∀ g, r3 = some g → w.heap.size ≤ g := fun g hg => (h3.rowlt g hg).1
  clear h2 b2 hf3 hr3 q2
  go_wp2_with fail
  refine (fill_hit_any _ _ _ _ _ 7 0 (2, 9, 0) h3 (by simp [List.findIdx?_cons, free]) (by simp) (by omega)).mono ?_
  rintro e w4 ⟨rfl, h4, hf4⟩
  have b4 : Below w.heap.size w w4 := b3.trans (hf4.below b3.size (fun k hk => by cases hk; omega) (fun k hk => q3 k hk))
  have HB := Lib.hid b4
  clear h3 b3 hf4 q3 h4 b4
  go_wp2_with fail
  refine (Awake10_any _ (HT.out.below HB.out)).mono ?_
  rintro e w5 ⟨rfl, hb5⟩
  go_wp2_with fail
  go_ret
  exact ⟨rfl, HB.out.trans (hb5.mono HB.out.size)⟩
theorem Awake11_any (w : World) (hT : Tx.Tab w) :
    Calls Tryz.prog 45 #[] w fun e w' => e = .returned (.bool true) ∧ Below w.heap.size w w' := by
  go_enter Tryz.func45, Tryz.ntmps45
  go_wp2_with fail
  refine (awake11_any _ hT).mono ?_
  rintro e w1 ⟨rfl, hb⟩
  go_wp2_with fail
  go_ret
  exact ⟨rfl, hb⟩
set_option maxHeartbeats 1000000 in
set_option maxRecDepth 100000 in
theorem none_any (w : World) (hT : Tx.Tab w) :
    Calls Tryz.prog 5 #[] w fun e w' => e = .returned (.bool true) ∧ Below w.heap.size w w' := by
  have HT := Lib.hid hT
  clear hT
  go_enter Tryz.func5, Tryz.ntmps5
  go_wp2_with fail
  refine (fill_nil _ _).mono ?_
  rintro e w1 ⟨rfl, rfl⟩
  go_wp2_with fail
  refine (take_nil _ _).mono ?_
  rintro e w1 ⟨rfl, hb1⟩
  go_wp2_with fail
  refine (of_nil _ _).mono ?_
  rintro e w2 ⟨rfl, hb2⟩
  have b2 : Below w.heap.size w w2 := hb1.trans (hb2.mono hb1.size)
  have hs2 := b2.size
  have HB2 := Lib.hid b2
  clear hb1 hb2 b2
  go_wp2_with fail
  refine (awake11_any _ (HT.out.below (HB2.out.alloc hs2 _))).mono ?_
  rintro e w3 ⟨rfl, hb3⟩
  have b3 : Below w.heap.size w w3 := (HB2.out.alloc hs2 _).trans (hb3.mono (by simp; omega))
  have HB3 := Lib.hid b3
  clear hb3 b3 HB2
  go_wp2_with fail
  refine (park_nil _ _ _).mono ?_
  rintro e w4 ⟨rfl, rfl⟩
  go_wp2_with fail
  refine (waiting_nil _).mono ?_
  rintro e w4 ⟨rfl, rfl⟩
  go_wp2_with fail
  refine (all_nil _).mono ?_
  rintro e w4 ⟨rfl, rfl⟩
  go_wp2_with fail
  refine (clone_nil _).mono ?_
  rintro e w4 ⟨rfl, rfl⟩
  go_wp2_with fail
  go_ret
  exact ⟨rfl, HB3.out⟩
end Go.Proofs.YtbedboekfkobjaaGreatDoor.St
