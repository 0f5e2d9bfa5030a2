/- What wakes the laws of layer 5. -/
import Derived.Test.YtmnjdmcocifogaaGreatDoorWheelDue
namespace Go.Proofs.YtmnjdmcocifogaaGreatDoor.Wl
open Go.ChangeShapes Go.WideShapes Go.ChangeAt Go.RowKit Go.Maps Rw Sl Sn Ck
set_option linter.unusedVariables false

theorem Awake4_any (w : World) :
    Calls Tryz.prog 123 #[] w fun e w' => e = .returned (.bool true) ∧ Below w.heap.size w w' := by
  go_enter Tryz.func123, Tryz.ntmps123
  go_wp2_with fail
  refine (awake4_any _).mono ?_
  rintro e w' ⟨rfl, hb⟩
  go_wp2_with fail
  go_ret
  exact ⟨rfl, hb⟩
theorem own_eq {w : World} {base : Nat} {e : TypeId} {v : Value} {n n' : Nat} {xs xs' : List Value} (h : w.ownsRow base e 1 v n xs) (hn : n = n') (hx : xs = xs') : w.ownsRow base e 1 v n' xs' := by subst hn hx; exact h
set_option maxRecDepth 100000 in
theorem awake5_any (w : World) :
    Calls Tryz.prog 120 #[] w fun e w' => e = .returned (.bool true) ∧ Below w.heap.size w w' := by
  go_enter Tryz.func120, Tryz.ntmps120
  go_wp2_with fail
  refine (Wl.new_any _).mono ?_
  rintro e w1 ⟨rfl, hw1, hb1, hs1⟩
  obtain ⟨p, hp⟩ : ∃ p, w.heap.size + 1 = p := ⟨_, rfl⟩
  obtain ⟨m, hm⟩ : ∃ m, w.heap.size = m := ⟨_, rfl⟩
  rw [hp] at hw1 ⊢
  have hm' : w.heap.size ≤ m := by omega
  have hs1' : w.heap.size ≤ w1.heap.size := by omega
  have hw1' : Wh w1 p m [] := by rw [← hm]; exact hw1
  clear hw1 hp hm hs1
  go_wp2_with fail
  refine (arm_any _ p m [] 7 5 hw1' (by decide) (by decide) (by decide)).mono ?_
  rintro e w2 ⟨rfl, hw2, hg2⟩
  have b2 : Below w.heap.size w w2 := hb1.grown hg2 hs1' (fun k hk => by cases hk; exact hm')
  clear hw1' hg2 hb1 hs1'
  go_wp2_with fail
  refine (arm_any _ p m _ 3 5 hw2 (by decide) (by decide) (by decide)).mono ?_
  rintro e w3 ⟨rfl, hw3, hg3⟩
  have b3 : Below w.heap.size w w3 := b2.grown hg3 b2.size (fun k hk => by cases hk; exact hm')
  clear hw2 hg3 b2
  go_wp2_with fail
  refine (arm_any _ p m _ 9 4 hw3 (by decide) (by decide) (by decide)).mono ?_
  rintro e w4 ⟨rfl, hw4, hg4⟩
  have b4 : Below w.heap.size w w4 := b3.grown hg4 b3.size (fun k hk => by cases hk; exact hm')
  have e4 : arm (arm (arm [] 7 5) 3 5) 9 4 = [(9, 4), (3, 5), (7, 5)] := by decide
  rw [e4] at hw4
  clear hw3 hg4 b3 e4
  go_wp2_with fail
  refine (Awake4_any _).mono ?_
  rintro e w5 ⟨rfl, hb5⟩
  have hw5 := hw4.later hb5
  have b5 : Below w.heap.size w w5 := b4.trans (hb5.mono b4.size)
  clear hw4 b4 hb5
  go_wp2_with fail
  refine (due_any _ p m _ 5 hw5 (by decide) (by decide)).mono ?_
  rintro e w6 ⟨A, c, rfl, hrow, hw6, hg6⟩
  have e6 : due [(9, 4), (3, 5), (7, 5)] 5 = [(9, 4), (3, 5), (7, 5)] := by decide
  have e7 : left [(9, 4), (3, 5), (7, 5)] 5 = [] := by decide
  rw [e6] at hrow
  rw [e7] at hw6
  rw [e6]
  have b6 : Below w.heap.size w w6 := b5.grown hg6 b5.size (fun k hk => by cases hk; exact hm')
  have hrow' : w6.ownsRow w5.heap.size 23 1 (.slice A 3 c) 3 ([9, 3, 7].map (Value.int .u64)) := hrow
  have HROW := Lib.hid hrow'
  clear hrow hrow' hg6 b5 hw5 e6 e7
  simp only [List.length_cons, List.length_nil, Nat.zero_add, Nat.reduceAdd]
  go_wp2_with fail
  refine (equal_any _ _ _ _ _ _ [9, 3, 7] [9, 3, 7] _ _ _ ((Rd.own_rd HROW.out).alloc (Nat.le_refl _) _) (rd_lit (xs := [9, 3, 7]) rfl (by simp) _ rfl)).mono ?_
  rintro e w7 ⟨rfl, q, rfl⟩
  have hbl : Below w6.heap.size w6 ((w6.alloc (.cells #[.int .u64 9, .int .u64 3, .int .u64 7] 23)).drewN q) := below_drewN ((Below.refl _ _).alloc (Nat.le_refl _) _) q
  have hw7 := hw6.later hbl
  have b7 := b6.trans (hbl.mono b6.size)
  clear hbl hw6 b6
  go_wp2_with fail
  refine (Wl.len_any _ p m _ hw7).mono ?_
  rintro e w8 ⟨rfl, rfl⟩
  go_wp2_with fail
  go_ret
  exact ⟨rfl, b7⟩
theorem Awake5_any (w : World) :
    Calls Tryz.prog 115 #[] w fun e w' => e = .returned (.bool true) ∧ Below w.heap.size w w' := by
  go_enter Tryz.func115, Tryz.ntmps115
  go_wp2_with fail
  refine (awake5_any _).mono ?_
  rintro e w' ⟨rfl, hb⟩
  go_wp2_with fail
  go_ret
  exact ⟨rfl, hb⟩
end Go.Proofs.YtmnjdmcocifogaaGreatDoor.Wl
