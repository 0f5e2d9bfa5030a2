/- The walk of hackneylaw05.WheelFull. -/
import Derived.Test.YtdacacehmmjpeaaAwake5
namespace Go.Proofs.Ytdacacehmmjpeaa.Wl
open Go.ChangeShapes Go.WideShapes Go.ChangeAt Go.RowKit Go.Maps Rw Sl Sn Ck
set_option linter.unusedVariables false

/-- The timers of the keys 0 .. k - 1, each at its own tick. -/
def sq (k : Nat) : List (Int × Int) := (List.range k).map (fun i : Nat => ((i : Int), (i : Int)))
theorem sq_len (k : Nat) : (sq k).length = k := by simp [sq]
theorem sq_succ (k : Nat) : sq (k + 1) = sq k ++ [((k : Int), (k : Int))] := by simp [sq, List.range_succ]
theorem mem_sq {k : Nat} {x : Int} : x ∈ (sq k).map Prod.fst ↔ 0 ≤ x ∧ x < k := by
  unfold sq
  rw [List.map_map, List.mem_map]
  constructor
  · rintro ⟨i, hi, rfl⟩
    have := List.mem_range.1 hi
    simp; omega
  · rintro ⟨h1, h2⟩
    exact ⟨x.toNat, List.mem_range.2 (by omega), by simp; omega⟩
theorem sq_arm {k : Nat} (hk : k < 1024) : arm (sq k) k k = sq (k + 1) ∧ armE (sq k) k = 0 := by
  have hn : (k : Int) ∉ (sq k).map Prod.fst := by rw [mem_sq]; omega
  have hf : full (sq k) k = false := by rw [full_new hn, sq_len]; simp; omega
  constructor
  · unfold arm
    rw [hf, wo_none hn, sq_succ]
    have hc : cut (k : Int) = k := by unfold cut; rw [if_pos (by omega)]
    rw [hc]
    have hall : ∀ a ∈ sq k, bf a ((k : Int), (k : Int)) = true := by
      intro a ha
      unfold sq at ha
      obtain ⟨i, hi, rfl⟩ := List.mem_map.1 ha
      have := List.mem_range.1 hi
      rw [bf_iff]
      left
      simp
      exact this
    unfold ins
    rw [List.filter_eq_self.2 hall, List.filter_eq_nil_iff.2 (fun a ha => by simp [hall a ha])]
    simp
  · unfold armE; rw [hf]; simp

set_option maxRecDepth 100000 in
set_option maxHeartbeats 4000000 in
theorem full_walk (w : World) :
    Calls Try.prog 6 #[] w fun e w' => e = .returned (.bool true) ∧ Below w.heap.size w w' := by
  go_enter Try.func6, Try.ntmps6
  go_wp2_with fail
  refine (Wl.new_any _).mono ?_
  rintro e w1 ⟨rfl, hw1, hb1, hs1⟩
  obtain ⟨p, hp⟩ : ∃ p, w.heap.size + 1 = p := ⟨_, rfl⟩
  obtain ⟨m, hm⟩ : ∃ m, w.heap.size = m := ⟨_, rfl⟩
  rw [hp] at hw1 ⊢
  have hm' : w.heap.size ≤ m := by omega
  have hw1' : Wh w1 p m [] := by rw [← hm]; exact hw1
  clear hw1 hp hm hs1
  go_wp2_with fail
  refine (awake5_any _).mono ?_
  rintro e w2 ⟨rfl, hb2⟩
  have hw2 := Lib.hid (hw1'.later hb2)
  have b2 := Lib.hid (hb1.trans (hb2.mono hb1.size))
  clear hw1' hb1 hb2
  go_wp2_with fail
  go_loopw [19] (fun i wr => ∃ k : Nat, k ≤ 1024 ∧ i = .int .u64 k ∧ Wh wr p m (sq k) ∧ Below w.heap.size w wr) (fun i _ => 1024 - (intOf i).toNat)
  case atStart => exact ⟨0, by omega, rfl, hw2.out, b2.out⟩
  case round =>
    clear hw2 b2
    obtain ⟨k, hk, rfl, hw, hb⟩ := hrel
    have HW := Lib.hid hw
    clear hw
    by_cases hlt : k < 1024
    · go_wp2_with fail
      refine (arm_any _ p m _ k k HW.out (by omega) (by omega) (by rw [sq_len]; omega)).mono ?_
      rintro e w3 ⟨rfl, hw3, hg3⟩
      rw [(sq_arm hlt).1] at hw3
      rw [(sq_arm hlt).2]
      have HW3 := Lib.hid hw3
      clear hw3
      go_wp2_with fail
      go_roundw
      case rel => exact ⟨k + 1, by omega, by go_num, HW3.out, hb.grown hg3 hb.size (fun j hj => by cases hj; exact hm')⟩
      case measure => simp [intOf]; omega
    · have hk' : k = 1024 := by omega
      subst hk'
      clear hlt hk
      go_wp2_with fail
      have hl : (sq 1024).length ≤ 1024 := by rw [sq_len]; omega
      have n0 : (2000 : Int) ∉ (sq 1024).map Prod.fst := by rw [mem_sq]; omega
      have f0 : full (sq 1024) 2000 = true := by rw [full_new n0, sq_len]; decide
      refine (arm_any _ p m _ 2000 1 HW.out (by omega) (by omega) hl).mono ?_
      rintro e w3 ⟨rfl, hw3, hg3⟩
      have e1 : armE (sq 1024) 2000 = 11 := by unfold armE; rw [f0]; rfl
      have e2 : arm (sq 1024) 2000 1 = sq 1024 := by unfold arm; rw [f0]; rfl
      rw [e1]
      rw [e2] at hw3
      have b3 := hb.grown hg3 hb.size (fun j hj => by cases hj; exact hm')
      have tms := hw3.tms
      have h5 : (5 : Int) ∈ (sq 1024).map Prod.fst := by rw [mem_sq]; omega
      have f1 : full (sq 1024) 5 = false := full_has tms.nd h5 hl
      have HW3 := Lib.hid hw3
      have N0 := Lib.hid n0
      have T := Lib.hid tms
      clear hw3 hg3 hb e1 e2 f0 HW n0 tms
      go_wp2_with fail
      refine (arm_any _ p m _ 5 0 HW3.out (by omega) (by omega) hl).mono ?_
      rintro e w4 ⟨rfl, hw4, hg4⟩
      have e1 : armE (sq 1024) 5 = 0 := by unfold armE; rw [f1]; rfl
      have l4 : (arm (sq 1024) 5 0).length = 1024 := by unfold arm; rw [f1]; exact (put_len_has T.out.nd h5).trans (sq_len _)
      have k4 : ∀ x, x ∈ (arm (sq 1024) 5 0).map Prod.fst ↔ x ∈ (sq 1024).map Prod.fst := by
        intro x
        unfold arm
        rw [f1, Tms.mem_key, Tms.mem_key]
        constructor
        · rintro ⟨t, ht⟩
          rcases mem_put.1 ht with e | ⟨h, -⟩
          · injection e with e _; subst e; exact Tms.mem_key.1 h5
          · exact ⟨t, h⟩
        · rintro ⟨t, ht⟩
          by_cases e : x = 5
          · subst e; exact ⟨_, mem_put.2 (.inl rfl)⟩
          · exact ⟨t, mem_put.2 (.inr ⟨ht, e⟩)⟩
      rw [e1]
      have b4 := b3.grown hg4 b3.size (fun j hj => by cases hj; exact hm')
      generalize arm (sq 1024) 5 0 = l4' at *
      have K4 := Lib.hid k4
      have HW4 := Lib.hid hw4
      clear hw4 hg4 b3 e1 f1 HW3 k4
      go_wp2_with fail
      refine (disarm_any _ p m _ 7 HW4.out (by omega)).mono ?_
      rintro e w5 ⟨rfl, hw5, hg5⟩
      have h7 : (7 : Int) ∈ l4'.map Prod.fst := by rw [K4.out, mem_sq]; omega
      rw [decide_eq_true h7]
      have l5 : (wo l4' 7).length + 1 = 1024 := (wo_len_has HW4.out.tms.nd h7).trans l4
      have n5 : (2000 : Int) ∉ (wo l4' 7).map Prod.fst := by
        intro h
        obtain ⟨t, ht⟩ := Tms.mem_key.1 h
        exact N0.out ((K4.out _).1 (Tms.mem_key.2 ⟨t, (mem_wo.1 ht).1⟩))
      have b5 := b4.grown hg5 b4.size (fun j hj => by cases hj; exact hm')
      generalize wo l4' 7 = l5' at *
      have HW5 := Lib.hid hw5
      have N5 := Lib.hid n5
      have L5 := Lib.hid l5
      clear hw5 hg5 b4 n5 l5 HW4 K4 h7 l4 N0
      go_wp2_with fail
      refine (arm_any _ p m _ 2000 1 HW5.out (by omega) (by omega) (by have := L5.out; omega)).mono ?_
      rintro e w6 ⟨rfl, hw6, hg6⟩
      have f6 : full l5' 2000 = false := by rw [full_new N5.out]; have := L5.out; simp; omega
      have e1 : armE l5' 2000 = 0 := by unfold armE; rw [f6]; rfl
      have l6 : (arm l5' 2000 1).length = 1024 := by
        unfold arm
        rw [f6]
        have := put_len_new (t := cut 1) N5.out
        have := L5.out
        simp only [Bool.false_eq_true, if_false]
        omega
      rw [e1]
      have b6 := b5.grown hg6 b5.size (fun j hj => by cases hj; exact hm')
      generalize arm l5' 2000 1 = l6' at *
      have HW6 := Lib.hid hw6
      have L6 := Lib.hid l6
      clear hw6 hg6 b5 l6 f6 e1 HW5
      go_wp2_with fail
      refine (Wl.at_nil _ _).mono ?_
      rintro e w7 ⟨rfl, rfl⟩
      go_wp2_with fail
      refine (Wl.next_nil _).mono ?_
      rintro e w7 ⟨rfl, rfl⟩
      go_wp2_with fail
      refine (Wl.len_any _ p m _ HW6.out).mono ?_
      rintro e w7 ⟨rfl, rfl⟩
      rw [L6.out]
      go_wp2_with fail
      refine (Wl.arm_nil _ _ _).mono ?_
      rintro e w7 ⟨rfl, rfl⟩
      go_wp2_with fail
      refine (Wl.disarm_nil _ _).mono ?_
      rintro e w7 ⟨rfl, rfl⟩
      go_wp2_with fail
      refine (Wl.len_nil _).mono ?_
      rintro e w7 ⟨rfl, rfl⟩
      go_wp2_with fail
      refine (Wl.due_nil _ _).mono ?_
      rintro e w8 ⟨rfl, hb8⟩
      have b8 := b6.trans (hb8.mono b6.size)
      go_wp2_with fail
      refine (Wl.clone_nil _).mono ?_
      rintro e w9 ⟨rfl, rfl⟩
      go_wp2_with fail
      go_ret
      exact ⟨rfl, b8⟩
end Go.Proofs.Ytdacacehmmjpeaa.Wl
