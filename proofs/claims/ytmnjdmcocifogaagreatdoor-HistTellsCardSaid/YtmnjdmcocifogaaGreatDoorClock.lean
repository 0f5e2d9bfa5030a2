/- Contracts of the functions of layer 4 (clock) and of the document's answer for it; what wakes the laws of layers 2 to 4. -/
import Derived.Test.YtmnjdmcocifogaaGreatDoorSnap
import Derived.Test.YtmnjdmcocifogaaGreatDoorCell
namespace Go.Proofs.YtmnjdmcocifogaaGreatDoor.Ck
open Go.ChangeShapes Go.WideShapes Go.ChangeAt Go.RowKit Rw Sl Sn
set_option linter.unusedVariables false

/-- Two numbers together, as a tick. -/
def cAdd (a b : Int) : Int := if a + b ≤ 1152921504606846976 then a + b else 1152921504606846976
theorem cAdd_lo (a b : Int) (ha : 0 ≤ a) (hb : 0 ≤ b) : 0 ≤ cAdd a b := by unfold cAdd; split <;> omega
theorem cAdd_hi (a b : Int) : cAdd a b ≤ 1152921504606846976 := by unfold cAdd; split <;> omega
theorem cAdd_u (a b : Int) : cAdd a b ≤ 18446744073709551615 := by have := cAdd_hi a b; omega

theorem add_any (a b : Int) (w : World) (a0 : 0 ≤ a) (a1 : a ≤ 18446744073709551615) (b0 : 0 ≤ b) (b1 : b ≤ 18446744073709551615) :
    Calls Tryz.prog 140 #[.int .u64 a, .int .u64 b] w fun e w' => e = .returned (.int .u64 (cAdd a b)) ∧ w = w' := by
  by_cases h1 : 1152921504606846976 ≤ a
  · have e1 : cAdd a b = 1152921504606846976 := by unfold cAdd; split <;> omega
    rw [e1]
    clear e1
    go_enter Tryz.func140, Tryz.ntmps140
    go_wp2
    go_ret
    exact ⟨rfl, rfl⟩
  · have h1' : a < 1152921504606846976 := by omega
    clear h1
    by_cases h2 : 1152921504606846976 - a ≤ b
    · have e1 : cAdd a b = 1152921504606846976 := by unfold cAdd; split <;> omega
      rw [e1]
      clear e1
      go_enter Tryz.func140, Tryz.ntmps140
      go_wp2
      go_ret
      exact ⟨rfl, rfl⟩
    · have h2' : b < 1152921504606846976 - a := by omega
      have e1 : cAdd a b = a + b := by unfold cAdd; split <;> omega
      rw [e1]
      clear e1 h2
      go_enter Tryz.func140, Tryz.ntmps140
      go_wp2
      go_ret
      exact ⟨rfl, rfl⟩
def cSince (now t : Int) : Int := if now < t then 0 else now - t
abbrev ck (t : Int) : Value := .agg #[.int .u64 t]
abbrev bx (t : Int) : Obj := .cells #[.int .u64 t] 181

theorem now_any (t : Int) (w : World) : Calls Tryz.prog 127 #[ck t] w fun e w' => e = .returned (.int .u64 t) ∧ w.alloc (bx t) = w' := by
  go_enter Tryz.func127, Tryz.ntmps127
  go_wp2
  go_ret
  exact ⟨rfl, rfl⟩
theorem reached_any (t x : Int) (w : World) : Calls Tryz.prog 129 #[ck t, .int .u64 x] w fun e w' => e = .returned (.bool (decide (x ≤ t))) ∧ w.alloc (bx t) = w' := by
  go_enter Tryz.func129, Tryz.ntmps129
  go_wp2
  go_ret
  exact ⟨rfl, rfl⟩
theorem after_any (t n : Int) (w : World) (a0 : 0 ≤ t) (a1 : t ≤ 18446744073709551615) (b0 : 0 ≤ n) (b1 : n ≤ 18446744073709551615) :
    Calls Tryz.prog 135 #[ck t, .int .u64 n] w fun e w' => e = .returned (.int .u64 (cAdd t n)) ∧ w.alloc (bx t) = w' := by
  go_enter Tryz.func135, Tryz.ntmps135
  go_wp2_with fail
  refine (add_any _ _ _ a0 a1 b0 b1).mono ?_
  rintro e w' ⟨rfl, rfl⟩
  go_wp2_with fail
  go_ret
  exact ⟨rfl, rfl⟩
theorem at_any (t : Int) (w : World) (a0 : 0 ≤ t) (a1 : t ≤ 18446744073709551615) :
    Calls Tryz.prog 126 #[.int .u64 t] w fun e w' => e = .returned (ck (cAdd t 0)) ∧ w.alloc (bx (cAdd t 0)) = w' := by
  by_cases h : t ≤ 1152921504606846976
  · have e1 : cAdd t 0 = t := by unfold cAdd; split <;> omega
    rw [e1]
    clear e1
    go_enter Tryz.func126, Tryz.ntmps126
    go_wp2
    exact bodyPost_ret (v := ck t) (by simp [results, Tryz.results126, go_sem]) rfl ⟨rfl, rfl⟩
  · have e1 : cAdd t 0 = 1152921504606846976 := by unfold cAdd; split <;> omega
    have h' : 1152921504606846976 < t := by omega
    rw [e1]
    clear e1 h
    go_enter Tryz.func126, Tryz.ntmps126
    go_wp2
    exact bodyPost_ret (v := ck 1152921504606846976) (by simp [results, Tryz.results126, go_sem]) rfl ⟨rfl, rfl⟩
theorem tick_any (t n : Int) (w : World) (a0 : 0 ≤ t) (a1 : t ≤ 18446744073709551615) (b0 : 0 ≤ n) (b1 : n ≤ 18446744073709551615) :
    Calls Tryz.prog 136 #[ck t, .int .u64 n] w fun e w' => e = .returned (ck (cAdd t n)) ∧ ((w.alloc (bx t)).alloc (bx (cAdd t n))).alloc (bx t) = w' := by
  go_enter Tryz.func136, Tryz.ntmps136
  go_wp2_with fail
  refine (after_any _ _ _ a0 a1 b0 b1).mono ?_
  rintro e w' ⟨rfl, rfl⟩
  go_wp2_with fail
  exact bodyPost_ret (v := ck (cAdd t n)) (by simp [results, Tryz.results136, go_sem]) rfl ⟨rfl, by simp⟩
end Go.Proofs.YtmnjdmcocifogaaGreatDoor.Ck
