/- Contracts of the functions of layer 1 (word), and of the document's answer for it. -/
import Derived.Test.YtmnjdmcocifogaaGreatDoorRows
import Derived.Test.YtmnjdmcocifogaaGreatDoorWordMath
import Derived.WalkKit
import Derived.ProofKit
import Derived.BigGuardPart
import Derived.Outline
import Derived.Lib.Hide
namespace Go.Proofs.YtmnjdmcocifogaaGreatDoor.Wd
open Go.ChangeShapes Go.WideShapes Go.ChangeAt Go.RowKit
set_option linter.unusedVariables false

theorem state_any (r : Int) (w : World) (h0 : 0 ≤ r) (h1 : r ≤ 18446744073709551615) :
    Calls Tryz.prog 169 #[.int .u64 r] w fun e w' => e = .returned (.int .i64 (r % 4)) ∧ w = w' := by
  go_enter Tryz.func169, Tryz.ntmps169
  go_wp2
  go_ret
  exact ⟨ret_int (by rw [and3_u64 r h0 h1]; exact IntWalk.wrap64_in _ ⟨by omega, by omega⟩), rfl⟩
theorem version_any (r : Int) (w : World) (h0 : 0 ≤ r) (h1 : r ≤ 18446744073709551615) :
    Calls Tryz.prog 171 #[.int .u64 r] w fun e w' => e = .returned (.int .u64 (r / 4)) ∧ w = w' := by
  go_enter Tryz.func171, Tryz.ntmps171
  go_wp2
  go_ret
  exact ⟨rfl, rfl⟩
theorem of_any (s v : Int) (w : World) (h0 : 0 ≤ v) (h1 : v ≤ 18446744073709551615) :
    Calls Tryz.prog 170 #[.int .i64 s, .int .u64 v] w fun e w' => e = .returned (.int .u64 (wOf s v)) ∧ w = w' := by
  go_enter Tryz.func170, Tryz.ntmps170
  go_wp2
  go_ret
  exact ⟨ret_int (of_bits s v), rfl⟩
set_option maxHeartbeats 1000000 in
theorem may_any (f t : Int) (w : World) :
    Calls Tryz.prog 168 #[.int .i64 f, .int .i64 t] w fun e w' => e = .returned (.bool (wMay f t)) ∧ w = w' := by
  rcases five f with rfl | rfl | rfl | rfl | ⟨f0, f1, f2, f3⟩ <;> rcases five t with rfl | rfl | rfl | rfl | ⟨t0, t1, t2, t3⟩
  all_goals
    go_enter Tryz.func168, Tryz.ntmps168
    go_wp2
    go_ret
    exact ⟨by simp [wMay, *], rfl⟩
set_option maxHeartbeats 1000000 in
theorem to_any (r t : Int) (w : World) (h0 : 0 ≤ r) (h1 : r ≤ 18446744073709551615) :
    Calls Tryz.prog 163 #[.int .u64 r, .int .i64 t] w fun e w' => e = .returned (.tuple #[.int .u64 (wTo r t), .bool (wMay (r % 4) t)]) ∧ w = w' := by
  have hv : 0 ≤ r / 4 ∧ r / 4 + 1 ≤ 18446744073709551615 := by omega
  cases hm : wMay (r % 4) t
  · have H := Lib.hid hm
    go_enter Tryz.func163, Tryz.ntmps163
    go_wp2_with fail
    refine (state_any _ _ h0 h1).mono ?_
    rintro e w' ⟨rfl, rfl⟩
    go_wp2_with fail
    refine (may_any _ _ _).mono ?_
    rintro e w' ⟨rfl, rfl⟩
    rw [hm]
    go_wp2_with fail
    go_ret2
    exact ⟨by rw [wTo_no H.out]; rfl, rfl⟩
  · have H := Lib.hid hm
    go_enter Tryz.func163, Tryz.ntmps163
    go_wp2_with fail
    refine (state_any _ _ h0 h1).mono ?_
    rintro e w' ⟨rfl, rfl⟩
    go_wp2_with fail
    refine (may_any _ _ _).mono ?_
    rintro e w' ⟨rfl, rfl⟩
    rw [hm]
    go_wp2_with fail
    refine (version_any _ _ h0 h1).mono ?_
    rintro e w' ⟨rfl, rfl⟩
    go_wp2_with fail
    refine (of_any _ _ _ (by omega) (by omega)).mono ?_
    rintro e w' ⟨rfl, rfl⟩
    go_wp2_with fail
    go_ret2
    exact ⟨by rw [wTo_yes H.out]; rfl, rfl⟩
set_option maxHeartbeats 1000000 in
theorem awake_any (w : World) :
    Calls Tryz.prog 165 #[] w fun e w' => e = .returned (.bool true) ∧ w = w' := by
  go_enter Tryz.func165, Tryz.ntmps165
  go_wp2_with fail
  refine (of_any _ _ _ (by decide) (by decide)).mono ?_
  rintro e w' ⟨rfl, rfl⟩
  go_wp2_with fail
  refine (to_any _ _ _ (by decide) (by decide)).mono ?_
  rintro e w' ⟨rfl, rfl⟩
  rw [show wTo (wOf 0 5) 1 = 25 by decide, show wMay (wOf 0 5 % 4) 1 = true by decide]
  go_wp2_with fail
  refine (of_any _ _ _ (by decide) (by decide)).mono ?_
  rintro e w' ⟨rfl, rfl⟩
  rw [show wOf 0 5 = 20 by decide]
  go_wp2_with fail
  go_ret
  exact ⟨rfl, rfl⟩
end Go.Proofs.YtmnjdmcocifogaaGreatDoor.Wd
