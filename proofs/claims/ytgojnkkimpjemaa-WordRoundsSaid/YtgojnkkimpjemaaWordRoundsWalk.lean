/- The walk of hackneylaw01.WordRounds. -/
import Derived.Test.YtgojnkkimpjemaaWord
namespace Go.Proofs.Ytgojnkkimpjemaa.Wd
open Go.ChangeShapes Go.WideShapes Go.ChangeAt Go.RowKit
set_option linter.unusedVariables false

theorem on_may (s u t : Int) (h : wMay (s % 4) t = true) : wMay (wOf s u % 4) t = true := by rw [wOf_state]; exact h
theorem on_to (s u t : Int) (h : wMay (s % 4) t = true) : wTo (wOf s u) t = wOf t (u + 1) := by
  rw [wTo_yes (on_may s u t h), wOf_version]; unfold wOf; omega
theorem rounds_end (v n : Int) : wOf 0 (v + 2 * n) / 4 = (v % 4611686018427387904 + 2 * n) % 4611686018427387904 := by
  rw [wOf_version]; omega

set_option maxHeartbeats 2000000 in
theorem rounds_any (v : Int) (n : Nat) (w : World) (v0 : 0 ≤ v) (v1 : v ≤ 18446744073709551615) (n1 : n ≤ 255) :
    Calls Try.prog 5 #[.int .u64 v, .int .u8 n] w fun e w' => e = .returned (.bool true) ∧ w = w' := by
  have hm : 0 ≤ v % 4611686018427387904 ∧ v % 4611686018427387904 < 4611686018427387904 := by omega
  go_enter Try.func5, Try.ntmps5
  go_wp2_with fail
  refine (awake_any _).mono ?_
  rintro e w' ⟨rfl, rfl⟩
  go_wp2_with fail
  refine (of_any _ _ _ v0 v1).mono ?_
  rintro e w' ⟨rfl, rfl⟩
  go_wp2_with fail
  go_loop [5, 22] (fun x c => ∃ k : Nat, k ≤ n ∧ c = .int .u8 k ∧ x = .int .u64 (wOf 0 (v + 2 * (k : Int)))) (fun _ c => n - (intOf c).toNat)
  case atStart => exact ⟨0, Nat.zero_le _, rfl, by rw [show v + 2 * ((0 : Nat) : Int) = v by omega]⟩
  case round =>
    obtain ⟨k, hk, rfl, rfl⟩ := hrel
    by_cases hlt : k < n
    · have e1 := Lib.hid (on_to 0 (v + 2 * (k : Int)) 1 rfl)
      have e2 := Lib.hid (on_to 1 (v + 2 * (k : Int) + 1) 0 rfl)
      go_wp2_with fail
      refine (to_any _ _ _ (wOf_lo _ _) (wOf_hi _ _)).mono ?_
      rintro e w' ⟨rfl, rfl⟩
      rw [e1.out, on_may 0 _ 1 rfl]
      go_wp2_with fail
      refine (to_any _ _ _ (wOf_lo _ _) (wOf_hi _ _)).mono ?_
      rintro e w' ⟨rfl, rfl⟩
      rw [e2.out, on_may 1 _ 0 rfl]
      go_wp2_with fail
      go_round
      case rel => exact ⟨k + 1, by omega, by go_num, by rw [show v + 2 * ((k + 1 : Nat) : Int) = v + 2 * (k : Int) + 1 + 1 by omega]⟩
      case measure => simp [intOf]; omega
    · obtain rfl : k = n := by omega
      have e1 := Lib.hid (on_to 0 (v + 2 * (k : Int)) 2 rfl)
      have e2 := Lib.hid (on_to 2 (v + 2 * (k : Int) + 1) 3 rfl)
      go_wp2_with fail
      refine (to_any _ _ _ (wOf_lo _ _) (wOf_hi _ _)).mono ?_
      rintro e w' ⟨rfl, rfl⟩
      rw [e1.out, on_may 0 _ 2 rfl]
      go_wp2_with fail
      refine (to_any _ _ _ (wOf_lo _ _) (wOf_hi _ _)).mono ?_
      rintro e w' ⟨rfl, rfl⟩
      rw [e2.out, on_may 2 _ 3 rfl]
      go_wp2_with fail
      go_loop [52] (fun c => ∃ j : Nat, j ≤ 5 ∧ c = .int .i64 j) (fun c => 5 - (intOf c).toNat)
      case atStart => exact ⟨0, Nat.zero_le _, rfl⟩
      case round =>
        obtain ⟨j, hj, rfl⟩ := hrel
        by_cases hlt : j < 5
        · go_wp2_with fail
          refine (to_any _ _ _ (wOf_lo _ _) (wOf_hi _ _)).mono ?_
          rintro e w' ⟨rfl, rfl⟩
          rw [show wOf 3 (v + 2 * (k : Int) + 1 + 1) % 4 = 3 by rw [wOf_state]; rfl, wMay_three]
          go_wp2_with fail
          go_round
          case rel => exact ⟨j + 1, by omega, by go_num⟩
          case measure => simp [intOf]; omega
        · go_wp2_with fail
          refine (state_any _ _ (wOf_lo _ _) (wOf_hi _ _)).mono ?_
          rintro e w' ⟨rfl, rfl⟩
          rw [show wOf 0 (v + 2 * (k : Int)) % 4 = 0 by rw [wOf_state]; rfl]
          go_wp2_with fail
          refine (version_any _ _ (wOf_lo _ _) (wOf_hi _ _)).mono ?_
          rintro e w' ⟨rfl, rfl⟩
          rw [rounds_end]
          go_wp2_with fail
          go_ret
          exact ⟨rfl, rfl⟩
theorem rounds_walk (a0 : Int) (a1 : Int) (w0 : (Lit.int .u64 a0).wf = true) (w1 : (Lit.int .u8 a1).wf = true) (w : World) :
    Calls Try.prog 5 #[.int .u64 a0, .int .u8 a1] w fun e w' => e = .returned (.bool true) ∧ Grown w w' := by
  have b0 := lo_u64 w0
  have b1 := lo_u8 w1
  obtain ⟨n, rfl⟩ := Int.eq_ofNat_of_zero_le b1.1
  exact (rounds_any a0 n w b0.1 b0.2 (by omega)).mono fun e w' ⟨he, hw⟩ => ⟨he, hw ▸ Grown.refl _⟩
end Go.Proofs.Ytgojnkkimpjemaa.Wd
