/- Contracts of the document's answer for layer 1, and of the names. -/
import Derived.Test.YtlpjlphofjghhaaGreatDoorBase1
namespace Go.Proofs.YtlpjlphofjghhaaGreatDoor.Wd
open Go.ChangeShapes Go.WideShapes Go.ChangeAt Go.RowKit
set_option linter.unusedVariables false

theorem rof_math (s v : Int) (h0 : 0 ≤ v) : 4 * (v % 4611686018427387904) + s % 4 = wOf s v := by unfold wOf; omega
def rofS (s : Int) : Int := if s.tmod 4 < 0 then s.tmod 4 + 4 else s.tmod 4
theorem tmod4 (s : Int) : (0 ≤ s → s.tmod 4 = s % 4) ∧ (s < 0 → s.tmod 4 = -((-s) % 4)) := by
  constructor
  · intro h; exact Int.tmod_eq_emod_of_nonneg h
  · intro h
    have : s = -(-s) := by omega
    rw [this, Int.neg_tmod, Int.tmod_eq_emod_of_nonneg (by omega)]; omega
theorem tmod4_neg (s : Int) (h : s.tmod 4 < 0) : s.tmod 4 + 4 = s % 4 := by
  have := tmod4 s; omega
theorem tmod4_pos (s : Int) (h : ¬ s.tmod 4 < 0) : s.tmod 4 = s % 4 := by
  have := tmod4 s; omega

set_option maxHeartbeats 1000000 in
theorem rof_any (s v : Int) (w : World) (h0 : 0 ≤ v) (h1 : v ≤ 18446744073709551615) (h2 : -9223372036854775808 ≤ s) (h3 : s ≤ 9223372036854775807) :
    Calls Tryz.prog 58 #[.int .i64 s, .int .u64 v] w fun e w' => e = .returned (.int .u64 (wOf s v)) ∧ w = w' := by
  have ht := tmod4 s
  have hp := tmod4_pos s
  have hn := tmod4_neg s
  have hb : -4 < s.tmod 4 ∧ s.tmod 4 < 4 := by omega
  clear ht
  by_cases hs : s.tmod 4 < 0
  · have hn' := hn hs
    have HN := Lib.hid hn'
    have hb0 : 0 ≤ s.tmod 4 + 4 ∧ s.tmod 4 + 4 < 4 := by omega
    clear hp hn hn'
    go_enter Tryz.func58, Tryz.ntmps58
    go_wp2
    go_ret
    exact ⟨ret_int (by rw [HN.out]; exact rof_math s v h0), rfl⟩
  · have hn' := hp hs
    have HN := Lib.hid hn'
    have hb0 : 0 ≤ s.tmod 4 := by omega
    clear hp hn hn'
    go_enter Tryz.func58, Tryz.ntmps58
    go_wp2
    go_ret
    exact ⟨ret_int (by rw [HN.out]; exact rof_math s v h0), rfl⟩

set_option maxHeartbeats 1000000 in
theorem rmay_any (f t : Int) (w : World) :
    Calls Tryz.prog 171 #[.int .i64 f, .int .i64 t] w fun e w' => e = .returned (.bool (wMay f t)) ∧ w = w' := by
  rcases five f with rfl | rfl | rfl | rfl | ⟨f0, f1, f2, f3⟩ <;> rcases five t with rfl | rfl | rfl | rfl | ⟨t0, t1, t2, t3⟩
  all_goals
    go_enter Tryz.func171, Tryz.ntmps171
    go_wp2
    go_ret
    exact ⟨by simp [wMay, *], rfl⟩

set_option maxHeartbeats 1000000 in
theorem rto_any (r t : Int) (w : World) (h0 : 0 ≤ r) (h1 : r ≤ 18446744073709551615) (h2 : -9223372036854775808 ≤ t) (h3 : t ≤ 9223372036854775807) :
    Calls Tryz.prog 120 #[.int .u64 r, .int .i64 t] w fun e w' => e = .returned (.tuple #[.int .u64 (wTo r t), .bool (wMay (r % 4) t)]) ∧ w = w' := by
  have hv : 0 ≤ r / 4 ∧ r / 4 + 1 ≤ 18446744073709551615 := by omega
  cases hm : wMay (r % 4) t
  · have H := Lib.hid hm
    go_enter Tryz.func120, Tryz.ntmps120
    go_wp2_with fail
    refine (rmay_any _ _ _).mono ?_
    rintro e w' ⟨rfl, rfl⟩
    rw [hm]
    go_wp2_with fail
    go_ret2
    exact ⟨by rw [wTo_no H.out]; rfl, rfl⟩
  · have H := Lib.hid hm
    go_enter Tryz.func120, Tryz.ntmps120
    go_wp2_with fail
    refine (rmay_any _ _ _).mono ?_
    rintro e w' ⟨rfl, rfl⟩
    rw [hm]
    go_wp2_with fail
    refine (rof_any _ _ _ (by omega) (by omega) h2 h3).mono ?_
    rintro e w' ⟨rfl, rfl⟩
    go_wp2_with fail
    go_ret2
    exact ⟨by rw [wTo_yes H.out]; rfl, rfl⟩

def wName (s : Int) : ByteArray := if s = 0 then ⟨#[102, 114, 101, 101]⟩ else if s = 1 then ⟨#[105, 110, 117, 115, 101]⟩ else if s = 2 then ⟨#[114, 101, 115, 101, 114, 118, 101, 100]⟩ else if s = 3 then ⟨#[114, 101, 109, 111, 118, 101, 100]⟩ else ⟨#[]⟩

theorem six (x : Int) : x = 0 ∨ x = 1 ∨ x = 2 ∨ x = 3 ∨ x < 0 ∨ (0 ≤ x ∧ 3 < x) := by omega
end Go.Proofs.YtlpjlphofjghhaaGreatDoor.Wd
