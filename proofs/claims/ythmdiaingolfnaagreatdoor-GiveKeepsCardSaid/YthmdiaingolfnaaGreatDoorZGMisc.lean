/- A part of the claim: the texts ConfRef RawMake. -/
import Derived.Test.YthmdiaingolfnaaGreatDoorZConfCheck
import Derived.Test.YthmdiaingolfnaaGreatDoorZRatioE
import Derived.Test.YthmdiaingolfnaaGreatDoorZBase1
import Derived.Deep.CutRange
import Derived.Deep.MidRow
namespace Go.Proofs.YthmdiaingolfnaaGreatDoor.Cn
open Go Go.ChangeShapes Go.WideShapes Go.ChangeAt Go.RowKit Rw
set_option linter.unusedVariables false
theorem mx2_le {a b M : Int} : mx2 a b ≤ M ↔ a ≤ M ∧ b ≤ M := by unfold mx2; split <;> omega
set_option maxRecDepth 100000 in
theorem rcheck13_any (c : Cf) (h : c.ok) (w : World) :
    Calls Tryz.prog 96 #[c.v] w fun e w' => e = .returned (.int .i64 (cfE c)) ∧ Below w.heap.size w w' := by
  obtain ⟨mx, mn, id_, lf, kp, lk, vr⟩ := c
  have HC := Lib.hid (fun w => Fl.rcheck_any vr 0 4607182418800017408 w h.var (by decide) (by decide))
  have hM : Cf.hi ⟨mx, mn, id_, lf, kp, lk, vr⟩ = mx2 (mx2 (mx2 id_ lf) kp) lk := rfl
  unfold cfE
  simp only [hM]
  clear h hM
  by_cases h1 : mx < 1
  · have q1 : decide (mx < 1) = true := decide_eq_true h1
    rw [if_pos (.inl h1)]
    clear h1
    go_enter Tryz.func96, Tryz.ntmps96
    go_wp2_with fail
    go_ret
    exact ⟨rfl, (Below.refl _ _).alloc (Nat.le_refl _) _⟩
  have q1 : decide (mx < 1) = false := decide_eq_false h1
  by_cases h2 : 16 < mx
  · have q2 : decide (16 < mx) = true := decide_eq_true h2
    rw [if_pos (.inr (.inl h2))]
    clear h1 h2
    go_enter Tryz.func96, Tryz.ntmps96
    go_wp2_with fail
    go_ret
    exact ⟨rfl, (Below.refl _ _).alloc (Nat.le_refl _) _⟩
  have q2 : decide (16 < mx) = false := decide_eq_false h2
  by_cases h3 : mn < 0
  · have q3 : decide (mn < 0) = true := decide_eq_true h3
    rw [if_pos (.inr (.inr (.inl h3)))]
    clear h1 h2 h3
    go_enter Tryz.func96, Tryz.ntmps96
    go_wp2_with fail
    go_ret
    exact ⟨rfl, (Below.refl _ _).alloc (Nat.le_refl _) _⟩
  have q3 : decide (mn < 0) = false := decide_eq_false h3
  by_cases h4 : mx < mn
  · have q4 : decide (mx < mn) = true := decide_eq_true h4
    rw [if_pos (.inr (.inr (.inr h4)))]
    clear h1 h2 h3 h4
    go_enter Tryz.func96, Tryz.ntmps96
    go_wp2_with fail
    go_ret
    exact ⟨rfl, (Below.refl _ _).alloc (Nat.le_refl _) _⟩
  have q4 : decide (mx < mn) = false := decide_eq_false h4
  rw [if_neg (by omega)]
  clear h1 h2 h3 h4
  unfold hiE
  by_cases h5 : 1152921504606846976 < id_
  · have q5 : decide (1152921504606846976 < id_) = true := decide_eq_true h5
    rw [if_pos (by rcases Int.lt_or_le 1152921504606846976 (mx2 (mx2 (mx2 id_ lf) kp) lk) with h | h; exact h; rw [mx2_le, mx2_le, mx2_le] at h; omega)]
    clear h5
    go_enter Tryz.func96, Tryz.ntmps96
    go_wp2_with fail
    go_ret
    exact ⟨rfl, (Below.refl _ _).alloc (Nat.le_refl _) _⟩
  have q5 : decide (1152921504606846976 < id_) = false := decide_eq_false h5
  by_cases h6 : 1152921504606846976 < lf
  · have q6 : decide (1152921504606846976 < lf) = true := decide_eq_true h6
    rw [if_pos (by rcases Int.lt_or_le 1152921504606846976 (mx2 (mx2 (mx2 id_ lf) kp) lk) with h | h; exact h; rw [mx2_le, mx2_le, mx2_le] at h; omega)]
    clear h5 h6
    go_enter Tryz.func96, Tryz.ntmps96
    go_wp2_with fail
    go_ret
    exact ⟨rfl, (Below.refl _ _).alloc (Nat.le_refl _) _⟩
  have q6 : decide (1152921504606846976 < lf) = false := decide_eq_false h6
  by_cases h7 : 1152921504606846976 < kp
  · have q7 : decide (1152921504606846976 < kp) = true := decide_eq_true h7
    rw [if_pos (by rcases Int.lt_or_le 1152921504606846976 (mx2 (mx2 (mx2 id_ lf) kp) lk) with h | h; exact h; rw [mx2_le, mx2_le, mx2_le] at h; omega)]
    clear h5 h6 h7
    go_enter Tryz.func96, Tryz.ntmps96
    go_wp2_with fail
    go_ret
    exact ⟨rfl, (Below.refl _ _).alloc (Nat.le_refl _) _⟩
  have q7 : decide (1152921504606846976 < kp) = false := decide_eq_false h7
  by_cases h8 : 1152921504606846976 < lk
  · have q8 : decide (1152921504606846976 < lk) = true := decide_eq_true h8
    rw [if_pos (by rcases Int.lt_or_le 1152921504606846976 (mx2 (mx2 (mx2 id_ lf) kp) lk) with h | h; exact h; rw [mx2_le, mx2_le, mx2_le] at h; omega)]
    clear h5 h6 h7 h8
    go_enter Tryz.func96, Tryz.ntmps96
    go_wp2_with fail
    go_ret
    exact ⟨rfl, (Below.refl _ _).alloc (Nat.le_refl _) _⟩
  have q8 : decide (1152921504606846976 < lk) = false := decide_eq_false h8
  rw [if_neg (by rw [Int.not_lt, mx2_le, mx2_le, mx2_le]; omega)]
  clear h5 h6 h7 h8
  go_enter Tryz.func96, Tryz.ntmps96
  go_wp2_with fail
  refine (HC.out _).mono ?_
  rintro e w1 ⟨rfl, rfl⟩
  go_wp2_with fail
  go_ret
  exact ⟨rfl, (Below.refl _ _).alloc (Nat.le_refl _) _⟩
end Go.Proofs.YthmdiaingolfnaaGreatDoor.Cn
namespace Go.Proofs.YthmdiaingolfnaaGreatDoor.Cn
open Go Go.ChangeShapes Go.WideShapes Go.ChangeAt Go.RowKit Rw
set_option linter.unusedVariables false
theorem under_c : Tryz.prog.underlying 30 = some (Tryz.prog.underlying 30).get! := by kernel_rfl
theorem row_c : ((Tryz.prog.underlying 30).get!).isRow = true := by kernel_rfl
end Go.Proofs.YthmdiaingolfnaaGreatDoor.Cn
