/- The walks of hackneylaw04.ClockTells and ClockGoes. -/
import Derived.Test.YtiglheagefpgoaaAwake4
import Derived.Test.YtiglheagefpgoaaWordMath
import Derived.Test.YtiglheagefpgoaaAfter
namespace Go.Proofs.Ytiglheagefpgoaa.Ck
open Go.ChangeShapes Go.WideShapes Go.ChangeAt Go.RowKit Rw Sl Sn
set_option linter.unusedVariables false


set_option maxHeartbeats 2000000 in
set_option maxRecDepth 100000 in
theorem tells_any (a b t : Int) (w : World) (a0 : 0 ≤ a) (a1 : a ≤ 18446744073709551615) (b0 : 0 ≤ b) (b1 : b ≤ 18446744073709551615) (t0 : 0 ≤ t) (t1 : t ≤ 18446744073709551615) :
    Calls Try.prog 12 #[.int .u64 a, .int .u64 b, .int .u64 t] w fun e w' => e = .returned (.bool true) ∧ Below w.heap.size w w' := by
  have n0 := cAdd_lo a 0 a0 (by omega)
  have n1 := cAdd_u a 0
  obtain ⟨nw, hnw⟩ : ∃ nw, cAdd a 0 = nw := ⟨_, rfl⟩
  rw [hnw] at n0 n1
  have HN := Lib.hid hnw
  clear hnw
  go_enter Try.func12, Try.ntmps12
  go_wp2_with fail
  refine (awake4_any _).mono ?_
  rintro e w1 ⟨rfl, hb1⟩
  go_wp2_with fail
  refine (at_any _ _ a0 a1).mono ?_
  rintro e w2 ⟨rfl, rfl⟩
  rw [HN.out]
  go_wp2_with fail
  refine (radd_any _ _ _ a0 a1 (by omega) (by omega)).mono ?_
  rintro e w2 ⟨rfl, rfl⟩
  rw [HN.out]
  go_wp2_with fail
  refine (add_any _ _ _ a0 a1 b0 b1).mono ?_
  rintro e w2 ⟨rfl, rfl⟩
  go_wp2_with fail
  refine (radd_any _ _ _ a0 a1 b0 b1).mono ?_
  rintro e w2 ⟨rfl, rfl⟩
  go_wp2_with fail
  refine (now_any _ _).mono ?_
  rintro e w2 ⟨rfl, rfl⟩
  go_wp2_with fail
  refine (after_any _ _ _ n0 n1 b0 b1).mono ?_
  rintro e w2 ⟨rfl, rfl⟩
  go_wp2_with fail
  refine (radd_any _ _ _ n0 n1 b0 b1).mono ?_
  rintro e w2 ⟨rfl, rfl⟩
  go_wp2_with fail
  refine (tick_any _ _ _ n0 n1 b0 b1).mono ?_
  rintro e w2 ⟨rfl, rfl⟩
  go_wp2_with fail
  refine (now_any _ _).mono ?_
  rintro e w2 ⟨rfl, rfl⟩
  go_wp2_with fail
  refine (radd_any _ _ _ n0 n1 b0 b1).mono ?_
  rintro e w2 ⟨rfl, rfl⟩
  go_wp2_with fail
  refine (reached_any _ _ _).mono ?_
  rintro e w2 ⟨rfl, rfl⟩
  go_wp2_with fail
  refine (since_any _ _ _ n0 n1 t0 t1).mono ?_
  rintro e w2 ⟨rfl, rfl⟩
  go_wp2_with fail
  refine (rsince_any _ _ _ n0 n1 t0 t1).mono ?_
  rintro e w2 ⟨rfl, rfl⟩
  go_wp2_with fail
  refine (now_any _ _).mono ?_
  rintro e w2 ⟨rfl, rfl⟩
  go_wp2_with fail
  go_ret
  refine ⟨by simp, ?_⟩
  have s1 := hb1.size
  repeat' (first | exact hb1 | apply Below.alloc)
  all_goals (first | omega | (simp; omega))

theorem now_b (t : Int) (w : World) : Calls Try.prog 56 #[ck t] w fun e w' => e = .returned (.int .u64 t) ∧ Below w.heap.size w w' :=
  (now_any t w).mono fun _ _ ⟨h, hw⟩ => ⟨h, hw ▸ (Below.refl _ _).alloc (Nat.le_refl _) _⟩
theorem reached_b (t x : Int) (w : World) : Calls Try.prog 59 #[ck t, .int .u64 x] w fun e w' => e = .returned (.bool (decide (x ≤ t))) ∧ Below w.heap.size w w' :=
  (reached_any t x w).mono fun _ _ ⟨h, hw⟩ => ⟨h, hw ▸ (Below.refl _ _).alloc (Nat.le_refl _) _⟩
theorem tick_b (t n : Int) (w : World) (a0 : 0 ≤ t) (a1 : t ≤ 18446744073709551615) (b0 : 0 ≤ n) (b1 : n ≤ 18446744073709551615) :
    Calls Try.prog 58 #[ck t, .int .u64 n] w fun e w' => e = .returned (ck (cAdd t n)) ∧ Below w.heap.size w w' :=
  (tick_any t n w a0 a1 b0 b1).mono fun _ _ ⟨h, hw⟩ => ⟨h, hw ▸ (((Below.refl _ _).alloc (Nat.le_refl _) _).alloc (by simp) _).alloc (by simp; omega) _⟩
theorem add_b (a b : Int) (w : World) (a0 : 0 ≤ a) (a1 : a ≤ 18446744073709551615) (b0 : 0 ≤ b) (b1 : b ≤ 18446744073709551615) :
    Calls Try.prog 55 #[.int .u64 a, .int .u64 b] w fun e w' => e = .returned (.int .u64 (cAdd a b)) ∧ Below w.heap.size w w' :=
  (add_any a b w a0 a1 b0 b1).mono fun _ _ ⟨h, hw⟩ => ⟨h, hw ▸ Below.refl _ _⟩
theorem cAdd_assoc (a b c : Int) (ha : 0 ≤ a) (hb : 0 ≤ b) (hc : 0 ≤ c) : cAdd (cAdd a b) c = cAdd a (cAdd b c) := by
  unfold cAdd
  by_cases h1 : a + b ≤ 1152921504606846976 <;> by_cases h2 : b + c ≤ 1152921504606846976 <;> simp only [h1, h2, if_true, if_false] <;> split <;> split <;> omega
theorem cAdd_ge (a b : Int) (ha : a ≤ 1152921504606846976) (hb : 0 ≤ b) : a ≤ cAdd a b := by unfold cAdd; split <;> omega

set_option maxHeartbeats 4000000 in
set_option maxRecDepth 100000 in
theorem goes_any (a m n : Int) (w : World) (a0 : 0 ≤ a) (a1 : a ≤ 18446744073709551615) (m0 : 0 ≤ m) (m1 : m ≤ 18446744073709551615) (n0 : 0 ≤ n) (n1 : n ≤ 18446744073709551615) :
    Calls Try.prog 13 #[.int .u64 a, .int .u64 m, .int .u64 n] w fun e w' => e = .returned (.bool true) ∧ Below w.heap.size w w' := by
  have c0 := cAdd_lo a 0 a0 (by omega)
  have ct := cAdd_hi a 0
  obtain ⟨nw, hnw⟩ : ∃ nw, cAdd a 0 = nw := ⟨_, rfl⟩
  rw [hnw] at c0 ct
  have c1 : nw ≤ 18446744073709551615 := by omega
  have HN := Lib.hid hnw
  clear hnw
  have d0 := cAdd_lo nw m c0 m0
  have d1 := cAdd_u nw m
  have f0 := cAdd_lo m n m0 n0
  have f1 := cAdd_u m n
  have t1 : ¬ cAdd nw n < nw := by have := cAdd_ge nw n ct n0; omega
  have t2 : (cAdd (cAdd nw m) n != cAdd nw (cAdd m n)) = false := by rw [cAdd_assoc nw m n c0 m0 n0]; simp
  have t3 : decide (cAdd nw n < nw) = false := by simpa using t1
  clear t1
  go_enter Try.func13, Try.ntmps13
  go_wp2_with fail
  refine (awake4_any _).mono ?_
  rintro e w1 ⟨rfl, hb1⟩
  go_wp2_with fail
  refine (at_any _ _ a0 a1).mono ?_
  rintro e w2 ⟨rfl, rfl⟩
  rw [HN.out]
  go_wp2_with fail
  refine (after_any _ _ _ c0 c1 n0 n1).mono ?_
  rintro e w2 ⟨rfl, rfl⟩
  go_wp2_with fail
  have s1 := hb1.size
  have hbW : Below w.heap.size w (((w1.alloc (bx nw)).alloc (.cells #[.int .u64 nw] 84)).alloc (bx nw)) := ((hb1.alloc s1 _).alloc (by simp; omega) _).alloc (by simp; omega) _
  have hcW : (((w1.alloc (bx nw)).alloc (.cells #[.int .u64 nw] 84)).alloc (bx nw)).cell? ⟨w1.heap.size + 1, 0, none⟩ = some (.int .u64 nw) := by go_simp
  change Code.wp _ _ _ _ (((w1.alloc (bx nw)).alloc (.cells #[.int .u64 nw] 84)).alloc (bx nw))
  generalize (((w1.alloc (bx nw)).alloc (.cells #[.int .u64 nw] 84)).alloc (bx nw)) = W at hbW hcW ⊢
  generalize w1.heap.size + 1 = g at hcW ⊢
  clear hb1 s1
  have hcx : ∀ x : After W, x.1.cell? ⟨g, 0, none⟩ = some (.int .u64 nw) := fun x => x.cell hcW
  refine region_after (by kernel_rfl) (by kernel_rfl) ?_
  repeat (go_big_quiet_step (first
      | (go_at_call 56; exact After.call (now_b _ _))
      | (go_at_call 59; exact After.call (reached_b _ _ _))
      | (go_at_call 55; exact After.call (add_b _ _ _ m0 m1 n0 n1))
      | (go_at_call 58; exact After.call (tick_b _ _ _ (by assumption) (by assumption) (by assumption) (by assumption)))))
  refine wpQuiet_nil ?_
  rintro W2 ⟨⟨_, hb2⟩, rfl⟩
  have hcW2 : W2.cell? ⟨g, 0, none⟩ = some (.int .u64 nw) := (hb2.cell (p := ⟨g, 0, none⟩) (Lw.lt_heap hcW)).trans hcW
  have hbW2 : Below w.heap.size w W2 := hbW.trans (hb2.mono hbW.size)
  clear hcx hcW hb2 hbW t2 t3
  change Exit.then _ _ _ _ W2
  have hcx : ∀ x : After W2, x.1.cell? ⟨g, 0, none⟩ = some (.int .u64 nw) := fun x => x.cell hcW2
  go_wp2_with fail
  refine region_after (by kernel_rfl) (by kernel_rfl) ?_
  by_cases hn : n = 0
  · have q1 : (n == 0) = true := by simpa using hn
    clear hn
    repeat (go_big_quiet_step (fail))
    refine wpQuiet_nil ?_
    rintro W3 ⟨⟨_, hb3⟩, rfl⟩
    go_wp2_with fail
    go_ret
    exact ⟨rfl, hbW2.trans (hb3.mono hbW2.size)⟩
  have q1 : (n == 0) = false := by simpa using hn
  by_cases hm : 1152921504606846976 < n
  · have q2 : decide (1152921504606846976 < n) = true := by simpa using hm
    clear hn
    repeat (go_big_quiet_step (fail))
    refine wpQuiet_nil ?_
    rintro W3 ⟨⟨_, hb3⟩, rfl⟩
    go_wp2_with fail
    go_ret
    exact ⟨rfl, hbW2.trans (hb3.mono hbW2.size)⟩
  have q2 : decide (1152921504606846976 < n) = false := by simpa using hm
  by_cases hx : nw = 1152921504606846976
  · have q3 : (nw == 1152921504606846976) = true := by simpa using hx
    clear hn hm hx
    repeat (go_big_quiet_step (first
      | (go_at_call 56; exact After.call (now_b _ _))))
    refine wpQuiet_nil ?_
    rintro W3 ⟨⟨_, hb3⟩, rfl⟩
    go_wp2_with fail
    go_ret
    exact ⟨rfl, hbW2.trans (hb3.mono hbW2.size)⟩
  have q3 : (nw == 1152921504606846976) = false := by simpa using hx
  have r1 : 0 ≤ n - 1 := by omega
  have r2 : n - 1 ≤ 18446744073709551615 := by omega
  have r3 : IntKind.u64.wrap (n - 1) = n - 1 := IntWalk.u64_in _ (by omega)
  have r4 : IntKind.u64.wrap (nw + n) = nw + n := IntWalk.u64_in _ (by omega)
  have r5 : IntKind.u64.wrap (nw + n - 1) = nw + n - 1 := IntWalk.u64_in _ (by omega)
  have r6 : n ≤ 1152921504606846976 := by omega
  have r7 : decide (cAdd nw n ≤ cAdd nw (n - 1)) = decide (1152921504606846976 ≤ nw + n - 1) := by
    apply decide_eq_decide.2
    unfold cAdd
    split <;> split <;> omega
  clear hn hm hx
  repeat (go_big_quiet_step (first
      | (go_at_call 56; exact After.call (now_b _ _))
      | (go_at_call 59; exact After.call (reached_b _ _ _))
      | (go_at_call 58; exact After.call (tick_b _ _ _ (by assumption) (by assumption) (by assumption) (by assumption)))))
  refine wpQuiet_nil ?_
  rintro W3 ⟨⟨_, hb3⟩, rfl⟩
  go_wp2_with fail
  go_ret
  exact ⟨rfl, hbW2.trans (hb3.mono hbW2.size)⟩
end Go.Proofs.Ytiglheagefpgoaa.Ck
