/- The walk of hackneylaw06.RatioShares. -/
import Derived.Test.YtdacacehmmjpeaaRatioC
namespace Go.Proofs.Ytdacacehmmjpeaa.Fl
open Go.ChangeShapes Go.WideShapes Go.ChangeAt Go.RowKit Rw Ck
set_option linter.unusedVariables false

theorem share_fin (a b : Nat) (w : World) (ha : a ≤ 18446744073709551615) (hb : b ≤ 18446744073709551615) (h0 : 0 < b) :
    Calls Try.prog 44 #[.int .u64 (a : Int), .int .u64 (b : Int)] w fun e w' => ∃ r, e = .returned (.float .f64 r) ∧ w = w' ∧ r ≤ 4895412794951729152 ∧ (a ≤ b → r ≤ 4607182418800017408) := by
  obtain ⟨r, hr, h1, h2⟩ := share_some ha hb h0
  have hm : floatBits .quo .f64 (floatOfInt .f64 (a : Int)) (floatOfInt .f64 (b : Int)) = some r := by rw [floatOf, floatOf]; exact hr
  have r1 := fun w => run_float_arith (P := Try.prog) w .quo 71 .f64 _ _ _ hm
  have H1 := Lib.hid h1
  have H2 := Lib.hid h2
  clear hm hr h1 h2
  go_enter Try.func44, Try.ntmps44
  go_wp2
  go_ret
  exact ⟨r, rfl, rfl, H1.out, H2.out⟩
theorem fl_0 : fl 0 = 0 := rfl
theorem share_in (a : Nat) (w : World) (ha : a ≤ 18446744073709551615) (h0 : 0 < a) :
    Calls Try.prog 44 #[.int .u64 (a : Int), .int .u64 0] w fun e w' => e = .returned (.float .f64 9218868437227405312) ∧ w = w' := by
  have hm : floatBits .quo .f64 (floatOfInt .f64 (a : Int)) (floatOfInt .f64 0) = some 9218868437227405312 := by
    rw [floatOf, show (0 : Int) = ((0 : Nat) : Int) from rfl, floatOf, fl_0]; exact share_inf ha h0
  have r1 := fun w => run_float_arith (P := Try.prog) w .quo 71 .f64 _ _ _ hm
  clear hm
  go_enter Try.func44, Try.ntmps44
  go_wp2
  go_ret
  exact ⟨rfl, rfl⟩
theorem share_na (w : World) :
    Calls Try.prog 44 #[.int .u64 0, .int .u64 0] w fun e w' => ∃ r, e = .returned (.float .f64 r) ∧ w' = w.drew ∧ isN r = true ∧ r < 18446744073709551616 := by
  have hm : floatBits .quo .f64 (floatOfInt .f64 0) (floatOfInt .f64 0) = none := by
    rw [show (0 : Int) = ((0 : Nat) : Int) from rfl, floatOf]; exact share_none
  obtain ⟨r, h1, h2, h3⟩ := nan_run .quo 71 _ _ w (.inr rfl) hm
  have H2 := Lib.hid h2
  have H3 := Lib.hid h3
  clear hm h2 h3
  go_enter Try.func44, Try.ntmps44
  go_wp2
  go_ret
  exact ⟨r, rfl, rfl, H2.out, H3.out⟩
theorem small_facts {r : Nat} (h : r ≤ 4895412794951729152) : isN r = false ∧ isI r = false ∧ (FloatKind.f64.format.order r 0 == some Ordering.gt || FloatKind.f64.format.order r 0 == some Ordering.eq) = true ∧
    (r ≤ 4607182418800017408 → (FloatKind.f64.format.order r 4607182418800017408 == some Ordering.lt || FloatKind.f64.format.order r 4607182418800017408 == some Ordering.eq) = true) := by
  have i1 := INF_is
  have i2 := SG_is
  have n1 : isN r = false := by rw [isN_small (by omega), decide_eq_false_iff_not]; omega
  have o : ∀ y, y < INF → Ieee.double.order r y = some (compare (r : Int) (y : Int)) := fun y hy => by
    rw [order_eq (by omega) (by omega), n1, isN_small (x := y) (by omega), decide_eq_false (by omega), Ko_small (x := r) (by omega), Ko_small (x := y) (by omega)]
    rfl
  refine ⟨n1, ?_, ?_, fun hr => ?_⟩
  · unfold isI
    rw [format_eq, o 9218868437227405311 (by omega), cmp_gt, decide_eq_false_iff_not]
    omega
  · rw [format_eq, o 0 (by omega), cmp_gt, cmp_eq]
    simp; omega
  · rw [format_eq, o 4607182418800017408 (by omega), cmp_lt, cmp_eq]
    simp; omega
theorem inf_facts : isN 9218868437227405312 = false ∧ isI 9218868437227405312 = true := by decide +kernel
theorem nan_inf {r : Nat} (hr : r < 18446744073709551616) (h : isN r = true) : isI r = false := by
  have i1 := INF_is
  unfold isI
  rw [format_eq, order_eq hr (by omega), h]
  rfl
theorem nan_const : isN 9221120237041090561 = true := by decide +kernel
theorem cmp_self (x : Int) : Wl.cmpI x x = 0 := by unfold Wl.cmpI; simp
theorem cl_lt {x : Nat} (hx : x < 18446744073709551616) : cl x < 18446744073709551616 := by unfold cl; split <;> omega

set_option maxRecDepth 100000 in
theorem shares_le (a b x : Nat) (w : World) (hx : x < 18446744073709551616) (ha : a ≤ 18446744073709551615) (hb : b ≤ 18446744073709551615) (hb0 : 0 < b) (ha0 : 0 < a) (hab : a ≤ b) :
    Calls Try.prog 10 #[.int .u64 (a : Int), .int .u64 (b : Int), .int .u64 (x : Int)] w fun e w' => e = .returned (.bool true) ∧ Below w.heap.size w w' := by
  have rx := fun w => fbits_run w x
  simp only [Int.toNat_natCast] at rx
  have HX := Lib.hid hx
  clear hx
  go_enter Try.func10, Try.ntmps10
  go_wp2_with fail
  refine (awake6_any _).mono ?_
  rintro e w1 ⟨rfl, b1⟩
  go_wp2_with fail
  refine (share_fin a b _ ha hb hb0).mono ?_
  rintro e w2 ⟨r, rfl, rfl, hr, hrab⟩
  obtain ⟨f1, f2, f3, f4⟩ := small_facts hr
  have b2 := b1
  have HR := Lib.hid hr
  have F1 := Lib.hid f1
  have F2 := Lib.hid f2
  have q1 : ((b : Int) == 0) = false := by rw [beq_eq_false_iff_ne]; omega
  have q1n : (b == 0) = false := by rw [beq_eq_false_iff_ne]; omega
  have q2 : ((a : Int) == 0) = false := by rw [beq_eq_false_iff_ne]; omega
  have q2n : (a == 0) = false := by rw [beq_eq_false_iff_ne]; omega
  have f5 := f4 (hrab hab)
  have t1 : decide ((a : Int) ≤ (b : Int)) = true := decide_eq_true (by omega)
  have t1n : decide (a ≤ b) = true := decide_eq_true hab
  clear f4 hrab
  clear b1 hr f1 f2
  go_wp2_with fail
  refine (isnan_any r _ (by have := HR.out; omega)).mono ?_
  rintro e w4 ⟨rfl, rfl⟩
  rw [F1.out]
  go_wp2_with fail
  refine (isinf_any r _).mono ?_
  rintro e w4 ⟨rfl, rfl⟩
  rw [F2.out]
  go_wp2_with fail
  refine (mean_one w1.heap.size x _ HX.out (by go_simp)).mono ?_
  rintro e w3 ⟨r3, rfl, hsm, hr3, hb3⟩
  have b3 := (b2.alloc b2.size _).trans (hb3.mono (by have := b2.size; simp; omega))
  have HSM := Lib.hid hsm
  have HR3 := Lib.hid hr3
  clear hsm hr3 hb3 b2
  go_wp2_with fail
  refine (clean_any x _ HX.out).mono ?_
  rintro e w4 ⟨rfl, rfl⟩
  go_wp2_with fail
  refine (same_any r3 (cl x) _ HR3.out (cl_lt HX.out)).mono ?_
  rintro e w4 ⟨rfl, rfl⟩
  rw [HSM.out]
  go_wp2_with fail
  refine (mean_none _).mono ?_
  rintro e w4 ⟨rfl, rfl⟩
  go_wp2_with fail
  refine (isnan_any _ _ (by omega)).mono ?_
  rintro e w4 ⟨rfl, rfl⟩
  rw [nan_const]
  go_wp2_with fail
  refine (fcmp_any x x _ HX.out HX.out).mono ?_
  rintro e w4 ⟨rfl, rfl⟩
  rw [cmp_self]
  go_wp2_with fail
  go_ret
  exact ⟨rfl, b3⟩

set_option maxRecDepth 100000 in
theorem shares_gt (a b x : Nat) (w : World) (hx : x < 18446744073709551616) (ha : a ≤ 18446744073709551615) (hb : b ≤ 18446744073709551615) (hb0 : 0 < b) (ha0 : 0 < a) (hab : b < a) :
    Calls Try.prog 10 #[.int .u64 (a : Int), .int .u64 (b : Int), .int .u64 (x : Int)] w fun e w' => e = .returned (.bool true) ∧ Below w.heap.size w w' := by
  have rx := fun w => fbits_run w x
  simp only [Int.toNat_natCast] at rx
  have HX := Lib.hid hx
  clear hx
  go_enter Try.func10, Try.ntmps10
  go_wp2_with fail
  refine (awake6_any _).mono ?_
  rintro e w1 ⟨rfl, b1⟩
  go_wp2_with fail
  refine (share_fin a b _ ha hb hb0).mono ?_
  rintro e w2 ⟨r, rfl, rfl, hr, hrab⟩
  obtain ⟨f1, f2, f3, f4⟩ := small_facts hr
  have b2 := b1
  have HR := Lib.hid hr
  have F1 := Lib.hid f1
  have F2 := Lib.hid f2
  have q1 : ((b : Int) == 0) = false := by rw [beq_eq_false_iff_ne]; omega
  have q1n : (b == 0) = false := by rw [beq_eq_false_iff_ne]; omega
  have q2 : ((a : Int) == 0) = false := by rw [beq_eq_false_iff_ne]; omega
  have q2n : (a == 0) = false := by rw [beq_eq_false_iff_ne]; omega
  have t1 : decide ((a : Int) ≤ (b : Int)) = false := decide_eq_false (by omega)
  have t1n : decide (a ≤ b) = false := decide_eq_false (by omega)
  clear f3 f4 hrab
  clear b1 hr f1 f2
  go_wp2_with fail
  refine (isnan_any r _ (by have := HR.out; omega)).mono ?_
  rintro e w4 ⟨rfl, rfl⟩
  rw [F1.out]
  go_wp2_with fail
  refine (isinf_any r _).mono ?_
  rintro e w4 ⟨rfl, rfl⟩
  rw [F2.out]
  go_wp2_with fail
  refine (mean_one w1.heap.size x _ HX.out (by go_simp)).mono ?_
  rintro e w3 ⟨r3, rfl, hsm, hr3, hb3⟩
  have b3 := (b2.alloc b2.size _).trans (hb3.mono (by have := b2.size; simp; omega))
  have HSM := Lib.hid hsm
  have HR3 := Lib.hid hr3
  clear hsm hr3 hb3 b2
  go_wp2_with fail
  refine (clean_any x _ HX.out).mono ?_
  rintro e w4 ⟨rfl, rfl⟩
  go_wp2_with fail
  refine (same_any r3 (cl x) _ HR3.out (cl_lt HX.out)).mono ?_
  rintro e w4 ⟨rfl, rfl⟩
  rw [HSM.out]
  go_wp2_with fail
  refine (mean_none _).mono ?_
  rintro e w4 ⟨rfl, rfl⟩
  go_wp2_with fail
  refine (isnan_any _ _ (by omega)).mono ?_
  rintro e w4 ⟨rfl, rfl⟩
  rw [nan_const]
  go_wp2_with fail
  refine (fcmp_any x x _ HX.out HX.out).mono ?_
  rintro e w4 ⟨rfl, rfl⟩
  rw [cmp_self]
  go_wp2_with fail
  go_ret
  exact ⟨rfl, b3⟩

set_option maxRecDepth 100000 in
theorem shares_zero (b x : Nat) (w : World) (hx : x < 18446744073709551616) (hb : b ≤ 18446744073709551615) (hb0 : 0 < b) :
    Calls Try.prog 10 #[.int .u64 0, .int .u64 (b : Int), .int .u64 (x : Int)] w fun e w' => e = .returned (.bool true) ∧ Below w.heap.size w w' := by
  have rx := fun w => fbits_run w x
  simp only [Int.toNat_natCast] at rx
  have HX := Lib.hid hx
  clear hx
  go_enter Try.func10, Try.ntmps10
  go_wp2_with fail
  refine (awake6_any _).mono ?_
  rintro e w1 ⟨rfl, b1⟩
  go_wp2_with fail
  refine (share_fin 0 b _ (by omega) hb hb0).mono ?_
  rintro e w2 ⟨r, rfl, rfl, hr, hrab⟩
  obtain ⟨f1, f2, f3, f4⟩ := small_facts hr
  have b2 := b1
  have HR := Lib.hid hr
  have F1 := Lib.hid f1
  have F2 := Lib.hid f2
  have q1 : ((b : Int) == 0) = false := by rw [beq_eq_false_iff_ne]; omega
  have q1n : (b == 0) = false := by rw [beq_eq_false_iff_ne]; omega
  have f5 := f4 (hrab (by omega))
  clear f4 hrab
  clear b1 hr f1 f2
  go_wp2_with fail
  refine (isnan_any r _ (by have := HR.out; omega)).mono ?_
  rintro e w4 ⟨rfl, rfl⟩
  rw [F1.out]
  go_wp2_with fail
  refine (isinf_any r _).mono ?_
  rintro e w4 ⟨rfl, rfl⟩
  rw [F2.out]
  go_wp2_with fail
  refine (mean_one w1.heap.size x _ HX.out (by go_simp)).mono ?_
  rintro e w3 ⟨r3, rfl, hsm, hr3, hb3⟩
  have b3 := (b2.alloc b2.size _).trans (hb3.mono (by have := b2.size; simp; omega))
  have HSM := Lib.hid hsm
  have HR3 := Lib.hid hr3
  clear hsm hr3 hb3 b2
  go_wp2_with fail
  refine (clean_any x _ HX.out).mono ?_
  rintro e w4 ⟨rfl, rfl⟩
  go_wp2_with fail
  refine (same_any r3 (cl x) _ HR3.out (cl_lt HX.out)).mono ?_
  rintro e w4 ⟨rfl, rfl⟩
  rw [HSM.out]
  go_wp2_with fail
  refine (mean_none _).mono ?_
  rintro e w4 ⟨rfl, rfl⟩
  go_wp2_with fail
  refine (isnan_any _ _ (by omega)).mono ?_
  rintro e w4 ⟨rfl, rfl⟩
  rw [nan_const]
  go_wp2_with fail
  refine (fcmp_any x x _ HX.out HX.out).mono ?_
  rintro e w4 ⟨rfl, rfl⟩
  rw [cmp_self]
  go_wp2_with fail
  go_ret
  exact ⟨rfl, b3⟩

set_option maxRecDepth 100000 in
theorem shares_inf (a x : Nat) (w : World) (hx : x < 18446744073709551616) (ha : a ≤ 18446744073709551615) (ha0 : 0 < a) :
    Calls Try.prog 10 #[.int .u64 (a : Int), .int .u64 0, .int .u64 (x : Int)] w fun e w' => e = .returned (.bool true) ∧ Below w.heap.size w w' := by
  have rx := fun w => fbits_run w x
  simp only [Int.toNat_natCast] at rx
  have HX := Lib.hid hx
  clear hx
  go_enter Try.func10, Try.ntmps10
  go_wp2_with fail
  refine (awake6_any _).mono ?_
  rintro e w1 ⟨rfl, b1⟩
  go_wp2_with fail
  have q2 : ((a : Int) == 0) = false := by rw [beq_eq_false_iff_ne]; omega
  have q2n : (a == 0) = false := by rw [beq_eq_false_iff_ne]; omega
  refine (share_in a _ ha ha0).mono ?_
  rintro e w2 ⟨rfl, rfl⟩
  have b2 := b1
  clear b1
  go_wp2_with fail
  refine (isnan_any _ _ (by omega)).mono ?_
  rintro e w4 ⟨rfl, rfl⟩
  rw [inf_facts.1]
  go_wp2_with fail
  refine (isinf_any _ _).mono ?_
  rintro e w4 ⟨rfl, rfl⟩
  rw [inf_facts.2]
  go_wp2_with fail
  refine (mean_one w1.heap.size x _ HX.out (by go_simp)).mono ?_
  rintro e w3 ⟨r3, rfl, hsm, hr3, hb3⟩
  have b3 := (b2.alloc b2.size _).trans (hb3.mono (by have := b2.size; simp; omega))
  have HSM := Lib.hid hsm
  have HR3 := Lib.hid hr3
  clear hsm hr3 hb3 b2
  go_wp2_with fail
  refine (clean_any x _ HX.out).mono ?_
  rintro e w4 ⟨rfl, rfl⟩
  go_wp2_with fail
  refine (same_any r3 (cl x) _ HR3.out (cl_lt HX.out)).mono ?_
  rintro e w4 ⟨rfl, rfl⟩
  rw [HSM.out]
  go_wp2_with fail
  refine (mean_none _).mono ?_
  rintro e w4 ⟨rfl, rfl⟩
  go_wp2_with fail
  refine (isnan_any _ _ (by omega)).mono ?_
  rintro e w4 ⟨rfl, rfl⟩
  rw [nan_const]
  go_wp2_with fail
  refine (fcmp_any x x _ HX.out HX.out).mono ?_
  rintro e w4 ⟨rfl, rfl⟩
  rw [cmp_self]
  go_wp2_with fail
  go_ret
  exact ⟨rfl, b3⟩

set_option maxRecDepth 100000 in
theorem shares_nan (x : Nat) (w : World) (hx : x < 18446744073709551616) :
    Calls Try.prog 10 #[.int .u64 0, .int .u64 0, .int .u64 (x : Int)] w fun e w' => e = .returned (.bool true) ∧ Below w.heap.size w w' := by
  have rx := fun w => fbits_run w x
  simp only [Int.toNat_natCast] at rx
  have HX := Lib.hid hx
  clear hx
  go_enter Try.func10, Try.ntmps10
  go_wp2_with fail
  refine (awake6_any _).mono ?_
  rintro e w1 ⟨rfl, b1⟩
  go_wp2_with fail
  refine (share_na _).mono ?_
  rintro e w2 ⟨r, rfl, rfl, hn, hr⟩
  have b2 : Below w.heap.size w w1.drew := b1.drew
  have f2 := nan_inf hr hn
  have HR := Lib.hid hr
  have F1 := Lib.hid hn
  have F2 := Lib.hid f2
  generalize w1.drew = w2 at *
  clear b1 hr hn f2
  go_wp2_with fail
  refine (isnan_any r _ HR.out).mono ?_
  rintro e w4 ⟨rfl, rfl⟩
  rw [F1.out]
  go_wp2_with fail
  refine (isinf_any r _).mono ?_
  rintro e w4 ⟨rfl, rfl⟩
  rw [F2.out]
  go_wp2_with fail
  refine (mean_one w2.heap.size x _ HX.out (by go_simp)).mono ?_
  rintro e w3 ⟨r3, rfl, hsm, hr3, hb3⟩
  have b3 := (b2.alloc b2.size _).trans (hb3.mono (by have := b2.size; simp; omega))
  have HSM := Lib.hid hsm
  have HR3 := Lib.hid hr3
  clear hsm hr3 hb3 b2
  go_wp2_with fail
  refine (clean_any x _ HX.out).mono ?_
  rintro e w4 ⟨rfl, rfl⟩
  go_wp2_with fail
  refine (same_any r3 (cl x) _ HR3.out (cl_lt HX.out)).mono ?_
  rintro e w4 ⟨rfl, rfl⟩
  rw [HSM.out]
  go_wp2_with fail
  refine (mean_none _).mono ?_
  rintro e w4 ⟨rfl, rfl⟩
  go_wp2_with fail
  refine (isnan_any _ _ (by omega)).mono ?_
  rintro e w4 ⟨rfl, rfl⟩
  rw [nan_const]
  go_wp2_with fail
  refine (fcmp_any x x _ HX.out HX.out).mono ?_
  rintro e w4 ⟨rfl, rfl⟩
  rw [cmp_self]
  go_wp2_with fail
  go_ret
  exact ⟨rfl, b3⟩
end Go.Proofs.Ytdacacehmmjpeaa.Fl
