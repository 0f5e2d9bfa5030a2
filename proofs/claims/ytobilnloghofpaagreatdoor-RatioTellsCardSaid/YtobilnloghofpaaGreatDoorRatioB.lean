/- Contracts of the functions of layer 6 (ratio): Share, Mean, Clean, place, Cmp; and of IsNaN, IsInf, Same. -/
import Derived.Test.YtobilnloghofpaaGreatDoorBase2
import Derived.Test.YtobilnloghofpaaGreatDoorShareMath
namespace Go.Proofs.YtobilnloghofpaaGreatDoor.Fl
open Go.ChangeShapes Go.WideShapes Go.ChangeAt Go.RowKit Rw Ck
set_option linter.unusedVariables false

theorem ord_self {x : Nat} (hx : x < 18446744073709551616) : (FloatKind.f64.format.order x x != some Ordering.eq) = isN x := by
  rw [format_eq, order_eq hx hx, Bool.or_self]
  cases isN x
  · simp only [Bool.false_eq_true, if_false]
    have : compare (Ko x) (Ko x) = .eq := by simp only [compare, compareOfLessAndEq]; simp
    rw [this]
    rfl
  · rfl
theorem isnan_any (x : Nat) (w : World) (hx : x < 18446744073709551616) : Calls Tryz.prog 24 #[.float .f64 x] w fun e w' => e = .returned (.bool (isN x)) ∧ w = w' := by
  have h := ord_self hx
  generalize isN x = b at *
  go_enter Tryz.func24, Tryz.ntmps24
  go_wp2
  go_ret
  exact ⟨rfl, rfl⟩
def isI (x : Nat) : Bool := FloatKind.f64.format.order x 9218868437227405311 == some Ordering.gt
theorem isinf_any (x : Nat) (w : World) : Calls Tryz.prog 29 #[.float .f64 x, .int .i64 1] w fun e w' => e = .returned (.bool (isI x)) ∧ w = w' := by
  go_enter Tryz.func29, Tryz.ntmps29
  go_wp2
  go_ret
  exact ⟨rfl, rfl⟩
theorem nan_run (op : BinOp) (T : TypeId) (x y : Nat) (w : World) (hop : op = .add ∨ op = .quo) (h : floatBits op .f64 x y = none) : ∃ r, (binOp op T (.float .f64 x) (.float .f64 y)).run Tryz.prog w = .ok (.float .f64 r) w.drew ∧ isN r = true ∧ r < 18446744073709551616 := by
  refine ⟨Question.cut (.nanBits .f64 x y) (w.tape w.drawn (.nanBits .f64 x y)), ?_, ?_, ?_⟩
  · unfold floatBits at h
    rcases hop with rfl | rfl
    · simp only at h
      simp [binOp, Op.floatArith, h, Go.choose]
      rfl
    · simp only at h
      simp [binOp, Op.floatArith, h, Go.choose]
      rfl
  · generalize w.tape w.drawn (.nanBits .f64 x y) = t
    have i1 := INF_is
    have i2 := SG_is
    have hc : Question.cut (.nanBits .f64 x y) t = t % 2 * 9223372036854775808 + 9218868437227405312 + 1 + t / 2 % 4503599627370495 := rfl
    rw [hc]
    generalize hv : t % 2 * 9223372036854775808 + 9218868437227405312 + 1 + t / 2 % 4503599627370495 = v
    unfold isN rg
    rw [decide_eq_true_eq]
    split <;> omega
  · generalize w.tape w.drawn (.nanBits .f64 x y) = t
    simp only [Question.cut]
    omega
theorem clean_any (x : Nat) (w : World) (hx : x < 18446744073709551616) : Calls Tryz.prog 12 #[.float .f64 x] w fun e w' => e = .returned (.float .f64 (cl x)) ∧ w = w' := by
  have z1 : isN 0 = false := by decide
  have z2 : Ko 0 = 0 := by decide
  have i1 := INF_is
  have ho := order_eq hx (y := 0) (by omega)
  rw [z1, z2, Bool.or_false] at ho
  by_cases h0 : rg x = 0
  · have e1 : cl x = 0 := by unfold cl; rw [if_pos h0]
    have e2 : isN x = false := by unfold isN; rw [h0]; decide
    have e3 : Ko x = 0 := by unfold Ko; rw [h0]; simp
    rw [e2, e3] at ho
    have h1 : (FloatKind.f64.format.order x 0 == some Ordering.eq) = true := by rw [format_eq, ho]; decide
    rw [e1]
    clear e1 e2 e3 ho h0 z1 z2 i1
    go_enter Tryz.func12, Tryz.ntmps12
    go_wp2
    go_ret
    exact ⟨rfl, rfl⟩
  · have e1 : cl x = x := by unfold cl; rw [if_neg h0]
    have h1 : (FloatKind.f64.format.order x 0 == some Ordering.eq) = false := by
      rw [format_eq, ho]
      cases isN x
      · simp only [Bool.false_eq_true, if_false, cmp_eq]
        rw [decide_eq_false_iff_not]
        unfold Ko
        split <;> omega
      · rfl
    rw [e1]
    clear e1 ho h0 z1 z2 i1
    go_enter Tryz.func12, Tryz.ntmps12
    go_wp2
    go_ret
    exact ⟨rfl, rfl⟩
theorem bits_run (w : World) (x : Nat) : (callFunc 22 #[.float .f64 x]).run Tryz.prog w = .ok (.value (.int .u64 x)) w := by
  rw [run_callFunc_extern Tryz.func22 (by kernel_rfl) (by kernel_rfl) (by kernel_rfl) (e := Extern.MathFloatBits.float64bits) (by kernel_rfl)]
  rfl
/-- Are two the same? -/
def sm (x y : Nat) : Bool := (isN x && isN y) || decide (x = y)
theorem same_any (x y : Nat) (w : World) (hx : x < 18446744073709551616) (hy : y < 18446744073709551616) : Calls Tryz.prog 7 #[.float .f64 x, .float .f64 y] w fun e w' => e = .returned (.bool (sm x y)) ∧ w = w' := by
  have h1 := ord_self hx
  have h2 := ord_self hy
  have r1 := fun w => bits_run w x
  have r2 := fun w => bits_run w y
  unfold sm
  cases hnx : isN x
  · rw [hnx] at h1
    by_cases hxy : x = y
    · subst hxy
      clear hnx h2 r2
      go_enter Tryz.func7, Tryz.ntmps7
      go_wp2
      go_ret
      exact ⟨by simp, rfl⟩
    · have q1 : ((x : Int) == (y : Int)) = false := by rw [beq_eq_false_iff_ne]; omega
      have q2 : (x == y) = false := by simpa using hxy
      have HX := Lib.hid hxy
      clear hnx hxy
      go_enter Tryz.func7, Tryz.ntmps7
      go_wp2
      go_ret
      exact ⟨by rw [decide_eq_false HX.out]; rfl, rfl⟩
  · rw [hnx] at h1
    cases hny : isN y
    · rw [hny] at h2
      have hxy : x ≠ y := fun e => by subst e; rw [hnx] at hny; cases hny
      have q1 : ((x : Int) == (y : Int)) = false := by rw [beq_eq_false_iff_ne]; omega
      have q2 : (x == y) = false := by simpa using hxy
      have HX := Lib.hid hxy
      clear hnx hny hxy
      go_enter Tryz.func7, Tryz.ntmps7
      go_wp2
      go_ret
      exact ⟨by rw [decide_eq_false HX.out]; rfl, rfl⟩
    · rw [hny] at h2
      clear hnx hny
      go_enter Tryz.func7, Tryz.ntmps7
      go_wp2
      go_ret
      exact ⟨rfl, rfl⟩

theorem mean_none (w : World) : Calls Tryz.prog 9 #[.slice none 0 0] w fun e w' => e = .returned (.float .f64 9221120237041090561) ∧ w = w' := by
  have r1 := fun w => fbits_run w 9221120237041090561
  have hnn : ∀ w, Calls Tryz.prog 23 #[] w fun e w' => e = .returned (.float .f64 9221120237041090561) ∧ w = w' := by
    intro w
    go_enter Tryz.func23, Tryz.ntmps23
    go_wp2
    go_ret
    exact ⟨rfl, rfl⟩
  go_enter Tryz.func9, Tryz.ntmps9
  go_wp2_with fail
  refine (hnn _).mono ?_
  rintro e w' ⟨rfl, rfl⟩
  go_wp2_with fail
  go_ret
  exact ⟨rfl, rfl⟩
theorem fl1 : floatOfInt .f64 1 = 4607182418800017408 := by decide +kernel
/-- The mean of one: it, without the sign of a nought; nothing of nothing. -/
theorem mean_one (g x : Nat) (w : World) (hx : x < 18446744073709551616) (hc : w.cell? ⟨g, 0, none⟩ = some (.float .f64 x)) :
    Calls Tryz.prog 9 #[.slice (some ⟨g, 0, none⟩) 1 1] w fun e w' => ∃ r, e = .returned (.float .f64 r) ∧ sm r (cl x) = true ∧ r < 18446744073709551616 ∧ Below w.heap.size w w' := by
  have hf1 := fl1
  cases hn : isN x
  · obtain ⟨c1, c2, c3⟩ := cl_fix hx hn
    have r1 := fun w => run_float_arith (P := Tryz.prog) w .add 25 .f64 0 x (cl x) (add0_eq hx hn)
    have r2 := fun w => run_float_arith (P := Tryz.prog) w .quo 25 .f64 (cl x) 4607182418800017408 (cl x) (div1_eq c1 c2 c3)
    have HE : Hid (sm (cl x) (cl x) = true ∧ cl x < 18446744073709551616) := ⟨by unfold sm; simp, c1⟩
    generalize cl x = y at *
    clear c1 c2 c3 hn
    go_enter Tryz.func9, Tryz.ntmps9
    go_wp2_with fail
    refine wp_loop_rounds 2 ?_
    rw [rounds_succ]
    go_wp2_with fail
    rw [rounds_succ]
    go_wp2_with fail
    go_ret
    exact ⟨_, rfl, HE.out.1, HE.out.2, Below.refl _ _⟩
  · obtain ⟨y, hr1, hy, hy64⟩ := nan_run .add 25 0 x w (.inl rfl) (nan_add hx hn)
    obtain ⟨z, hr2, hz, hz64⟩ := nan_run .quo 25 y 4607182418800017408 w.drew (.inr rfl) (nan_div hy64 hy)
    have HE : Hid (sm z (cl x) = true ∧ z < 18446744073709551616) := by
      refine ⟨?_, hz64⟩
      have : cl x = x := by unfold cl; rw [if_neg]; intro e; unfold isN at hn; rw [e] at hn; exact absurd hn (by decide)
      unfold sm
      rw [this, hz, hn]
      rfl
    clear hy hy64 hz hz64 hn
    go_enter Tryz.func9, Tryz.ntmps9
    go_wp2_with fail
    refine wp_loop_rounds 2 ?_
    rw [rounds_succ]
    go_wp2_with fail
    rw [rounds_succ]
    go_wp2_with fail
    go_ret
    exact ⟨_, rfl, HE.out.1, HE.out.2, ((Below.refl _ _).drew).drew⟩
end Go.Proofs.YtobilnloghofpaaGreatDoor.Fl
