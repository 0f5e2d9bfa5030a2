/- Contracts of the functions of layer 6 (ratio): Share, Mean, Clean, place, Cmp; and of IsNaN, IsInf, Same. -/
import Derived.Test.YtlpjlphofjghhaaGreatDoorBase2
import Derived.Test.YtlpjlphofjghhaaGreatDoorShareMath
namespace Go.Proofs.YtlpjlphofjghhaaGreatDoor.Fl
open Go.ChangeShapes Go.WideShapes Go.ChangeAt Go.RowKit Rw Ck
set_option linter.unusedVariables false

theorem ord_self {x : Nat} (hx : x < 18446744073709551616) : (FloatKind.f64.format.order x x != some Ordering.eq) = isN x := by
  rw [format_eq, order_eq hx hx, Bool.or_self]
  cases isN x
  · simp only [Bool.false_eq_true, if_false]
    have : compare (Ko x) (Ko x) = .eq := by simp only [compare, compareOfLessAndEq]; simp
    rw [this]
    rfl
  · rfl
theorem isnan_any (x : Nat) (w : World) (hx : x < 18446744073709551616) : Calls Tryz.prog 177 #[.float .f64 x] w fun e w' => e = .returned (.bool (isN x)) ∧ w = w' := by
  have h := ord_self hx
  generalize isN x = b at *
  go_enter Tryz.func177, Tryz.ntmps177
  go_wp2
  go_ret
  exact ⟨rfl, rfl⟩
def isI (x : Nat) : Bool := FloatKind.f64.format.order x 9218868437227405311 == some Ordering.gt
theorem isinf_any (x : Nat) (w : World) : Calls Tryz.prog 236 #[.float .f64 x, .int .i64 1] w fun e w' => e = .returned (.bool (isI x)) ∧ w = w' := by
  go_enter Tryz.func236, Tryz.ntmps236
  go_wp2
  go_ret
  exact ⟨rfl, rfl⟩
theorem nan_run (op : BinOp) (T : TypeId) (x y : Nat) (w : World) (hop : op = .add ∨ op = .quo) (h : floatBits op .f64 x y = none) : ∃ r, (binOp op T (.float .f64 x) (.float .f64 y)).run Tryz.prog w = .ok (.float .f64 r) w.drew ∧ isN r = true ∧ r < 18446744073709551616 := by
  refine ⟨Question.cut (.nanBits .f64 x y) (w.tape w.drawn (.nanBits .f64 x y)), ?_, ?_, ?_⟩
  · unfold floatBits at h
    rcases hop with rfl | rfl
    · simp only at h
      simp [binOp, Op.floatArith, h, Go.choose]
      rfl
    · simp only at h
      simp [binOp, Op.floatArith, h, Go.choose]
      rfl
  · generalize w.tape w.drawn (.nanBits .f64 x y) = t
    have i1 := INF_is
    have i2 := SG_is
    have hc : Question.cut (.nanBits .f64 x y) t = t % 2 * 9223372036854775808 + 9218868437227405312 + 1 + t / 2 % 4503599627370495 := rfl
    rw [hc]
    generalize hv : t % 2 * 9223372036854775808 + 9218868437227405312 + 1 + t / 2 % 4503599627370495 = v
    unfold isN rg
    rw [decide_eq_true_eq]
    split <;> omega
  · generalize w.tape w.drawn (.nanBits .f64 x y) = t
    simp only [Question.cut]
    omega
theorem clean_any (x : Nat) (w : World) (hx : x < 18446744073709551616) : Calls Tryz.prog 226 #[.float .f64 x] w fun e w' => e = .returned (.float .f64 (cl x)) ∧ w = w' := by
  have z1 : isN 0 = false := by decide
  have z2 : Ko 0 = 0 := by decide
  have i1 := INF_is
  have ho := order_eq hx (y := 0) (by omega)
  rw [z1, z2, Bool.or_false] at ho
  by_cases h0 : rg x = 0
  · have e1 : cl x = 0 := by unfold cl; rw [if_pos h0]
    have e2 : isN x = false := by unfold isN; rw [h0]; decide
    have e3 : Ko x = 0 := by unfold Ko; rw [h0]; simp
    rw [e2, e3] at ho
    have h1 : (FloatKind.f64.format.order x 0 == some Ordering.eq) = true := by rw [format_eq, ho]; decide
    rw [e1]
    clear e1 e2 e3 ho h0 z1 z2 i1
    go_enter Tryz.func226, Tryz.ntmps226
    go_wp2
    go_ret
    exact ⟨rfl, rfl⟩
  · have e1 : cl x = x := by unfold cl; rw [if_neg h0]
    have h1 : (FloatKind.f64.format.order x 0 == some Ordering.eq) = false := by
      rw [format_eq, ho]
      cases isN x
      · simp only [Bool.false_eq_true, if_false, cmp_eq]
        rw [decide_eq_false_iff_not]
        unfold Ko
        split <;> omega
      · rfl
    rw [e1]
    clear e1 ho h0 z1 z2 i1
    go_enter Tryz.func226, Tryz.ntmps226
    go_wp2
    go_ret
    exact ⟨rfl, rfl⟩
theorem bits_run (w : World) (x : Nat) : (callFunc 272 #[.float .f64 x]).run Tryz.prog w = .ok (.value (.int .u64 x)) w := by
  rw [run_callFunc_extern Tryz.func272 (by kernel_rfl) (by kernel_rfl) (by kernel_rfl) (e := Extern.MathFloatBits.float64bits) (by kernel_rfl)]
  rfl
/-- Are two the same? -/
def sm (x y : Nat) : Bool := (isN x && isN y) || decide (x = y)
theorem fl1 : floatOfInt .f64 1 = 4607182418800017408 := by decide +kernel
end Go.Proofs.YtlpjlphofjghhaaGreatDoor.Fl
