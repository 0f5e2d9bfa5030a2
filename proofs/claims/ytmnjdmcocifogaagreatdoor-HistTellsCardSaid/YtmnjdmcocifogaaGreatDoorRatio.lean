/- Contracts of the functions of layer 6 (ratio): Part, Share of 1 and 4; what wakes its laws. -/
import Derived.Test.YtmnjdmcocifogaaGreatDoorAwake5
import Derived.Test.YtmnjdmcocifogaaGreatDoorPartMath
import Derived.WalkLawsBesides
import Derived.Laws.Externs
namespace Go.Proofs.YtmnjdmcocifogaaGreatDoor.Fl
open Go.ChangeShapes Go.WideShapes Go.ChangeAt Go.RowKit Rw Ck
set_option linter.unusedVariables false

theorem part_any (n x : Nat) (w : World) (hn : n ≤ 18446744073709551615) (hx : x < 18446744073709551616) :
    Calls Tryz.prog 117 #[.int .u64 (n : Int), .float .f64 x] w fun e w' => e = .returned (.int .u64 (part n x : Nat)) ∧ w = w' := by
  cases hp : pos x with
  | false =>
    have e1 : part n x = 0 := by unfold part; rw [hp]; rfl
    rw [e1]
    have h1 : (FloatKind.f64.format.order x 0 == some Ordering.gt) = false := hp
    clear e1 hp
    go_enter Tryz.func117, Tryz.ntmps117
    go_wp2
    go_ret
    exact ⟨rfl, rfl⟩
  | true =>
    have h1 : (FloatKind.f64.format.order x 0 == some Ordering.gt) = true := hp
    obtain ⟨x0, x1⟩ := (pos_iff hx).1 hp
    cases hg : ge1 x with
    | true =>
      have e1 : part n x = n := by unfold part; rw [hp, hg]; rfl
      rw [e1]
      have h2 : (FloatKind.f64.format.order x 4607182418800017408 == some Ordering.gt || FloatKind.f64.format.order x 4607182418800017408 == some Ordering.eq) = true := hg
      clear e1 hp hg x0 x1
      go_enter Tryz.func117, Tryz.ntmps117
      go_wp2
      go_ret
      exact ⟨rfl, rfl⟩
    | false =>
      have e1 : part n x = min n (tr (pr (fl n) x)) := by unfold part; rw [hp, hg]; rfl
      have h2 : (FloatKind.f64.format.order x 4607182418800017408 == some Ordering.gt || FloatKind.f64.format.order x 4607182418800017408 == some Ordering.eq) = false := hg
      have hlt : x < ONE := by
        have := ge1_iff x0 x1
        rw [hg] at this
        have i4 := ONE_is
        have : ¬ ONE ≤ x := fun h => by simp [h] at this
        omega
      have i1 := INF_is
      have i4 := ONE_is
      have hfl := fl_lt hn
      have hpl := pr_lt hn hlt
      have hfit := part_fits hn hlt
      have hf := floatOf n
      have hm : floatBits .mul .f64 (floatOfInt .f64 (n : Int)) x = some (pr (fl n) x) := by
        rw [hf]
        exact mul_eq (by omega) (by omega)
      have hc : floatToIntVal .f64 (pr (fl n) x) .u64 = some (tr (pr (fl n) x) : Int) := by
        unfold floatToIntVal
        have : (FloatKind.decode .f64 (pr (fl n) x)).toInt .zero = some (tr (pr (fl n) x) : Int) := toInt_eq (by omega)
        rw [this]
        simp only []
        rw [if_pos]
        simp [IntKind.min, IntKind.max, IntKind.bits, IntKind.signed]
        omega
      have r1 := fun w => run_float_arith (P := Tryz.prog) w .mul 169 .f64 _ _ _ hm
      have r2 := fun w => run_convert_float_int (P := Tryz.prog) w 169 23 .f64 .u64 _ _ (by kernel_rfl) Tryz.underlying23 hc
      have R3 : Hid (part n x = min n (tr (pr (fl n) x))) := e1
      generalize pr (fl n) x = q at *
      generalize tr q = t at *
      clear hm hc e1 hp hg x0 x1 hlt i1 i4 hfl hpl hf
      go_enter Tryz.func117, Tryz.ntmps117
      go_wp2
      go_ret
      refine ⟨?_, rfl⟩
      rw [R3.out]
      simp
      omega
theorem share14 (w : World) : Calls Tryz.prog 116 #[.int .u64 1, .int .u64 4] w fun e w' => e = .returned (.float .f64 4598175219545276416) ∧ w = w' := by
  have hm : floatBits .quo .f64 (floatOfInt .f64 1) (floatOfInt .f64 4) = some 4598175219545276416 := by decide +kernel
  have r1 := fun w => run_float_arith (P := Tryz.prog) w .quo 169 .f64 _ _ _ hm
  clear hm
  go_enter Tryz.func116, Tryz.ntmps116
  go_wp2
  go_ret
  exact ⟨rfl, rfl⟩
theorem part10 : part 10 4598175219545276416 = 2 := by decide +kernel
theorem order_quarter : (FloatKind.f64.format.order 4598175219545276416 4598175219545276416 == some Ordering.eq) = true := by decide +kernel
theorem awake6_any (w : World) :
    Calls Tryz.prog 113 #[] w fun e w' => e = .returned (.bool true) ∧ Below w.heap.size w w' := by
  have hq := order_quarter
  go_enter Tryz.func113, Tryz.ntmps113
  go_wp2_with fail
  refine (Wl.Awake5_any _).mono ?_
  rintro e w1 ⟨rfl, b1⟩
  go_wp2_with fail
  refine (share14 _).mono ?_
  rintro e w2 ⟨rfl, rfl⟩
  go_wp2_with fail
  refine (part_any 10 4598175219545276416 _ (by omega) (by omega)).mono ?_
  rintro e w2 ⟨rfl, rfl⟩
  rw [part10]
  go_wp2_with fail
  go_ret
  exact ⟨rfl, b1⟩

end Go.Proofs.YtmnjdmcocifogaaGreatDoor.Fl
