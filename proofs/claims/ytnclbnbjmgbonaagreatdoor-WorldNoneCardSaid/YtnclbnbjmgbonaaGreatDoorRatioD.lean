/- Layer 6 (ratio): the document's Part, Check, Cmp; Check. -/
import Derived.Test.YtnclbnbjmgbonaaGreatDoorRatioC
import Derived.Test.YtnclbnbjmgbonaaGreatDoorShareMath
namespace Go.Proofs.YtnclbnbjmgbonaaGreatDoor.Fl
open Go.ChangeShapes Go.WideShapes Go.ChangeAt Go.RowKit Rw Ck Ieee
set_option linter.unusedVariables false

section
variable {x y : Nat} (hx : x < 18446744073709551616) (hy : y < 18446744073709551616)
include hx hy
theorem o_gt : (FloatKind.f64.format.order x y == some Ordering.gt) = (!(isN x || isN y) && decide (Ko y < Ko x)) := by
  rw [format_eq, order_eq hx hy]
  cases isN x || isN y
  · rw [if_neg (by decide), cmp_gt]; rfl
  · rfl
theorem o_lt : (FloatKind.f64.format.order x y == some Ordering.lt) = (!(isN x || isN y) && decide (Ko x < Ko y)) := by
  rw [format_eq, order_eq hx hy]
  cases isN x || isN y
  · rw [if_neg (by decide), cmp_lt]; rfl
  · rfl
theorem o_eq : (FloatKind.f64.format.order x y == some Ordering.eq) = (!(isN x || isN y) && decide (Ko x = Ko y)) := by
  rw [format_eq, order_eq hx hy]
  cases isN x || isN y
  · rw [if_neg (by decide), cmp_eq]; rfl
  · rfl
end
theorem tr_0 : tr 0 = 0 := by
  show V 0 / 2 ^ Z = 0
  rw [show V 0 = 0 from rfl]
  exact Nat.zero_div _
set_option maxRecDepth 100000 in
/-- A whole number of 53 digits is a float. -/
theorem whole_V {t : Nat} (h0 : 0 < t) (h : t < 2 * B) : ∃ r, r < INF ∧ 0 < r ∧ V r = t * 2 ^ Z := by
  have hB := B_is
  have hI := INF_is
  have hl : t.log2 ≤ 52 := by
    have : t.log2 < 53 := by rw [Nat.log2_lt (by omega)]; have : (2 : Nat) ^ 53 = 2 * B := by decide
                             omega
    omega
  have h1 := pow_log h0
  have h2 := lt_log t
  obtain ⟨l, hl2⟩ : ∃ l, t.log2 = l := ⟨_, rfl⟩
  rw [hl2] at hl h1 h2
  obtain ⟨k, hk⟩ : ∃ k, 52 - l = k := ⟨_, rfl⟩
  have hM1 : B ≤ t * 2 ^ k := by
    have e : B = 2 ^ l * 2 ^ k := by rw [← Nat.pow_add, show l + k = 52 by omega]
    rw [e]; exact Nat.mul_le_mul_right _ h1
  have hM2 : t * 2 ^ k < 2 * B := by
    have e : 2 * B = 2 ^ (l + 1) * 2 ^ k := by rw [← Nat.pow_add, show l + 1 + k = 53 by omega]; decide
    rw [e]; exact Nat.mul_lt_mul_of_pos_right h2 (Nat.two_pow_pos _)
  obtain ⟨M, hM⟩ : ∃ M, t * 2 ^ k = M := ⟨_, rfl⟩
  rw [hM] at hM1 hM2
  obtain ⟨a, ha⟩ : ∃ a, l + 1022 = a := ⟨_, rfl⟩
  have e1 : (a + 1) * B = a * B + B := Nat.succ_mul a B
  have e2 : (a + 1 + 1) * B = a * B + B + B := (Nat.succ_mul (a + 1) B).trans (by rw [e1])
  have e3 : a * B ≤ 1074 * B := Nat.mul_le_mul_right B (show a ≤ 1074 by omega)
  have e4 : B ≤ a * B := by
    have := Nat.mul_le_mul_right B (show 1 ≤ a by omega)
    rw [Nat.one_mul] at this
    exact this
  have lo : (a + 1) * B ≤ a * B + M := Nat.le_trans (Nat.le_of_eq e1) (Nat.add_le_add_left hM1 _)
  have hi : a * B + M < (a + 1 + 1) * B := Nat.lt_of_lt_of_le (Nat.add_lt_add_left hM2 (a * B)) (Nat.le_of_eq (Nat.add_mul a 2 B).symm)
  have hq : (a * B + M) / B = a + 1 := Nat.div_eq_of_lt_le lo hi
  have hr : (a * B + M) % B = M - B := by
    have h9 := Nat.div_add_mod (a * B + M) B
    rw [hq, Nat.mul_comm, e1] at h9
    omega
  have hv : V (a * B + M) = (B + (M - B)) * 2 ^ (a + 1 - 1) := by
    show (if a * B + M < B then _ else (B + (a * B + M) % B) * 2 ^ ((a * B + M) / B - 1)) = _
    rw [if_neg (show ¬ a * B + M < B by omega), hq, hr]
  refine ⟨a * B + M, by omega, by omega, ?_⟩
  rw [hv, show B + (M - B) = M by omega, ← hM, Nat.mul_assoc, ← Nat.pow_add, show k + (a + 1 - 1) = Z by rw [Z_is]; omega]
set_option maxRecDepth 100000 in
theorem fl_of_V {t r : Nat} (h : V r = t * 2 ^ Z) (h0 : 0 < t) (hr : r ≤ INF) (hr0 : 0 < r) : fl t = r := by
  have e : fl t = rung 0 (t * 2 ^ Z) := if_neg (show ¬ t = 0 by omega)
  rw [e, ← h]
  exact rung_V hr hr0
set_option maxRecDepth 100000 in
/-- What is without a broken part is a float. -/
theorem fl_tr {y : Nat} (hy : y < INF) : ∃ r, fl (tr y) = r ∧ r ≤ y ∧ r < INF ∧ tr r = tr y := by
  have iS := INF_SG
  have hSG := SG_is
  have hI := INF_is
  by_cases h0 : tr y = 0
  · exact ⟨0, by rw [h0]; rfl, Nat.zero_le _, by omega, by rw [h0]; exact tr_0⟩
  · have hp : 0 < tr y := by omega
    have hy0 : 0 < y := by
      rcases Nat.eq_zero_or_pos y with e | e
      · subst e; exact absurd tr_0 h0
      · exact e
    obtain ⟨sx, rx⟩ := sg_small (x := y) (by omega)
    rcases read_eq (x := y) (by omega) with ⟨-, m, e, ex, hi, hi', hm, -, hm53⟩ | ⟨lx, -⟩ | ⟨lx, -⟩
    · rw [rx] at hm
      have done : ∀ r, V r = tr y * 2 ^ Z → r ≤ INF → 0 < r → r ≤ y → ∃ r, fl (tr y) = r ∧ r ≤ y ∧ r < INF ∧ tr r = tr y := fun r h1 h2 h3 h4 =>
        ⟨r, fl_of_V h1 hp h2 h3, h4, by omega, by show V r / 2 ^ Z = _; rw [h1, Nat.mul_div_cancel _ (Nat.two_pow_pos _)]⟩
      by_cases he : 0 ≤ e
      · refine done y ?_ (by omega) hy0 (Nat.le_refl _)
        show V y = V y / 2 ^ Z * 2 ^ Z
        rw [← hm, show (e + 1074).toNat = e.toNat + Z by rw [Z_is]; omega, Nat.pow_add, ← Nat.mul_assoc, Nat.mul_div_cancel _ (Nat.two_pow_pos _)]
      · have ht : tr y ≤ m := by
          show V y / 2 ^ Z ≤ m
          rw [← hm]
          have e1 : (2 : Nat) ^ Z = 2 ^ (-e).toNat * 2 ^ (e + 1074).toNat := by rw [← Nat.pow_add]; congr 1; rw [Z_is]; omega
          rw [e1, Nat.mul_div_mul_right _ _ (Nat.two_pow_pos _)]
          exact Nat.div_le_self _ _
        obtain ⟨r, hr1, hr2, hr3⟩ := whole_V hp (by omega)
        refine done r hr3 (by omega) hr2 ?_
        rw [← V_le (r := r) (r' := y) (by omega) (by omega), hr3]
        exact Nat.div_mul_le_self _ _
    · rw [rx] at lx; omega
    · rw [rx] at lx; omega
theorem cut_down (n drop : Nat) : Toward.down.cut false n drop = Toward.zero.cut false n drop := rfl
set_option maxRecDepth 100000 in
theorem floor_run (w : World) {y : Nat} (hy : y < INF) : (callFunc 232 #[.float .f64 y]).run Tryz.prog w = .ok (.value (.float .f64 (fl (tr y)))) w := by
  have iS := INF_SG
  have hSG := SG_is
  obtain ⟨sx, rx⟩ := sg_small (x := y) (by omega)
  rw [run_callFunc_extern Tryz.func232 (by kernel_rfl) (by kernel_rfl) (by kernel_rfl) (e := Extern.MathFloor.toIntegral "math.archFloor" .down) (by kernel_rfl)]
  rcases read_eq (x := y) (by omega) with ⟨-, m, e, ex, hi, hi', hm, -, hm53⟩ | ⟨lx, -⟩ | ⟨lx, -⟩
  · rw [rx] at hm
    rw [sx] at ex
    have hd : FloatKind.f64.decode y = .number false m e := ex
    have ht : Toward.down.cut false (m <<< e.toNat) (-e).toNat = tr y := by
      rw [cut_down, cut_zero, Nat.shiftLeft_eq]
      unfold tr
      rw [← hm]
      by_cases he : 0 ≤ e
      · rw [show (-e).toNat = 0 by omega, Nat.pow_zero, Nat.div_one, show (e + 1074).toNat = e.toNat + Z by rw [Z_is]; omega, Nat.pow_add, ← Nat.mul_assoc, Nat.mul_div_cancel _ (Nat.two_pow_pos _)]
      · have e1 : (2 : Nat) ^ Z = 2 ^ (-e).toNat * 2 ^ (e + 1074).toNat := by rw [← Nat.pow_add]; congr 1; rw [Z_is]; omega
        rw [show e.toNat = 0 by omega, Nat.pow_zero, Nat.mul_one, e1, Nat.mul_div_mul_right _ _ (Nat.two_pow_pos _)]
    have hw : FloatKind.f64.encode (Datum.integral .down (.number false m e)) = fl (tr y) := by
      rw [← near_fl, ← ht]
      rfl
    have hk : Extern.MathFloor.toIntegral "math.archFloor" .down #[.float .f64 y] = pure (.float .f64 (FloatKind.f64.encode (Datum.integral .down (.number false m e)))) := by
      conv => lhs; unfold Extern.MathFloor.toIntegral
      conv => lhs; whnf
      rw [hd]
    rw [hk, hw]
    rfl
  · rw [rx] at lx; omega
  · rw [rx] at lx; omega
set_option maxRecDepth 100000 in
theorem rpart_any (n x : Nat) (w : World) (hn : n ≤ 18446744073709551615) (hx : x < 18446744073709551616) :
    Calls Tryz.prog 202 #[.int .u64 (n : Int), .float .f64 x] w fun e w' => e = .returned (.int .u64 (part n x : Nat)) ∧ w = w' := by
  have i1 := INF_is
  have i4 := ONE_is
  have hself := ord_self hx
  have hz64 : (0 : Nat) < 18446744073709551616 := by omega
  have hlt0 := o_lt hx hz64
  have heq0 := o_eq hx hz64
  have hgt0 := o_gt hx hz64
  have hk0 : Ko 0 = 0 := by decide
  have hn0 : isN 0 = false := by decide
  rw [hn0, hk0, Bool.or_false] at hlt0 heq0 hgt0
  cases hp : pos x with
  | false =>
    have e1 : part n x = 0 := by unfold part; rw [hp]; rfl
    rw [e1]
    have h1 : (FloatKind.f64.format.order x 0 == some Ordering.gt) = false := hp
    rw [h1] at hgt0
    cases hnx : isN x with
    | true =>
      rw [hnx] at hself
      clear e1 hp i1 i4 hz64 hlt0 heq0 hgt0 hk0 hn0 h1 hnx
      go_enter Tryz.func202, Tryz.ntmps202
      go_wp2
      go_ret
      exact ⟨rfl, rfl⟩
    | false =>
      rw [hnx] at hself hlt0 heq0 hgt0
      have h2 : (FloatKind.f64.format.order x 0 == some Ordering.lt || FloatKind.f64.format.order x 0 == some Ordering.eq) = true := by
        rw [hlt0, heq0]
        simp at hgt0 ⊢
        omega
      clear e1 hp i1 i4 hz64 hlt0 heq0 hgt0 hk0 hn0 h1 hnx
      go_enter Tryz.func202, Tryz.ntmps202
      go_wp2
      go_ret
      exact ⟨rfl, rfl⟩
  | true =>
    obtain ⟨x0, x1⟩ := (pos_iff hx).1 hp
    have h1 : (FloatKind.f64.format.order x 0 == some Ordering.gt) = true := hp
    rw [h1] at hgt0
    have hnx : isN x = false := by
      cases hh : isN x with
      | false => rfl
      | true => rw [hh] at hgt0; cases hgt0
    rw [hnx] at hself hlt0 heq0 hgt0
    have h0 : (FloatKind.f64.format.order x 0 == some Ordering.lt || FloatKind.f64.format.order x 0 == some Ordering.eq) = false := by
      rw [hlt0, heq0]
      simp at hgt0 ⊢
      omega
    clear hlt0 heq0 hgt0 hk0 hn0 hz64 h1
    cases hg : ge1 x with
    | true =>
      have e1 : part n x = n := by unfold part; rw [hp, hg]; rfl
      rw [e1]
      have h2 : (FloatKind.f64.format.order x 4607182418800017408 == some Ordering.gt || FloatKind.f64.format.order x 4607182418800017408 == some Ordering.eq) = true := hg
      clear e1 hp hg x0 x1 i1 i4 hnx
      go_enter Tryz.func202, Tryz.ntmps202
      go_wp2
      go_ret
      exact ⟨rfl, rfl⟩
    | false =>
      have e1 : part n x = min n (tr (pr (fl n) x)) := by unfold part; rw [hp, hg]; rfl
      have h2 : (FloatKind.f64.format.order x 4607182418800017408 == some Ordering.gt || FloatKind.f64.format.order x 4607182418800017408 == some Ordering.eq) = false := hg
      have hlt : x < ONE := by
        have := ge1_iff x0 x1
        rw [hg] at this
        have : ¬ ONE ≤ x := fun h => by simp [h] at this
        omega
      have hfl := fl_lt hn
      have hpl := pr_lt hn hlt
      have hfit := part_fits hn hlt
      have hf := floatOf n
      have hm : floatBits .mul .f64 (floatOfInt .f64 (n : Int)) x = some (pr (fl n) x) := by
        rw [hf]
        exact mul_eq (by omega) (by omega)
      obtain ⟨r, hr1, hr2, hr3, hr4⟩ := fl_tr (y := pr (fl n) x) (by omega)
      have hc : floatToIntVal .f64 r .u64 = some (tr (pr (fl n) x) : Int) := by
        unfold floatToIntVal
        have : (FloatKind.decode .f64 r).toInt .zero = some (tr r : Int) := toInt_eq hr3
        rw [this, hr4]
        simp only []
        rw [if_pos]
        simp [IntKind.min, IntKind.max, IntKind.bits, IntKind.signed]
        omega
      have hge : (FloatKind.f64.format.order r 4895412794951729152 == some Ordering.gt || FloatKind.f64.format.order r 4895412794951729152 == some Ordering.eq) = false := by
        have hr64 : r < 18446744073709551616 := by omega
        have iS := INF_SG
        have hSG := SG_is
        rw [o_gt hr64 (by omega), o_eq hr64 (by omega), isN_small (x := r) (by omega), isN_small (x := 4895412794951729152) (by omega), Ko_small (x := r) (by omega), Ko_small (x := 4895412794951729152) (by omega)]
        simp
        omega
      have rfl' := fun w => floor_run w (y := pr (fl n) x) (by omega)
      rw [hr1] at rfl'
      have r1 := fun w => run_float_arith (P := Tryz.prog) w .mul 68 .f64 _ _ _ hm
      have r2 := fun w => run_convert_float_int (P := Tryz.prog) w 68 30 .f64 .u64 _ _ (by kernel_rfl) Tryz.underlying30 hc
      have R3 : Hid (part n x = min n (tr (pr (fl n) x))) := e1
      generalize pr (fl n) x = q at *
      generalize tr q = t at *
      clear hm hc e1 hp hg x0 x1 hlt i1 i4 hfl hpl hf hr1 hr2 hr3 hr4 hnx
      have hfloor : ∀ w, Calls Tryz.prog 218 #[.float .f64 q] w fun e w' => e = .returned (.float .f64 r) ∧ w = w' := by
        intro w
        go_enter Tryz.func218, Tryz.ntmps218
        go_wp2
        go_ret
        exact ⟨rfl, rfl⟩
      clear rfl'
      go_enter Tryz.func202, Tryz.ntmps202
      go_wp2_with fail
      refine (hfloor _).mono ?_
      rintro e w' ⟨rfl, rfl⟩
      go_wp2_with fail
      go_ret
      refine ⟨?_, rfl⟩
      rw [R3.out]
      simp
      omega
end Go.Proofs.YtnclbnbjmgbonaaGreatDoor.Fl
