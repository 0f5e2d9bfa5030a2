/- Plain mathematics of float64: products, parts and their order. -/
import Derived.Test.YtmnjdmcocifogaaGreatDoorFloatMath
import Derived.Laws.FloatArith
namespace Go.Proofs.YtmnjdmcocifogaaGreatDoor.Fl
open Ieee

theorem format_eq : FloatKind.f64.format = double := rfl
/-- The place of the least number, below the point. -/
def Z : Nat := 1074
theorem Z_is : Z = 1074 := rfl
theorem word_false (r : Nat) : double.word false r = r := rfl
/-- A number as a float. -/
def fl (n : Nat) : Nat := if n = 0 then 0 else rung 0 (n * 2 ^ Z)
theorem near_fl (n : Nat) : double.nearest false n 0 = fl n := by
  unfold fl
  by_cases h : n = 0
  · subst h; rw [if_pos rfl]; decide
  · rw [if_neg h, near_eq false (by omega) (p := 0) (b := -1074) (by omega) (by omega)]
    rw [show ((0 : Int) - -1074).toNat = Z from rfl, show ((-1074 : Int) - -1074).toNat = 0 from rfl, word_false]
theorem floatOf (n : Nat) : floatOfInt .f64 (n : Int) = fl n := by
  rw [← near_fl]
  unfold floatOfInt FloatKind.nearest
  first
    | rfl
    | (simp [FloatKind.encode, Format.write, format_eq])
theorem fl_mono {n m : Nat} (h : n ≤ m) : fl n ≤ fl m := by
  unfold fl
  by_cases h0 : n = 0
  · rw [if_pos h0]; omega
  · rw [if_neg h0, if_neg (by omega)]
    exact rung_mono 0 (Nat.mul_pos (by omega) (Nat.two_pow_pos _)) (Nat.mul_le_mul_right _ h)
theorem fl_top : fl 18446744073709551615 = 4895412794951729152 := by decide +kernel
theorem fl_lt {n : Nat} (h : n ≤ 18446744073709551615) : fl n ≤ 4895412794951729152 := by
  rw [← fl_top]; exact fl_mono h
theorem fl_pos {n : Nat} (h : 0 < n) : 4607182418800017408 ≤ fl n := by
  have : fl 1 = 4607182418800017408 := by decide +kernel
  rw [← this]; exact fl_mono h

theorem sg_small {x : Nat} (h : x < SG) : sg x = false ∧ rg x = x := by
  unfold sg rg
  have : ¬ SG ≤ x := by omega
  simp [this]
/-- A product of words that are not below 0, and finite. -/
def pr (x y : Nat) : Nat := if V x * V y = 0 then 0 else rung 1074 (V x * V y)
theorem mul_eq {x y : Nat} (hx : x < INF) (hy : y < INF) : double.mul x y = some (pr x y) := by
  have iS := INF_SG
  obtain ⟨sx, rx⟩ := sg_small (x := x) (by omega)
  obtain ⟨sy, ry⟩ := sg_small (x := y) (by omega)
  have hSG := SG_is
  rcases read_eq (x := x) (by omega) with ⟨-, m, i, ex, hi, hi', hm, -, -⟩ | ⟨lx, -⟩ | ⟨lx, -⟩
  · rcases read_eq (x := y) (by omega) with ⟨-, n, j, ey, hj, hj', hn, -, -⟩ | ⟨ly, -⟩ | ⟨ly, -⟩
    · unfold Format.mul
      rw [ex, ey, sx, sy]
      simp only [Datum.product, Option.map_some, Bool.xor_self]
      rw [rx] at hm
      rw [ry] at hn
      have hv : m * n * 2 ^ (i + j + 2148).toNat = V x * V y := by
        rw [← hm, ← hn, show (i + j + 2148).toNat = (i + 1074).toNat + (j + 1074).toNat by omega, Nat.pow_add]
        rw [Nat.mul_mul_mul_comm]
      show some (double.nearest _ (m * n) (i + j)) = _
      unfold pr
      by_cases h0 : m * n = 0
      · rw [h0, Nat.zero_mul] at hv
        rw [if_pos hv.symm, h0]
        congr 1
      · have hp : 0 < m * n := by omega
        have hne : ¬ V x * V y = 0 := by
          rw [← hv]
          have := Nat.mul_pos hp (Nat.two_pow_pos (i + j + 2148).toNat)
          omega
        rw [if_neg hne, near_eq false hp (b := -2148) (by omega) (by omega), word_false]
        rw [← hv, show i + j - -2148 = i + j + 2148 by omega, show ((-1074 : Int) - -2148).toNat = 1074 from rfl]
    · rw [ry] at ly; omega
    · rw [ry] at ly; omega
  · rw [rx] at lx; omega
  · rw [rx] at lx; omega
theorem pr_mono {x x' y y' : Nat} (h1 : x ≤ x') (h2 : y ≤ y') : pr x y ≤ pr x' y' := by
  unfold pr
  have hle : V x * V y ≤ V x' * V y' := Nat.mul_le_mul (V_mono h1) (V_mono h2)
  by_cases h0 : V x * V y = 0
  · rw [if_pos h0]; omega
  · rw [if_neg h0, if_neg (by omega)]
    exact rung_mono 1074 (by omega) hle
/-- Without what is behind the point. -/
def tr (r : Nat) : Nat := V r / 2 ^ Z
theorem tr_mono {r r' : Nat} (h : r ≤ r') : tr r ≤ tr r' := Nat.div_le_div_right (V_mono h)
theorem toInt_eq {r : Nat} (h : r < INF) : (double.read r).toInt .zero = some (tr r : Int) := by
  have iS := INF_SG
  have hSG := SG_is
  obtain ⟨sx, rx⟩ := sg_small (x := r) (by omega)
  rcases read_eq (x := r) (by omega) with ⟨-, m, e, ex, hi, hi', hm, -, -⟩ | ⟨lx, -⟩ | ⟨lx, -⟩
  · rw [ex, sx]
    unfold Datum.toInt Datum.integral
    simp only [cut_zero]
    rw [rx] at hm
    unfold tr signed
    rw [← hm]
    simp only [Bool.false_eq_true, if_false, Nat.shiftLeft_zero]
    congr 2
    by_cases he : 0 ≤ e
    · rw [show (-e).toNat = 0 by omega, Nat.pow_zero, Nat.div_one, Nat.shiftLeft_eq, show (e + 1074).toNat = e.toNat + Z by rw [Z_is]; omega, Nat.pow_add, ← Nat.mul_assoc, Nat.mul_div_cancel _ (Nat.two_pow_pos _)]
    · rw [show e.toNat = 0 by omega, Nat.shiftLeft_zero]
      have e1 : (2 : Nat) ^ Z = 2 ^ (-e).toNat * 2 ^ (e + 1074).toNat := by rw [← Nat.pow_add]; congr 1; rw [Z_is]; omega
      rw [e1, Nat.mul_div_mul_right _ _ (Nat.two_pow_pos _)]
  · rw [rx] at lx; omega
  · rw [rx] at lx; omega

abbrev ONE : Nat := 4607182418800017408
theorem ONE_is : ONE = 4607182418800017408 := rfl
theorem pr_top : pr 4895412794951729152 4607182418800017407 = 4895412794951729151 := by decide +kernel
theorem tr_top : tr 4895412794951729151 = 18446744073709549568 := by decide +kernel
theorem pr_lt {n x : Nat} (hn : n ≤ 18446744073709551615) (hx : x < ONE) : pr (fl n) x ≤ 4895412794951729151 := by
  rw [← pr_top]; exact pr_mono (fl_lt hn) (by have := ONE_is; omega)
theorem part_fits {n x : Nat} (hn : n ≤ 18446744073709551615) (hx : x < ONE) : tr (pr (fl n) x) ≤ 18446744073709549568 := by
  rw [← tr_top]; exact tr_mono (pr_lt hn hx)

/-- A part. -/
def pos (x : Nat) : Bool := FloatKind.f64.format.order x 0 == some .gt
def ge1 (x : Nat) : Bool := FloatKind.f64.format.order x 4607182418800017408 == some .gt || FloatKind.f64.format.order x 4607182418800017408 == some .eq
def le (x y : Nat) : Bool := FloatKind.f64.format.order x y == some .lt || FloatKind.f64.format.order x y == some .eq
def part (n x : Nat) : Nat := if pos x then (if ge1 x then n else min n (tr (pr (fl n) x))) else 0

theorem cmp_gt (a b : Int) : (some (compare a b) == some Ordering.gt) = decide (b < a) := by
  rcases Int.lt_trichotomy a b with h | h | h
  · have : compare a b = .lt := by simp only [compare, compareOfLessAndEq]; rw [if_pos h]
    rw [this]; have : ¬ b < a := by omega
    simp [this]
  · subst h
    have : compare a a = .eq := by simp only [compare, compareOfLessAndEq]; simp
    rw [this]; simp
  · have : compare a b = .gt := by simp only [compare, compareOfLessAndEq]; rw [if_neg (by omega), if_neg (by omega)]
    rw [this]; simp [h]
theorem cmp_eq (a b : Int) : (some (compare a b) == some Ordering.eq) = decide (a = b) := by
  rcases Int.lt_trichotomy a b with h | h | h
  · have : compare a b = .lt := by simp only [compare, compareOfLessAndEq]; rw [if_pos h]
    rw [this]; have : ¬ a = b := by omega
    simp [this]
  · subst h
    have : compare a a = .eq := by simp only [compare, compareOfLessAndEq]; simp
    rw [this]; simp
  · have : compare a b = .gt := by simp only [compare, compareOfLessAndEq]; rw [if_neg (by omega), if_neg (by omega)]
    rw [this]; have : ¬ a = b := by omega
    simp [this]
theorem cmp_lt (a b : Int) : (some (compare a b) == some Ordering.lt) = decide (a < b) := by
  rcases Int.lt_trichotomy a b with h | h | h
  · have : compare a b = .lt := by simp only [compare, compareOfLessAndEq]; rw [if_pos h]
    rw [this]; simp [h]
  · subst h
    have : compare a a = .eq := by simp only [compare, compareOfLessAndEq]; simp
    rw [this]; simp
  · have : compare a b = .gt := by simp only [compare, compareOfLessAndEq]; rw [if_neg (by omega), if_neg (by omega)]
    rw [this]; have : ¬ a < b := by omega
    simp [this]
theorem Ko_small {x : Nat} (h : x < SG) : Ko x = x := by
  obtain ⟨h1, h2⟩ := sg_small h
  unfold Ko
  rw [h1, h2]
  simp
theorem isN_small {x : Nat} (h : x < SG) : isN x = decide (INF < x) := by unfold isN; rw [(sg_small h).2]
theorem pos_iff {x : Nat} (hx : x < 18446744073709551616) : pos x = true ↔ 0 < x ∧ x ≤ INF := by
  have i1 := INF_is
  have i2 := SG_is
  have i3 := INF_SG
  unfold pos
  have z1 : isN 0 = false := by decide
  have z2 : Ko 0 = 0 := by decide
  rw [format_eq, order_eq hx (by omega), z1, z2, Bool.or_false]
  by_cases h : x < SG
  · rw [isN_small h, Ko_small h]
    by_cases hn : INF < x
    · rw [decide_eq_true hn]
      exact ⟨fun h => by simp at h, fun h => by omega⟩
    · rw [decide_eq_false hn, if_neg (by simp), cmp_gt, decide_eq_true_eq]
      omega
  · have hs : sg x = true := by unfold sg; rw [decide_eq_true_eq]; omega
    by_cases hn : isN x = true
    · rw [hn, if_pos rfl]
      exact ⟨fun h => by simp at h, fun h => by omega⟩
    · have hn' : isN x = false := by simpa using hn
      rw [hn', if_neg (by simp), cmp_gt, decide_eq_true_eq]
      unfold Ko
      rw [hs]
      simp only [if_true]
      omega
theorem ge1_iff {x : Nat} (h0 : 0 < x) (h1 : x ≤ INF) : ge1 x = true ↔ ONE ≤ x := by
  have i1 := INF_is
  have i2 := SG_is
  have i3 := INF_SG
  have i4 := ONE_is
  unfold ge1
  rw [format_eq, order_eq (by omega) (by omega), isN_small (x := x) (by omega), isN_small (x := 4607182418800017408) (by omega), Ko_small (x := x) (by omega), Ko_small (x := 4607182418800017408) (by omega)]
  have a1 : decide (INF < x) = false := by simp; omega
  have a2 : decide (INF < 4607182418800017408) = false := by simp; omega
  rw [a1, a2]
  simp only [Bool.or_self, Bool.false_eq_true, if_false, cmp_gt, cmp_eq]
  simp; omega
theorem le_pos {x y : Nat} (hy : y < 18446744073709551616) (h0 : 0 < x) (h1 : x ≤ INF) (h : le x y = true) : x ≤ y ∧ y ≤ INF := by
  have i1 := INF_is
  have i2 := SG_is
  have i3 := INF_SG
  unfold le at h
  rw [format_eq, order_eq (by omega) hy, isN_small (x := x) (by omega), Ko_small (x := x) (by omega)] at h
  have a1 : decide (INF < x) = false := by simp; omega
  rw [a1] at h
  by_cases hn : isN y = true
  · simp [hn] at h
  · have hn' : isN y = false := by simpa using hn
    simp only [hn', Bool.or_self, Bool.false_eq_true, if_false, cmp_lt, cmp_eq] at h
    by_cases hs : y < SG
    · rw [Ko_small hs] at h
      rw [isN_small hs] at hn'
      simp at h hn'
      omega
    · have hsg : sg y = true := by unfold sg; simp; omega
      unfold Ko at h
      rw [hsg] at h
      simp at h
      omega
theorem part_le (n x : Nat) : part n x ≤ n := by
  unfold part
  split
  · split
    · omega
    · exact Nat.min_le_left _ _
  · omega
theorem part_more {n x y : Nat} (hx : x < 18446744073709551616) (hy : y < 18446744073709551616) (h : le x y = true) : part n x ≤ part n y := by
  by_cases hp : pos x = true
  · obtain ⟨h0, h1⟩ := (pos_iff hx).1 hp
    obtain ⟨h2, h3⟩ := le_pos hy h0 h1 h
    have hpy : pos y = true := (pos_iff hy).2 ⟨by omega, h3⟩
    by_cases hg : ge1 y = true
    · have : part n y = n := by unfold part; rw [hpy, hg]; rfl
      rw [this]; exact part_le n x
    · have hgx : ge1 x = false := by
        cases hc : ge1 x
        · rfl
        · exact absurd ((ge1_iff (by omega) h3).2 (Nat.le_trans ((ge1_iff h0 h1).1 hc) h2)) hg
      have hgy : ge1 y = false := by simpa using hg
      unfold part
      rw [hp, hpy, hgx, hgy]
      simp only [if_true, Bool.false_eq_true, if_false]
      have := tr_mono (pr_mono (Nat.le_refl (fl n)) h2)
      omega
  · have hp' : pos x = false := by simpa using hp
    have : part n x = 0 := by unfold part; rw [hp']; rfl
    omega
theorem part_whole {n m x : Nat} (h : n ≤ m) : part n x ≤ part m x := by
  unfold part
  split
  · split
    · exact h
    · have := tr_mono (pr_mono (fl_mono h) (Nat.le_refl x))
      omega
  · omega
end Go.Proofs.YtmnjdmcocifogaaGreatDoor.Fl
