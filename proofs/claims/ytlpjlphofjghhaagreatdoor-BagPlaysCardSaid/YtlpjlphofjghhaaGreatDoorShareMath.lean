/- Plain mathematics of float64: quotients, a sum with nought, and what they come to. -/
import Derived.Test.YtlpjlphofjghhaaGreatDoorBase2
namespace Go.Proofs.YtlpjlphofjghhaaGreatDoor.Fl
open Ieee
set_option linter.unusedVariables false

/-- The word of 2 ^ L. -/
def p2 (L : Nat) : Nat := double.nearest false 1 L
theorem p2_0 : p2 0 = 4607182418800017408 := by decide +kernel
theorem p2_64 : p2 64 = 4895412794951729152 := by decide +kernel
theorem near_le {q : Nat} (hq : 0 < q) {place : Int} {K L : Nat} (hK : (L : Int) = place + K) (h : q ≤ 2 ^ K) : double.nearest false q place ≤ p2 L := by
  unfold p2
  obtain ⟨b, hb1, hb2⟩ : ∃ b : Int, b ≤ place ∧ b ≤ -1074 := ⟨min place (-1074), by omega, by omega⟩
  rw [near_eq false hq hb1 hb2, near_eq false (by omega : 0 < 1) (p := (L : Int)) (b := b) (by omega) hb2, word_false, word_false]
  refine rung_mono _ (Nat.mul_pos hq (Nat.two_pow_pos _)) ?_
  rw [Nat.one_mul, show ((L : Int) - b).toNat = K + (place - b).toNat by omega, Nat.pow_add]
  exact Nat.mul_le_mul_right _ h
theorem div_le {x y : Nat} (hx : x < INF) (hy : y < INF) (hy0 : 0 < y) (L : Nat) (h : V x ≤ V y * 2 ^ L) : ∃ r, double.div x y = some r ∧ r ≤ p2 L := by
  have iS := INF_SG
  have hSG := SG_is
  obtain ⟨sx, rx⟩ := sg_small (x := x) (by omega)
  obtain ⟨sy, ry⟩ := sg_small (x := y) (by omega)
  rcases read_eq (x := x) (by omega) with ⟨-, m, i, ex, hi, hi', hm, -, -⟩ | ⟨lx, -⟩ | ⟨lx, -⟩
  · rcases read_eq (x := y) (by omega) with ⟨-, n, j, ey, hj, hj', hn, hn0, -⟩ | ⟨ly, -⟩ | ⟨ly, -⟩
    · unfold Format.div
      rw [ex, ey, sx, sy]
      have hn1 : ¬ n = 0 := by rw [hn0, ry]; omega
      simp only [Datum.quotient, Option.map_some, Bool.xor_self, if_neg hn1]
      refine ⟨_, rfl, ?_⟩
      rw [rx] at hm
      rw [ry] at hn
      show double.nearest false _ _ ≤ _
      have hfb : double.fractionBits + 2 = 54 := rfl
      rw [hfb]
      by_cases hm0 : m = 0
      · subst hm0
        simp [Format.nearest, word_false]
      · have hmp : 0 < m := by omega
        have hnp : 0 < n := by omega
        generalize hmore : 54 + n.log2 - m.log2 = more
        have hml := pow_log hmp
        have hnl := lt_log n
        have hlog : m.log2 + (i + 1074).toNat < n.log2 + 1 + (j + 1074).toNat + L := by
          have h1 : 2 ^ (m.log2 + (i + 1074).toNat) ≤ V x := by rw [← hm, Nat.pow_add]; exact Nat.mul_le_mul_right _ hml
          have h2 : V y * 2 ^ L < 2 ^ (n.log2 + 1 + (j + 1074).toNat + L) := by
            rw [← hn, Nat.pow_add, Nat.pow_add]
            exact Nat.mul_lt_mul_of_pos_right (Nat.mul_lt_mul_of_pos_right hnl (Nat.two_pow_pos _)) (Nat.two_pow_pos _)
          exact (Nat.pow_lt_pow_iff_right (by omega : 1 < 2)).1 (by omega)
        obtain ⟨K, hK⟩ : ∃ K : Nat, (L : Int) = i - j - more - 1 + (K + 1 : Nat) := ⟨(L - i + j + more : Int).toNat, by omega⟩
        have hD : m <<< more ≤ n * 2 ^ K := by
          rw [Nat.shiftLeft_eq]
          refine Nat.le_of_mul_le_mul_right (c := 2 ^ (i + 1074).toNat) ?_ (Nat.two_pow_pos _)
          have e1 : m * 2 ^ more * 2 ^ (i + 1074).toNat = V x * 2 ^ more := by rw [← hm, Nat.mul_assoc, Nat.mul_comm (2 ^ more), ← Nat.mul_assoc]
          have e2 : n * 2 ^ K * 2 ^ (i + 1074).toNat = V y * 2 ^ L * 2 ^ more := by
            rw [← hn, Nat.mul_assoc, Nat.mul_assoc, Nat.mul_assoc, ← Nat.pow_add, ← Nat.pow_add, ← Nat.pow_add]
            congr 2
            omega
          rw [e1, e2]
          exact Nat.mul_le_mul_right _ h
        have hq1 : m <<< more / n ≤ 2 ^ K := by
          rw [Nat.div_le_iff_le_mul_add_pred hnp]
          have : n * 2 ^ K = 2 ^ K * n := Nat.mul_comm _ _
          omega
        have hq : 2 * (m <<< more / n) + (m <<< more % n != 0).toNat ≤ 2 ^ (K + 1) := by
          rw [Nat.pow_succ]
          by_cases hz : m <<< more % n = 0
          · simp [hz]; omega
          · have : m <<< more / n < 2 ^ K := by
              have hdm := Nat.div_add_mod (m <<< more) n
              rcases Nat.lt_or_eq_of_le hq1 with h' | h'
              · exact h'
              · rw [h'] at hdm; omega
            have e : (m <<< more % n != 0) = true := by simpa using hz
            rw [e]
            simp; omega
        rcases Nat.eq_zero_or_pos (2 * (m <<< more / n) + (m <<< more % n != 0).toNat) with h0 | h0
        · rw [h0]; simp [Format.nearest, word_false]
        · exact near_le h0 hK hq
    · rw [ry] at ly; omega
    · rw [ry] at ly; omega
  · rw [rx] at lx; omega
  · rw [rx] at lx; omega
theorem V_tops : V 4895412794951729152 = V 4607182418800017408 * 2 ^ 64 := by decide +kernel
/-- A share of more than nothing is finite; of no more than the whole it is 1 at most. -/
theorem share_some {a b : Nat} (ha : a ≤ 18446744073709551615) (hb : b ≤ 18446744073709551615) (h0 : 0 < b) : ∃ r, double.div (fl a) (fl b) = some r ∧ r ≤ 4895412794951729152 ∧ (a ≤ b → r ≤ 4607182418800017408) := by
  have i1 := INF_is
  have fa := fl_lt ha
  have fb := fl_lt hb
  have fp := fl_pos h0
  have hw : V (fl a) ≤ V (fl b) * 2 ^ 64 := by
    have h1 := V_mono fa
    have h2 := V_mono fp
    rw [V_tops] at h1
    exact Nat.le_trans h1 (Nat.mul_le_mul_right _ h2)
  obtain ⟨r, hr, hr1⟩ := div_le (x := fl a) (y := fl b) (by omega) (by omega) (by omega) 64 hw
  rw [p2_64] at hr1
  refine ⟨r, hr, hr1, fun hab => ?_⟩
  obtain ⟨r', hr', hr2⟩ := div_le (x := fl a) (y := fl b) (by omega) (by omega) (by omega) 0 (by rw [Nat.pow_zero, Nat.mul_one]; exact V_mono (fl_mono hab))
  rw [hr] at hr'
  injection hr' with e
  subst e
  rw [p2_0] at hr2
  exact hr2
theorem read0 : double.read 0 = .number false 0 (-1074) := by decide +kernel
theorem share_inf {a : Nat} (ha : a ≤ 18446744073709551615) (h0 : 0 < a) : double.div (fl a) 0 = some INF := by
  have i1 := INF_is
  have iS := INF_SG
  have fa := fl_lt ha
  have fp := fl_pos h0
  obtain ⟨sx, rx⟩ := sg_small (x := fl a) (by omega)
  rcases read_eq (x := fl a) (by omega) with ⟨-, m, i, ex, -, -, -, hm0, -⟩ | ⟨lx, -⟩ | ⟨lx, -⟩
  · unfold Format.div
    have hm : ¬ m = 0 := by rw [hm0, rx]; omega
    rw [ex, sx, read0]
    simp only [Datum.quotient, if_true, if_neg hm, Bool.xor_self, Option.map_some]
    rfl
  · rw [rx] at lx; omega
  · rw [rx] at lx; omega
theorem share_none : double.div (fl 0) 0 = none := by decide +kernel

/-- Nought and a word together; a word divided by 1. -/
def cl (x : Nat) : Nat := if rg x = 0 then 0 else x
theorem word_parts {x : Nat} (hx : x < 18446744073709551616) : double.word (sg x) (rg x) = x := by
  have hS := SG_is
  unfold Format.word sg rg
  rw [sign_eq]
  by_cases h : SG ≤ x
  · simp [h]
  · simp [h]
theorem near_read {x m : Nat} {e : Int} (hx : x < 18446744073709551616) (hr : rg x < INF) (h0 : 0 < rg x) (hm : 0 < m) {b : Int} (hb : b ≤ e) (hb' : b ≤ -1074) (hv : m * 2 ^ (e - b).toNat = V (rg x) * 2 ^ (-1074 - b).toNat) (s : Bool) (hs : s = sg x) : double.nearest s m e = x := by
  subst hs
  rw [near_eq (sg x) hm hb hb', hv]
  have := rung_shift 0 (-1074 - b).toNat (V_pos h0)
  rw [Nat.zero_add] at this
  rw [this, rung_V (by omega) h0, word_parts hx]
theorem add0_eq {x : Nat} (hx : x < 18446744073709551616) (hn : isN x = false) : double.add 0 x = some (cl x) := by
  have i1 := INF_is
  unfold Format.add
  rw [read0]
  have hn' : ¬ INF < rg x := by simpa [isN] using hn
  rcases read_eq hx with ⟨lx, m, i, ex, hi, hi', hm, hm0, -⟩ | ⟨lx, ex⟩ | ⟨lx, ex⟩
  · rw [ex]
    simp only [Datum.sum, Option.map_some]
    congr 1
    have hmin : min (-1074 : Int) i = -1074 := by omega
    rw [hmin, signed_eq, signed_eq]
    simp only [Bool.false_eq_true, if_false, Nat.zero_mul, Int.natCast_zero, Int.zero_add]
    have e1 : (i - -1074).toNat = (i + 1074).toNat := by omega
    rw [e1, hm]
    unfold cl
    by_cases h0 : rg x = 0
    · rw [h0]
      have : V 0 = 0 := by decide
      rw [this]
      cases sg x <;> simp [Format.write, Format.nearest, word_false]
    · rw [if_neg h0]
      have hv := V_pos (r := rg x) (by omega)
      show double.nearest _ _ _ = x
      have e2 : (if sg x = true then -((V (rg x) : Nat) : Int) else ((V (rg x) : Nat) : Int)).natAbs = V (rg x) := by split <;> simp
      rw [e2]
      refine near_read hx lx (by omega) hv (b := -1074) (by omega) (by omega) (by simp) _ ?_
      cases sg x
      · have : ¬ ((V (rg x) : Nat) : Int) = 0 := by omega
        simp
      · have : ¬ -((V (rg x) : Nat) : Int) = 0 := by omega
        simp only [if_true, if_neg this]
        simp; omega
  · rw [ex]
    simp only [Datum.sum, Option.map_some]
    congr 1
    show double.word (sg x) double.infRung = _
    rw [inf_eq, ← lx, word_parts hx]
    unfold cl
    rw [if_neg (by omega)]
  · exact absurd lx hn'
theorem read1 : double.read 4607182418800017408 = .number false 4503599627370496 (-52) := by decide +kernel
theorem div1_eq {x : Nat} (hx : x < 18446744073709551616) (hn : isN x = false) (h0 : rg x = 0 → x = 0) : double.div x 4607182418800017408 = some x := by
  have i1 := INF_is
  unfold Format.div
  rw [read1]
  have hn' : ¬ INF < rg x := by simpa [isN] using hn
  rcases read_eq hx with ⟨lx, m, i, ex, hi, hi', hm, hm0, hm2⟩ | ⟨lx, ex⟩ | ⟨lx, ex⟩
  · rw [ex]
    have hne : ¬ (4503599627370496 : Nat) = 0 := by omega
    simp only [Datum.quotient, if_neg hne, Option.map_some, Bool.xor_false]
    congr 1
    by_cases h00 : rg x = 0
    · have e0 := h0 h00
      have : m = 0 := hm0.2 h00
      subst this
      rw [e0]
      have hs0 : sg 0 = false := by decide
      simp [Format.write, Format.nearest, hs0, word_false]
    · have hmp : 0 < m := by have := mt hm0.1 h00; omega
      have hl : m.log2 < 53 := by rw [Nat.log2_lt (by omega)]; have := B_is; omega
      have hlb : (4503599627370496 : Nat).log2 = 52 := by decide +kernel
      have hfb : double.fractionBits + 2 = 54 := rfl
      rw [hfb, hlb]
      generalize hmore : 54 + 52 - m.log2 = more
      have hm53 : 53 < more := by omega
      have hD : m <<< more = m * 2 ^ (more - 52) * 4503599627370496 := by
        rw [Nat.shiftLeft_eq, Nat.mul_assoc, show (4503599627370496 : Nat) = 2 ^ 52 from rfl, ← Nat.pow_add]
        congr 2
        omega
      rw [hD, Nat.mul_div_cancel _ (by omega), Nat.mul_mod_left]
      show double.nearest _ _ _ = x
      simp only [bne_self_eq_false, Bool.toNat_false, Nat.add_zero]
      have e1 : 2 * (m * 2 ^ (more - 52)) = m * 2 ^ (more - 51) := by
        rw [Nat.mul_comm 2, Nat.mul_assoc, ← Nat.pow_succ]
        congr 2
        omega
      rw [e1]
      obtain ⟨b, hb1, hb2⟩ : ∃ b : Int, b ≤ i - -52 - more - 1 ∧ b ≤ -1074 := ⟨min (i - -52 - more - 1) (-1074), by omega, by omega⟩
      refine near_read hx lx (by omega) (Nat.mul_pos hmp (Nat.two_pow_pos _)) hb1 hb2 ?_ _ rfl
      rw [← hm, Nat.mul_assoc, Nat.mul_assoc, ← Nat.pow_add, ← Nat.pow_add]
      congr 2
      omega
  · rw [ex]
    simp only [Datum.quotient, Option.map_some, Bool.xor_false]
    congr 1
    show double.word (sg x) double.infRung = _
    rw [inf_eq, ← lx, word_parts hx]
  · exact absurd lx hn'
theorem nan_add {x : Nat} (hx : x < 18446744073709551616) (hn : isN x = true) : double.add 0 x = none := by
  have hn' : INF < rg x := by simpa [isN] using hn
  unfold Format.add
  rw [read0]
  rcases read_eq hx with ⟨lx, -⟩ | ⟨lx, -⟩ | ⟨lx, ex⟩
  · omega
  · omega
  · rw [ex]; rfl
theorem nan_div {x : Nat} (hx : x < 18446744073709551616) (hn : isN x = true) : double.div x 4607182418800017408 = none := by
  have hn' : INF < rg x := by simpa [isN] using hn
  unfold Format.div
  rcases read_eq hx with ⟨lx, -⟩ | ⟨lx, -⟩ | ⟨lx, ex⟩
  · omega
  · omega
  · rw [ex]; rfl
theorem cl_fix {x : Nat} (hx : x < 18446744073709551616) (hn : isN x = false) : cl x < 18446744073709551616 ∧ isN (cl x) = false ∧ (rg (cl x) = 0 → cl x = 0) := by
  unfold cl
  by_cases h : rg x = 0
  · rw [if_pos h]; exact ⟨by omega, by decide, fun _ => rfl⟩
  · rw [if_neg h]; exact ⟨hx, hn, fun e => absurd e h⟩
end Go.Proofs.YtlpjlphofjghhaaGreatDoor.Fl
