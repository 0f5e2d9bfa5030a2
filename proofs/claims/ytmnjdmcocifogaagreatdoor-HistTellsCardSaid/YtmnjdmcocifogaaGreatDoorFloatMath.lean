/- Plain mathematics of float64: the order of words, and that rounding to the nearest rises. -/
import Ieee.Arith
namespace Go.Proofs.YtmnjdmcocifogaaGreatDoor.Fl
open Ieee

/-- a / b to the nearest whole number; between two, the even one. -/
def rhe (a b : Nat) : Nat := a / b + (if b < 2 * (a % b) ∨ (b = 2 * (a % b) ∧ (a / b) % 2 = 1) then 1 else 0)
theorem rhe_iff {a b k : Nat} (hb : 0 < b) (hk : 0 < k) : k ≤ rhe a b ↔ (2 * k - 1) * b < 2 * a ∨ ((2 * k - 1) * b = 2 * a ∧ k % 2 = 0) := by
  have hr : a % b < b := Nat.mod_lt _ hb
  have ha : b * (a / b) + a % b = a := Nat.div_add_mod a b
  unfold rhe
  generalize a / b = q at *
  generalize a % b = r at *
  subst ha
  rcases Nat.lt_trichotomy k (q + 1) with h | h | h
  · have h1 : k ≤ q + (if b < 2 * r ∨ (b = 2 * r ∧ q % 2 = 1) then 1 else 0) := by omega
    have h2 : (2 * k - 1) * b < 2 * (b * q + r) := by
      have e1 : (2 * k - 1) * b + b = 2 * k * b := by
        rw [← Nat.succ_mul]; congr 1; omega
      have e2 : 2 * k * b ≤ 2 * (b * q) := by
        rw [Nat.mul_assoc, Nat.mul_comm k b]
        exact Nat.mul_le_mul_left _ (Nat.mul_le_mul_left _ (by omega))
      omega
    exact ⟨fun _ => .inl h2, fun _ => h1⟩
  · subst h
    have e1 : (2 * (q + 1) - 1) * b = 2 * (b * q) + b := by
      have : 2 * (q + 1) - 1 = 2 * q + 1 := by omega
      rw [this, Nat.succ_mul, Nat.mul_assoc, Nat.mul_comm q b]
    rw [e1]
    by_cases hc : b < 2 * r ∨ (b = 2 * r ∧ q % 2 = 1)
    · rw [if_pos hc]
      exact ⟨fun _ => hc.elim (fun h => .inl (by omega)) (fun h => .inr ⟨by omega, by omega⟩), fun _ => by omega⟩
    · rw [if_neg hc]
      refine ⟨fun h => by omega, fun h => absurd ?_ hc⟩
      exact h.elim (fun h => .inl (by omega)) (fun h => .inr ⟨by omega, by omega⟩)
  · have h1 : ¬ k ≤ q + (if b < 2 * r ∨ (b = 2 * r ∧ q % 2 = 1) then 1 else 0) := by split <;> omega
    have h2 : 2 * (b * q + r) < (2 * k - 1) * b := by
      have e1 : (2 * q + 3) * b ≤ (2 * k - 1) * b := Nat.mul_le_mul_right _ (by omega)
      have e2 : (2 * q + 3) * b = 2 * (b * q) + 3 * b := by rw [Nat.add_mul, Nat.mul_assoc, Nat.mul_comm q b]
      omega
    exact ⟨fun h => absurd h h1, fun h => by omega⟩
theorem rhe_mono {a b c d : Nat} (hb : 0 < b) (hd : 0 < d) (h : a * d ≤ c * b) : rhe a b ≤ rhe c d := by
  rcases Nat.eq_zero_or_pos (rhe a b) with e | hk
  · omega
  have h1 := (rhe_iff hb hk).1 (Nat.le_refl _)
  generalize rhe a b = k at *
  rw [rhe_iff hd hk]
  have e1 : (2 * k - 1) * d * b = (2 * k - 1) * b * d := by rw [Nat.mul_assoc, Nat.mul_comm d b, ← Nat.mul_assoc]
  have e2 : 2 * a * d ≤ 2 * c * b := by rw [Nat.mul_assoc, Nat.mul_assoc]; omega
  rcases h1 with h1 | ⟨h1, h2⟩
  · refine .inl (Nat.lt_of_mul_lt_mul_right (a := b) ?_)
    rw [e1]
    exact Nat.lt_of_lt_of_le (Nat.mul_lt_mul_of_pos_right h1 hd) e2
  · have e3 : (2 * k - 1) * d * b ≤ 2 * c * b := by rw [e1, h1]; exact e2
    have e4 := Nat.le_of_mul_le_mul_right e3 hb
    rcases Nat.lt_or_eq_of_le e4 with h | h
    · exact .inl h
    · exact .inr ⟨h, h2⟩
theorem rhe_eq {a b c d : Nat} (hb : 0 < b) (hd : 0 < d) (h : a * d = c * b) : rhe a b = rhe c d :=
  Nat.le_antisymm (rhe_mono hb hd (by omega)) (rhe_mono hd hb (by omega))
theorem rhe_exact {a b : Nat} (hb : 0 < b) : rhe (a * b) b = a := by
  unfold rhe
  rw [Nat.mul_div_cancel _ hb, Nat.mul_mod_left]
  simp; omega

theorem log_le {n k : Nat} (hn : 0 < n) (h : 2 ^ k ≤ n) : k ≤ n.log2 := (Nat.le_log2 (by omega)).2 h
theorem pow_log {n : Nat} (hn : 0 < n) : 2 ^ n.log2 ≤ n := Nat.log2_self_le (by omega)
theorem lt_log (n : Nat) : n < 2 ^ (n.log2 + 1) := Nat.lt_log2_self
theorem log_mono {m n : Nat} (hm : 0 < m) (h : m ≤ n) : m.log2 ≤ n.log2 := log_le (by omega) (Nat.le_trans (pow_log hm) h)
theorem log_shift {n : Nat} (hn : 0 < n) (s : Nat) : (n * 2 ^ s).log2 = n.log2 + s := by
  have h1 : n.log2 + s ≤ (n * 2 ^ s).log2 := log_le (Nat.mul_pos hn (Nat.two_pow_pos _)) (by rw [Nat.pow_add]; exact Nat.mul_le_mul_right _ (pow_log hn))
  have h2 : (n * 2 ^ s).log2 < n.log2 + s + 1 := by
    rw [Nat.log2_lt (by have := Nat.mul_pos hn (Nat.two_pow_pos s); omega)]
    have : n * 2 ^ s < 2 ^ (n.log2 + 1) * 2 ^ s := Nat.mul_lt_mul_of_pos_right (lt_log n) (Nat.two_pow_pos _)
    rw [← Nat.pow_add] at this
    rwa [show n.log2 + s + 1 = n.log2 + 1 + s by omega]
  omega

theorem small_gap {n drop : Nat} (h : n.log2 + 2 < drop) : 2 * n < 2 ^ drop := by
  have h1 := lt_log n
  have h2 : 2 ^ (n.log2 + 2) ≤ 2 ^ drop := Nat.pow_le_pow_right (by omega) (by omega)
  rw [Nat.pow_succ] at h2
  omega
theorem cut_even (neg : Bool) (n drop : Nat) : Toward.even.cut neg n drop = rhe n (2 ^ drop) := by
  unfold Toward.cut rhe
  by_cases h : drop ≤ n.log2 + 2
  · rw [Nat.min_eq_left h, Nat.one_shiftLeft]
    simp only []
    congr 1
    generalize n % 2 ^ drop = r
    generalize n / 2 ^ drop = q
    generalize 2 ^ drop = g
    by_cases h1 : g < 2 * r <;> by_cases h2 : g = 2 * r <;> by_cases h3 : q % 2 = 1 <;> simp [h1, h2, h3]
  · rw [Nat.min_eq_right (by omega), Nat.one_shiftLeft]
    have h1 : 2 * n < 2 ^ (n.log2 + 2) := by have := lt_log n; rw [Nat.pow_succ]; omega
    have h2 : 2 * n < 2 ^ drop := small_gap (by omega)
    simp only []
    have d1 : n / 2 ^ (n.log2 + 2) = 0 := Nat.div_eq_of_lt (by omega)
    have d2 : n % 2 ^ (n.log2 + 2) = n := Nat.mod_eq_of_lt (by omega)
    have d3 : n / 2 ^ drop = 0 := Nat.div_eq_of_lt (by omega)
    have d4 : n % 2 ^ drop = n := Nat.mod_eq_of_lt (by omega)
    rw [d1, d2, d3, d4]
    have h3 : ¬ (2 ^ (n.log2 + 2) < 2 * n) := by omega
    have h4 : ¬ (2 ^ (n.log2 + 2) = 2 * n) := by omega
    have h5 : ¬ (2 ^ drop < 2 * n) := by omega
    have h6 : ¬ (2 ^ drop = 2 * n) := by omega
    simp [h3, h5, h6]
theorem cut_zero (neg : Bool) (n drop : Nat) : Toward.zero.cut neg n drop = n / 2 ^ drop := by
  unfold Toward.cut
  by_cases h : drop ≤ n.log2 + 2
  · rw [Nat.min_eq_left h, Nat.one_shiftLeft]; simp
  · rw [Nat.min_eq_right (by omega), Nat.one_shiftLeft]
    have h1 : 2 * n < 2 ^ (n.log2 + 2) := by have := lt_log n; rw [Nat.pow_succ]; omega
    have h2 : 2 * n < 2 ^ drop := small_gap (by omega)
    simp only []
    rw [Nat.div_eq_of_lt (by omega), Nat.div_eq_of_lt (by omega)]
    simp

abbrev B : Nat := 4503599627370496
abbrev INF : Nat := 9218868437227405312
abbrev SG : Nat := 9223372036854775808
theorem B_is : B = 4503599627370496 := rfl
theorem INF_is : INF = 9218868437227405312 := rfl
theorem SG_is : SG = 9223372036854775808 := rfl
theorem binade_eq : double.binade = B := by decide
theorem inf_eq : double.infRung = INF := by decide
theorem sign_eq : double.signWeight = SG := by decide
theorem least_eq : double.leastPlace = -1074 := by decide

/-- The rung nearest to N units, the least number of the format being 2 ^ z of them. -/
def rung (z N : Nat) : Nat := min ((max (N.log2 - 52) z - z) * B + rhe N (2 ^ max (N.log2 - 52) z)) INF
theorem rung_mono (z : Nat) {M N : Nat} (hM : 0 < M) (h : M ≤ N) : rung z M ≤ rung z N := by
  have hl := log_mono hM h
  have hN : 0 < N := by omega
  unfold rung
  suffices (max (M.log2 - 52) z - z) * B + rhe M (2 ^ max (M.log2 - 52) z) ≤ (max (N.log2 - 52) z - z) * B + rhe N (2 ^ max (N.log2 - 52) z) by omega
  have hl2 : max (M.log2 - 52) z ≤ max (N.log2 - 52) z := by omega
  have hupM : M.log2 ≤ max (M.log2 - 52) z + 52 := by omega
  have hloN : max (M.log2 - 52) z < max (N.log2 - 52) z → N.log2 = max (N.log2 - 52) z + 52 := by omega
  have hz : z ≤ max (M.log2 - 52) z := by omega
  generalize max (M.log2 - 52) z = L at *
  generalize max (N.log2 - 52) z = L' at *
  rcases Nat.lt_or_eq_of_le hl2 with hlt | rfl
  · have h1 : rhe M (2 ^ L) ≤ 2 * B := by
      have e : rhe (2 * B * 2 ^ L) (2 ^ L) = 2 * B := rhe_exact (Nat.two_pow_pos _)
      rw [← e]
      refine rhe_mono (Nat.two_pow_pos _) (Nat.two_pow_pos _) (Nat.mul_le_mul_right _ ?_)
      have h2 := lt_log M
      have h3 : 2 ^ (M.log2 + 1) ≤ 2 ^ (L + 52 + 1) := Nat.pow_le_pow_right (by omega) (by omega)
      have h4 : 2 ^ (L + 52 + 1) = 2 * B * 2 ^ L := by rw [show L + 52 + 1 = 53 + L by omega, Nat.pow_add]; rfl
      omega
    have h2 : B ≤ rhe N (2 ^ L') := by
      have e : rhe (B * 2 ^ L') (2 ^ L') = B := rhe_exact (Nat.two_pow_pos _)
      conv => lhs; rw [← e]
      refine rhe_mono (Nat.two_pow_pos _) (Nat.two_pow_pos _) (Nat.mul_le_mul_right _ ?_)
      have h3 := pow_log hN
      rw [hloN hlt, Nat.pow_add, Nat.mul_comm] at h3
      exact h3
    have h3 : (L - z) * B + B ≤ (L' - z) * B := by rw [← Nat.succ_mul]; exact Nat.mul_le_mul_right _ (by omega)
    omega
  · exact Nat.add_le_add_left (rhe_mono (Nat.two_pow_pos _) (Nat.two_pow_pos _) (Nat.mul_le_mul_right _ h)) _
theorem rung_shift (z k : Nat) {N : Nat} (hN : 0 < N) : rung (z + k) (N * 2 ^ k) = rung z N := by
  have e1 : (N * 2 ^ k).log2 = N.log2 + k := log_shift hN k
  by_cases h : N.log2 - 52 ≤ z
  · have e2 : max (N.log2 + k - 52) (z + k) = z + k := by omega
    have e3 : max (N.log2 - 52) z = z := by omega
    unfold rung
    rw [e1, e2, e3]
    have e4 : rhe (N * 2 ^ k) (2 ^ (z + k)) = rhe N (2 ^ z) := rhe_eq (Nat.two_pow_pos _) (Nat.two_pow_pos _) (by rw [Nat.pow_add, Nat.mul_assoc, Nat.mul_comm (2 ^ k)])
    rw [e4, Nat.sub_self, Nat.sub_self]
  · have e2 : max (N.log2 + k - 52) (z + k) = N.log2 - 52 + k := by omega
    have e3 : max (N.log2 - 52) z = N.log2 - 52 := by omega
    unfold rung
    rw [e1, e2, e3]
    have e4 : rhe (N * 2 ^ k) (2 ^ (N.log2 - 52 + k)) = rhe N (2 ^ (N.log2 - 52)) := rhe_eq (Nat.two_pow_pos _) (Nat.two_pow_pos _) (by rw [Nat.pow_add, Nat.mul_assoc, Nat.mul_comm (2 ^ k)])
    rw [e4, show N.log2 - 52 + k - (z + k) = N.log2 - 52 - z by omega]
theorem near_eq (neg : Bool) {m : Nat} (hm : 0 < m) {p b : Int} (hb : b ≤ p) (hb' : b ≤ -1074) : double.nearest neg m p = double.word neg (rung (-1074 - b).toNat (m * 2 ^ (p - b).toNat)) := by
  unfold Format.nearest
  rw [if_neg (by omega)]
  simp only []
  rw [least_eq, binade_eq, inf_eq, cut_even]
  obtain ⟨s, hs⟩ : ∃ s : Nat, p = b + s := ⟨(p - b).toNat, by omega⟩
  obtain ⟨z, hz⟩ : ∃ z : Nat, b = -1074 - z := ⟨(-1074 - b).toNat, by omega⟩
  have e1 : (p - b).toNat = s := by omega
  have e2 : (-1074 - b).toNat = z := by omega
  rw [e1, e2]
  have e3 := log_shift hm s
  unfold rung
  rw [e3]
  have e4 : max (p + m.log2 - 52) (-1074) = b + (max (m.log2 + s - 52) z : Nat) := by omega
  have e5 : (double.fractionBits : Int) = 52 := rfl
  rw [e5, e4]
  generalize hL : max (m.log2 + s - 52) z = L
  have hzL : z ≤ L := by omega
  have e6 : (b + (L : Int) - -1074).toNat = L - z := by omega
  rw [e6]
  congr 3
  rw [Nat.shiftLeft_eq]
  refine rhe_eq (Nat.two_pow_pos _) (Nat.two_pow_pos _) ?_
  rw [Nat.mul_assoc, Nat.mul_assoc, ← Nat.pow_add, ← Nat.pow_add]
  congr 2
  omega

/-- How many of the least number a finite rung is. -/
def V (r : Nat) : Nat := if r < B then r else (B + r % B) * 2 ^ (r / B - 1)
theorem V_pos {r : Nat} (h : 0 < r) : 0 < V r := by
  unfold V
  split
  · exact h
  · exact Nat.mul_pos (by have : 0 < B := by decide
                          omega) (Nat.two_pow_pos _)
theorem rung_V {r : Nat} (h : r ≤ INF) (h0 : 0 < r) : rung 0 (V r) = r := by
  unfold V
  split
  · next hr =>
    have hl : r.log2 < 52 := by rw [Nat.log2_lt (by omega)]; exact hr
    unfold rung
    rw [show max (r.log2 - 52) 0 = 0 by omega]
    rw [show (2 : Nat) ^ 0 = 1 by rfl]
    have := rhe_exact (a := r) (b := 1) (by omega)
    rw [Nat.mul_one] at this
    rw [this]
    omega
  · next hr =>
    have hB : 0 < B := by decide
    have hm : r % B < B := Nat.mod_lt _ hB
    have hd : 1 ≤ r / B := by rw [Nat.le_div_iff_mul_le hB]; omega
    have hrd : B * (r / B) + r % B = r := Nat.div_add_mod r B
    generalize r % B = t at *
    generalize r / B = q at *
    have hl : ((B + t) * 2 ^ (q - 1)).log2 = 52 + (q - 1) := by
      rw [log_shift (by omega)]
      have h1 : 52 ≤ (B + t).log2 := log_le (by omega) (Nat.le_add_right B t)
      have h2 : (B + t).log2 < 53 := by
        rw [Nat.log2_lt (by omega)]
        have : (2 : Nat) ^ 53 = B + B := by decide
        omega
      omega
    unfold rung
    rw [hl, show max (52 + (q - 1) - 52) 0 = q - 1 by omega, rhe_exact (Nat.two_pow_pos _)]
    have : (q - 1 - 0) * B + (B + t) = r := by
      rw [← hrd, show B * q = B * (q - 1) + B by rw [← Nat.mul_succ]; congr 1; omega, Nat.mul_comm, Nat.sub_zero]
      omega
    rw [this]
    omega
theorem V_mono {r r' : Nat} (h : r ≤ r') : V r ≤ V r' := by
  have hB : 0 < B := by decide
  unfold V
  by_cases h1 : r < B
  · rw [if_pos h1]
    by_cases h2 : r' < B
    · rw [if_pos h2]; exact h
    · rw [if_neg h2]
      have : B + r' % B ≤ (B + r' % B) * 2 ^ (r' / B - 1) := Nat.le_mul_of_pos_right _ (Nat.two_pow_pos _)
      omega
  · have h2 : ¬ r' < B := by omega
    rw [if_neg h1, if_neg h2]
    have hd : 1 ≤ r / B := by rw [Nat.le_div_iff_mul_le hB]; omega
    have hdd : r / B ≤ r' / B := Nat.div_le_div_right h
    have hm : r % B < B := Nat.mod_lt _ hB
    have e1 : B * (r / B) + r % B = r := Nat.div_add_mod r B
    have e2 : B * (r' / B) + r' % B = r' := Nat.div_add_mod r' B
    rcases Nat.lt_or_eq_of_le hdd with hlt | heq
    · have h3 : (B + r % B) * 2 ^ (r / B - 1) ≤ B * 2 ^ (r / B) := by
        rw [show r / B = (r / B - 1) + 1 by omega, Nat.pow_succ, Nat.mul_comm _ 2, ← Nat.mul_assoc]
        simp only [Nat.add_sub_cancel]
        exact Nat.mul_le_mul_right _ (by omega)
      have h4 : B * 2 ^ (r / B) ≤ (B + r' % B) * 2 ^ (r' / B - 1) := Nat.mul_le_mul (by omega) (Nat.pow_le_pow_right (by omega) (by omega))
      omega
    · rw [heq]
      rw [heq] at e1
      exact Nat.mul_le_mul_right _ (by omega)
theorem V_le {r r' : Nat} (hr : r ≤ INF) (hr' : r' ≤ INF) : V r ≤ V r' ↔ r ≤ r' := by
  refine ⟨fun h => ?_, V_mono⟩
  rcases Nat.eq_zero_or_pos r with rfl | h0
  · omega
  rcases Nat.eq_zero_or_pos r' with rfl | h0'
  · have h1 := V_pos h0
    have h2 : V 0 = 0 := by decide
    omega
  · have := rung_mono 0 (V_pos h0) h
    rwa [rung_V hr h0, rung_V hr' h0'] at this

/-- A word's sign and rung. -/
def sg (x : Nat) : Bool := decide (SG ≤ x)
def rg (x : Nat) : Nat := if SG ≤ x then x - SG else x
theorem rg_lt {x : Nat} (hx : x < 18446744073709551616) : rg x < SG := by have := SG_is; unfold rg; split <;> omega
theorem read_parts {x : Nat} (hx : x < 18446744073709551616) : (x / SG % 2 == 1) = sg x ∧ x % SG = rg x := by
  have hS := SG_is
  unfold sg rg
  by_cases h : SG ≤ x
  · rw [if_pos h]
    have e1 : x / SG = 1 := by rw [SG_is] at *; omega
    have e2 : x % SG = x - SG := by rw [SG_is] at *; omega
    rw [e1, e2]
    simp [h]
  · rw [if_neg h]
    have e1 : x / SG = 0 := by rw [SG_is] at *; omega
    have e2 : x % SG = x := by rw [SG_is] at *; omega
    rw [e1, e2]
    simp [h]
def isN (x : Nat) : Bool := decide (INF < rg x)
/-- What a word stands for. -/
theorem read_eq {x : Nat} (hx : x < 18446744073709551616) :
    (rg x < INF ∧ ∃ m : Nat, ∃ e : Int, double.read x = .number (sg x) m e ∧ -1074 ≤ e ∧ e ≤ 971 ∧ m * 2 ^ (e + 1074).toNat = V (rg x) ∧ (m = 0 ↔ rg x = 0) ∧ m < 2 * B) ∨
    (rg x = INF ∧ double.read x = .infinity (sg x)) ∨ (INF < rg x ∧ double.read x = .nan (sg x) (rg x - INF)) := by
  have hr := rg_lt hx
  have i1 := INF_is
  have i2 := B_is
  obtain ⟨h1, h2⟩ := read_parts hx
  unfold Format.read
  rw [sign_eq, binade_eq, inf_eq, least_eq, h1, h2]
  simp only []
  generalize rg x = r at *
  by_cases c1 : r < B
  · rw [if_pos c1]
    refine .inl ⟨by omega, r, -1074, rfl, by omega, by omega, ?_, Iff.rfl, by omega⟩
    unfold V
    rw [if_pos c1]
    simp
  · rw [if_neg c1]
    by_cases c2 : r < INF
    · rw [if_pos c2]
      have hB : 0 < B := by decide
      have hd : 1 ≤ r / B := by rw [Nat.le_div_iff_mul_le hB]; omega
      have hd2 : r / B < 2047 := by rw [Nat.div_lt_iff_lt_mul hB]; rw [i1] at c2; rw [i2]; omega
      have hm : r % B < B := Nat.mod_lt _ hB
      refine .inl ⟨c2, B + r % B, -1074 + ((r / B - 1 : Nat) : Int), rfl, by omega, by omega, ?_, by omega, by omega⟩
      unfold V
      rw [if_neg c1]
      congr 2
      omega
    · rw [if_neg c2]
      by_cases c3 : r = INF
      · rw [if_pos c3]; exact .inr (.inl ⟨c3, rfl⟩)
      · rw [if_neg c3]; exact .inr (.inr ⟨by omega, rfl⟩)

theorem INF_SG : INF < SG := by decide
/-- Where a word stands among all that are no NaN: both noughts stand at 0. -/
def Ko (x : Nat) : Int := if sg x then -(rg x : Int) else (rg x : Int)

theorem shl_cmp {m n : Nat} {i j : Int} (hi : -1074 ≤ i) (hj : -1074 ≤ j) :
    m * 2 ^ (i + 1074).toNat = (m * 2 ^ (i - min i j).toNat) * 2 ^ (min i j + 1074).toNat ∧ n * 2 ^ (j + 1074).toNat = (n * 2 ^ (j - min i j).toNat) * 2 ^ (min i j + 1074).toNat := by
  constructor
  · rw [Nat.mul_assoc, ← Nat.pow_add]; congr 2; omega
  · rw [Nat.mul_assoc, ← Nat.pow_add]; congr 2; omega
theorem cmp_int {a b c d : Int} (h1 : a < b ↔ c < d) (h2 : a = b ↔ c = d) : compare a b = compare c d := by
  simp only [compare, compareOfLessAndEq]
  by_cases e1 : a < b
  · rw [if_pos e1, if_pos (h1.1 e1)]
  · rw [if_neg e1, if_neg (fun h => e1 (h1.2 h))]
    by_cases e2 : a = b
    · rw [if_pos e2, if_pos (h2.1 e2)]
    · rw [if_neg e2, if_neg (fun h => e2 (h2.2 h))]
theorem signed_eq (s : Bool) (m u : Nat) : signed s m u = if s then -((m * 2 ^ u : Nat) : Int) else ((m * 2 ^ u : Nat) : Int) := by
  unfold signed; rw [Nat.shiftLeft_eq]
/-- The order of two words. -/
theorem order_eq {x y : Nat} (hx : x < 18446744073709551616) (hy : y < 18446744073709551616) : double.order x y = if isN x || isN y then none else some (compare (Ko x) (Ko y)) := by
  have iS := INF_SG
  unfold Format.order isN Ko
  rcases read_eq hx with ⟨lx, m, i, ex, hi, hi', hm, hm0, -⟩ | ⟨lx, ex⟩ | ⟨lx, ex⟩
  · rcases read_eq hy with ⟨ly, n, j, ey, hj, hj', hn, hn0, -⟩ | ⟨ly, ey⟩ | ⟨ly, ey⟩
    · rw [ex, ey]
      have c1 : decide (INF < rg x) = false := by simp; omega
      have c2 : decide (INF < rg y) = false := by simp; omega
      rw [c1, c2]
      simp only [Datum.order, Bool.or_self, Bool.false_eq_true, if_false]
      congr 1
      rw [signed_eq, signed_eq]
      obtain ⟨e1, e2⟩ := shl_cmp (m := m) (n := n) hi hj
      rw [hm] at e1
      rw [hn] at e2
      generalize m * 2 ^ (i - min i j).toNat = M at *
      generalize n * 2 ^ (j - min i j).toNat = N at *
      have hp : 0 < 2 ^ (min i j + 1074).toNat := Nat.two_pow_pos _
      generalize 2 ^ (min i j + 1074).toNat = p at *
      have le1 : ∀ {A C : Nat}, A ≤ C ↔ A * p ≤ C * p := fun {A C} => ⟨fun h => Nat.mul_le_mul_right _ h, fun h => Nat.le_of_mul_le_mul_right h hp⟩
      have hMN : M ≤ N ↔ rg x ≤ rg y := by rw [le1, ← e1, ← e2]; exact V_le (by omega) (by omega)
      have hNM : N ≤ M ↔ rg y ≤ rg x := by rw [le1, ← e1, ← e2]; exact V_le (by omega) (by omega)
      have hM0 : M = 0 ↔ rg x = 0 := by
        have h1 : V 0 = 0 := by decide
        have h2 : V (rg x) ≤ V 0 ↔ rg x ≤ 0 := V_le (by omega) (by omega)
        rw [e1, h1] at h2
        constructor
        · intro e; subst e; simp at h2; exact h2
        · intro e; have := h2.2 (by omega)
          rcases Nat.eq_zero_or_pos M with h | h
          · exact h
          · have := Nat.mul_pos h hp; omega
      have hN0 : N = 0 ↔ rg y = 0 := by
        have h1 : V 0 = 0 := by decide
        have h2 : V (rg y) ≤ V 0 ↔ rg y ≤ 0 := V_le (by omega) (by omega)
        rw [e2, h1] at h2
        constructor
        · intro e; subst e; simp at h2; exact h2
        · intro e; have := h2.2 (by omega)
          rcases Nat.eq_zero_or_pos N with h | h
          · exact h
          · have := Nat.mul_pos h hp; omega
      clear e1 e2 le1 hm hn
      cases sg x <;> cases sg y <;> simp only [Bool.false_eq_true, if_false, if_true] <;> apply cmp_int <;> omega
    · rw [ex, ey]
      have c1 : decide (INF < rg x) = false := by simp; omega
      have c2 : decide (INF < rg y) = false := by simp; omega
      rw [c1, c2]
      simp only [Datum.order, Bool.or_self, Bool.false_eq_true, if_false]
      congr 1
      cases sg x <;> cases sg y <;> simp only [Bool.false_eq_true, if_false, if_true, compare, compareOfLessAndEq] <;> (repeat' split) <;> first | rfl | omega
    · rw [ex, ey]
      simp [Datum.order, ly]
  · rcases read_eq hy with ⟨ly, n, j, ey, hj, hj', hn, hn0, -⟩ | ⟨ly, ey⟩ | ⟨ly, ey⟩
    · rw [ex, ey]
      have c1 : decide (INF < rg x) = false := by simp; omega
      have c2 : decide (INF < rg y) = false := by simp; omega
      rw [c1, c2]
      simp only [Datum.order, Bool.or_self, Bool.false_eq_true, if_false]
      congr 1
      cases sg x <;> cases sg y <;> simp only [Bool.false_eq_true, if_false, if_true, compare, compareOfLessAndEq] <;> (repeat' split) <;> first | rfl | omega
    · rw [ex, ey]
      have c1 : decide (INF < rg x) = false := by simp; omega
      have c2 : decide (INF < rg y) = false := by simp; omega
      rw [c1, c2]
      simp only [Datum.order, Bool.or_self, Bool.false_eq_true, if_false]
      congr 1
      rw [lx, ly]
      cases sg x <;> cases sg y <;> decide
    · rw [ex, ey]
      simp [Datum.order, ly]
  · rw [ex]
    simp [Datum.order, lx]
end Go.Proofs.YtmnjdmcocifogaaGreatDoor.Fl
