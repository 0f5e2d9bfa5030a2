/- Plain arithmetic of layer 1 (a word is 4 times its version, and its state): no program is named here. -/
import Derived.Lib.EndianBits
import Derived.WalkKit
namespace Go.Proofs.YtmnjdmcocifogaaGreatDoor.Wd
open Go

def wOf (s v : Int) : Int := 4 * (v % 4611686018427387904) + s % 4
def wMay (f t : Int) : Bool := (f == 0 && (t == 1 || t == 2)) || (f == 1 && (t == 0 || t == 3)) || (f == 2 && (t == 0 || t == 1 || t == 3))
def wTo (r t : Int) : Int := if wMay (r % 4) t then wOf t (r / 4 + 1) else r

theorem and3_u64 (x : Int) (h0 : 0 ≤ x) (h1 : x ≤ 18446744073709551615) : bits .and .u64 x 3 = x % 4 :=
  bits_mask .u64 64 (by decide) wraps_u64 2 (by decide) x h0 (by omega)

theorem and3_i64 (s : Int) : bits .and .i64 s 3 = s % 4 := by
  show IntKind.i64.wrap ((BitVec.ofInt 64 s &&& BitVec.ofInt 64 3).toNat : Int) = _
  have h3 : (BitVec.ofInt 64 3).toNat = 2 ^ 2 - 1 := by decide
  rw [BitVec.toNat_and, h3, Nat.and_two_pow_sub_one_eq_mod, BitVec.toNat_ofInt, IntKind.wrap_i64]
  omega

theorem or2_u64 (x y : Int) (h0 : 0 ≤ x) (h1 : x ≤ 18446744073709551615) (hx : x % 4 = 0) (hy : 0 ≤ y) (hy1 : y < 4) : bits .or .u64 x y = x + y :=
  bits_join .u64 64 (by decide) wraps_u64 2 x y h0 hx (by omega) hy hy1 (by omega)

theorem of_bits (s v : Int) : bits .or .u64 (IntKind.u64.wrap (v * 4)) (IntKind.u64.wrap (bits .and .i64 s 3)) = wOf s v := by
  rw [and3_i64, IntKind.wrap_u64, IntKind.wrap_u64, or2_u64 _ _ (by omega) (by omega) (by omega) (by omega) (by omega)]
  unfold wOf; omega

theorem wOf_lo (s v : Int) : 0 ≤ wOf s v := by unfold wOf; omega
theorem wOf_hi (s v : Int) : wOf s v ≤ 18446744073709551615 := by unfold wOf; omega
theorem wTo_lo (r t : Int) (h : 0 ≤ r) : 0 ≤ wTo r t := by
  unfold wTo; split
  · exact wOf_lo _ _
  · exact h
theorem wTo_hi (r t : Int) (h : r ≤ 18446744073709551615) : wTo r t ≤ 18446744073709551615 := by
  unfold wTo; split
  · exact wOf_hi _ _
  · exact h
theorem wOf_state (s v : Int) : wOf s v % 4 = s % 4 := by unfold wOf; omega
theorem wOf_version (s v : Int) : wOf s v / 4 = v % 4611686018427387904 := by unfold wOf; omega
theorem wMay_lo {f t : Int} (h : wMay f t = true) : 0 ≤ t ∧ t ≤ 3 ∧ 0 ≤ f ∧ f ≤ 2 ∧ f ≠ t := by
  simp [wMay] at h; omega
theorem wMay_three (t : Int) : wMay 3 t = false := by simp [wMay]
theorem wTo_no {r t : Int} (h : wMay (r % 4) t = false) : wTo r t = r := by simp [wTo, h]
theorem wTo_yes {r t : Int} (h : wMay (r % 4) t = true) : wTo r t = wOf t (r / 4 + 1) := by simp [wTo, h]
theorem wTo_ne {r t : Int} (h : wMay (r % 4) t = true) : wTo r t ≠ r := by
  rw [wTo_yes h]; have := wMay_lo h; intro e
  have := wOf_state t (r / 4 + 1); omega
theorem five (x : Int) : x = 0 ∨ x = 1 ∨ x = 2 ∨ x = 3 ∨ ((x == 0) = false ∧ (x == 1) = false ∧ (x == 2) = false ∧ (x == 3) = false) := by
  by_cases h0 : x = 0
  · exact .inl h0
  by_cases h1 : x = 1
  · exact .inr (.inl h1)
  by_cases h2 : x = 2
  · exact .inr (.inr (.inl h2))
  by_cases h3 : x = 3
  · exact .inr (.inr (.inr (.inl h3)))
  exact .inr (.inr (.inr (.inr ⟨by simpa using h0, by simpa using h1, by simpa using h2, by simpa using h3⟩)))
theorem ret_int {k : IntKind} {a b : Int} (h : a = b) : Ending.returned (.int k a) = .returned (.int k b) := by rw [h]
theorem lo_u64 {a : Int} (h : (Lit.int .u64 a).wf = true) : 0 ≤ a ∧ a ≤ 18446744073709551615 := by
  simp [Lit.wf, IntKind.min, IntKind.max, IntKind.signed, IntKind.bits] at h; exact h
theorem lo_u8 {a : Int} (h : (Lit.int .u8 a).wf = true) : 0 ≤ a ∧ a ≤ 255 := by
  simp [Lit.wf, IntKind.min, IntKind.max, IntKind.signed, IntKind.bits] at h; exact h
theorem lo_i64 {a : Int} (h : (Lit.int .i64 a).wf = true) : -9223372036854775808 ≤ a ∧ a ≤ 9223372036854775807 := by
  simp [Lit.wf, IntKind.min, IntKind.max, IntKind.signed, IntKind.bits] at h; exact h
end Go.Proofs.YtmnjdmcocifogaaGreatDoor.Wd
