/- Contracts of ratio.place and ratio.Cmp. -/
import Derived.Test.YtnclbnbjmgbonaaGreatDoorRatioB
import Derived.Laws.Bits64b
namespace Go.Proofs.YtnclbnbjmgbonaaGreatDoor.Fl
open Go.ChangeShapes Go.WideShapes Go.ChangeAt Go.RowKit Rw Ck
set_option linter.unusedVariables false

/-- A number that rises as floats stand one behind the other. -/
def pl (x : Nat) : Nat := if isN x then 18446744073709551615 else if SG ≤ x then 18446744073709551615 - x else x + SG
theorem pl_lt {x : Nat} (hx : x < 18446744073709551616) : pl x < 18446744073709551616 := by
  have := SG_is
  unfold pl
  split
  · omega
  · split <;> omega
theorem and63 (x : Nat) : x &&& 2 ^ 63 = (x.testBit 63).toNat * 2 ^ 63 := by
  apply Nat.eq_of_testBit_eq
  intro i
  rw [Nat.testBit_and, Nat.testBit_two_pow]
  by_cases h : 63 = i
  · subst h
    cases hx : x.testBit 63
    · simp
    · decide
  · cases hx : x.testBit 63
    · simp [h]
    · simp only [h, decide_false, Bool.and_false, Bool.toNat_true, Nat.one_mul]
      rw [Nat.testBit_two_pow]; simp [h]
theorem xor_all {x : Nat} (h : x < 18446744073709551616) : bits .xor .u64 18446744073709551615 (x : Int) = ((18446744073709551615 - x : Nat) : Int) := by
  have h1 : BitVec.ofInt 64 18446744073709551615 = BitVec.allOnes 64 := by decide
  have h2 : (BitVec.ofInt 64 (x : Int)).toNat = x := by
    rw [BitVec.ofInt_natCast, BitVec.toNat_ofNat]; exact Nat.mod_eq_of_lt (by omega)
  show IntKind.u64.wrap ((BitVec.ofInt 64 18446744073709551615 ^^^ BitVec.ofInt 64 (x : Int)).toNat : Int) = _
  rw [h1, BitVec.allOnes_xor, BitVec.toNat_not, h2, IntKind.wrap_u64]
  omega
theorem and_lo {x : Nat} (h : x < 9223372036854775808) : bits .and .u64 (x : Int) 9223372036854775808 = 0 := by
  have := bits_and_u64_nat x 9223372036854775808 (by omega) (by omega)
  rw [show ((9223372036854775808 : Nat) : Int) = 9223372036854775808 from rfl] at this
  rw [this, show (9223372036854775808 : Nat) = 2 ^ 63 from rfl, and63, Nat.testBit_lt_two_pow h]
  rfl
theorem and_hi {x : Nat} (h : 9223372036854775808 ≤ x) (h2 : x < 18446744073709551616) : bits .and .u64 (x : Int) 9223372036854775808 = 9223372036854775808 := by
  have := bits_and_u64_nat x 9223372036854775808 (by omega) (by omega)
  rw [show ((9223372036854775808 : Nat) : Int) = 9223372036854775808 from rfl] at this
  obtain ⟨y, rfl⟩ : ∃ y, x = 2 ^ 63 + y := ⟨x - 2 ^ 63, by omega⟩
  have ht : (2 ^ 63 + y).testBit 63 = true := by
    rw [Nat.testBit_two_pow_add_eq, Nat.testBit_lt_two_pow (by omega)]; rfl
  rw [this, show (9223372036854775808 : Nat) = 2 ^ 63 from rfl, and63, ht]
  rfl
theorem or_lo {x : Nat} (h : x < 9223372036854775808) : bits .or .u64 (x : Int) 9223372036854775808 = ((x + 9223372036854775808 : Nat) : Int) := by
  have := bits_or_u64_nat x 9223372036854775808 (by omega) (by omega)
  rw [show ((9223372036854775808 : Nat) : Int) = 9223372036854775808 from rfl] at this
  rw [this]
  have h2 := Nat.two_pow_add_eq_or_of_lt (i := 63) (b := x) h 1
  rw [Nat.or_comm]
  have h3 : (9223372036854775808 : Nat) ||| x = 9223372036854775808 + x := by
    have e : (2 : Nat) ^ 63 * 1 = 9223372036854775808 := by decide
    rw [e] at h2
    exact h2.symm
  rw [h3, Nat.add_comm]

end Go.Proofs.YtnclbnbjmgbonaaGreatDoor.Fl
