/- The library's sort at uint64: math/bits.Len, by the shelf's contract. -/
import Derived.Test.YtbdcdofjcljliaaGreatDoorSortKit
import Derived.Shelf.Small.Bits
import Derived.Laws.Closers25b
import Derived.Laws.Bits64b
namespace Go.Proofs.YtbdcdofjcljliaaGreatDoor.So
open Go.ChangeShapes Go.WideShapes Go.ChangeAt Go.RowKit Rw Go.Shelf
set_option linter.unusedVariables false

def lenF (k : Nat) : Nat := if k = 125 then 64 else if k = 128 then 82 else if k = 129 then 83 else 0
def lenT (k : Nat) : Nat := if k = 3 then 3 else if k = 4 then 4 else if k = 5 then 5 else if k = 9 then 9 else if k = 46 then 108 else if k = 51 then 127 else if k = 53 then 22 else 0
def lenRen : Ren := { f := lenF, t := lenT, g := fun x => x }
theorem lays125 : Lays.n125 Tryz.prog lenRen := {
  mixed := by kernel_rfl
  f125 := by kernel_rfl
  f128 := by kernel_rfl
  f129 := by kernel_rfl
  t3 := by kernel_rfl
  a3 := fun w => by kernel_rfl
  z3 := fun w => by kernel_rfl
  v3 := fun w => by kernel_rfl
  t4 := by kernel_rfl
  a4 := fun w => by kernel_rfl
  z4 := fun w => by kernel_rfl
  v4 := fun w => by kernel_rfl
  t5 := by kernel_rfl
  a5 := fun w => by kernel_rfl
  z5 := fun w => by kernel_rfl
  v5 := fun w => by kernel_rfl
  t9 := by kernel_rfl
  a9 := fun w => by kernel_rfl
  z9 := fun w => by kernel_rfl
  v9 := fun w => by kernel_rfl
  t46 := by kernel_rfl
  a46 := fun w => by kernel_rfl
  z46 := fun w => by kernel_rfl
  v46 := fun w => by kernel_rfl
  t51 := by kernel_rfl
  a51 := fun w => by kernel_rfl
  z51 := fun w => by kernel_rfl
  v51 := fun w => by kernel_rfl
  t53 := by kernel_rfl
  a53 := fun w => by kernel_rfl
  z53 := fun w => by kernel_rfl
  v53 := fun w => by kernel_rfl }
theorem len_any (x : Nat) (w : World) (h : x ≤ 18446744073709551615) : Calls Tryz.prog 64 #[.int .u64 x] w fun e w' => e = .returned (.int .i64 (Lib.bitLen x)) ∧ w = w' :=
  (Any.bits_Len lays125 x w (by omega) (by omega)).mono fun e w' ⟨h1, h2⟩ => ⟨by simpa using h1, h2.symm⟩

theorem bitLen_small (x : Nat) (h : x < 256) : Lib.bitLen x ≤ 8 := Lib.bitLen_le8 ⟨x, h⟩
theorem bitLen_pow (x : Nat) (h : x < 256) (h0 : 1 ≤ x) : 2 ^ Lib.bitLen x ≤ 2 * x := by
  have : ∀ n : Fin 256, 1 ≤ n.val → 2 ^ Lib.bitLen n.val ≤ 2 * n.val := by decide +kernel
  exact this ⟨x, h⟩ h0
def Pow (x : Nat) (w : World) (e : Ending) (w' : World) : Prop := ∃ m : Nat, e = .returned (.int .u64 m) ∧ 1 ≤ m ∧ m ≤ 2 * x ∧ w = w'
set_option maxHeartbeats 2000000 in
theorem next_any (x : Nat) (w : World) (h : x < 256) (h0 : 1 ≤ x) : Calls Tryz.prog 100 #[.int .i64 x] w (Pow x w) := by
  have hp := bitLen_pow x h h0
  have hs := bitLen_small x h
  obtain ⟨L, hL⟩ : ∃ L, Lib.bitLen x = L := ⟨_, rfl⟩
  rw [hL] at hp hs
  have HL := Lib.hid hL
  clear hL
  have hc : L = 0 ∨ L = 1 ∨ L = 2 ∨ L = 3 ∨ L = 4 ∨ L = 5 ∨ L = 6 ∨ L = 7 ∨ L = 8 := by omega
  rcases hc with rfl | rfl | rfl | rfl | rfl | rfl | rfl | rfl | rfl
  all_goals
    go_enter Tryz.func100, Tryz.ntmps100
    go_wp2_with fail
    refine (len_any x _ (by omega)).mono ?_
    rintro e w' ⟨rfl, rfl⟩
    rw [HL.out]
    go_wp2_with fail
    go_ret
    exact ⟨_, rfl, by decide, hp, rfl⟩
def Rnd (b : Nat) (w : World) (e : Ending) (w' : World) : Prop := ∃ v : Nat, e = .returned (.int .u64 v) ∧ v < 18446744073709551616 ∧ w'.cell? ⟨b, 0, none⟩ = some (.int .u64 v) ∧ w'.frozen? ⟨b, 0, none⟩ = false ∧ w.grownBy w' (some b)
theorem set_facts (w : World) (b : Nat) (v x : Int) (hc : w.cell? ⟨b, 0, none⟩ = some (.int .u64 v)) (hf : w.frozen? ⟨b, 0, none⟩ = false) :
    ((w.setCell ⟨b, 0, none⟩ (.int .u64 x)).drew).cell? ⟨b, 0, none⟩ = some (.int .u64 x) ∧ ((w.setCell ⟨b, 0, none⟩ (.int .u64 x)).drew).frozen? ⟨b, 0, none⟩ = false ∧ w.grownBy (w.setCell ⟨b, 0, none⟩ (.int .u64 x)).drew (some b) :=
  ⟨World.cell?_setCell_same w _ _ hc, (World.frozen?_setCell w _ _ _).trans hf, (grown_setCell w b 0 _).trans (grown_drew _ _)⟩
set_option maxHeartbeats 2000000 in
theorem xor_any (b : Nat) (v : Int) (w : World) (hc : w.cell? ⟨b, 0, none⟩ = some (.int .u64 v)) (hf : w.frozen? ⟨b, 0, none⟩ = false) :
    Calls Tryz.prog 101 #[.pointer (some ⟨b, 0, none⟩)] w (Rnd b w) := by
  go_enter Tryz.func101, Tryz.ntmps101
  go_wp2
  go_region
  go_wp2
  generalize bits .xor .u64 v (IntKind.u64.wrap (v * 8192)) = v1
  obtain ⟨c1, f1, g1⟩ := set_facts w b v v1 hc hf
  have G1 := Lib.hid g1
  clear g1
  generalize (w.setCell ⟨b, 0, none⟩ (.int .u64 v1)).drew = w1 at *
  go_region
  go_wp2
  generalize bits .xor .u64 v1 (v1 / 128) = v2
  obtain ⟨c2, f2, g2⟩ := set_facts w1 b v1 v2 c1 f1
  have G2 := Lib.hid g2
  clear g2 hc hf c1 f1
  generalize (w1.setCell ⟨b, 0, none⟩ (.int .u64 v2)).drew = w2 at *
  go_region
  have l3 := bits_lo_u64 .xor v2 (IntKind.u64.wrap (v2 * 131072))
  have h3 := bits_hi_u64 .xor v2 (IntKind.u64.wrap (v2 * 131072))
  generalize bits .xor .u64 v2 (IntKind.u64.wrap (v2 * 131072)) = v3 at *
  obtain ⟨c3, f3, g3⟩ := set_facts w2 b v2 v3 c2 f2
  have G3 := Lib.hid g3
  clear g3 c2 f2
  obtain ⟨r3, hr3⟩ := Int.eq_ofNat_of_zero_le l3
  have HR3 := Lib.hid hr3
  clear hr3
  go_wp2
  go_ret
  exact ⟨r3, by rw [HR3.out]; rfl, by have := HR3.out; omega, by rw [← HR3.out]; exact c3, f3, (G1.out.trans G2.out).trans G3.out⟩
end Go.Proofs.YtbdcdofjcljliaaGreatDoor.So
