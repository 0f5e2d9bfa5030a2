/- A part of the claim: the texts Flt. -/
import Derived.Test.YthmdiaingolfnaaGreatDoorZLayFloat
import Derived.WalkKit
import Derived.ProofKit
import Derived.BigGuardPart
import Derived.Outline
import Derived.Lib.Hide
import Derived.WalkSpells
import Derived.RegionTactic
import Derived.Deep.QuietTactic
import Derived.BigQuiet
namespace Go.Proofs.YthmdiaingolfnaaGreatDoor.Ff
open Go.ChangeShapes Go.WideShapes Go.ChangeAt Go.RowKit Rw Go.Shelf Go.Sort
set_option linter.unusedVariables false
def nud (u d : Int) : Int := IntKind.u64.wrap (u + IntKind.u64.wrap d)
def cei (u : Int) : Int := IntKind.u64.wrap (u + 3) / 4
def flo (u : Int) : Int := IntKind.u64.wrap u / 4
def rou (u : Int) : Int := IntKind.u64.wrap (IntKind.u64.wrap (u + 1) + bits BinOp.and IntKind.u64 (u / 4) 1) / 4
theorem wrap_in (x : Int) : 0 ≤ IntKind.u64.wrap x ∧ IntKind.u64.wrap x < 18446744073709551616 := by rw [IntKind.wrap_u64]; omega
theorem cei_in (u : Int) : 0 ≤ cei u ∧ cei u < 4611686018427387904 := by have := wrap_in (u + 3); unfold cei; omega
theorem flo_in (u : Int) : 0 ≤ flo u ∧ flo u < 4611686018427387904 := by have := wrap_in u; unfold flo; omega
theorem nudge_any (u d : Int) (w : World) : Calls Tryz.prog 242 #[.int .u64 u, .int .i64 d] w fun e w' => e = .returned (.int .u64 (nud u d)) ∧ w' = w := by
  go_enter Tryz.func242, Tryz.ntmps242
  go_wp2_with fail
  go_ret
  exact ⟨rfl, rfl⟩
theorem ceil_any (u : Int) (w : World) : Calls Tryz.prog 243 #[.int .u64 u] w fun e w' => e = .returned (.int .u64 (cei u)) ∧ w' = w := by
  go_enter Tryz.func243, Tryz.ntmps243
  go_wp2_with fail
  go_ret
  exact ⟨rfl, rfl⟩
theorem floor_any (u : Int) (w : World) : Calls Tryz.prog 244 #[.int .u64 u] w fun e w' => e = .returned (.int .u64 (flo u)) ∧ w' = w := by
  go_enter Tryz.func244, Tryz.ntmps244
  go_wp2_with fail
  go_ret
  exact ⟨rfl, rfl⟩
theorem round_any (u : Int) (w : World) : Calls Tryz.prog 245 #[.int .u64 u] w fun e w' => e = .returned (.int .u64 (rou u)) ∧ w' = w := by
  go_enter Tryz.func245, Tryz.ntmps245
  go_wp2_with fail
  go_ret
  exact ⟨rfl, rfl⟩
theorem log2_any (x : Int) (w : World) (h : -2000 ≤ x) (h' : x ≤ 2000) : Calls Tryz.prog 240 #[.int .i64 x] w fun e w' => e = .returned (.int .i64 (x * 108853 / 32768)) ∧ w' = w := by
  go_enter Tryz.func240, Tryz.ntmps240
  go_wp2_with fail
  go_ret
  exact ⟨rfl, rfl⟩
theorem skewed_any (x : Int) (w : World) (h : -2000 ≤ x) (h' : x ≤ 2000) : Calls Tryz.prog 238 #[.int .i64 x] w fun e w' => e = .returned (.int .i64 ((x * 631305 - 261663) / 2097152)) ∧ w' = w := by
  go_enter Tryz.func238, Tryz.ntmps238
  go_wp2_with fail
  go_ret
  exact ⟨rfl, rfl⟩
def b1 (b : Bool) : Int := if b = true then 1 else 0
theorem bool2u_any (b : Bool) (w : World) : Calls Tryz.prog 256 #[.bool b] w fun e w' => e = .returned (.int .u64 (b1 b)) ∧ w' = w := by
  cases b <;> (
    go_enter Tryz.func256, Tryz.ntmps256
    go_wp2_with fail
    go_ret
    exact ⟨rfl, rfl⟩)
theorem bool2u_quiet {w : World} {k : Nat} (b : Bool) : Calls Tryz.prog 256 #[.bool b] (w.drewN k) fun e w'' => e = .returned (.int .u64 (b1 b)) ∧ ∃ m, w'' = w.drewN m :=
  (bool2u_any b _).mono fun _ _ ⟨he, hm⟩ => ⟨he, k, hm⟩
def mhi (x y : Nat) : Int := ((x * y / 18446744073709551616 : Nat) : Int)
def mlo (x y : Nat) : Int := ((x * y % 18446744073709551616 : Nat) : Int)
theorem mhi_in {x y : Nat} (hx : x < 18446744073709551616) (hy : y < 18446744073709551616) : 0 ≤ mhi x y ∧ mhi x y < 18446744073709551616 := by
  unfold mhi
  have h1 : x * y < 18446744073709551616 * 18446744073709551616 := Nat.mul_lt_mul'' hx hy
  have h2 : x * y / 18446744073709551616 < 18446744073709551616 := Nat.div_lt_of_lt_mul h1
  omega
theorem mlo_in (x y : Nat) : 0 ≤ mlo x y ∧ mlo x y < 18446744073709551616 := by unfold mlo; omega
theorem mul_any (x y : Nat) (hx : x < 18446744073709551616) (hy : y < 18446744073709551616) (w : World) :
    Calls Tryz.prog 255 #[.int .u64 x, .int .u64 y] w fun e w' => e = .returned (.tuple #[.int .u64 (mhi x y), .int .u64 (mlo x y)]) ∧ w' = w :=
  Any.bits_Mul64 ffMul x y hx hy w
def usc (x h l : Nat) (q : Int) : Int :=
  if IntKind.u64.wrap (mhi x h / 2 ^ q.toNat * 2 ^ q.toNat) ≠ mhi x h then bits BinOp.or IntKind.u64 (mhi x h / 2 ^ q.toNat) 1
  else bits BinOp.or IntKind.u64 (IntKind.u64.wrap (mhi x h - b1 (decide (mlo x h < mhi x l))) / 2 ^ q.toNat) (b1 (decide (1 < IntKind.u64.wrap (mlo x h - mhi x l))))
set_option maxRecDepth 100000 in
theorem uscale_any (x h l : Nat) (s : Int) (g : Nat) (w : World) (hx : x < 18446744073709551616) (hh : h < 18446744073709551616) (hl : l < 18446744073709551616)
    (c0 : w.cell? ⟨g, 0, none⟩ = some (.int .u64 h)) (c1 : w.cell? ⟨g, 1, none⟩ = some (.int .u64 l)) (c2 : w.cell? ⟨g, 2, none⟩ = some (.int .i64 s))
    (q : Int) (hq : bits BinOp.and IntKind.i64 s 63 = q) (hq0 : 0 ≤ q) (hq1 : q ≤ 63) :
    Calls Tryz.prog 241 #[.int .u64 x, .pointer (some ⟨g, 0, none⟩)] w fun e w' => e = .returned (.int .u64 (usc x h l q)) ∧ ∃ n, w' = w.drewN n := by
  have m1 := mul_any x h hx hh
  have m2 := mul_any x l hx hl
  obtain ⟨B1, B2⟩ := mhi_in hx hh
  obtain ⟨b3, b4⟩ := mhi_in hx hl
  obtain ⟨b5, b6⟩ := mlo_in x h
  unfold usc
  generalize mhi x h = H at *
  generalize mlo x h = M at *
  generalize mhi x l = K at *
  obtain ⟨T1, hT1⟩ : ∃ T, b1 (decide (M < K)) = T := ⟨_, rfl⟩
  obtain ⟨T2, hT2⟩ : ∃ T, b1 (decide (1 < IntKind.u64.wrap (M - K))) = T := ⟨_, rfl⟩
  rw [hT1, hT2]
  by_cases e1 : IntKind.u64.wrap (H / 2 ^ q.toNat * 2 ^ q.toNat) = H
  · have e1' : (IntKind.u64.wrap (H / 2 ^ q.toNat * 2 ^ q.toNat) != H) = false := by simp [e1]
    rw [if_neg (by simp [e1])]
    clear e1
    go_enter Tryz.func241, Tryz.ntmps241
    go_wp2_with fail
    refine (m1 _).mono ?_
    rintro e w' ⟨rfl, rfl⟩
    go_wp2_with fail
    refine (m2 _).mono ?_
    rintro e w' ⟨rfl, rfl⟩
    go_wp2_with fail
    refine (bool2u_any _ _).mono ?_
    rintro e w' ⟨rfl, rfl⟩
    rw [hT1]
    go_wp2_with fail
    go_quiet ((go_at_call 256; refine (bool2u_quiet _).mono ?_; rintro e w2 ⟨rfl, hm⟩; rw [hT2]; exact ⟨rfl, hm⟩))
    go_wp2_with fail
    go_ret
    exact ⟨rfl, _, rfl⟩
  · have e1' : (IntKind.u64.wrap (H / 2 ^ q.toNat * 2 ^ q.toNat) != H) = true := by simpa using e1
    rw [if_pos e1]
    clear e1
    go_enter Tryz.func241, Tryz.ntmps241
    go_wp2_with fail
    refine (m1 _).mono ?_
    rintro e w' ⟨rfl, rfl⟩
    go_wp2_with fail
    go_ret
    exact ⟨rfl, 0, rfl⟩
def Pw (hi lo : Nat → Nat) (w : World) : Prop := ∀ i, i < 696 → hi i < 18446744073709551616 ∧ lo i < 18446744073709551616 ∧ 7 < w.heap.size ∧ w.cell? ⟨7, i * 2, none⟩ = some (.int .u64 (hi i)) ∧ w.cell? ⟨7, i * 2 + 1, none⟩ = some (.int .u64 (lo i))
theorem Pw.below {hi lo : Nat → Nat} {w w' : World} (h : Pw hi lo w) (hb : Below w.heap.size w w') : Pw hi lo w' := fun i hi' => by
  obtain ⟨a, b, c, d, e⟩ := h i hi'
  exact ⟨a, b, Nat.lt_of_lt_of_le c hb.size, (hb.cell (p := ⟨7, i * 2, none⟩) c).trans d, (hb.cell (p := ⟨7, i * 2 + 1, none⟩) c).trans e⟩
set_option maxRecDepth 100000 in
theorem prescale_any (hi lo : Nat → Nat) (g : Nat) (e p lp : Int) (w : World) (hP : Pw hi lo w) (hg : g ≠ 7) (hgl : g < w.heap.size) (i : Nat) (hp : p - -348 = (i : Int)) (hi' : i < 696)
    (he : -3000 ≤ e ∧ e ≤ 3000) (hlp : -3000 ≤ lp ∧ lp ≤ 3000) (a b c : Value) (c0 : w.cell? ⟨g, 0, none⟩ = some a) (c1 : w.cell? ⟨g, 1, none⟩ = some b) (c2 : w.cell? ⟨g, 2, none⟩ = some c) (f0 : w.frozen? ⟨g, 0, none⟩ = false) (f1 : w.frozen? ⟨g, 1, none⟩ = false) (f2 : w.frozen? ⟨g, 2, none⟩ = false) :
    Calls Tryz.prog 239 #[.pointer (some ⟨g, 0, none⟩), .int .i64 e, .int .i64 p, .int .i64 lp] w fun e' w' => e' = .returned (.tuple #[]) ∧ w' = ((w.setCell ⟨g, 0, none⟩ (.int .u64 (hi i))).setCell ⟨g, 1, none⟩ (.int .u64 (lo i))).setCell ⟨g, 2, none⟩ (.int .i64 (-(e + lp + 3))) := by
  obtain ⟨h1, h2, h3, h4, h5⟩ := hP i hi'
  go_enter Tryz.func239, Tryz.ntmps239
  go_wp2_with fail
  exact bodyPost_end (v := .tuple #[]) (by simp [results, Tryz.results239]) rfl ⟨rfl, rfl⟩
end Go.Proofs.YthmdiaingolfnaaGreatDoor.Ff
