/- A part of the claim: the texts ConfCheck. -/
import Derived.Test.YthmdiaingolfnaaGreatDoorZRatioE
namespace Go.Proofs.YthmdiaingolfnaaGreatDoor.Cn
open Go Go.ChangeShapes Go.WideShapes Go.ChangeAt Go.RowKit Rw
set_option linter.unusedVariables false
structure Cf where
  max : Int
  min : Int
  idle : Int
  life : Int
  keep : Int
  leak : Int
  var : Nat
abbrev U64 (k : Int) : Prop := 0 ≤ k ∧ k ≤ 18446744073709551615
structure Cf.ok (c : Cf) : Prop where
  idle : U64 c.idle
  life : U64 c.life
  keep : U64 c.keep
  leak : U64 c.leak
  var : c.var < 18446744073709551616
abbrev Cf.v (c : Cf) : Value := .agg #[.int .i64 c.max, .int .i64 c.min, .int .u64 c.idle, .int .u64 c.life, .int .u64 c.keep, .int .u64 c.leak, .float .f64 c.var]
def mx2 (a b : Int) : Int := if a < b then b else a
def Cf.hi (c : Cf) : Int := mx2 (mx2 (mx2 c.idle c.life) c.keep) c.leak
def hiE (M : Int) (v : Nat) : Int := if 1152921504606846976 < M then 2 else Fl.ck v 0 4607182418800017408
def cfE (c : Cf) : Int := if c.max < 1 ∨ 16 < c.max ∨ c.min < 0 ∨ c.max < c.min then 2 else hiE c.hi c.var
theorem max_run (P : Program) (a b c d : Int) (w : World) (ts : Array TypeId) (t : TypeId) : (Builtin.max_ ts t #[.int .u64 a, .int .u64 b, .int .u64 c, .int .u64 d]).run P w = .ok (.int .u64 (mx2 (mx2 (mx2 a b) c) d)) w := by
  simp [Builtin.max_, Builtin.max2, mx2]
  rfl
set_option maxRecDepth 100000 in
theorem ccheck_any (c : Cf) (h : c.ok) (w : World) :
    Calls Tryz.prog 31 #[c.v] w fun e w' => e = .returned (.int .i64 (cfE c)) ∧ Below w.heap.size w w' := by
  obtain ⟨mx, mn, id_, lf, kp, lk, vr⟩ := c
  have hmx := max_run Tryz.prog id_ lf kp lk
  have HC := Lib.hid (fun w => Fl.check_any vr 0 4607182418800017408 w h.var (by decide) (by decide))
  unfold cfE
  obtain ⟨M, hM⟩ : ∃ M, mx2 (mx2 (mx2 id_ lf) kp) lk = M := ⟨_, rfl⟩
  have hM' : Cf.hi ⟨mx, mn, id_, lf, kp, lk, vr⟩ = M := hM
  rw [hM] at hmx
  simp only [hM']
  clear h hM hM'
  by_cases h1 : mx < 1
  · have q1 : decide (mx < 1) = true := decide_eq_true h1
    rw [if_pos (.inl h1)]
    clear h1
    go_enter Tryz.func31, Tryz.ntmps31
    go_wp2_with fail
    go_ret
    exact ⟨rfl, (Below.refl _ _).alloc (Nat.le_refl _) _⟩
  have q1 : decide (mx < 1) = false := decide_eq_false h1
  by_cases h2 : 16 < mx
  · have q2 : decide (16 < mx) = true := decide_eq_true h2
    rw [if_pos (.inr (.inl h2))]
    clear h1 h2
    go_enter Tryz.func31, Tryz.ntmps31
    go_wp2_with fail
    go_ret
    exact ⟨rfl, (Below.refl _ _).alloc (Nat.le_refl _) _⟩
  have q2 : decide (16 < mx) = false := decide_eq_false h2
  by_cases h3 : mn < 0
  · have q3 : decide (mn < 0) = true := decide_eq_true h3
    rw [if_pos (.inr (.inr (.inl h3)))]
    clear h1 h2 h3
    go_enter Tryz.func31, Tryz.ntmps31
    go_wp2_with fail
    go_ret
    exact ⟨rfl, (Below.refl _ _).alloc (Nat.le_refl _) _⟩
  have q3 : decide (mn < 0) = false := decide_eq_false h3
  by_cases h4 : mx < mn
  · have q4 : decide (mx < mn) = true := decide_eq_true h4
    rw [if_pos (.inr (.inr (.inr h4)))]
    clear h1 h2 h3 h4
    go_enter Tryz.func31, Tryz.ntmps31
    go_wp2_with fail
    go_ret
    exact ⟨rfl, (Below.refl _ _).alloc (Nat.le_refl _) _⟩
  have q4 : decide (mx < mn) = false := decide_eq_false h4
  rw [if_neg (by omega)]
  clear h1 h2 h3 h4
  unfold hiE
  by_cases h5 : 1152921504606846976 < M
  · have q5 : decide (1152921504606846976 < M) = true := decide_eq_true h5
    rw [if_pos h5]
    clear h5
    go_enter Tryz.func31, Tryz.ntmps31
    go_wp2_with fail
    go_ret
    exact ⟨rfl, (Below.refl _ _).alloc (Nat.le_refl _) _⟩
  have q5 : decide (1152921504606846976 < M) = false := decide_eq_false h5
  rw [if_neg h5]
  clear h5
  go_enter Tryz.func31, Tryz.ntmps31
  go_wp2_with fail
  refine (HC.out _).mono ?_
  rintro e w1 ⟨rfl, rfl⟩
  go_wp2_with fail
  go_ret
  exact ⟨rfl, (Below.refl _ _).alloc (Nat.le_refl _) _⟩
end Go.Proofs.YthmdiaingolfnaaGreatDoor.Cn
