/- The walk of hackneylaw06.RatioTells. -/
import Derived.Test.YtobilnloghofpaaGreatDoorRatioE
import Derived.Test.YtobilnloghofpaaGreatDoorRatioF
import Derived.Deep.CutRange
import Derived.Deep.CutBlock
namespace Go.Proofs.YtobilnloghofpaaGreatDoor.Fl
open Go.ChangeShapes Go.WideShapes Go.ChangeAt Go.RowKit Go.Deep Rw Ck Ieee
set_option linter.unusedVariables false

theorem quo_run (x y : Nat) (w : World) : ∃ r w', (binOp .quo 25 (.float .f64 x) (.float .f64 y)).run Tryz.prog w = .ok (.float .f64 r) w' ∧ St (floatBits .quo .f64 x y) r ∧ Below w.heap.size w w' := by
  cases hq : floatBits .quo .f64 x y with
  | some r => exact ⟨r, w, run_float_arith (P := Tryz.prog) w .quo 25 .f64 x y r hq, ⟨bits_lt hq, rfl⟩, Below.refl _ _⟩
  | none =>
    obtain ⟨r, hr1, hr, hr64⟩ := nan_run .quo 25 x y w (.inr rfl) hq
    exact ⟨r, w.drew, hr1, ⟨hr64, hr⟩, (Below.refl _ _).drew⟩
theorem St.same {o : Option Nat} {r q : Nat} (h : St o r) (h' : St o q) : sm r q = true := by
  cases o with
  | some s =>
    have e1 : r = s := h.2
    have e2 : q = s := h'.2
    unfold sm
    rw [e1, e2]
    simp
  | none =>
    have e1 : isN r = true := h.2
    have e2 : isN q = true := h'.2
    unfold sm
    rw [e1, e2]
    rfl
theorem share_two (a b : Nat) (w : World) : Calls Tryz.prog 8 #[.int .u64 (a : Int), .int .u64 (b : Int)] w fun e w' => ∃ r, e = .returned (.float .f64 r) ∧ St (floatBits .quo .f64 (floatOfInt .f64 (a : Int)) (floatOfInt .f64 (b : Int))) r ∧ Below w.heap.size w w' := by
  obtain ⟨r, w2, hr, hs, hb⟩ := quo_run (floatOfInt .f64 (a : Int)) (floatOfInt .f64 (b : Int)) w
  have HS := Lib.hid hs
  have HB := Lib.hid hb
  clear hs hb
  go_enter Tryz.func8, Tryz.ntmps8
  go_wp2_with fail
  go_ret
  exact ⟨r, rfl, HS.out, HB.out⟩
theorem sm_self (x : Nat) : sm x x = true := by unfold sm; simp
theorem cl_lt' {x : Nat} (hx : x < 18446744073709551616) : cl x < 18446744073709551616 := by unfold cl; split <;> omega
set_option maxRecDepth 100000 in
theorem tells_long (a b n x y z : Nat) (A : Option Addr) (N c : Nat) (w : World) (hN : N ≤ 9223372036854775807) (h : 100 < N) :
    Calls Tryz.prog 3 #[.int .u64 (a : Int), .int .u64 (b : Int), .int .u64 (n : Int), .int .u64 (x : Int), .int .u64 (y : Int), .int .u64 (z : Int), .slice A N c] w fun e w' => e = .returned (.bool true) ∧ Below w.heap.size w w' := by
  have t0 : decide ((100 : Int) < (N : Int)) = true := decide_eq_true (by omega)
  have t0' : decide (100 < N) = true := decide_eq_true (by omega)
  clear h
  go_enter Tryz.func3, Tryz.ntmps3
  go_wp2_with fail
  refine (awake6_any _).mono ?_
  rintro e w1 ⟨rfl, hb1⟩
  go_wp2_with fail
  go_ret
  exact ⟨rfl, hb1⟩
set_option maxHeartbeats 4000000 in
set_option maxRecDepth 100000 in
theorem tells_any (a b n x y z : Nat) (A : Option Addr) (N c : Nat) (xs : List Int) (w : World) (hT : Ff.Ft w) (hn : n ≤ 18446744073709551615) (hx : x < 18446744073709551616) (hy : y < 18446744073709551616) (hz : z < 18446744073709551616) (h : Rd (Value.int .u64) w w.heap.size A N c xs) (hok : Sn.U64s xs) (hN : N ≤ 100) :
    Calls Tryz.prog 3 #[.int .u64 (a : Int), .int .u64 (b : Int), .int .u64 (n : Int), .int .u64 (x : Int), .int .u64 (y : Int), .int .u64 (z : Int), .slice A N c] w fun e w' => e = .returned (.bool true) ∧ Below w.heap.size w w' := by
  have rx := fun w => fbits_run w x
  have ry := fun w => fbits_run w y
  have rz := fun w => fbits_run w z
  simp only [Int.toNat_natCast] at rx ry rz
  have HT := Lib.hid hT
  have HR := Lib.hid h
  have HK := Lib.hid hok
  have HNN := Lib.hid hn
  have HX := Lib.hid hx
  have HY := Lib.hid hy
  have HZ := Lib.hid hz
  obtain ⟨s, hs1, hs2⟩ := text_two x hx
  have HS1 := Lib.hid hs1
  have HS2 := Lib.hid hs2
  have hq0 := o_eq hx (y := 0) (by omega)
  rw [show isN 0 = false from by decide, show Ko 0 = 0 from by decide, Bool.or_false] at hq0
  have HQ0 := Lib.hid hq0
  clear hq0
  have hI := INF_is
  have t0 : decide ((100 : Int) < (N : Int)) = false := decide_eq_false (by omega)
  have t0' : decide (100 < N) = false := decide_eq_false (by omega)
  clear hT h hok hn hs1 hs2 hy hz
  go_enter Tryz.func3, Tryz.ntmps3
  go_wp2_with fail
  refine (awake6_any _).mono ?_
  rintro e w1 ⟨rfl, hb1⟩
  have B1 := Lib.hid hb1
  clear hb1
  obtain ⟨bz, hbz⟩ : ∃ bz, (FloatKind.f64.format.order x 0 == some Ordering.eq) = bz := ⟨_, rfl⟩
  go_upto_if 32 with (fail)
  go_cut [18] from 32 to 34 (fun s18 wx => s18 = .float .f64 (cl x) ∧ w1 = wx)
  case first =>
    by_cases h0 : rg x = 0
    · have e1 : (FloatKind.f64.format.order x 0 == some Ordering.eq) = true := by
        rw [HQ0.out, show isN x = false by unfold isN; rw [h0]; decide, show Ko x = 0 by unfold Ko; rw [h0]; simp]
        rfl
      have e2 : cl x = 0 := by unfold cl; rw [if_pos h0]
      rw [e1] at hbz
      subst hbz
      have HA := Lib.hid (fun w => abs_nought x w hx h0)
      clear HQ0 h0 hx hI
      go_wp2_with fail
      refine (HA.out _).mono ?_
      rintro e w2 ⟨rfl, rfl⟩
      go_wp2_with fail
      go_meet
      case rel => simp [e2]
    · have e1 : (FloatKind.f64.format.order x 0 == some Ordering.eq) = false := by
        rw [HQ0.out]
        cases isN x with
        | true => rfl
        | false =>
          have : ¬ Ko x = 0 := by unfold Ko; split <;> omega
          rw [decide_eq_false this]; rfl
      have e2 : cl x = x := by unfold cl; rw [if_neg h0]
      rw [e1] at hbz
      subst hbz
      clear HQ0 h0 hx hI
      go_wp2_with fail
      go_meet
      case rel => simp [e2]
  case rest =>
    obtain ⟨rfl, rfl⟩ := hcut
    clear HQ0 hx hI
    go_wp2_with fail
    refine (share_two a b _).mono ?_
    rintro e w2 ⟨r1, rfl, hs1, hb2⟩
    obtain ⟨r2, w3, hr, hs2, hb3⟩ := quo_run (floatOfInt .f64 (a : Int)) (floatOfInt .f64 (b : Int)) w2
    have B3 := Lib.hid ((B1.out.trans (hb2.mono B1.out.size)).trans (hb3.mono (Nat.le_trans B1.out.size hb2.size)))
    have S1 := Lib.hid hs1
    have S2 := Lib.hid hs2
    clear hs1 hs2 hb2 hb3 B1
    go_wp2_with fail
    refine (same_any r1 r2 _ S1.out.1 S2.out.1).mono ?_
    rintro e w4 ⟨rfl, rfl⟩
    rw [S1.out.same S2.out]
    clear S1 S2
    go_wp2_with fail
    refine (floats_more A N c xs _ (HR.out.later B3.out) HK.out (by omega)).mono ?_
    rintro e w4 ⟨A4, c4, acc, rfl, hacc, ho4, hb4⟩
    subst hacc
    have B4 := Lib.hid (B3.out.trans (hb4.mono B3.out.size))
    have R4 := Lib.hid (Rd.own_rd ho4)
    clear ho4 hb4 B3
    go_wp2_with fail
    refine (mean_any A4 N c4 _ _ R4.out (by omega)).mono ?_
    rintro e w5 ⟨m1, rfl, hm1, hb5⟩
    have B5 := Lib.hid (B4.out.trans (hb5.mono B4.out.size))
    have M1 := Lib.hid hm1
    clear hm1 hb5 B4 R4
    go_wp2_with fail
    refine (floats_more A N c xs _ (HR.out.later B5.out) HK.out (by omega)).mono ?_
    rintro e w6 ⟨A6, c6, acc, rfl, hacc, ho6, hb6⟩
    subst hacc
    have B6 := Lib.hid (B5.out.trans (hb6.mono B5.out.size))
    have R6 := Lib.hid (Rd.own_rd ho6)
    clear ho6 hb6 B5
    go_wp2_with fail
    refine (rmean_any A6 N c6 _ _ R6.out (by omega)).mono ?_
    rintro e w7 ⟨m2, rfl, hm2, hb7⟩
    have B7 := Lib.hid (B6.out.trans (hb7.mono B6.out.size))
    have M2 := Lib.hid (M1.out.same hm2)
    clear hm2 hb7 B6 R6 M1
    go_wp2_with fail
    refine (same_any m1 m2 _ M2.out.1 M2.out.2.1).mono ?_
    rintro e w8 ⟨rfl, rfl⟩
    rw [M2.out.2.2]
    clear M2
    go_wp2_with fail
    refine (clean_any x _ HX.out).mono ?_
    rintro e w8 ⟨rfl, rfl⟩
    go_wp2_with fail
    refine (same_any (cl x) (cl x) _ (cl_lt' HX.out) (cl_lt' HX.out)).mono ?_
    rintro e w8 ⟨rfl, rfl⟩
    rw [sm_self]
    go_wp2_with fail
    refine (check_any x y z _ HX.out HY.out HZ.out).mono ?_
    rintro e w8 ⟨rfl, rfl⟩
    go_wp2_with fail
    refine (rcheck_any x y z _ HX.out HY.out HZ.out).mono ?_
    rintro e w8 ⟨rfl, rfl⟩
    go_wp2_with fail
    refine (fcmp_any x y _ HX.out HY.out).mono ?_
    rintro e w8 ⟨rfl, rfl⟩
    go_wp2_with fail
    refine (rcmp_any x y _ HX.out HY.out).mono ?_
    rintro e w8 ⟨rfl, rfl⟩
    go_wp2_with fail
    refine (part_any n x _ HNN.out HX.out).mono ?_
    rintro e w8 ⟨rfl, rfl⟩
    go_wp2_with fail
    refine (rpart_any n x _ HNN.out HX.out).mono ?_
    rintro e w8 ⟨rfl, rfl⟩
    go_wp2_with fail
    refine (HS1.out _ (HT.out.below B7.out)).mono ?_
    rintro e w8 ⟨rfl, hb8⟩
    have B8 := Lib.hid (B7.out.trans (hb8.mono B7.out.size))
    clear hb8 B7
    go_wp2_with fail
    refine (HS2.out _ (HT.out.below B8.out)).mono ?_
    rintro e w9 ⟨rfl, hb9⟩
    have B9 := Lib.hid (B8.out.trans (hb9.mono B8.out.size))
    clear hb9 B8
    go_wp2_with fail
    go_ret
    exact ⟨rfl, B9.out⟩
end Go.Proofs.YtobilnloghofpaaGreatDoor.Fl
