/- A part of the claim: the texts FltF. -/
import Derived.Test.YthmdiaingolfnaaGreatDoorZFltE
import Derived.Test.YthmdiaingolfnaaGreatDoorZRatioB
import Derived.Laws.MakeOwn
namespace Go.Proofs.YthmdiaingolfnaaGreatDoor.Ff
open Go.ChangeShapes Go.WideShapes Go.ChangeAt Go.RowKit Rw Go.Shelf Go.Sort
set_option linter.unusedVariables false
set_option maxRecDepth 100000 in
theorem iformat_q (w : World) (hT : Tb.Tabs w) :
    Calls Tryz.prog 199 #[.float .f64 4598175219545276416, .int .u8 103, .int .i64 (-1), .int .i64 64] w fun e w' => e = .returned (.string (Tx.bts [48, 46, 50, 53])) ∧ Below w.heap.size w w' := by
  have m1 : max (3 : Int) 24 = 24 := by decide
  obtain ⟨i0, hi, hz0, hz1, hz2⟩ := info_parts info_u8
  obtain ⟨w1, hmk, hrow, hg1⟩ := run_make_own (P := Tryz.prog) w w.heap.size 79 5 i0 (.int .u8 0) 1 Tryz.underlying79 hi hz0 hz1 .i64 .i64 24 (by rw [hz2]; omega) (by unfold maxLen; omega) (Nat.le_refl _)
  have hmk' : (Instr.makeSlice 79 (.int .i64 0) (.int .i64 24)).run Tryz.prog w = .ok (.slice (some ⟨w.heap.size, 0, none⟩) 0 24) w1 := hmk
  clear hmk
  have hb1 : Below w.heap.size w w1 := (RowKit.Below.refl _ w).grown hg1 (Nat.le_refl _) (fun g hg => by cases hg)
  have HT := Lib.hid (hT.below hb1)
  have HR := Lib.hid hrow
  have HB := Lib.hid hb1
  have hs1 := hb1.size
  clear hT hrow hg1 hb1
  go_enter Tryz.func199, Tryz.ntmps199
  go_wp2_with fail
  refine (ftoa_q w.heap.size w w1 _ 24 HR.out HB.out (by omega) HT.out).mono ?_
  rintro e w2 ⟨A2, c2, hb, ds, rfl, hap⟩
  have hrd := Rd.own_rd hap.own
  obtain ⟨b, o, hA, hbl, hcell⟩ := hrd.at_ (by omega)
  subst hA
  have HC := Lib.hid hcell
  have HA := Lib.hid hap
  clear hap hcell hrd
  have hcv : (convert 79 9 (.slice (some ⟨b, o, none⟩) 4 c2)).run Tryz.prog w2 = .ok (.string ⟨#[48, 46, 50, 53]⟩) w2 := by
    have h := run_convert_bytes_back (P := Tryz.prog) w2 79 9 5 ⟨b, o, none⟩ c2 [48, 46, 50, 53] Tryz.underlying79 Tryz.underlying5 Tryz.underlying9 (fun j hj => by
      rw [Lib.add_plain]
      match j, hj with
      | 0, _ => exact HC.out 0 48 rfl
      | 1, _ => exact HC.out 1 46 rfl
      | 2, _ => exact HC.out 2 50 rfl
      | 3, _ => exact HC.out 3 53 rfl
      | j + 4, h => exact absurd h (by simp))
    exact h
  go_wp2_with fail
  go_ret
  exact ⟨rfl, HA.out.bel⟩
theorem format_q (w : World) (hT : Tb.Tabs w) :
    Calls Tryz.prog 176 #[.float .f64 4598175219545276416, .int .u8 103, .int .i64 (-1), .int .i64 64] w fun e w' => e = .returned (.string (Tx.bts [48, 46, 50, 53])) ∧ Below w.heap.size w w' := by
  go_enter Tryz.func176, Tryz.ntmps176
  go_wp2_with fail
  refine (iformat_q _ hT).mono ?_
  rintro e w' ⟨rfl, hb⟩
  go_wp2_with fail
  go_ret
  exact ⟨rfl, hb⟩
theorem nan_q (w : World) : Calls Tryz.prog 111 #[.float .f64 4598175219545276416] w fun e w' => e = .returned (.bool false) ∧ w = w' := by
  have h1 : (FloatKind.f64.format.order 4598175219545276416 4598175219545276416 == some Ordering.eq) = true := by decide +kernel
  go_enter Tryz.func111, Tryz.ntmps111
  go_wp2
  go_ret
  exact ⟨rfl, rfl⟩
theorem inf_q1 (w : World) : Calls Tryz.prog 175 #[.float .f64 4598175219545276416, .int .i64 1] w fun e w' => e = .returned (.bool false) ∧ w = w' := by
  have h := Fl.isinf_any 4598175219545276416 w
  rw [show Fl.isI 4598175219545276416 = false from by decide +kernel] at h
  exact h
theorem inf_qm (w : World) : Calls Tryz.prog 175 #[.float .f64 4598175219545276416, .int .i64 (-1)] w fun e w' => e = .returned (.bool false) ∧ w = w' := by
  have h2 : (FloatKind.f64.format.order 13821547256400052224 9218868437227405311 == some Ordering.gt) = false := by decide +kernel
  have hneg : ∀ w, (Op.unary UnOp.neg (Value.float FloatKind.f64 4598175219545276416)).run Tryz.prog w = .ok (.float .f64 13821547256400052224) w := fun w => by kernel_rfl
  go_enter Tryz.func175, Tryz.ntmps175
  go_wp2
  go_ret
  exact ⟨rfl, rfl⟩
theorem clean_q (w : World) : Calls Tryz.prog 167 #[.float .f64 4598175219545276416] w fun e w' => e = .returned (.float .f64 4598175219545276416) ∧ w = w' := by
  have h1 : (FloatKind.f64.format.order 4598175219545276416 0 == some Ordering.eq) = false := by decide +kernel
  go_enter Tryz.func167, Tryz.ntmps167
  go_wp2
  go_ret
  exact ⟨rfl, rfl⟩
theorem rtext_q (w : World) (hT : Tb.Tabs w) : Calls Tryz.prog 166 #[.float .f64 4598175219545276416] w fun e w' => e = .returned (.string (Tx.bts [48, 46, 50, 53])) ∧ Below w.heap.size w w' := by
  have HT := Lib.hid hT
  clear hT
  go_enter Tryz.func166, Tryz.ntmps166
  go_wp2_with fail
  refine (nan_q _).mono ?_
  rintro e w1 ⟨rfl, rfl⟩
  go_wp2_with fail
  refine (inf_q1 _).mono ?_
  rintro e w1 ⟨rfl, rfl⟩
  go_wp2_with fail
  refine (inf_qm _).mono ?_
  rintro e w1 ⟨rfl, rfl⟩
  go_wp2_with fail
  refine (format_q _ HT.out).mono ?_
  rintro e w1 ⟨rfl, hb⟩
  go_wp2_with fail
  go_ret
  exact ⟨rfl, hb⟩
theorem check_q (w : World) : Calls Tryz.prog 76 #[.float .f64 4598175219545276416, .float .f64 0, .float .f64 4607182418800017408] w fun e w' => e = .returned (.int .i64 0) ∧ w = w' := by
  have h0 : (FloatKind.f64.format.order 0 0 == some Ordering.eq) = true := by decide +kernel
  have h1 : (FloatKind.f64.format.order 4607182418800017408 4607182418800017408 == some Ordering.eq) = true := by decide +kernel
  have h2 : (FloatKind.f64.format.order 4598175219545276416 0 == some Ordering.lt) = false := by decide +kernel
  have h3 : (FloatKind.f64.format.order 4598175219545276416 4607182418800017408 == some Ordering.gt) = false := by decide +kernel
  have hn0 : ∀ (w : World), Calls Tryz.prog 111 #[.float .f64 0] w fun e w' => e = .returned (.bool false) ∧ w = w' := fun w => by
    have h := Fl.isnan_any 0 w (by omega)
    rw [show Fl.isN 0 = false from by decide +kernel] at h
    exact h
  have hn1 : ∀ (w : World), Calls Tryz.prog 111 #[.float .f64 4607182418800017408] w fun e w' => e = .returned (.bool false) ∧ w = w' := fun w => by
    have h := Fl.isnan_any 4607182418800017408 w (by omega)
    rw [show Fl.isN 4607182418800017408 = false from by decide +kernel] at h
    exact h
  go_enter Tryz.func76, Tryz.ntmps76
  go_wp2_with fail
  refine (nan_q _).mono ?_
  rintro e w1 ⟨rfl, rfl⟩
  go_wp2_with fail
  refine (hn0 _).mono ?_
  rintro e w1 ⟨rfl, rfl⟩
  go_wp2_with fail
  refine (hn1 _).mono ?_
  rintro e w1 ⟨rfl, rfl⟩
  go_wp2_with fail
  go_ret
  exact ⟨rfl, rfl⟩
set_option maxRecDepth 100000 in
theorem ccheck_q (w : World) :
    Calls Tryz.prog 31 #[.agg #[.int .i64 4, .int .i64 1, .int .u64 100, .int .u64 1000, .int .u64 50, .int .u64 200, .float .f64 4598175219545276416]] w fun e w' => e = .returned (.int .i64 0) ∧ Below w.heap.size w w' := by
  have hmx : ∀ (w : World) (ts : Array TypeId) (t : TypeId), (Builtin.max_ ts t #[.int .u64 100, .int .u64 1000, .int .u64 50, .int .u64 200]).run Tryz.prog w = .ok (.int .u64 1000) w := by
    intro w ts t
    simp [Builtin.max_, Builtin.max2]
  go_enter Tryz.func31, Tryz.ntmps31
  go_wp2_with fail
  refine (check_q _).mono ?_
  rintro e w1 ⟨rfl, rfl⟩
  go_wp2_with fail
  go_ret
  exact ⟨rfl, (RowKit.Below.refl _ _).alloc (Nat.le_refl _) _⟩
end Go.Proofs.YthmdiaingolfnaaGreatDoor.Ff
