/- A part of the claim: the texts FltE. -/
import Derived.Test.YthmdiaingolfnaaGreatDoorZFltD
import Derived.Test.YthmdiaingolfnaaGreatDoorZTabs
import Derived.Test.YthmdiaingolfnaaGreatDoorZBase2
namespace Go.Proofs.YthmdiaingolfnaaGreatDoor.Ff
open Go.ChangeShapes Go.WideShapes Go.ChangeAt Go.RowKit Rw Go.Shelf Go.Sort
set_option linter.unusedVariables false
theorem sbits_run (w : World) (x : Nat) : (callFunc 223 #[.float .f64 x]).run Tryz.prog w = .ok (.value (.int .u64 x)) w := by
  rw [run_callFunc_extern Tryz.func223 (by kernel_rfl) (by kernel_rfl) (by kernel_rfl) (e := Extern.MathFloatBits.float64bits) (by kernel_rfl)]
  rfl
theorem len_q (w : World) : Calls Tryz.prog 192 #[.int .u64 4503599627370496] w fun e w' => e = .returned (.int .i64 53) ∧ w = w' := by
  go_enter Tryz.func192, Tryz.ntmps192
  go_wp2
  refine bodyPost_ret (v := .int .i64 53) ?_ rfl ⟨rfl, rfl⟩
  simp [results, Tryz.results192, go_sem]
  decide +kernel
theorem tl_q : tl Tb.hiT Tb.loT 9223372036854775808 (-65) 9223372036854775296 9223372036854776832 0 17 = (2500000000000000, -16) := by decide +kernel
theorem short_q (w : World) (hP : Pw Tb.hiT Tb.loT w) :
    Calls Tryz.prog 233 #[.int .u64 9223372036854775808, .int .i64 (-65)] w fun e w' => e = .returned (.tuple #[.int .u64 2500000000000000, .int .i64 (-16)]) ∧ Below w.heap.size w w' := by
  have h := shortA Tb.hiT Tb.loT 9223372036854775808 (-65) w hP (by omega) (by omega) (by omega) (by decide) (by decide) 17 0 9223372036854775296 9223372036854776832 (by decide) (by decide) (by decide) (by decide +kernel) (by omega) (by omega)
  rw [tl_q] at h
  exact h
theorem nd_q : Lib.nDigits 2500000000000000 = 16 := by simp [Lib.nDigits]
theorem dd_q : Lib.decDigits 2500000000000000 = [50, 53, 48, 48, 48, 48, 48, 48, 48, 48, 48, 48, 48, 48, 48, 48] := by simp [Lib.decDigits]
theorem trl_q : trl (Lib.decDigits 2500000000000000) 16 = 2 := by rw [dd_q]; decide +kernel
theorem setDigits_q (h : Nat) (w : World) (hz : ∀ j, j < 32 → w.cell? ⟨h, j, none⟩ = some (.int .u8 0) ∧ w.frozen? ⟨h, j, none⟩ = false) :
    Calls Tryz.prog 228 #[.slice (some ⟨h, 0, none⟩) 32 32, .int .u64 2500000000000000, .int .i64 (-16), .int .i64 16] w fun e w' => e = .returned (.tuple #[.int .i64 0, .int .i64 2]) ∧
      (∀ j x, (Lib.decDigits 2500000000000000)[j]? = some x → w'.cell? ⟨h, j, none⟩ = some (e8 x)) ∧ w.grownBy w' (some h) := by
  have h1 := setDigits_any h 2500000000000000 (-16) w hz (by omega) (by omega) (by omega) 16 nd_q
  rw [trl_q] at h1
  exact h1
theorem numDigits_q (w : World) (hT : Tx.Tab w) : Calls Tryz.prog 195 #[.int .u64 2500000000000000] w fun e w' => e = .returned (.int .i64 16) ∧ w = w' := by
  have h := Any.internal_strconv_numDigits (P := Tryz.prog) (ρ := Tx.txRen) { Tx.txItoa with } 2500000000000000 (by omega) (by omega) w hT
  rw [nd_q] at h
  exact h.mono fun e w' ⟨a, b⟩ => ⟨a, b.symm⟩
set_option maxHeartbeats 8000000 in
set_option maxRecDepth 100000 in
theorem ftoa_q (base : Nat) (w0 w : World) (A : Option Addr) (c : Nat) (hrow : w.ownsRow base 5 1 (.slice A 0 c) 0 []) (hb0 : Below base w0 w) (hbs : base ≤ w.heap.size) (hT : Tb.Tabs w) :
    Calls Tryz.prog 215 #[.slice A 0 c, .float .f64 4598175219545276416, .int .u8 103, .int .i64 (-1)] w fun e w' => ∃ A' c' hb ds, e = .returned (.slice A' 4 c') ∧ Ap base hb ds w0 [48, 46, 50, 53] A' 4 c' w' := by
  have sb := fun w => sbits_run w 4598175219545276416
  have HT := Lib.hid hT
  have HR := Lib.hid hrow
  have HB := Lib.hid hb0
  have hlt := hrow.lt
  clear hT hrow hb0
  go_enter Tryz.func215, Tryz.ntmps215
  go_wp2_with fail
  go_quiet (fail)
  go_wp2_with fail
  refine (len_q _).mono ?_
  rintro e w1 ⟨rfl, rfl⟩
  go_wp2_with fail
  rw [show IntKind.u64.wrap (bits BinOp.or IntKind.u64 (bits BinOp.and IntKind.u64 4598175219545276416 4503599627370495) 4503599627370496 * 2048) = 9223372036854775808 from by decide +kernel,
    show wrap64 (wrap64 (wrap64 (bits BinOp.and IntKind.i64 1021 2047 + -1023) - 11) - 52) = -65 from by decide +kernel]
  generalize hW1' : (w.drewN nq).alloc (.cells zeros32 315) = W1
  have hW1 := hW1'.symm
  clear hW1'
  have hb1 : Below w.heap.size w W1 := by rw [hW1]; exact (Rw.below_drewN (RowKit.Below.refl _ _) nq).alloc (by simp) _
  have hz : ∀ j, j < 32 → W1.cell? ⟨w.heap.size, j, none⟩ = some (.int .u8 0) ∧ W1.frozen? ⟨w.heap.size, j, none⟩ = false := fun j hj => by
    rw [hW1]
    refine ⟨?_, ?_⟩
    · have : w.heap.size = (w.drewN nq).heap.size := rfl
      rw [this, World.cell?_alloc_new]; exact zeros32_at j hj
    · have : w.heap.size = (w.drewN nq).heap.size := rfl
      rw [this]; exact World.frozen?_alloc_new _ _ _ _
  have hs1 : W1.heap.size = w.heap.size + 1 := by rw [hW1]; simp
  have HB1 := Lib.hid hb1
  have HZ := Lib.hid hz
  have HW := Lib.hid hW1
  clear hb1 hz hW1
  refine (short_q _ (HT.out.pow.below HB1.out)).mono ?_
  rintro e W2 ⟨rfl, hb2⟩
  have hs2 := hb2.size
  have hz2 : ∀ j, j < 32 → W2.cell? ⟨w.heap.size, j, none⟩ = some (.int .u8 0) ∧ W2.frozen? ⟨w.heap.size, j, none⟩ = false := fun j hj => by
    obtain ⟨a, b⟩ := HZ.out j hj
    exact ⟨(hb2.cell (p := ⟨w.heap.size, j, none⟩) (by show w.heap.size < _; omega)).trans a, (hb2.frozen (p := ⟨w.heap.size, j, none⟩) (by show w.heap.size < _; omega)).trans b⟩
  have HZ2 := Lib.hid hz2
  have HB2 := Lib.hid (HB1.out.trans (hb2.mono (by omega)))
  clear hz2 hb2 HZ
  go_wp2_with fail
  refine reg_start 11 (fun _ => Hid True) (by kernel_rfl) (by kernel_rfl) ?_
  intro hT0
  have HH := Lib.hid hT0
  clear hT0
  refine reg_pure 0 HH.out rfl (by kernel_rfl) (fun _ _ _ _ h => h) (fun _ => Lib.hid trivial) rfl ?_
  apply Exists.intro
  refine ⟨fun w' => by (go_simp; exact rfl), ?_⟩
  refine reg_pure 1 HH.out rfl (by kernel_rfl) (fun _ _ _ _ h => h) (fun _ => Lib.hid trivial) rfl ?_
  apply Exists.intro
  refine ⟨fun w' => by (go_simp; exact rfl), ?_⟩
  refine reg_pure 2 HH.out rfl (by kernel_rfl) (fun _ _ _ _ h => h) (fun _ => Lib.hid trivial) rfl ?_
  apply Exists.intro
  refine ⟨fun w' => by (go_simp; exact rfl), ?_⟩
  refine reg_pure 3 HH.out rfl (by kernel_rfl) (fun _ _ _ _ h => h) (fun _ => Lib.hid trivial) rfl ?_
  apply Exists.intro
  refine ⟨fun w' => by (go_simp; exact rfl), ?_⟩
  refine reg_only 4 rfl (by kernel_rfl) rfl ?_
  unfold Oper.wp
  go_simp
  refine (numDigits_q W2.drew (show Tx.Tab W2.drew from HT.out.tab.below HB2.out.drew)).mono ?_
  rintro e W3 ⟨rfl, rfl⟩
  refine ⟨Lib.hid trivial, ?_⟩
  refine reg_only 5 rfl (by kernel_rfl) rfl ?_
  unfold Oper.wp
  go_simp
  refine (setDigits_q w.heap.size W2.drew HZ2.out).mono ?_
  rintro e W4 ⟨rfl, hdig, hg4⟩
  have HD4 := Lib.hid hdig
  have HG4 := Lib.hid hg4
  clear hdig hg4 HZ2
  refine ⟨Lib.hid trivial, ?_⟩
  refine reg_pure 6 HH.out rfl (by kernel_rfl) (fun _ _ _ _ h => h) (fun _ => Lib.hid trivial) rfl ?_
  apply Exists.intro
  refine ⟨fun w' => by (go_simp; exact rfl), ?_⟩
  refine reg_pure 7 HH.out rfl (by kernel_rfl) (fun _ _ _ _ h => h) (fun _ => Lib.hid trivial) rfl ?_
  apply Exists.intro
  refine ⟨fun w' => by (go_simp; exact rfl), ?_⟩
  refine reg_pure 8 HH.out rfl (by kernel_rfl) (fun _ _ _ _ h => h) (fun _ => Lib.hid trivial) rfl ?_
  apply Exists.intro
  refine ⟨fun w' => by (go_simp; exact rfl), ?_⟩
  refine reg_pure 9 HH.out rfl (by kernel_rfl) (fun _ _ _ _ h => h) (fun _ => Lib.hid trivial) rfl ?_
  apply Exists.intro
  refine ⟨fun w' => by (go_simp; exact rfl), ?_⟩
  refine reg_pure 10 HH.out rfl (by kernel_rfl) (fun _ _ _ _ h => h) (fun _ => Lib.hid trivial) rfl ?_
  apply Exists.intro
  refine ⟨fun w' => by (go_simp; exact rfl), ?_⟩
  refine reg_done (by kernel_rfl) ?_
  have hs4 := HG4.out.size
  simp at hs4
  have hap : Ap base w.heap.size ((Lib.decDigits 2500000000000000).map (fun x => (x.toNat : Int))) w0 [] A 0 c W4 := by
    have hrow4 : W4.ownsRow base 5 1 (.slice A 0 c) 0 [] := by
      have h2 : W2.ownsRow base 5 1 (.slice A 0 c) 0 [] := Hi.own_same HR.out (fun g hg => HB2.out.block g (HR.out.lt g hg).2)
      have h3 : W2.drew.ownsRow base 5 1 (.slice A 0 c) 0 [] := h2
      refine h3.kept HG4.out (Or.inr ?_)
      intro e
      have := (HR.out.lt _ e).2
      omega
    refine ⟨hrow4, ?_, by omega, ?_, ?_, by omega, by omega⟩
    · intro e
      have := (HR.out.lt _ e).2
      omega
    · intro j x hx
      rw [List.getElem?_map] at hx
      obtain ⟨y, hy, rfl⟩ := Option.map_eq_some_iff.1 hx
      exact HD4.out j y hy
    · exact (HB.out.trans (HB2.out.mono hbs)).trans ((show Below base W2 W2.drew from ((RowKit.Below.refl _ _).drew)).grown HG4.out (by show base ≤ W2.heap.size; omega) (fun g hg => by injection hg with hg; omega))
  have HAP := Lib.hid hap
  clear hap
  go_wp2_with fail
  refine (efg_quarter base w.heap.size _ w0 W4 A c HAP.out (by rw [dd_q]; rfl) (by rw [dd_q]; rfl)).mono ?_
  rintro e w5 ⟨A5, c5, rfl, hap5⟩
  go_wp2_with fail
  go_ret
  exact ⟨A5, c5, _, _, rfl, hap5⟩
end Go.Proofs.YthmdiaingolfnaaGreatDoor.Ff
