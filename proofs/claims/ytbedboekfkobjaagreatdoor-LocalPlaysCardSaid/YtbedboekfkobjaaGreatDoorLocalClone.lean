/- Clone of lists (layer 12). -/
import Derived.Test.YtbedboekfkobjaaGreatDoorAwake12
namespace Go.Proofs.YtbedboekfkobjaaGreatDoor.Lc
open Go.ChangeShapes Go.WideShapes Go.ChangeAt Go.RowKit Rw Hi Sl
set_option linter.unusedVariables false

/-- The first k of L. -/
def firstK (L : Nat → List Int) (k : Nat) : Nat → List Int := fun j => if j < k then L j else []
theorem firstK_next (L : Nat → List Int) (k : Nat) (i : Nat) : firstK L (k + 1) i = upd (firstK L k) k (L k) i := by
  unfold firstK upd
  by_cases e : i = k
  · subst e; simp
  · by_cases h : i < k
    · simp [h, e, show i < k + 1 by omega]
    · simp [h, e, show ¬ i < k + 1 by omega]
set_option maxRecDepth 100000 in
set_option maxHeartbeats 4000000 in
theorem clone_any (X Y : Nat → Prop) (w : World) (B p : Nat) (L : Nat → List Int) (hX : ∀ g, X g → g < w.heap.size) (h : Lo Y w B p L) (hB : B ≤ w.heap.size) :
    Calls Tryz.prog 32 #[.pointer (some ⟨p, 0, none⟩)] w fun e w' => ∃ p', e = .returned (.pointer (some ⟨p', 0, none⟩)) ∧ Lo X w' B p' L ∧ w.heap.size ≤ p' ∧ Below w.heap.size w w' := by
  obtain ⟨A0, n0, c0, k0, r0, _⟩ := h.at_ 0 (by omega)
  have hn0 : n0 ≤ 4 := by rw [← r0.len]; exact h.len 0 (by omega)
  have R0 := Lib.hid r0
  obtain ⟨A1, n1, c1, k1, r1, _⟩ := h.at_ 1 (by omega)
  have hn1 : n1 ≤ 4 := by rw [← r1.len]; exact h.len 1 (by omega)
  have R1 := Lib.hid r1
  obtain ⟨A2, n2, c2, k2, r2, _⟩ := h.at_ 2 (by omega)
  have hn2 : n2 ≤ 4 := by rw [← r2.len]; exact h.len 2 (by omega)
  have R2 := Lib.hid r2
  obtain ⟨A3, n3, c3, k3, r3, _⟩ := h.at_ 3 (by omega)
  have hn3 : n3 ≤ 4 := by rw [← r3.len]; exact h.len 3 (by omega)
  have R3 := Lib.hid r3
  obtain ⟨A4, n4, c4, k4, r4, _⟩ := h.at_ 4 (by omega)
  have hn4 : n4 ≤ 4 := by rw [← r4.len]; exact h.len 4 (by omega)
  have R4 := Lib.hid r4
  obtain ⟨A5, n5, c5, k5, r5, _⟩ := h.at_ 5 (by omega)
  have hn5 : n5 ≤ 4 := by rw [← r5.len]; exact h.len 5 (by omega)
  have R5 := Lib.hid r5
  obtain ⟨A6, n6, c6, k6, r6, _⟩ := h.at_ 6 (by omega)
  have hn6 : n6 ≤ 4 := by rw [← r6.len]; exact h.len 6 (by omega)
  have R6 := Lib.hid r6
  obtain ⟨A7, n7, c7, k7, r7, _⟩ := h.at_ 7 (by omega)
  have hn7 : n7 ≤ 4 := by rw [← r7.len]; exact h.len 7 (by omega)
  have R7 := Lib.hid r7
  have hpl := h.lt
  have HL := Lib.hid h.len
  have HX := Lib.hid hX
  clear h r0 r1 r2 r3 r4 r5 r6 r7 hX
  go_enter Tryz.func32, Tryz.ntmps32
  go_wp2_with fail
  refine (new_any X _ B hB HX.out).mono ?_
  rintro e w1 ⟨p', rfl, h1, hp1, hb1⟩
  have k0 := (hb1.cell (p := ⟨p, 0, none⟩) hpl).trans k0
  have k1 := (hb1.cell (p := ⟨p, 1, none⟩) hpl).trans k1
  have k2 := (hb1.cell (p := ⟨p, 2, none⟩) hpl).trans k2
  have k3 := (hb1.cell (p := ⟨p, 3, none⟩) hpl).trans k3
  have k4 := (hb1.cell (p := ⟨p, 4, none⟩) hpl).trans k4
  have k5 := (hb1.cell (p := ⟨p, 5, none⟩) hpl).trans k5
  have k6 := (hb1.cell (p := ⟨p, 6, none⟩) hpl).trans k6
  have k7 := (hb1.cell (p := ⟨p, 7, none⟩) hpl).trans k7
  have L0 := Lib.hid (show Lo X w1 B p' (firstK L 0) from h1.same (fun i hi => by simp [firstK]))
  have B0 := Lib.hid hb1
  clear h1 hb1
  go_wp2_with fail
  clear k0 k1 k2 k3 k4 k5 k6 k7
  refine wp_loop_rounds 9 ?_
  have hix0 : ∀ w : World, (Instr.index 78 (.agg #[.slice A0 n0 c0, .slice A1 n1 c1, .slice A2 n2 c2, .slice A3 n3 c3, .slice A4 n4 c4, .slice A5 n5 c5, .slice A6 n6 c6, .slice A7 n7 c7]) (.int .i64 0)).run Tryz.prog w = .ok (.slice A0 n0 c0) w := fun _ => by kernel_rfl
  rw [rounds_succ]
  go_wp2_with fail
  refine reg_start 7 (fun w' => Below w1.heap.size w1 w') (by kernel_rfl) (by kernel_rfl) ?_
  intro hTT
  have HTT := Lib.hid hTT
  have HS := Lib.hid (show Below w1.heap.size w1 w1.drew from (Below.refl _ _).drew)
  clear hTT hix0
  refine reg_load 0 HTT.out rfl (by kernel_rfl) (by decide) (fun _ _ _ _ h => h) HS.out rfl ?_
  apply Exists.intro
  refine ⟨fun w' hw => by (go_simp; exact rfl), ?_⟩
  refine reg_load 1 HTT.out rfl (by kernel_rfl) (by decide) (fun _ _ _ _ h => h) HS.out rfl ?_
  apply Exists.intro
  refine ⟨fun w' hw => by (go_simp; exact rfl), ?_⟩
  refine reg_load 2 HTT.out rfl (by kernel_rfl) (by decide) (fun _ _ _ _ h => h) HS.out rfl ?_
  apply Exists.intro
  refine ⟨fun w' hw => by (go_simp; exact rfl), ?_⟩
  refine reg_load 4 HTT.out rfl (by kernel_rfl) (by decide) (fun _ _ _ _ h => h) HS.out rfl ?_
  apply Exists.intro
  refine ⟨fun w' hw => by (go_simp; exact rfl), ?_⟩
  refine reg_load 5 HTT.out rfl (by kernel_rfl) (by decide) (fun _ _ _ _ h => h) HS.out rfl ?_
  apply Exists.intro
  refine ⟨fun w' hw => by (go_simp; exact rfl), ?_⟩
  refine reg_only 3 rfl (by kernel_rfl) rfl ?_
  unfold Oper.wp
  go_simp
  refine (Sl.clone_any A0 n0 c0 (L 0) w.heap.size _ (R0.out.below (B0.out.trans (HS.out.mono B0.out.size))) (by have h1 := B0.out.size; have h2 := HS.out.size; omega) (by omega)).mono ?_
  rintro e x0 ⟨E0, d0, rfl, ho, hb⟩
  have HS2 := Lib.hid (HS.out.trans (hb.mono HS.out.size))
  have HRR := Lib.hid (Rd.own_rd ho)
  have HFX := Lib.hid (own_fresh ho (X := X) (fun g hg => by have h1 := HX.out g hg; have h2 := B0.out.size; have h3 := HS.out.size; omega))
  clear hb ho HS
  refine ⟨HS2.out, ?_⟩
  refine reg_load 6 HTT.out rfl (by kernel_rfl) (by decide) (fun _ _ _ _ h => h) HS2.out rfl ?_
  apply Exists.intro
  refine ⟨fun w' hw => by (go_simp; exact rfl), ?_⟩
  have hlo := L0.out.later HS2.out
  obtain ⟨q1, q2⟩ := hlo.store (i := 0) (by omega) HRR.out (HL.out 0 (by omega)) HFX.out
  obtain ⟨Az, nz, cz, z0, _⟩ := hlo.at_ 0 (by omega)
  have zf := hlo.free 0 (by omega)
  have L1 := Lib.hid (q1.same (fun i hi => firstK_next L 0 i))
  have B1 := Lib.hid ((B0.out.trans (HS2.out.mono B0.out.size)).trans (fr_bel q2 (by have h1 := B0.out.size; have h2 := HS2.out.size; omega) hp1))
  clear hlo q1 q2 HRR HFX L0 B0
  refine reg_only 7 rfl (by kernel_rfl) rfl ?_
  unfold Oper.wp
  go_simp
  refine reg_done (by kernel_rfl) ?_
  clear z0 zf HS2 HTT
  generalize x0.setCell ⟨p', 0, none⟩ (.slice E0 n0 d0) = w10 at *
  go_wp2_with fail
  have hix1 : ∀ w : World, (Instr.index 78 (.agg #[.slice A0 n0 c0, .slice A1 n1 c1, .slice A2 n2 c2, .slice A3 n3 c3, .slice A4 n4 c4, .slice A5 n5 c5, .slice A6 n6 c6, .slice A7 n7 c7]) (.int .i64 1)).run Tryz.prog w = .ok (.slice A1 n1 c1) w := fun _ => by kernel_rfl
  rw [rounds_succ]
  go_wp2_with fail
  refine reg_start 7 (fun w' => Below w10.heap.size w10 w') (by kernel_rfl) (by kernel_rfl) ?_
  intro hTT
  have HTT := Lib.hid hTT
  have HS := Lib.hid (show Below w10.heap.size w10 w10.drew from (Below.refl _ _).drew)
  clear hTT hix1
  refine reg_load 0 HTT.out rfl (by kernel_rfl) (by decide) (fun _ _ _ _ h => h) HS.out rfl ?_
  apply Exists.intro
  refine ⟨fun w' hw => by (go_simp; exact rfl), ?_⟩
  refine reg_load 1 HTT.out rfl (by kernel_rfl) (by decide) (fun _ _ _ _ h => h) HS.out rfl ?_
  apply Exists.intro
  refine ⟨fun w' hw => by (go_simp; exact rfl), ?_⟩
  refine reg_load 2 HTT.out rfl (by kernel_rfl) (by decide) (fun _ _ _ _ h => h) HS.out rfl ?_
  apply Exists.intro
  refine ⟨fun w' hw => by (go_simp; exact rfl), ?_⟩
  refine reg_load 4 HTT.out rfl (by kernel_rfl) (by decide) (fun _ _ _ _ h => h) HS.out rfl ?_
  apply Exists.intro
  refine ⟨fun w' hw => by (go_simp; exact rfl), ?_⟩
  refine reg_load 5 HTT.out rfl (by kernel_rfl) (by decide) (fun _ _ _ _ h => h) HS.out rfl ?_
  apply Exists.intro
  refine ⟨fun w' hw => by (go_simp; exact rfl), ?_⟩
  refine reg_only 3 rfl (by kernel_rfl) rfl ?_
  unfold Oper.wp
  go_simp
  refine (Sl.clone_any A1 n1 c1 (L 1) w.heap.size _ (R1.out.below (B1.out.trans (HS.out.mono B1.out.size))) (by have h1 := B1.out.size; have h2 := HS.out.size; omega) (by omega)).mono ?_
  rintro e x1 ⟨E1, d1, rfl, ho, hb⟩
  have HS2 := Lib.hid (HS.out.trans (hb.mono HS.out.size))
  have HRR := Lib.hid (Rd.own_rd ho)
  have HFX := Lib.hid (own_fresh ho (X := X) (fun g hg => by have h1 := HX.out g hg; have h2 := B1.out.size; have h3 := HS.out.size; omega))
  clear hb ho HS
  refine ⟨HS2.out, ?_⟩
  refine reg_load 6 HTT.out rfl (by kernel_rfl) (by decide) (fun _ _ _ _ h => h) HS2.out rfl ?_
  apply Exists.intro
  refine ⟨fun w' hw => by (go_simp; exact rfl), ?_⟩
  have hlo := L1.out.later HS2.out
  obtain ⟨q1, q2⟩ := hlo.store (i := 1) (by omega) HRR.out (HL.out 1 (by omega)) HFX.out
  obtain ⟨Az, nz, cz, z0, _⟩ := hlo.at_ 1 (by omega)
  have zf := hlo.free 1 (by omega)
  have L2 := Lib.hid (q1.same (fun i hi => firstK_next L 1 i))
  have B2 := Lib.hid ((B1.out.trans (HS2.out.mono B1.out.size)).trans (fr_bel q2 (by have h1 := B1.out.size; have h2 := HS2.out.size; omega) hp1))
  clear hlo q1 q2 HRR HFX L1 B1
  refine reg_only 7 rfl (by kernel_rfl) rfl ?_
  unfold Oper.wp
  go_simp
  refine reg_done (by kernel_rfl) ?_
  clear z0 zf HS2 HTT
  generalize x1.setCell ⟨p', 1, none⟩ (.slice E1 n1 d1) = w20 at *
  go_wp2_with fail
  have hix2 : ∀ w : World, (Instr.index 78 (.agg #[.slice A0 n0 c0, .slice A1 n1 c1, .slice A2 n2 c2, .slice A3 n3 c3, .slice A4 n4 c4, .slice A5 n5 c5, .slice A6 n6 c6, .slice A7 n7 c7]) (.int .i64 2)).run Tryz.prog w = .ok (.slice A2 n2 c2) w := fun _ => by kernel_rfl
  rw [rounds_succ]
  go_wp2_with fail
  refine reg_start 7 (fun w' => Below w20.heap.size w20 w') (by kernel_rfl) (by kernel_rfl) ?_
  intro hTT
  have HTT := Lib.hid hTT
  have HS := Lib.hid (show Below w20.heap.size w20 w20.drew from (Below.refl _ _).drew)
  clear hTT hix2
  refine reg_load 0 HTT.out rfl (by kernel_rfl) (by decide) (fun _ _ _ _ h => h) HS.out rfl ?_
  apply Exists.intro
  refine ⟨fun w' hw => by (go_simp; exact rfl), ?_⟩
  refine reg_load 1 HTT.out rfl (by kernel_rfl) (by decide) (fun _ _ _ _ h => h) HS.out rfl ?_
  apply Exists.intro
  refine ⟨fun w' hw => by (go_simp; exact rfl), ?_⟩
  refine reg_load 2 HTT.out rfl (by kernel_rfl) (by decide) (fun _ _ _ _ h => h) HS.out rfl ?_
  apply Exists.intro
  refine ⟨fun w' hw => by (go_simp; exact rfl), ?_⟩
  refine reg_load 4 HTT.out rfl (by kernel_rfl) (by decide) (fun _ _ _ _ h => h) HS.out rfl ?_
  apply Exists.intro
  refine ⟨fun w' hw => by (go_simp; exact rfl), ?_⟩
  refine reg_load 5 HTT.out rfl (by kernel_rfl) (by decide) (fun _ _ _ _ h => h) HS.out rfl ?_
  apply Exists.intro
  refine ⟨fun w' hw => by (go_simp; exact rfl), ?_⟩
  refine reg_only 3 rfl (by kernel_rfl) rfl ?_
  unfold Oper.wp
  go_simp
  refine (Sl.clone_any A2 n2 c2 (L 2) w.heap.size _ (R2.out.below (B2.out.trans (HS.out.mono B2.out.size))) (by have h1 := B2.out.size; have h2 := HS.out.size; omega) (by omega)).mono ?_
  rintro e x2 ⟨E2, d2, rfl, ho, hb⟩
  have HS2 := Lib.hid (HS.out.trans (hb.mono HS.out.size))
  have HRR := Lib.hid (Rd.own_rd ho)
  have HFX := Lib.hid (own_fresh ho (X := X) (fun g hg => by have h1 := HX.out g hg; have h2 := B2.out.size; have h3 := HS.out.size; omega))
  clear hb ho HS
  refine ⟨HS2.out, ?_⟩
  refine reg_load 6 HTT.out rfl (by kernel_rfl) (by decide) (fun _ _ _ _ h => h) HS2.out rfl ?_
  apply Exists.intro
  refine ⟨fun w' hw => by (go_simp; exact rfl), ?_⟩
  have hlo := L2.out.later HS2.out
  obtain ⟨q1, q2⟩ := hlo.store (i := 2) (by omega) HRR.out (HL.out 2 (by omega)) HFX.out
  obtain ⟨Az, nz, cz, z0, _⟩ := hlo.at_ 2 (by omega)
  have zf := hlo.free 2 (by omega)
  have L3 := Lib.hid (q1.same (fun i hi => firstK_next L 2 i))
  have B3 := Lib.hid ((B2.out.trans (HS2.out.mono B2.out.size)).trans (fr_bel q2 (by have h1 := B2.out.size; have h2 := HS2.out.size; omega) hp1))
  clear hlo q1 q2 HRR HFX L2 B2
  refine reg_only 7 rfl (by kernel_rfl) rfl ?_
  unfold Oper.wp
  go_simp
  refine reg_done (by kernel_rfl) ?_
  clear z0 zf HS2 HTT
  generalize x2.setCell ⟨p', 2, none⟩ (.slice E2 n2 d2) = w30 at *
  go_wp2_with fail
  have hix3 : ∀ w : World, (Instr.index 78 (.agg #[.slice A0 n0 c0, .slice A1 n1 c1, .slice A2 n2 c2, .slice A3 n3 c3, .slice A4 n4 c4, .slice A5 n5 c5, .slice A6 n6 c6, .slice A7 n7 c7]) (.int .i64 3)).run Tryz.prog w = .ok (.slice A3 n3 c3) w := fun _ => by kernel_rfl
  rw [rounds_succ]
  go_wp2_with fail
  refine reg_start 7 (fun w' => Below w30.heap.size w30 w') (by kernel_rfl) (by kernel_rfl) ?_
  intro hTT
  have HTT := Lib.hid hTT
  have HS := Lib.hid (show Below w30.heap.size w30 w30.drew from (Below.refl _ _).drew)
  clear hTT hix3
  refine reg_load 0 HTT.out rfl (by kernel_rfl) (by decide) (fun _ _ _ _ h => h) HS.out rfl ?_
  apply Exists.intro
  refine ⟨fun w' hw => by (go_simp; exact rfl), ?_⟩
  refine reg_load 1 HTT.out rfl (by kernel_rfl) (by decide) (fun _ _ _ _ h => h) HS.out rfl ?_
  apply Exists.intro
  refine ⟨fun w' hw => by (go_simp; exact rfl), ?_⟩
  refine reg_load 2 HTT.out rfl (by kernel_rfl) (by decide) (fun _ _ _ _ h => h) HS.out rfl ?_
  apply Exists.intro
  refine ⟨fun w' hw => by (go_simp; exact rfl), ?_⟩
  refine reg_load 4 HTT.out rfl (by kernel_rfl) (by decide) (fun _ _ _ _ h => h) HS.out rfl ?_
  apply Exists.intro
  refine ⟨fun w' hw => by (go_simp; exact rfl), ?_⟩
  refine reg_load 5 HTT.out rfl (by kernel_rfl) (by decide) (fun _ _ _ _ h => h) HS.out rfl ?_
  apply Exists.intro
  refine ⟨fun w' hw => by (go_simp; exact rfl), ?_⟩
  refine reg_only 3 rfl (by kernel_rfl) rfl ?_
  unfold Oper.wp
  go_simp
  refine (Sl.clone_any A3 n3 c3 (L 3) w.heap.size _ (R3.out.below (B3.out.trans (HS.out.mono B3.out.size))) (by have h1 := B3.out.size; have h2 := HS.out.size; omega) (by omega)).mono ?_
  rintro e x3 ⟨E3, d3, rfl, ho, hb⟩
  have HS2 := Lib.hid (HS.out.trans (hb.mono HS.out.size))
  have HRR := Lib.hid (Rd.own_rd ho)
  have HFX := Lib.hid (own_fresh ho (X := X) (fun g hg => by have h1 := HX.out g hg; have h2 := B3.out.size; have h3 := HS.out.size; omega))
  clear hb ho HS
  refine ⟨HS2.out, ?_⟩
  refine reg_load 6 HTT.out rfl (by kernel_rfl) (by decide) (fun _ _ _ _ h => h) HS2.out rfl ?_
  apply Exists.intro
  refine ⟨fun w' hw => by (go_simp; exact rfl), ?_⟩
  have hlo := L3.out.later HS2.out
  obtain ⟨q1, q2⟩ := hlo.store (i := 3) (by omega) HRR.out (HL.out 3 (by omega)) HFX.out
  obtain ⟨Az, nz, cz, z0, _⟩ := hlo.at_ 3 (by omega)
  have zf := hlo.free 3 (by omega)
  have L4 := Lib.hid (q1.same (fun i hi => firstK_next L 3 i))
  have B4 := Lib.hid ((B3.out.trans (HS2.out.mono B3.out.size)).trans (fr_bel q2 (by have h1 := B3.out.size; have h2 := HS2.out.size; omega) hp1))
  clear hlo q1 q2 HRR HFX L3 B3
  refine reg_only 7 rfl (by kernel_rfl) rfl ?_
  unfold Oper.wp
  go_simp
  refine reg_done (by kernel_rfl) ?_
  clear z0 zf HS2 HTT
  generalize x3.setCell ⟨p', 3, none⟩ (.slice E3 n3 d3) = w40 at *
  go_wp2_with fail
  have hix4 : ∀ w : World, (Instr.index 78 (.agg #[.slice A0 n0 c0, .slice A1 n1 c1, .slice A2 n2 c2, .slice A3 n3 c3, .slice A4 n4 c4, .slice A5 n5 c5, .slice A6 n6 c6, .slice A7 n7 c7]) (.int .i64 4)).run Tryz.prog w = .ok (.slice A4 n4 c4) w := fun _ => by kernel_rfl
  rw [rounds_succ]
  go_wp2_with fail
  refine reg_start 7 (fun w' => Below w40.heap.size w40 w') (by kernel_rfl) (by kernel_rfl) ?_
  intro hTT
  have HTT := Lib.hid hTT
  have HS := Lib.hid (show Below w40.heap.size w40 w40.drew from (Below.refl _ _).drew)
  clear hTT hix4
  refine reg_load 0 HTT.out rfl (by kernel_rfl) (by decide) (fun _ _ _ _ h => h) HS.out rfl ?_
  apply Exists.intro
  refine ⟨fun w' hw => by (go_simp; exact rfl), ?_⟩
  refine reg_load 1 HTT.out rfl (by kernel_rfl) (by decide) (fun _ _ _ _ h => h) HS.out rfl ?_
  apply Exists.intro
  refine ⟨fun w' hw => by (go_simp; exact rfl), ?_⟩
  refine reg_load 2 HTT.out rfl (by kernel_rfl) (by decide) (fun _ _ _ _ h => h) HS.out rfl ?_
  apply Exists.intro
  refine ⟨fun w' hw => by (go_simp; exact rfl), ?_⟩
  refine reg_load 4 HTT.out rfl (by kernel_rfl) (by decide) (fun _ _ _ _ h => h) HS.out rfl ?_
  apply Exists.intro
  refine ⟨fun w' hw => by (go_simp; exact rfl), ?_⟩
  refine reg_load 5 HTT.out rfl (by kernel_rfl) (by decide) (fun _ _ _ _ h => h) HS.out rfl ?_
  apply Exists.intro
  refine ⟨fun w' hw => by (go_simp; exact rfl), ?_⟩
  refine reg_only 3 rfl (by kernel_rfl) rfl ?_
  unfold Oper.wp
  go_simp
  refine (Sl.clone_any A4 n4 c4 (L 4) w.heap.size _ (R4.out.below (B4.out.trans (HS.out.mono B4.out.size))) (by have h1 := B4.out.size; have h2 := HS.out.size; omega) (by omega)).mono ?_
  rintro e x4 ⟨E4, d4, rfl, ho, hb⟩
  have HS2 := Lib.hid (HS.out.trans (hb.mono HS.out.size))
  have HRR := Lib.hid (Rd.own_rd ho)
  have HFX := Lib.hid (own_fresh ho (X := X) (fun g hg => by have h1 := HX.out g hg; have h2 := B4.out.size; have h3 := HS.out.size; omega))
  clear hb ho HS
  refine ⟨HS2.out, ?_⟩
  refine reg_load 6 HTT.out rfl (by kernel_rfl) (by decide) (fun _ _ _ _ h => h) HS2.out rfl ?_
  apply Exists.intro
  refine ⟨fun w' hw => by (go_simp; exact rfl), ?_⟩
  have hlo := L4.out.later HS2.out
  obtain ⟨q1, q2⟩ := hlo.store (i := 4) (by omega) HRR.out (HL.out 4 (by omega)) HFX.out
  obtain ⟨Az, nz, cz, z0, _⟩ := hlo.at_ 4 (by omega)
  have zf := hlo.free 4 (by omega)
  have L5 := Lib.hid (q1.same (fun i hi => firstK_next L 4 i))
  have B5 := Lib.hid ((B4.out.trans (HS2.out.mono B4.out.size)).trans (fr_bel q2 (by have h1 := B4.out.size; have h2 := HS2.out.size; omega) hp1))
  clear hlo q1 q2 HRR HFX L4 B4
  refine reg_only 7 rfl (by kernel_rfl) rfl ?_
  unfold Oper.wp
  go_simp
  refine reg_done (by kernel_rfl) ?_
  clear z0 zf HS2 HTT
  generalize x4.setCell ⟨p', 4, none⟩ (.slice E4 n4 d4) = w50 at *
  go_wp2_with fail
  have hix5 : ∀ w : World, (Instr.index 78 (.agg #[.slice A0 n0 c0, .slice A1 n1 c1, .slice A2 n2 c2, .slice A3 n3 c3, .slice A4 n4 c4, .slice A5 n5 c5, .slice A6 n6 c6, .slice A7 n7 c7]) (.int .i64 5)).run Tryz.prog w = .ok (.slice A5 n5 c5) w := fun _ => by kernel_rfl
  rw [rounds_succ]
  go_wp2_with fail
  refine reg_start 7 (fun w' => Below w50.heap.size w50 w') (by kernel_rfl) (by kernel_rfl) ?_
  intro hTT
  have HTT := Lib.hid hTT
  have HS := Lib.hid (show Below w50.heap.size w50 w50.drew from (Below.refl _ _).drew)
  clear hTT hix5
  refine reg_load 0 HTT.out rfl (by kernel_rfl) (by decide) (fun _ _ _ _ h => h) HS.out rfl ?_
  apply Exists.intro
  refine ⟨fun w' hw => by (go_simp; exact rfl), ?_⟩
  refine reg_load 1 HTT.out rfl (by kernel_rfl) (by decide) (fun _ _ _ _ h => h) HS.out rfl ?_
  apply Exists.intro
  refine ⟨fun w' hw => by (go_simp; exact rfl), ?_⟩
  refine reg_load 2 HTT.out rfl (by kernel_rfl) (by decide) (fun _ _ _ _ h => h) HS.out rfl ?_
  apply Exists.intro
  refine ⟨fun w' hw => by (go_simp; exact rfl), ?_⟩
  refine reg_load 4 HTT.out rfl (by kernel_rfl) (by decide) (fun _ _ _ _ h => h) HS.out rfl ?_
  apply Exists.intro
  refine ⟨fun w' hw => by (go_simp; exact rfl), ?_⟩
  refine reg_load 5 HTT.out rfl (by kernel_rfl) (by decide) (fun _ _ _ _ h => h) HS.out rfl ?_
  apply Exists.intro
  refine ⟨fun w' hw => by (go_simp; exact rfl), ?_⟩
  refine reg_only 3 rfl (by kernel_rfl) rfl ?_
  unfold Oper.wp
  go_simp
  refine (Sl.clone_any A5 n5 c5 (L 5) w.heap.size _ (R5.out.below (B5.out.trans (HS.out.mono B5.out.size))) (by have h1 := B5.out.size; have h2 := HS.out.size; omega) (by omega)).mono ?_
  rintro e x5 ⟨E5, d5, rfl, ho, hb⟩
  have HS2 := Lib.hid (HS.out.trans (hb.mono HS.out.size))
  have HRR := Lib.hid (Rd.own_rd ho)
  have HFX := Lib.hid (own_fresh ho (X := X) (fun g hg => by have h1 := HX.out g hg; have h2 := B5.out.size; have h3 := HS.out.size; omega))
  clear hb ho HS
  refine ⟨HS2.out, ?_⟩
  refine reg_load 6 HTT.out rfl (by kernel_rfl) (by decide) (fun _ _ _ _ h => h) HS2.out rfl ?_
  apply Exists.intro
  refine ⟨fun w' hw => by (go_simp; exact rfl), ?_⟩
  have hlo := L5.out.later HS2.out
  obtain ⟨q1, q2⟩ := hlo.store (i := 5) (by omega) HRR.out (HL.out 5 (by omega)) HFX.out
  obtain ⟨Az, nz, cz, z0, _⟩ := hlo.at_ 5 (by omega)
  have zf := hlo.free 5 (by omega)
  have L6 := Lib.hid (q1.same (fun i hi => firstK_next L 5 i))
  have B6 := Lib.hid ((B5.out.trans (HS2.out.mono B5.out.size)).trans (fr_bel q2 (by have h1 := B5.out.size; have h2 := HS2.out.size; omega) hp1))
  clear hlo q1 q2 HRR HFX L5 B5
  refine reg_only 7 rfl (by kernel_rfl) rfl ?_
  unfold Oper.wp
  go_simp
  refine reg_done (by kernel_rfl) ?_
  clear z0 zf HS2 HTT
  generalize x5.setCell ⟨p', 5, none⟩ (.slice E5 n5 d5) = w60 at *
  go_wp2_with fail
  have hix6 : ∀ w : World, (Instr.index 78 (.agg #[.slice A0 n0 c0, .slice A1 n1 c1, .slice A2 n2 c2, .slice A3 n3 c3, .slice A4 n4 c4, .slice A5 n5 c5, .slice A6 n6 c6, .slice A7 n7 c7]) (.int .i64 6)).run Tryz.prog w = .ok (.slice A6 n6 c6) w := fun _ => by kernel_rfl
  rw [rounds_succ]
  go_wp2_with fail
  refine reg_start 7 (fun w' => Below w60.heap.size w60 w') (by kernel_rfl) (by kernel_rfl) ?_
  intro hTT
  have HTT := Lib.hid hTT
  have HS := Lib.hid (show Below w60.heap.size w60 w60.drew from (Below.refl _ _).drew)
  clear hTT hix6
  refine reg_load 0 HTT.out rfl (by kernel_rfl) (by decide) (fun _ _ _ _ h => h) HS.out rfl ?_
  apply Exists.intro
  refine ⟨fun w' hw => by (go_simp; exact rfl), ?_⟩
  refine reg_load 1 HTT.out rfl (by kernel_rfl) (by decide) (fun _ _ _ _ h => h) HS.out rfl ?_
  apply Exists.intro
  refine ⟨fun w' hw => by (go_simp; exact rfl), ?_⟩
  refine reg_load 2 HTT.out rfl (by kernel_rfl) (by decide) (fun _ _ _ _ h => h) HS.out rfl ?_
  apply Exists.intro
  refine ⟨fun w' hw => by (go_simp; exact rfl), ?_⟩
  refine reg_load 4 HTT.out rfl (by kernel_rfl) (by decide) (fun _ _ _ _ h => h) HS.out rfl ?_
  apply Exists.intro
  refine ⟨fun w' hw => by (go_simp; exact rfl), ?_⟩
  refine reg_load 5 HTT.out rfl (by kernel_rfl) (by decide) (fun _ _ _ _ h => h) HS.out rfl ?_
  apply Exists.intro
  refine ⟨fun w' hw => by (go_simp; exact rfl), ?_⟩
  refine reg_only 3 rfl (by kernel_rfl) rfl ?_
  unfold Oper.wp
  go_simp
  refine (Sl.clone_any A6 n6 c6 (L 6) w.heap.size _ (R6.out.below (B6.out.trans (HS.out.mono B6.out.size))) (by have h1 := B6.out.size; have h2 := HS.out.size; omega) (by omega)).mono ?_
  rintro e x6 ⟨E6, d6, rfl, ho, hb⟩
  have HS2 := Lib.hid (HS.out.trans (hb.mono HS.out.size))
  have HRR := Lib.hid (Rd.own_rd ho)
  have HFX := Lib.hid (own_fresh ho (X := X) (fun g hg => by have h1 := HX.out g hg; have h2 := B6.out.size; have h3 := HS.out.size; omega))
  clear hb ho HS
  refine ⟨HS2.out, ?_⟩
  refine reg_load 6 HTT.out rfl (by kernel_rfl) (by decide) (fun _ _ _ _ h => h) HS2.out rfl ?_
  apply Exists.intro
  refine ⟨fun w' hw => by (go_simp; exact rfl), ?_⟩
  have hlo := L6.out.later HS2.out
  obtain ⟨q1, q2⟩ := hlo.store (i := 6) (by omega) HRR.out (HL.out 6 (by omega)) HFX.out
  obtain ⟨Az, nz, cz, z0, _⟩ := hlo.at_ 6 (by omega)
  have zf := hlo.free 6 (by omega)
  have L7 := Lib.hid (q1.same (fun i hi => firstK_next L 6 i))
  have B7 := Lib.hid ((B6.out.trans (HS2.out.mono B6.out.size)).trans (fr_bel q2 (by have h1 := B6.out.size; have h2 := HS2.out.size; omega) hp1))
  clear hlo q1 q2 HRR HFX L6 B6
  refine reg_only 7 rfl (by kernel_rfl) rfl ?_
  unfold Oper.wp
  go_simp
  refine reg_done (by kernel_rfl) ?_
  clear z0 zf HS2 HTT
  generalize x6.setCell ⟨p', 6, none⟩ (.slice E6 n6 d6) = w70 at *
  go_wp2_with fail
  have hix7 : ∀ w : World, (Instr.index 78 (.agg #[.slice A0 n0 c0, .slice A1 n1 c1, .slice A2 n2 c2, .slice A3 n3 c3, .slice A4 n4 c4, .slice A5 n5 c5, .slice A6 n6 c6, .slice A7 n7 c7]) (.int .i64 7)).run Tryz.prog w = .ok (.slice A7 n7 c7) w := fun _ => by kernel_rfl
  rw [rounds_succ]
  go_wp2_with fail
  refine reg_start 7 (fun w' => Below w70.heap.size w70 w') (by kernel_rfl) (by kernel_rfl) ?_
  intro hTT
  have HTT := Lib.hid hTT
  have HS := Lib.hid (show Below w70.heap.size w70 w70.drew from (Below.refl _ _).drew)
  clear hTT hix7
  refine reg_load 0 HTT.out rfl (by kernel_rfl) (by decide) (fun _ _ _ _ h => h) HS.out rfl ?_
  apply Exists.intro
  refine ⟨fun w' hw => by (go_simp; exact rfl), ?_⟩
  refine reg_load 1 HTT.out rfl (by kernel_rfl) (by decide) (fun _ _ _ _ h => h) HS.out rfl ?_
  apply Exists.intro
  refine ⟨fun w' hw => by (go_simp; exact rfl), ?_⟩
  refine reg_load 2 HTT.out rfl (by kernel_rfl) (by decide) (fun _ _ _ _ h => h) HS.out rfl ?_
  apply Exists.intro
  refine ⟨fun w' hw => by (go_simp; exact rfl), ?_⟩
  refine reg_load 4 HTT.out rfl (by kernel_rfl) (by decide) (fun _ _ _ _ h => h) HS.out rfl ?_
  apply Exists.intro
  refine ⟨fun w' hw => by (go_simp; exact rfl), ?_⟩
  refine reg_load 5 HTT.out rfl (by kernel_rfl) (by decide) (fun _ _ _ _ h => h) HS.out rfl ?_
  apply Exists.intro
  refine ⟨fun w' hw => by (go_simp; exact rfl), ?_⟩
  refine reg_only 3 rfl (by kernel_rfl) rfl ?_
  unfold Oper.wp
  go_simp
  refine (Sl.clone_any A7 n7 c7 (L 7) w.heap.size _ (R7.out.below (B7.out.trans (HS.out.mono B7.out.size))) (by have h1 := B7.out.size; have h2 := HS.out.size; omega) (by omega)).mono ?_
  rintro e x7 ⟨E7, d7, rfl, ho, hb⟩
  have HS2 := Lib.hid (HS.out.trans (hb.mono HS.out.size))
  have HRR := Lib.hid (Rd.own_rd ho)
  have HFX := Lib.hid (own_fresh ho (X := X) (fun g hg => by have h1 := HX.out g hg; have h2 := B7.out.size; have h3 := HS.out.size; omega))
  clear hb ho HS
  refine ⟨HS2.out, ?_⟩
  refine reg_load 6 HTT.out rfl (by kernel_rfl) (by decide) (fun _ _ _ _ h => h) HS2.out rfl ?_
  apply Exists.intro
  refine ⟨fun w' hw => by (go_simp; exact rfl), ?_⟩
  have hlo := L7.out.later HS2.out
  obtain ⟨q1, q2⟩ := hlo.store (i := 7) (by omega) HRR.out (HL.out 7 (by omega)) HFX.out
  obtain ⟨Az, nz, cz, z0, _⟩ := hlo.at_ 7 (by omega)
  have zf := hlo.free 7 (by omega)
  have L8 := Lib.hid (q1.same (fun i hi => firstK_next L 7 i))
  have B8 := Lib.hid ((B7.out.trans (HS2.out.mono B7.out.size)).trans (fr_bel q2 (by have h1 := B7.out.size; have h2 := HS2.out.size; omega) hp1))
  clear hlo q1 q2 HRR HFX L7 B7
  refine reg_only 7 rfl (by kernel_rfl) rfl ?_
  unfold Oper.wp
  go_simp
  refine reg_done (by kernel_rfl) ?_
  clear z0 zf HS2 HTT
  generalize x7.setCell ⟨p', 7, none⟩ (.slice E7 n7 d7) = w80 at *
  go_wp2_with fail
  rw [rounds_succ]
  go_wp2_with fail
  go_ret
  exact ⟨p', rfl, L8.out.same (fun i hi => by simp [firstK, hi]), hp1, B8.out⟩
end Go.Proofs.YtbedboekfkobjaaGreatDoor.Lc
