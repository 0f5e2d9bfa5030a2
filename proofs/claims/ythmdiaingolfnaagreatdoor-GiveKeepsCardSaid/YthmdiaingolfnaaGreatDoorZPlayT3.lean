/- A part of the claim: the texts PlayT3. -/
import Derived.Test.YthmdiaingolfnaaGreatDoorZGTwo
import Derived.Deep.CutBlock
namespace Go.Proofs.YthmdiaingolfnaaGreatDoor.Wo
open Go Go.ChangeShapes Go.WideShapes Go.ChangeAt Go.RowKit Go.Maps Rw Hi Mt Ba
open Cn (Cf cfE)
set_option linter.unusedVariables false
section
variable (w : World) {base : Nat} {col : Nat → Nat} {x : Wp} {s : Ws} {d : Nat} {v : Dv} {y : Ay} {N : List Int} {k : Nat}
set_option maxRecDepth 100000 in
set_option maxHeartbeats 4000000 in
theorem playT5 (h : Tw base col w x v d s N) (hp : Pl s N k) (hk9 : k ≤ 900) (hN : N.length ≤ 900) (hy : y.ok) (hk : y.do_ % 8 = 5) : Plays w base col x s d y N := by
  unfold Plays
  rw [playS5 hk]
  have m0 : (y.do_ % 8 == 0) = false := by rw [hk]; rfl
  have m0t : ((y.do_).tmod 8 == 0) = false := by rw [Int.tmod_eq_emod_of_nonneg hy.d.1, hk]; rfl
  have m1 : (y.do_ % 8 == 1) = false := by rw [hk]; rfl
  have m1t : ((y.do_).tmod 8 == 1) = false := by rw [Int.tmod_eq_emod_of_nonneg hy.d.1, hk]; rfl
  have m2 : (y.do_ % 8 == 2) = false := by rw [hk]; rfl
  have m2t : ((y.do_).tmod 8 == 2) = false := by rw [Int.tmod_eq_emod_of_nonneg hy.d.1, hk]; rfl
  have m3 : (y.do_ % 8 == 3) = false := by rw [hk]; rfl
  have m3t : ((y.do_).tmod 8 == 3) = false := by rw [Int.tmod_eq_emod_of_nonneg hy.d.1, hk]; rfl
  have m4 : (y.do_ % 8 == 4) = false := by rw [hk]; rfl
  have m4t : ((y.do_).tmod 8 == 4) = false := by rw [Int.tmod_eq_emod_of_nonneg hy.d.1, hk]; rfl
  have m5 : (y.do_ % 8 == 5) = true := by rw [hk]; rfl
  have m5t : ((y.do_).tmod 8 == 5) = true := by rw [Int.tmod_eq_emod_of_nonneg hy.d.1, hk]; rfl
  obtain ⟨s4, hs4⟩ : ∃ s4 : Ws, ({ s with L := bLs s.L y.id y.th s.now, T := Le.bT s.leak s.L s.T y.id y.th s.now } : Ws) = s4 := ⟨_, rfl⟩
  have hdl := hp.dl
  have hsl := hp.sl
  have hll := hp.ll
  have htl := hp.tl
  obtain ⟨b0, hb0⟩ : ∃ b : Int, Le.bE s.L y.id y.th = b := ⟨_, rfl⟩
  have HDC := Lib.hid (show ∀ (K : Nat → Prop) W, Dw K W v s N → (∀ g, W.heap.size ≤ g → K g) → Calls Tryz.prog 52 #[v.val s, .int .u64 y.id, .int .i64 y.th] W fun e w' => ∃ v' : Dv, e = .returned (.tuple #[v'.val s4, .int .i64 b0]) ∧ Dw K w' v' s4 N ∧ Below W.heap.size W w' from fun K W hd hK => by
    refine (dlease_any W v s N hd hK y.id y.th hp.sd h.wv.book.wheel.tms hy.i hp.nw hp.lk (by omega) (by omega) (by omega)).mono ?_
    rintro e w' ⟨v', D', rfl, h1, h2, h3, h4⟩
    obtain rfl := bLs_eq hp.sd h2 h3
    rw [hs4] at h1 ⊢
    rw [hb0]
    exact ⟨v', rfl, h1, h4⟩)
  have HPC := Lib.hid (show ∀ W, Wv base col W x s → Calls Tryz.prog 53 #[ptr x.pw, .int .u64 y.id, .int .i64 y.th] W fun e w' => e = .returned (.int .i64 b0) ∧ ∃ col', Wv base col' w' x s4 ∧ Fw col W w' ∧ El W col col' from fun W hw => by
    refine (wlease_any W N hw hp.mk_ y.id y.th hy.i hp.nw hp.lk (by omega) (by omega)).mono ?_
    rintro e w' ⟨rfl, h1, h2⟩
    have h3 := h1.permL (bLs_perm hp.sd y.id y.th s.now)
    rw [← hs4, ← hb0]
    exact ⟨rfl, col, h3, h2, El.refl _ _⟩)
  rw [hs4]
  have HT := Lib.hid h
  have HYC := Lib.hid (Yc.new w y)
  have HB0 : Hid (Below w.heap.size w (w.alloc (.cells #[.int .u8 y.do_, .int .u64 y.id, .int .u64 y.n, .int .i64 y.th, .int .i64 y.st] 37))) := Lib.hid ((Below.refl _ _).alloc (Nat.le_refl _) _)
  clear hb0
  clear hk hy h hp hs4 hdl hsl hll htl
  go_enter Tryz.func11, Tryz.ntmps11
  go_upto_region 1 with (fail)
  generalize (w.alloc (.cells #[.int .u8 y.do_, .int .u64 y.id, .int .u64 y.n, .int .i64 y.th, .int .i64 y.st] 37)) = W1 at *
  have HW1 := Lib.hid (HT.out.wv.later HB0.out)
  have HV1 := Lib.hid (HT.out.vw.later HB0.out)
  have HD1 := Lib.hid (HT.out.dw.later HB0.out)
  obtain ⟨q, hq⟩ : ∃ q, w.heap.size = q := ⟨_, rfl⟩
  have hqd : q ≠ d := fun e => by have := HT.out.vw.lt; omega
  have hsq : w.heap.size ≤ q := by omega
  rw [hq] at HYC
  rw [hq]
  obtain ⟨z0, z1, z2, z3, z4⟩ := HYC.out
  have HQD := Lib.hid hqd
  have HCQ : Hid (col q = 0) := Lib.hid (Classical.byContradiction fun e => by have := HT.out.wv.hi q e; omega)
  clear hq hqd
  go_wp2_with fail
  have hb0 : Below W1.heap.size W1 W1.drew := (Below.refl _ _).drew
  have HS : Hid (Vw W1.drew d (v.cells s) ∧ W1.drew.cell? ⟨q, 1, none⟩ = some (.int .u64 y.id) ∧ W1.drew.cell? ⟨q, 3, none⟩ = some (.int .i64 y.th)) := Lib.hid ⟨HV1.out.later hb0, (hb0.cell (p := ⟨q, 1, none⟩) HYC.out.lt).trans HYC.out.z1, (hb0.cell (p := ⟨q, 3, none⟩) HYC.out.lt).trans HYC.out.z3⟩
  clear z0 z1 z2 z3 z4
  refine reg_start 14 (fun w' => Vw w' d (v.cells s) ∧ w'.cell? ⟨q, 1, none⟩ = some (.int .u64 y.id) ∧ w'.cell? ⟨q, 3, none⟩ = some (.int .i64 y.th)) (by kernel_rfl) (by kernel_rfl) ?_
  intro hTT
  have HTT := Lib.hid hTT
  clear hTT
  refine reg_load 0 HTT.out rfl (by kernel_rfl) (by decide) (fun _ _ _ _ h => h) HS.out rfl ?_
  apply Exists.intro
  refine ⟨fun w' hw => by (go_simp; exact rfl), ?_⟩
  refine reg_load 1 HTT.out rfl (by kernel_rfl) (by decide) (fun _ _ _ _ h => h) HS.out rfl ?_
  apply Exists.intro
  refine ⟨fun w' hw => by (go_simp; exact rfl), ?_⟩
  refine reg_load 2 HTT.out rfl (by kernel_rfl) (by decide) (fun _ _ _ _ h => h) HS.out rfl ?_
  apply Exists.intro
  refine ⟨fun w' hw => exec_load_w _ _ _ rfl rfl hw.1, ?_⟩
  refine reg_load 3 HTT.out rfl (by kernel_rfl) (by decide) (fun _ _ _ _ h => h) HS.out rfl ?_
  apply Exists.intro
  refine ⟨fun w' hw => by (go_simp; exact rfl), ?_⟩
  refine reg_load 4 HTT.out rfl (by kernel_rfl) (by decide) (fun _ _ _ _ h => h) HS.out rfl ?_
  apply Exists.intro
  refine ⟨fun w' hw => by (have kz := hw.2.1; go_simp; exact rfl), ?_⟩
  refine reg_load 5 HTT.out rfl (by kernel_rfl) (by decide) (fun _ _ _ _ h => h) HS.out rfl ?_
  apply Exists.intro
  refine ⟨fun w' hw => by (go_simp; exact rfl), ?_⟩
  refine reg_load 6 HTT.out rfl (by kernel_rfl) (by decide) (fun _ _ _ _ h => h) HS.out rfl ?_
  apply Exists.intro
  refine ⟨fun w' hw => by (have kz := hw.2.2; go_simp; exact rfl), ?_⟩
  refine reg_two 7 11 rfl rfl (by kernel_rfl) rfl rfl ?_ ?_
  · as_aux_lemma =>
      unfold Oper.wp
      go_simp
      refine (HDC.out (Kc col) _ (HD1.out.later hb0) (fun g hg => HW1.out.new0 g hg)).mono ?_
      rintro e w3 ⟨v', rfl, hd3, b3⟩
      have hb3 : Below W1.heap.size W1 w3 := hb0.trans (b3.mono (Nat.le_refl _))
      clear HS
      have HS : Hid (Vw w3 d (v.cells s) ∧ w3.cell? ⟨q, 1, none⟩ = some (.int .u64 y.id) ∧ w3.cell? ⟨q, 3, none⟩ = some (.int .i64 y.th)) := Lib.hid ⟨HV1.out.later hb3, (hb3.cell (p := ⟨q, 1, none⟩) HYC.out.lt).trans HYC.out.z1, (hb3.cell (p := ⟨q, 3, none⟩) HYC.out.lt).trans HYC.out.z3⟩
      refine ⟨HS.out, ?_⟩
      have HD3 := Lib.hid hd3
      clear hd3 b3
      refine reg_load 8 HTT.out rfl (by kernel_rfl) (by decide) (fun _ _ _ _ h => h) HS.out rfl ?_
      apply Exists.intro
      refine ⟨fun w' hw => by (go_simp; exact rfl), ?_⟩
      refine reg_load 9 HTT.out rfl (by kernel_rfl) (by decide) (fun _ _ _ _ h => h) HS.out rfl ?_
      apply Exists.intro
      refine ⟨fun w' hw => by (go_simp; exact rfl), ?_⟩
      refine reg_load 10 HTT.out rfl (by kernel_rfl) (by decide) (fun _ _ _ _ h => h) HS.out rfl ?_
      apply Exists.intro
      refine ⟨fun w' hw => by (go_simp; exact rfl), ?_⟩
      refine reg_only 11 rfl (by kernel_rfl) rfl ?_
      unfold Oper.wp
      go_simp
      have hb4 : Below w3.heap.size w3 (w3.alloc (.cells #[.int .i64 0, .int .i64 0, .int .u64 0, .int .u64 0, .int .u64 0, .int .u64 0, .float .f64 0, .int .u64 0, .slice none 0 0, .slice none 0 0, .slice none 0 0, .slice none 0 0, .int .u64 0, .slice none 0 0, .slice none 0 0, .slice none 0 0, .slice none 0 0, .slice none 0 0, .slice none 0 0, .int .u64 0, .slice none 0 0, .int .i64 0, .bool false] 69)) := (Below.refl _ _).alloc (Nat.le_refl _) _
      have hb5 : Below W1.heap.size W1 (w3.alloc (.cells #[.int .i64 0, .int .i64 0, .int .u64 0, .int .u64 0, .int .u64 0, .int .u64 0, .float .f64 0, .int .u64 0, .slice none 0 0, .slice none 0 0, .slice none 0 0, .slice none 0 0, .int .u64 0, .slice none 0 0, .slice none 0 0, .slice none 0 0, .slice none 0 0, .slice none 0 0, .slice none 0 0, .int .u64 0, .slice none 0 0, .int .i64 0, .bool false] 69)) := hb3.trans (hb4.mono hb3.size)
      clear HS
      have HS : Hid (Vw (w3.alloc (.cells #[.int .i64 0, .int .i64 0, .int .u64 0, .int .u64 0, .int .u64 0, .int .u64 0, .float .f64 0, .int .u64 0, .slice none 0 0, .slice none 0 0, .slice none 0 0, .slice none 0 0, .int .u64 0, .slice none 0 0, .slice none 0 0, .slice none 0 0, .slice none 0 0, .slice none 0 0, .slice none 0 0, .int .u64 0, .slice none 0 0, .int .i64 0, .bool false] 69)) d (v.cells s) ∧ (w3.alloc (.cells #[.int .i64 0, .int .i64 0, .int .u64 0, .int .u64 0, .int .u64 0, .int .u64 0, .float .f64 0, .int .u64 0, .slice none 0 0, .slice none 0 0, .slice none 0 0, .slice none 0 0, .int .u64 0, .slice none 0 0, .slice none 0 0, .slice none 0 0, .slice none 0 0, .slice none 0 0, .slice none 0 0, .int .u64 0, .slice none 0 0, .int .i64 0, .bool false] 69)).cell? ⟨q, 1, none⟩ = some (.int .u64 y.id) ∧ (w3.alloc (.cells #[.int .i64 0, .int .i64 0, .int .u64 0, .int .u64 0, .int .u64 0, .int .u64 0, .float .f64 0, .int .u64 0, .slice none 0 0, .slice none 0 0, .slice none 0 0, .slice none 0 0, .int .u64 0, .slice none 0 0, .slice none 0 0, .slice none 0 0, .slice none 0 0, .slice none 0 0, .slice none 0 0, .int .u64 0, .slice none 0 0, .int .i64 0, .bool false] 69)).cell? ⟨q, 3, none⟩ = some (.int .i64 y.th)) := Lib.hid ⟨HV1.out.later hb5, (hb5.cell (p := ⟨q, 1, none⟩) HYC.out.lt).trans HYC.out.z1, (hb5.cell (p := ⟨q, 3, none⟩) HYC.out.lt).trans HYC.out.z3⟩
      refine ⟨HS.out, ?_⟩
      refine reg_only 12 rfl (by kernel_rfl) rfl ?_
      refine wp_store_w _ _ rfl w3.heap.size rfl v' s4 rfl (th_zero w3) ?_
      intro w4 hv4 hz4
      have hb6 : Below w3.heap.size w3 w4 := hb4.trans (hz4.below hb4.size (fun k hk => by omega))
      have hb7 : Below W1.heap.size W1 w4 := hb3.trans (hb6.mono hb3.size)
      clear HS
      have HS : Hid (Vw w4 d (v.cells s) ∧ w4.cell? ⟨q, 1, none⟩ = some (.int .u64 y.id) ∧ w4.cell? ⟨q, 3, none⟩ = some (.int .i64 y.th)) := Lib.hid ⟨HV1.out.later hb7, (hb7.cell (p := ⟨q, 1, none⟩) HYC.out.lt).trans HYC.out.z1, (hb7.cell (p := ⟨q, 3, none⟩) HYC.out.lt).trans HYC.out.z3⟩
      refine ⟨fun _ => HS.out, ?_⟩
      have HV4 := Lib.hid hv4
      have HD4 := Lib.hid (HD3.out.later hb6)
      have HB4 := Lib.hid hb7
      have HW4 := Lib.hid (HW1.out.later hb7)
      clear hv4 hz4 hb0 hb3 hb4 hb5 hb6 hb7 HD3
      obtain ⟨g, hg⟩ : ∃ g, w3.heap.size = g := ⟨_, rfl⟩
      rw [hg] at HV4
      rw [hg]
      clear hg
      refine reg_load 13 HTT.out rfl (by kernel_rfl) (by decide) (fun _ _ _ _ h => h) HS.out rfl ?_
      apply Exists.intro
      refine ⟨fun w' hw => by (go_simp; exact rfl), ?_⟩
      refine reg_done (by kernel_rfl) ?_
      have HVD4 := Lib.hid HS.out.1
      have HT4 := Lib.hid HS.out.1.th
      have HY4 := Lib.hid (HYC.out.later HB4.out)
      obtain ⟨z0, z1, z2, z3, z4⟩ := HY4.out
      clear HS HDC
      go_wp2_with (first
        | (refine load_w rfl _ rfl g rfl v' s4 HV4.out ?_)
        | (refine store_w rfl _ _ rfl d rfl v' s4 rfl HT4.out ?_; intro w5 hv5 hz5; have HV5 := Lib.hid hv5; have HZ5 := Lib.hid hz5; have HY5 := Lib.hid (HY4.out.blk (hz5.block q HY4.out.lt HQD.out)); clear hv5 hz5 z0 z1 z2 z3 z4; obtain ⟨z0, z1, z2, z3, z4⟩ := HY5.out))
      have HW5 : Hid (Wv base col w5 x s) := Lib.hid (HW4.out.aside HZ5.out (fun g _ e => e ▸ HT.out.c8))
      have HD5 : Hid (Dw (Kc col) w5 v' s4 N) := Lib.hid (HD4.out.at_ HT.out.c8 HZ5.out)
      refine (HPC.out w5 HW5.out).mono ?_
      rintro e w6 ⟨rfl, col6, h6, hz6, hl6⟩
      have HW6 := Lib.hid h6
      have HZ6 := Lib.hid hz6
      have HL6 := Lib.hid hl6
      clear h6 hz6 hl6 HPC
      go_wp2_with fail
      go_ret
      have hs1 := HB0.out.size
      have hs4 := HB4.out.size
      have hs5 := HZ5.out.size
      have hc6 : col6 d = 8 := (HL6.out d HV5.out.lt).trans HT.out.c8
      refine ⟨by simp, col6, v', ⟨HW6.out, HD5.out.call HZ6.out HL6.out, HV5.out.blk (HZ6.out.block d HV5.out.lt (fun e => e.2 HT.out.c8)), hc6⟩, ?_, fun k hk => HL6.out k (by omega)⟩
      exact (Fz.of_below HB0.out).trans ((Fz.of_below HB4.out).trans ((fp_d HZ5.out).trans (fp_w HZ6.out)))
  · as_aux_lemma =>
      unfold Oper.wp
      go_simp
      have hb4 : Below W1.drew.heap.size W1.drew (W1.drew.alloc (.cells #[.int .i64 0, .int .i64 0, .int .u64 0, .int .u64 0, .int .u64 0, .int .u64 0, .float .f64 0, .int .u64 0, .slice none 0 0, .slice none 0 0, .slice none 0 0, .slice none 0 0, .int .u64 0, .slice none 0 0, .slice none 0 0, .slice none 0 0, .slice none 0 0, .slice none 0 0, .slice none 0 0, .int .u64 0, .slice none 0 0, .int .i64 0, .bool false] 69)) := (Below.refl _ _).alloc (Nat.le_refl _) _
      have hb5 : Below W1.heap.size W1 (W1.drew.alloc (.cells #[.int .i64 0, .int .i64 0, .int .u64 0, .int .u64 0, .int .u64 0, .int .u64 0, .float .f64 0, .int .u64 0, .slice none 0 0, .slice none 0 0, .slice none 0 0, .slice none 0 0, .int .u64 0, .slice none 0 0, .slice none 0 0, .slice none 0 0, .slice none 0 0, .slice none 0 0, .slice none 0 0, .int .u64 0, .slice none 0 0, .int .i64 0, .bool false] 69)) := hb0.trans (hb4.mono (Nat.le_refl _))
      clear HS
      have HS : Hid (Vw (W1.drew.alloc (.cells #[.int .i64 0, .int .i64 0, .int .u64 0, .int .u64 0, .int .u64 0, .int .u64 0, .float .f64 0, .int .u64 0, .slice none 0 0, .slice none 0 0, .slice none 0 0, .slice none 0 0, .int .u64 0, .slice none 0 0, .slice none 0 0, .slice none 0 0, .slice none 0 0, .slice none 0 0, .slice none 0 0, .int .u64 0, .slice none 0 0, .int .i64 0, .bool false] 69)) d (v.cells s) ∧ (W1.drew.alloc (.cells #[.int .i64 0, .int .i64 0, .int .u64 0, .int .u64 0, .int .u64 0, .int .u64 0, .float .f64 0, .int .u64 0, .slice none 0 0, .slice none 0 0, .slice none 0 0, .slice none 0 0, .int .u64 0, .slice none 0 0, .slice none 0 0, .slice none 0 0, .slice none 0 0, .slice none 0 0, .slice none 0 0, .int .u64 0, .slice none 0 0, .int .i64 0, .bool false] 69)).cell? ⟨q, 1, none⟩ = some (.int .u64 y.id) ∧ (W1.drew.alloc (.cells #[.int .i64 0, .int .i64 0, .int .u64 0, .int .u64 0, .int .u64 0, .int .u64 0, .float .f64 0, .int .u64 0, .slice none 0 0, .slice none 0 0, .slice none 0 0, .slice none 0 0, .int .u64 0, .slice none 0 0, .slice none 0 0, .slice none 0 0, .slice none 0 0, .slice none 0 0, .slice none 0 0, .int .u64 0, .slice none 0 0, .int .i64 0, .bool false] 69)).cell? ⟨q, 3, none⟩ = some (.int .i64 y.th)) := Lib.hid ⟨HV1.out.later hb5, (hb5.cell (p := ⟨q, 1, none⟩) HYC.out.lt).trans HYC.out.z1, (hb5.cell (p := ⟨q, 3, none⟩) HYC.out.lt).trans HYC.out.z3⟩
      refine ⟨HS.out, ?_⟩
      have hsz5 : (W1.drew.alloc (.cells #[.int .i64 0, .int .i64 0, .int .u64 0, .int .u64 0, .int .u64 0, .int .u64 0, .float .f64 0, .int .u64 0, .slice none 0 0, .slice none 0 0, .slice none 0 0, .slice none 0 0, .int .u64 0, .slice none 0 0, .slice none 0 0, .slice none 0 0, .slice none 0 0, .slice none 0 0, .slice none 0 0, .int .u64 0, .slice none 0 0, .int .i64 0, .bool false] 69)).heap.size = W1.heap.size + 1 := by simp
      refine reg_only 7 rfl (by kernel_rfl) rfl ?_
      unfold Oper.wp
      go_simp
      refine (HDC.out (fun k => Kc col k ∧ k ≠ W1.heap.size) _ ((HD1.out.mono (fun k hk e => ⟨e, by omega⟩)).later hb5) (fun k hk => ⟨HW1.out.new0 k (by have := hb5.size; omega), by rw [hsz5] at hk; omega⟩)).mono ?_
      rintro e w3 ⟨v', rfl, hd3, b3⟩
      have hb3 : Below W1.heap.size W1 w3 := hb5.trans (b3.mono hb5.size)
      have ht3 := th_later (th_zero W1.drew) b3
      clear HS
      have HS : Hid (Vw w3 d (v.cells s) ∧ w3.cell? ⟨q, 1, none⟩ = some (.int .u64 y.id) ∧ w3.cell? ⟨q, 3, none⟩ = some (.int .i64 y.th)) := Lib.hid ⟨HV1.out.later hb3, (hb3.cell (p := ⟨q, 1, none⟩) HYC.out.lt).trans HYC.out.z1, (hb3.cell (p := ⟨q, 3, none⟩) HYC.out.lt).trans HYC.out.z3⟩
      refine ⟨HS.out, ?_⟩
      have HD3 := Lib.hid hd3
      clear hd3 b3
      refine reg_load 8 HTT.out rfl (by kernel_rfl) (by decide) (fun _ _ _ _ h => h) HS.out rfl ?_
      apply Exists.intro
      refine ⟨fun w' hw => by (go_simp; exact rfl), ?_⟩
      refine reg_load 9 HTT.out rfl (by kernel_rfl) (by decide) (fun _ _ _ _ h => h) HS.out rfl ?_
      apply Exists.intro
      refine ⟨fun w' hw => by (go_simp; exact rfl), ?_⟩
      refine reg_load 10 HTT.out rfl (by kernel_rfl) (by decide) (fun _ _ _ _ h => h) HS.out rfl ?_
      apply Exists.intro
      refine ⟨fun w' hw => by (go_simp; exact rfl), ?_⟩
      refine reg_only 12 rfl (by kernel_rfl) rfl ?_
      refine wp_store_w _ _ rfl W1.heap.size rfl v' s4 rfl ht3 ?_
      intro w4 hv4 hz4
      have hb7 : Below W1.heap.size W1 w4 := hb3.trans (hz4.below hb3.size (fun k hk => by omega))
      clear HS
      have HS : Hid (Vw w4 d (v.cells s) ∧ w4.cell? ⟨q, 1, none⟩ = some (.int .u64 y.id) ∧ w4.cell? ⟨q, 3, none⟩ = some (.int .i64 y.th)) := Lib.hid ⟨HV1.out.later hb7, (hb7.cell (p := ⟨q, 1, none⟩) HYC.out.lt).trans HYC.out.z1, (hb7.cell (p := ⟨q, 3, none⟩) HYC.out.lt).trans HYC.out.z3⟩
      refine ⟨fun _ => HS.out, ?_⟩
      have HV4 := Lib.hid hv4
      have HD4 : Hid (Dw (Kc col) w4 v' s4 N) := Lib.hid ((HD3.out.fz hz4 (fun k hk e e2 => e.2 e2)).mono (fun k hk e => e.1))
      have HB4 := Lib.hid hb7
      have HW4 := Lib.hid (HW1.out.later hb7)
      clear hv4 hz4 hb0 hb3 hb4 hb5 hb7 HD3 ht3
      obtain ⟨g, hg⟩ : ∃ g, W1.heap.size = g := ⟨_, rfl⟩
      rw [hg] at HV4
      rw [hg]
      clear hg
      refine reg_load 13 HTT.out rfl (by kernel_rfl) (by decide) (fun _ _ _ _ h => h) HS.out rfl ?_
      apply Exists.intro
      refine ⟨fun w' hw => by (go_simp; exact rfl), ?_⟩
      refine reg_done (by kernel_rfl) ?_
      have HVD4 := Lib.hid HS.out.1
      have HT4 := Lib.hid HS.out.1.th
      have HY4 := Lib.hid (HYC.out.later HB4.out)
      obtain ⟨z0, z1, z2, z3, z4⟩ := HY4.out
      clear HS HDC
      go_wp2_with (first
        | (refine load_w rfl _ rfl g rfl v' s4 HV4.out ?_)
        | (refine store_w rfl _ _ rfl d rfl v' s4 rfl HT4.out ?_; intro w5 hv5 hz5; have HV5 := Lib.hid hv5; have HZ5 := Lib.hid hz5; have HY5 := Lib.hid (HY4.out.blk (hz5.block q HY4.out.lt HQD.out)); clear hv5 hz5 z0 z1 z2 z3 z4; obtain ⟨z0, z1, z2, z3, z4⟩ := HY5.out))
      have HW5 : Hid (Wv base col w5 x s) := Lib.hid (HW4.out.aside HZ5.out (fun g _ e => e ▸ HT.out.c8))
      have HD5 : Hid (Dw (Kc col) w5 v' s4 N) := Lib.hid (HD4.out.at_ HT.out.c8 HZ5.out)
      refine (HPC.out w5 HW5.out).mono ?_
      rintro e w6 ⟨rfl, col6, h6, hz6, hl6⟩
      have HW6 := Lib.hid h6
      have HZ6 := Lib.hid hz6
      have HL6 := Lib.hid hl6
      clear h6 hz6 hl6 HPC
      go_wp2_with fail
      go_ret
      have hs1 := HB0.out.size
      have hs4 := HB4.out.size
      have hs5 := HZ5.out.size
      have hc6 : col6 d = 8 := (HL6.out d HV5.out.lt).trans HT.out.c8
      refine ⟨by simp, col6, v', ⟨HW6.out, HD5.out.call HZ6.out HL6.out, HV5.out.blk (HZ6.out.block d HV5.out.lt (fun e => e.2 HT.out.c8)), hc6⟩, ?_, fun k hk => HL6.out k (by omega)⟩
      exact (Fz.of_below HB0.out).trans ((Fz.of_below HB4.out).trans ((fp_d HZ5.out).trans (fp_w HZ6.out)))
end
end Go.Proofs.YthmdiaingolfnaaGreatDoor.Wo
