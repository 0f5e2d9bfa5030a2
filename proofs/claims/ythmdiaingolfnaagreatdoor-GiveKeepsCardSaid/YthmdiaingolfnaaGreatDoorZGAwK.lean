/- A part of the claim: the texts Awake16 BoundsKit. -/
import Derived.Test.YthmdiaingolfnaaGreatDoorZGWorld
import Derived.Test.YthmdiaingolfnaaGreatDoorZGWorldC
import Derived.Test.YthmdiaingolfnaaGreatDoorZGDocW
import Derived.Test.YthmdiaingolfnaaGreatDoorZGMisc
namespace Go.Proofs.YthmdiaingolfnaaGreatDoor.Wo
open Go Go.ChangeShapes Go.WideShapes Go.ChangeAt Go.RowKit Go.Maps Rw Hi Mt Ba
open Cn (Cf cfE)
set_option linter.unusedVariables false
set_option maxRecDepth 100000 in
theorem awake16_any (w : World) (hT : Tb.Tabs w) :
    Calls Tryz.prog 5 #[] w fun e w' => e = .returned (.bool true) ∧ Below w.heap.size w w' := by
  have HT := Lib.hid hT
  have HN := Lib.hid (new_ok ⟨1, 0, 0, 0, 0, 0, 0⟩ ⟨by decide, by decide, by decide, by decide, by decide⟩ (by decide +kernel) none none 0 0 0 0 0 0 [] [] w Rd.nil_ Rd.nil_ (Nat.zero_le _) (Nat.zero_le _) (by decide) (by decide))
  clear hT
  go_enter Tryz.func5, Tryz.ntmps5
  go_wp2_with fail
  refine HN.out.mono ?_
  rintro e w1 ⟨x, col, rfl, h1, b1⟩
  have H1 := Lib.hid h1
  have B1 := Lib.hid b1
  clear h1 b1 HN
  go_wp2_with fail
  refine (Ba.Awake15_any _ (HT.out.below B1.out)).mono ?_
  rintro e w2 ⟨rfl, b2⟩
  have H2 := Lib.hid (H1.out.later b2)
  have B2 := Lib.hid (B1.out.trans (b2.mono B1.out.size))
  clear b2 H1
  go_wp2_with fail
  refine (grow_any w2 H2.out (by decide) (by decide)).mono ?_
  rintro e w3 ⟨rfl, h3, z3⟩
  have H3 := Lib.hid h3
  have B3 := Lib.hid (B2.out.trans (z3.below B2.out.size (fun g hg => H2.out.lo g (by omega))))
  clear h3 z3
  go_wp2_with fail
  refine (grow_any w3 H3.out (by decide) (by decide)).mono ?_
  rintro e w4 ⟨rfl, h4, z4⟩
  have B4 := Lib.hid (B3.out.trans (z4.below B3.out.size (fun g hg => H2.out.lo g (by omega))))
  clear h4 z4
  go_wp2_with fail
  go_ret
  exact ⟨rfl, B4.out⟩
theorem Awake16_any (w : World) (hT : Tb.Tabs w) :
    Calls Tryz.prog 64 #[] w fun e w' => e = .returned (.bool true) ∧ Below w.heap.size w w' := by
  go_enter Tryz.func64, Tryz.ntmps64
  go_wp2_with fail
  refine (awake16_any w hT).mono ?_
  rintro e w1 ⟨rfl, h1⟩
  go_wp2_with fail
  go_ret
  exact ⟨rfl, h1⟩
end Go.Proofs.YthmdiaingolfnaaGreatDoor.Wo
namespace Go.Proofs.YthmdiaingolfnaaGreatDoor.Wo
open Go Go.ChangeShapes Go.WideShapes Go.ChangeAt Go.RowKit Go.Maps Rw Hi Mt Ba
open Cn (Cf cfE)
set_option linter.unusedVariables false
def encY (a : Ay) : List Value := [.int .u8 a.do_, .int .u64 a.id, .int .u64 a.n, .int .i64 a.th, .int .i64 a.st]
theorem encY_len (a : Ay) : (encY a).length = 5 := rfl
theorem actY_at {w : World} {B : Nat} {A : Option Addr} {n c : Nat} {xs : List Ay} (h : Rs encY 5 w B A n c xs) {k : Nat} (hk : k < n) :
    ∃ b o x, A = some ⟨b, o, none⟩ ∧ b < B ∧ xs[k]? = some x ∧ w.cell? ⟨b, o + k * 5, none⟩ = some (.int .u8 x.do_) ∧ w.cell? ⟨b, o + k * 5 + 1, none⟩ = some (.int .u64 x.id) ∧ w.cell? ⟨b, o + k * 5 + 2, none⟩ = some (.int .u64 x.n) ∧ w.cell? ⟨b, o + k * 5 + 3, none⟩ = some (.int .i64 x.th) ∧ w.cell? ⟨b, o + k * 5 + 4, none⟩ = some (.int .i64 x.st) := by
  obtain ⟨b, o, x, hA, hb, hx, hc⟩ := h.get hk
  exact ⟨b, o, x, hA, hb, hx, hc 0 _ (by omega) rfl, hc 1 _ (by omega) rfl, hc 2 _ (by omega) rfl, hc 3 _ (by omega) rfl, hc 4 _ (by omega) rfl⟩
abbrev ccs (c : Cf) : List Value := [.int .i64 c.max, .int .i64 c.min, .int .u64 c.idle, .int .u64 c.life, .int .u64 c.keep, .int .u64 c.leak, .float .f64 c.var]
theorem th_conf (w : World) : (w.alloc (.cells #[.int .i64 0, .int .i64 0, .int .u64 0, .int .u64 0, .int .u64 0, .int .u64 0, .float .f64 0] 30)).there w.heap.size 0 7 := by
  have h1 : (w.alloc (.cells #[.int .i64 0, .int .i64 0, .int .u64 0, .int .u64 0, .int .u64 0, .int .u64 0, .float .f64 0] 30)).heap[w.heap.size]? = some (.cells #[.int .i64 0, .int .i64 0, .int .u64 0, .int .u64 0, .int .u64 0, .int .u64 0, .float .f64 0] 30) := heap_alloc_last _ _
  intro j hj
  refine ⟨?_, ?_⟩
  · rw [cell_of_row _ _ _ _ _ _ h1]; simp; omega
  · unfold World.frozen?; simp only [h1]; rfl
section
variable {ops : Array Oper} {rest : List Oper} {op : Oper} {a : Act} {w : World} {Q : Exit → Act → World → Prop}
theorem load_c (hgd : op.guard = none) (y : Operand) (ho : op.op = .load 30 y) (g : Nat) (hx : a.eval y = .pointer (some ⟨g, 0, none⟩)) (c : Cf) (hv : w.rangeAt g 0 (ccs c))
    (h : wpList Tryz.prog ops Q rest (a.put op.dst c.v) w) : wpList Tryz.prog ops Q (op :: rest) a w :=
  wpList_load_mid hgd 30 y ho g 0 hx _ _ hv Cn.under_c Cn.row_c (by kernel_rfl) h
end
def zs : Ws := ⟨⟨0, 0, 0, 0, 0, 0, 0⟩, 0, [], [], fun _ => [], [], 0, [], [], [], [], [], 0, [], 0, [], 0, false⟩
theorem hr3lt {w : World} {g : Nat} {c : Cf} (h : w.rangeAt g 0 (ccs c)) : g < w.heap.size := by
  have := h 0 _ rfl
  exact Lw.lt_heap this
theorem Wo.v {base : Nat} {col : Nat → Nat} {w : World} {x : Wp} {s : Ws} (h : Wo base col w x s) : ∃ col', Wv base col' w x s := by
  obtain ⟨col', hcol⟩ : ∃ col' : Nat → Nat, col' = fun g => if g < w.heap.size then col g else 0 := ⟨_, rfl⟩
  have e1 : ∀ g, g < w.heap.size → col' g = col g := fun g hg => by rw [hcol]; exact if_pos hg
  have e3 : ∀ g, w.heap.size ≤ g → col' g = 0 := fun g hg => by rw [hcol]; show (if g < w.heap.size then col g else 0) = 0; rw [if_neg (by omega)]
  refine ⟨col', x.rs, x.rh, h.recol e1 (fun g hg => ?_), fun g hg => ?_⟩
  · by_cases h3 : g < w.heap.size
    · exact h.lo g (by rw [← e1 g h3]; exact hg)
    · exact absurd (e3 g (by omega)) hg
  · by_cases h3 : g < w.heap.size
    · exact h3
    · exact absurd (e3 g (by omega)) hg
section
variable {W w w' : World} {bs : Nat} {x : Wp} {c : Cf} {cb : Nat} {col col' : Nat → Nat} {s s' : Ws} {N N' : List Int} {k k' : Nat}
theorem Yc.fw {q : Nat} {y : Ay} (h : Yc w q y) (hc : col q = 0) (hz : Fw col w w') : Yc w' q y := h.blk (hz.block q h.lt (fun e => e.1 hc))
end
theorem Wv.cin {base : Nat} {col : Nat → Nat} {w : World} {x : Wp} {s : Ws} (h : Wv base col w x s) : ∀ i ∈ s.C, i ≤ s.n := fun i hi => (h.fact.mem i hi).2
end Go.Proofs.YthmdiaingolfnaaGreatDoor.Wo
namespace Go.Proofs.YthmdiaingolfnaaGreatDoor.Wo
open Go Go.ChangeShapes Go.WideShapes Go.ChangeAt Go.RowKit Go.Maps Rw Hi Mt Ba
open Cn (Cf cfE)
set_option linter.unusedVariables false
set_option maxRecDepth 100000 in
set_option maxHeartbeats 4000000 in
theorem new_ok2 (R base' : Nat) (c : Cf) (hc : c.ok) (h0 : cfE c = 0) (A A' : Option Addr) (k cp B k' cp' B' : Nat) (O P : List Bool) (w : World) (hRw : R < w.heap.size) (hbR : base' ≤ R) (hO : Rd Value.bool w B A k cp O) (hP : Rd Value.bool w B' A' k' cp' P) (hB : B ≤ w.heap.size) (hB' : B' ≤ w.heap.size) (hk : k ≤ 1000) (hk' : k' ≤ 1000) :
    Calls Tryz.prog 7 #[c.v, .slice A k cp, .slice A' k' cp'] w fun e w' => ∃ (x : Wp) (col : Nat → Nat), e = .returned (.tuple #[ptr x.pw, .int .i64 0]) ∧
      Wo base' col w' x ⟨c, 0, [], [], fun _ => [], [], c.leak, [], [], [], O, P, 0, [], 0, [], 0, false⟩ ∧ col R = 8 ∧ Below w.heap.size w w' := by
  have HC := Lib.hid hc
  have HCH := Lib.hid (Cn.ccheck_any c hc (w.alloc (.cells #[.int .i64 c.max, .int .i64 c.min, .int .u64 c.idle, .int .u64 c.life, .int .u64 c.keep, .int .u64 c.leak, .float .f64 c.var] 30)))
  rw [h0] at HCH
  have HO := Lib.hid hO
  have HP := Lib.hid hP
  have HWl := Lib.hid hB
  have HWl' := Lib.hid hB'
  clear h0 hc hO hP
  go_enter Tryz.func7, Tryz.ntmps7
  go_wp2_with fail
  refine HCH.out.mono ?_
  rintro e w1 ⟨rfl, b1⟩
  have hw0 : Below w.heap.size w (w.alloc (.cells #[.int .i64 c.max, .int .i64 c.min, .int .u64 c.idle, .int .u64 c.life, .int .u64 c.keep, .int .u64 c.leak, .float .f64 c.var] 30)) := (Below.refl _ w).alloc (Nat.le_refl _) _
  have HW := Lib.hid (hw0.trans (b1.mono hw0.size))
  have HWB := Lib.hid (HW.out.mono hB)
  have HWB' := Lib.hid (HW.out.mono hB')
  have hq1 : w.heap.size < w1.heap.size := by have := b1.size; simp at this; omega
  have V0 := Lib.hid ((b1.cell (p := ⟨w.heap.size, 0, none⟩) (by simp)).trans (show _ = some (.int .i64 c.max) by go_simp))
  have V1 := Lib.hid ((b1.cell (p := ⟨w.heap.size, 1, none⟩) (by simp)).trans (show _ = some (.int .i64 c.min) by go_simp))
  have V2 := Lib.hid ((b1.cell (p := ⟨w.heap.size, 2, none⟩) (by simp)).trans (show _ = some (.int .u64 c.idle) by go_simp))
  have V3 := Lib.hid ((b1.cell (p := ⟨w.heap.size, 3, none⟩) (by simp)).trans (show _ = some (.int .u64 c.life) by go_simp))
  have V4 := Lib.hid ((b1.cell (p := ⟨w.heap.size, 4, none⟩) (by simp)).trans (show _ = some (.int .u64 c.keep) by go_simp))
  have V5 := Lib.hid ((b1.cell (p := ⟨w.heap.size, 5, none⟩) (by simp)).trans (show _ = some (.int .u64 c.leak) by go_simp))
  have V6 := Lib.hid ((b1.cell (p := ⟨w.heap.size, 6, none⟩) (by simp)).trans (show _ = some (.float .f64 c.var) by go_simp))
  have HQ := Lib.hid hq1
  clear b1 hw0 HCH
  go_wp2_with fail
  clear hq1 hB hB'
  have HS : Hid (Below w1.heap.size w1 w1.drew) := Lib.hid (Below.refl _ _).drew
  refine reg_start 16 (fun w' => Below w1.heap.size w1 w') (by kernel_rfl) (by kernel_rfl) ?_
  intro hTT
  have HTT := Lib.hid hTT
  clear hTT
  refine reg_load 0 HTT.out rfl (by kernel_rfl) (by decide) (fun _ _ _ _ h => h) HS.out rfl ?_
  apply Exists.intro
  refine ⟨fun w' hw => by (have k0 := (hw.cell (p := ⟨w.heap.size, 0, none⟩) HQ.out).trans V0.out; have k1 := (hw.cell (p := ⟨w.heap.size, 1, none⟩) HQ.out).trans V1.out; have k2 := (hw.cell (p := ⟨w.heap.size, 2, none⟩) HQ.out).trans V2.out; have k3 := (hw.cell (p := ⟨w.heap.size, 3, none⟩) HQ.out).trans V3.out; have k4 := (hw.cell (p := ⟨w.heap.size, 4, none⟩) HQ.out).trans V4.out; have k5 := (hw.cell (p := ⟨w.heap.size, 5, none⟩) HQ.out).trans V5.out; have k6 := (hw.cell (p := ⟨w.heap.size, 6, none⟩) HQ.out).trans V6.out; go_simp; exact rfl), ?_⟩
  refine reg_load 5 HTT.out rfl (by kernel_rfl) (by decide) (fun _ _ _ _ h => h) HS.out rfl ?_
  apply Exists.intro
  refine ⟨fun w' hw => by (go_simp; exact rfl), ?_⟩
  refine reg_load 6 HTT.out rfl (by kernel_rfl) (by decide) (fun _ _ _ _ h => h) HS.out rfl ?_
  apply Exists.intro
  refine ⟨fun w' hw => by (have k5 := (hw.cell (p := ⟨w.heap.size, 5, none⟩) HQ.out).trans V5.out; go_simp; exact rfl), ?_⟩
  refine reg_load 8 HTT.out rfl (by kernel_rfl) (by decide) (fun _ _ _ _ h => h) HS.out rfl ?_
  apply Exists.intro
  refine ⟨fun w' hw => by (go_simp; exact rfl), ?_⟩
  refine reg_load 9 HTT.out rfl (by kernel_rfl) (by decide) (fun _ _ _ _ h => h) HS.out rfl ?_
  apply Exists.intro
  refine ⟨fun w' hw => by (go_simp; exact rfl), ?_⟩
  refine reg_only 1 rfl (by kernel_rfl) rfl ?_
  unfold Oper.wp
  go_simp
  refine (at0 _).mono ?_
  rintro e w2 ⟨rfl, b2⟩
  have hS := HS.out.trans (b2.mono HS.out.size)
  refine ⟨hS, ?_⟩
  have Hw2 := HS
  clear HS
  have HS := Lib.hid hS
  clear hS
  refine reg_only 2 rfl (by kernel_rfl) rfl ?_
  unfold Oper.wp
  go_simp
  refine (bnew_any w2).mono ?_
  rintro e w3 ⟨rfl, h3, b3⟩
  have hS := HS.out.trans (b3.mono HS.out.size)
  refine ⟨hS, ?_⟩
  have Hw3 := HS
  clear HS
  have HS := Lib.hid hS
  clear hS
  refine reg_only 3 rfl (by kernel_rfl) rfl ?_
  unfold Oper.wp
  go_simp
  refine (Lc.new_any (fun g => (w.heap.size ≤ g ∧ g < w3.heap.size) ∨ g = R) w3 base' (by have h1 := HW.out.size; have h2 := HS.out.size; omega) (fun g hg => hg.elim And.right (fun e => by have h1 := HW.out.size; have h2 := HS.out.size; omega))).mono ?_
  rintro e w4 ⟨pl, rfl, h4, l4, b4⟩
  have hS := HS.out.trans (b4.mono HS.out.size)
  refine ⟨hS, ?_⟩
  have Hw4 := HS
  clear HS
  have HS := Lib.hid hS
  clear hS
  refine reg_only 4 rfl (by kernel_rfl) rfl ?_
  unfold Oper.wp
  go_simp
  refine (St.new_any w4 base' (by have h1 := HW.out.size; have h2 := HS.out.size; omega)).mono ?_
  rintro e w5 ⟨ps, rfl, h5, l5, b5⟩
  have hS := HS.out.trans (b5.mono HS.out.size)
  refine ⟨hS, ?_⟩
  have Hw5 := HS
  clear HS
  have HS := Lib.hid hS
  clear hS
  refine reg_only 7 rfl (by kernel_rfl) rfl ?_
  unfold Oper.wp
  go_simp
  refine (Le.new_any w5 c.leak).mono ?_
  rintro e w6 ⟨xk, rfl, h6, b6, lp, la, lb, lq, lm⟩
  have hS := HS.out.trans (b6.mono HS.out.size)
  refine ⟨hS, ?_⟩
  have Hw6 := HS
  clear HS
  have HS := Lib.hid hS
  clear hS
  refine reg_only 10 rfl (by kernel_rfl) rfl ?_
  unfold Oper.wp
  go_simp
  refine (Fc.new_any A k cp B O A' k' cp' B' P w6 (HO.out.below (HWB.out.trans (HS.out.mono (Nat.le_trans HWl.out HW.out.size)))) (HP.out.below (HWB'.out.trans (HS.out.mono (Nat.le_trans HWl'.out HW.out.size)))) (Nat.le_trans HWl.out (Nat.le_trans HW.out.size HS.out.size)) (Nat.le_trans HWl'.out (Nat.le_trans HW.out.size HS.out.size)) hk hk').mono ?_
  rintro e w7 ⟨mF, pF, rfl, h7, b7⟩
  have hS := HS.out.trans (b7.mono HS.out.size)
  refine ⟨hS, ?_⟩
  have Hw7 := HS
  clear HS
  have HS := Lib.hid hS
  clear hS
  refine reg_only 11 rfl (by kernel_rfl) rfl ?_
  unfold Oper.wp
  go_simp
  refine (Hi.new_any w7 base' (by have h1 := HW.out.size; have h2 := HS.out.size; omega)).mono ?_
  rintro e w8 ⟨ph, rfl, h8, l8, b8⟩
  have hS := HS.out.trans (b8.mono HS.out.size)
  refine ⟨hS, ?_⟩
  have Hw8 := HS
  clear HS
  have HS := Lib.hid hS
  clear hS
  refine reg_load 12 HTT.out rfl (by kernel_rfl) (by decide) (fun _ _ _ _ h => h) HS.out rfl ?_
  apply Exists.intro
  refine ⟨fun w' hw => by (go_simp; exact rfl), ?_⟩
  refine reg_only 13 rfl (by kernel_rfl) rfl ?_
  unfold Oper.wp
  go_simp
  have hS := HS.out.alloc HS.out.size (.cells #[.int .i64 c.max, .int .i64 c.min, .int .u64 c.idle, .int .u64 c.life, .int .u64 c.keep, .int .u64 c.leak, .float .f64 c.var, .int .u64 0, ptr (w2.heap.size + 1), ptr pl, ptr ps, ptr xk.p, ptr pF, ptr ph, .int .i64 0, .bool false] 47)
  refine ⟨hS, ?_⟩
  have HW8 := HS
  clear HS
  have HS := Lib.hid hS
  clear hS
  refine reg_load 14 HTT.out rfl (by kernel_rfl) (by decide) (fun _ _ _ _ h => h) HS.out rfl ?_
  apply Exists.intro
  refine ⟨fun w' hw => by (go_simp; exact rfl), ?_⟩
  refine reg_load 15 HTT.out rfl (by kernel_rfl) (by decide) (fun _ _ _ _ h => h) HS.out rfl ?_
  apply Exists.intro
  refine ⟨fun w' hw => by (go_simp; exact rfl), ?_⟩
  refine reg_done (by kernel_rfl) ?_
  go_wp2_with fail
  go_ret2
  have t8 : Below w8.heap.size w8 (w8.alloc (.cells #[.int .i64 c.max, .int .i64 c.min, .int .u64 c.idle, .int .u64 c.life, .int .u64 c.keep, .int .u64 c.leak, .float .f64 c.var, .int .u64 0, ptr (w2.heap.size + 1), ptr pl, ptr ps, ptr xk.p, ptr pF, ptr ph, .int .i64 0, .bool false] 47)) := (Below.refl _ _).alloc (Nat.le_refl _) _
  have t7 := b8.trans (t8.mono b8.size)
  have t6 := b7.trans (t7.mono b7.size)
  have t5 := b6.trans (t6.mono b6.size)
  have t4 := b5.trans (t5.mono b5.size)
  have t3 := b4.trans (t4.mono b4.size)
  have z1 := HW.out.size
  have z2 : w1.heap.size ≤ w2.heap.size := b2.size
  have z3 := b3.size
  have z4 := b4.size
  have z5 := b5.size
  have z6 := b6.size
  have z7 := b7.size
  have z8 := b8.size
  have y3 := h3.lt
  have y4 := h4.lt
  have y5 := h5.lt
  have y6 := h6.lt
  have y7 := h7.in_
  have y7a := h7.lo
  have y7b := h7.lt
  have y8 := h8.lt
  obtain ⟨col, hcol⟩ : ∃ col : Nat → Nat, col = fun g => if g = R then 8 else col8 w2.heap.size w3.heap.size w4.heap.size w5.heap.size w6.heap.size w7.heap.size w8.heap.size w8.heap.size g := ⟨_, rfl⟩
  have cR : col R = 8 := by rw [hcol]; exact if_pos rfl
  have cN : ∀ g, w.heap.size ≤ g → col g = col8 w2.heap.size w3.heap.size w4.heap.size w5.heap.size w6.heap.size w7.heap.size w8.heap.size w8.heap.size g := fun g hg => by rw [hcol]; exact if_neg (by omega)
  have cA : ∀ g, g ≠ R → col g = col8 w2.heap.size w3.heap.size w4.heap.size w5.heap.size w6.heap.size w7.heap.size w8.heap.size w8.heap.size g := fun g hg => by rw [hcol]; exact if_neg hg
  have hX : ∀ g, (col g ≠ 0 ∧ col g ≠ 2) → ((w.heap.size ≤ g ∧ g < w3.heap.size) ∨ g = R) ∨ w4.heap.size ≤ g := fun g hg => by
    by_cases e : g = R
    · exact .inl (.inr e)
    · rw [cA g e] at hg
      rcases col8_x z4 hg with h | h
      · exact .inl (.inl ⟨by omega, h.2⟩)
      · exact .inr h
  refine ⟨⟨w8.heap.size, w2.heap.size + 1, w2.heap.size, pl, ps, none, xk, w6.heap.size, mF, pF, ph, none⟩, col, rfl, ⟨?_, ?_, ?_, ?_, ?_, ?_, ?_, ?_, ?_, ?_, ?_, ?_, ?_, ?_⟩, cR, ?_⟩
  · refine ⟨?_, ?_, ?_, ?_, ?_, ?_, ?_, ?_, ?_, ?_, ?_, ?_, ?_, ?_, ?_, ?_, ?_⟩
    all_goals (first | (go_simp; done) | (intro o; simp [World.frozen?]))
  · exact (h3.mono (fun g hg hc => by rw [cN g (by have h9 : w2.heap.size ≤ g := hc; omega)]; exact col8_1 hc hg) (fun g _ h => h.elim) (fun g h1 h2 => by rw [h1] at h2; cases h2)).later t3
  · exact (h4.shun hX).later t4
  · exact h5.later t5
  · exact h6.later t6
  · exact h7.later t7
  · exact h8.later t8
  · show col pl = 2; rw [cN pl (by omega)]; exact col8_2 z3 l4 y4
  · exact ⟨by show col ps = 3; rw [cN ps (by omega)]; exact col8_3 z3 z4 l5 y5, fun g hg => by cases hg⟩
  · exact ⟨by show col xk.p = 4; rw [cN xk.p (by omega)]; exact col8_4 z3 z4 z5 lp y6.1, by show col xk.a = 4; rw [cN xk.a (by omega)]; exact col8_4 z3 z4 z5 la y6.2.1, by show col xk.b = 4; rw [cN xk.b (by omega)]; exact col8_4 z3 z4 z5 lb y6.2.2.1, by show col xk.q = 4; rw [cN xk.q (by omega)]; exact col8_4 z3 z4 z5 lq y6.2.2.2.1, by show col xk.m = 4; rw [cN xk.m (by omega)]; exact col8_4 z3 z4 z5 lm y6.2.2.2.2⟩
  · exact fun g h1 h2 => by
      have h1 : w6.heap.size ≤ g := h1
      have h2 : g ≤ pF := h2
      rw [cN g (by omega)]; exact col8_5 z3 z4 z5 z6 h1 (by omega)
  · exact ⟨by show col ph = 6; rw [cN ph (by omega)]; exact col8_6 z3 z4 z5 z6 z7 l8 y8, fun g hg => by cases hg⟩
  · show col w8.heap.size = 7; rw [cN w8.heap.size (by omega)]; exact col8_7 z3 z4 z5 z6 z7 z8 rfl rfl
  · exact fun g hg => by
      by_cases e : g = R
      · omega
      · rw [cA g e] at hg; have := col8_lo hg; omega
  · exact HW.out.trans (HS.out.mono z1)
end Go.Proofs.YthmdiaingolfnaaGreatDoor.Wo
