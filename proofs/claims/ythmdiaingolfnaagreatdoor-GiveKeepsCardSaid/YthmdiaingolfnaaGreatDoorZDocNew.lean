/- A part of the claim: the texts DocNew. -/
import Derived.Test.YthmdiaingolfnaaGreatDoorZGTwo
import Derived.Test.YthmdiaingolfnaaGreatDoorZGMisc
import Derived.Test.YthmdiaingolfnaaGreatDoorZGAwK
import Derived.Deep.CutBlock
namespace Go.Proofs.YthmdiaingolfnaaGreatDoor.Wo
open Go Go.ChangeShapes Go.WideShapes Go.ChangeAt Go.RowKit Go.Deep Go.Maps Rw Hi Mt Ba
open Cn (Cf cfE)
set_option linter.unusedVariables false
theorem under_rc : Tryz.prog.underlying 52 = some (Tryz.prog.underlying 52).get! := by kernel_rfl
theorem row_rc : ((Tryz.prog.underlying 52).get!).isRow = true := by kernel_rfl
theorem info_rc : (Tryz.prog.info? 52).map (·.size) = some 7 := by kernel_rfl
theorem exec_load_rc (oi : Oper) (ev : Operand → Value) (y : Operand) (ho : oi.op = .load 52 y) {g : Nat} (hx : ev y = .pointer (some ⟨g, 0, none⟩)) {w : World} {c : Cf} (hv : w.rangeAt g 0 (ccs c)) : (execOp ev oi).run Tryz.prog w = .ok (.value c.v) w := by
  unfold execOp
  simp only [ho, hx, Instr.loadAt, Instr.sureAddr, Sem.run_bind, Sem.run_pure, Result.andThen_ok, run_loadVar_mid (P := Tryz.prog) w g 0 52 _ _ hv under_rc row_rc info_rc]
section
variable {ops : Array Oper} {rest : List Oper} {op : Oper} {a : Act} {w : World} {Q : Exit → Act → World → Prop}
theorem load_rc (hgd : op.guard = none) (y : Operand) (ho : op.op = .load 52 y) (g : Nat) (hx : a.eval y = .pointer (some ⟨g, 0, none⟩)) (c : Cf) (hv : w.rangeAt g 0 (ccs c))
    (h : wpList Tryz.prog ops Q rest (a.put op.dst c.v) w) : wpList Tryz.prog ops Q (op :: rest) a w :=
  wpList_load_mid hgd 52 y ho g 0 hx _ _ hv under_rc row_rc info_rc h
end
theorem range_blk {w w' : World} {g : Nat} {cs : List Value} (h : w.rangeAt g 0 cs) (hb : w'.heap[g]? = w.heap[g]?) : w'.rangeAt g 0 cs := fun j u hj => (World.cell?_of_block hb).trans (h j u hj)
theorem range_later {w w' : World} {g : Nat} {c : Cf} (h : w.rangeAt g 0 (ccs c)) (hb : Below w.heap.size w w') : w'.rangeAt g 0 (ccs c) := range_blk h (hb.block _ (hr3lt h))
def ZW : List Value := [.int .i64 0, .int .i64 0, .int .u64 0, .int .u64 0, .int .u64 0, .int .u64 0, .float .f64 0, .int .u64 0, .slice none 0 0, .slice none 0 0, .slice none 0 0, .slice none 0 0, .int .u64 0, .slice none 0 0, .slice none 0 0, .slice none 0 0, .slice none 0 0, .slice none 0 0, .slice none 0 0, .int .u64 0, .slice none 0 0, .int .i64 0, .bool false]
theorem boxes_n (c : Cf) (w : World) : ∃ W, (w.alloc (.cells #[.int .i64 c.max, .int .i64 c.min, .int .u64 c.idle, .int .u64 c.life, .int .u64 c.keep, .int .u64 c.leak, .float .f64 c.var] 52)).alloc (.cells #[.int .i64 0, .int .i64 0, .int .u64 0, .int .u64 0, .int .u64 0, .int .u64 0, .float .f64 0, .int .u64 0, .slice none 0 0, .slice none 0 0, .slice none 0 0, .slice none 0 0, .int .u64 0, .slice none 0 0, .slice none 0 0, .slice none 0 0, .slice none 0 0, .slice none 0 0, .slice none 0 0, .int .u64 0, .slice none 0 0, .int .i64 0, .bool false] 69) = W ∧
    W.rangeAt w.heap.size 0 (ccs c) ∧ W.there (w.heap.size + 1) 0 23 ∧ Below w.heap.size w W ∧ W.heap.size = w.heap.size + 2 := by
  obtain ⟨W1, e1⟩ : ∃ W1, w.alloc (.cells #[.int .i64 c.max, .int .i64 c.min, .int .u64 c.idle, .int .u64 c.life, .int .u64 c.keep, .int .u64 c.leak, .float .f64 c.var] 52) = W1 := ⟨_, rfl⟩
  have h1 : W1.heap[w.heap.size]? = some (.cells #[.int .i64 c.max, .int .i64 c.min, .int .u64 c.idle, .int .u64 c.life, .int .u64 c.keep, .int .u64 c.leak, .float .f64 c.var] 52) := e1 ▸ heap_alloc_last _ _
  have hr : W1.rangeAt w.heap.size 0 (ccs c) := fun j u hj => by
    rw [cell_of_row _ _ _ _ _ _ h1]; simpa using hj
  have b1 : Below w.heap.size w W1 := e1 ▸ (Below.refl _ _).alloc (Nat.le_refl _) _
  have s1 : W1.heap.size = w.heap.size + 1 := by rw [← e1]; simp
  rw [e1]
  obtain ⟨W2, e2, h2, b2, s2⟩ := box_w ZW W1 rfl
  rw [s1] at h2
  exact ⟨W2, e2, range_later hr b2, h2.th, b1.trans (b2.mono b1.size), by omega⟩
abbrev newS (c : Cf) (O P : List Bool) : Ws := ⟨c, 0, [], [], fun _ => [], [], c.leak, [], [], [], O, P, 0, [], 0, [], 0, false⟩
end Go.Proofs.YthmdiaingolfnaaGreatDoor.Wo
namespace Go.Proofs.YthmdiaingolfnaaGreatDoor.St
open Go.ChangeShapes Go.WideShapes Go.ChangeAt Go.RowKit Go.Deep Rw Hi
set_option maxRecDepth 100000 in
set_option maxHeartbeats 2000000 in
theorem rparkK_any (w : World) {K : Nat → Prop} (hKK : ∀ g, w.heap.size ≤ g → K g) (A : Option Addr) (n c : Nat) (l : List Sx) (t d : Int) (hk : Kn K n A) (h : Rs enc3 3 w w.heap.size A n c l) (hn : n ≤ 1000) :
    Calls Tryz.prog 99 #[.slice A n c, .int .i64 t, .int .u64 d] w fun e w' => ∃ A' n' c', e = .returned (.tuple #[.slice A' n' c', .int .i64 (parkE l t)]) ∧ Rs enc3 3 w' w'.heap.size A' n' c' (parkL l t d) ∧ Kn K n' A' ∧ Below w.heap.size w w' := by
  obtain ⟨i0, hi, hz0, hz1, hz2⟩ := info_parts info_rslot
  have HR := Lib.hid h
  have HLEN := Lib.hid h.len
  clear h
  have HKK := Lib.hid hKK
  clear hKK
  cases hf : l.findIdx? (hit t) with
  | some k =>
    obtain ⟨e1, e2⟩ := park_hit (d := d) hf
    have HZ := Lib.hid (ixZ_some hf)
    rw [e1, e2]
    clear e1 e2 hf
    go_enter Tryz.func99, Tryz.ntmps99
    go_wp2_with fail
    refine (rof_any A n c _ l t w HR.out (Nat.le_refl _)).mono ?_
    rw [HZ.out]
    rintro e w1 ⟨rfl, hb1⟩
    go_wp2_with fail
    go_ret2
    exact ⟨A, n, c, rfl, HR.out.later hb1, hk, hb1⟩
  | none =>
    obtain ⟨e1, e2⟩ := park_miss (d := d) hf
    have HZ := Lib.hid (ixZ_none hf)
    rw [e1, e2]
    clear e1 e2 hf
    go_enter Tryz.func99, Tryz.ntmps99
    go_wp2_with fail
    refine (rof_any A n c _ l t w HR.out (Nat.le_refl _)).mono ?_
    rw [HZ.out]
    rintro e w1 ⟨rfl, hb1⟩
    have hs1 := hb1.size
    have R1 := Lib.hid (HR.out.later hb1)
    have B1 := Lib.hid hb1
    clear hb1 HR
    go_wp2_with (
      at_builtin
      refine append_rs enc3_len rfl _ _ 58 rfl w.heap.size 230 i0 _ 24 Tryz.underlying58 hi hz0 hz1 hz2 rfl (by decide) (.slice none 0 0) 0 [] rfl (World.ownsRow_nil _ _ _ _) _ A n c l rfl R1.out enc3_one n (Nat.zero_add _) (flat enc3 l) rfl (by unfold maxLen; omega) (by omega) hs1 ?_
      intro A2 c2 w2 ho2 hg2 hat2
      refine Hid.out ?_)
    refine Lib.hid ?_
    have B2 := Lib.hid (B1.out.grown hg2 hs1 (fun j hj => by cases hj))
    have hs2 := B2.out.size
    have HO2 := Lib.hid (ho2.alloc (.cells #[.int .i64 t, .int .u64 d, .int .u64 0] 230))
    have B3 := Lib.hid (B2.out.alloc hs2 (.cells #[.int .i64 t, .int .u64 d, .int .u64 0] 230))
    have hrs : Rs enc3 3 (w2.alloc (.cells #[.int .i64 t, .int .u64 d, .int .u64 0] 230)) (w2.heap.size + 1) (some ⟨w2.heap.size, 0, none⟩) 1 1 [(t, d, 0)] := rs_one enc3_len w2 (t, d, 0) 230 (cs := #[.int .i64 t, .int .u64 d, .int .u64 0]) rfl
    have HRS := Lib.hid hrs
    clear ho2 hg2 hat2 hrs B1 R1
    go_wp2_with (
      at_builtin
      refine append_rs enc3_len rfl _ _ 58 rfl w.heap.size 230 i0 _ 24 Tryz.underlying58 hi hz0 hz1 hz2 rfl (by decide) (.slice A2 n c2) n _ rfl HO2.out _ _ 1 1 [(t, d, 0)] rfl HRS.out enc3_one (n + 1) rfl (flat enc3 (l ++ [(t, d, 0)])) (flat_append _ _).symm (by unfold maxLen; omega) (by omega) (by simp; omega) ?_
      intro A3 c3 w3 hrow3 hg3 hat3
      have HRR := Lib.hid (Rs.own_rs enc3_len (xs := l ++ [(t, d, 0)]) (by simp [HLEN.out]) hrow3)
      have HLO := Lib.hid hrow3.lt
      have HB3 := Lib.hid (B3.out.grown hg3 (by simp; omega) (fun j hj => (HO2.out.lt j hj).1))
      clear hrow3 hg3 hat3)
    go_ret2
    exact ⟨A3, n + 1, c3, rfl, HRR.out, (fun _ a e => HKK.out _ (by subst e; exact (HLO.out _ rfl).1)), HB3.out⟩
end Go.Proofs.YthmdiaingolfnaaGreatDoor.St
namespace Go.Proofs.YthmdiaingolfnaaGreatDoor.Wo
open Go Go.ChangeShapes Go.WideShapes Go.ChangeAt Go.RowKit Go.Deep Go.Maps Rw Hi Mt Ba
open Cn (Cf cfE)
theorem dnew_dw {K : Nat → Prop} {w : World} {c : Cf} {Al : Option Addr} {cl : Nat} {vs : List Lc.Sv} {Ao Ap : Option Addr} {no co np cp : Nat} {O P : List Bool} (hl : Lk.Dc K w Al cl vs (fun _ => [])) (hO : Fk.Rn K w Ao no co O) (hP : Fk.Rn K w Ap np cp P) :
    Dw K w ⟨⟨none, 0, 0, none, 0, 0⟩, Al, 8, cl, vs, none, 0, 0, ⟨none, 0, 0, none, 0, 0, none, 0, 0⟩, Ao, no, co, Ap, np, cp, none, 0, none, 0, 0⟩ (newS c O P) [] := by
  exact ⟨Dq.nil_, hl, Rs.nil_, Kn.nil_, ⟨Rs.nil_, Rd.nil_, Rs.nil_, .inl ⟨rfl, rfl⟩, .inl ⟨rfl, rfl⟩, Kn.nil_, Kn.nil_, Kn.nil_⟩, ⟨⟨Ao, no, co, Ap, np, cp, none, 0, [], rfl, hO, hP, Fk.Rn.nil_ _ _, Fc.Sh.nil_⟩⟩, Rs.nil_, Kn.nil_, rfl⟩
section
variable {K : Nat → Prop} (w : World)
set_option maxRecDepth 100000 in
set_option maxHeartbeats 4000000 in
theorem dnew_any (c : Cf) (hc : c.ok) (h0 : cfE c = 0) (hKK : ∀ g, w.heap.size ≤ g → K g) (Ao Ap : Option Addr) (no co np cp : Nat) (O P : List Bool) (hO : Fk.Rn K w Ao no co O) (hP : Fk.Rn K w Ap np cp P) :
    Calls Tryz.prog 66 #[c.v, .slice Ao no co, .slice Ap np cp] w fun e w' => ∃ v' : Dv, e = .returned (.tuple #[v'.val (newS c O P), .int .i64 0]) ∧ Dw K w' v' (newS c O P) [] ∧ Below w.heap.size w w' := by
  obtain ⟨W1, hW1, V1, T1, B1, S1⟩ := boxes_n c w
  have HK1 : Hid (∀ g, W1.heap.size ≤ g → Ks K w g) := Lib.hid (fun g hg => ⟨hKK g (by omega), by omega, by omega⟩)
  have HO1 : Hid (Fk.Rn (Ks K w) W1 Ao no co O) := Lib.hid ((rn_mono hO (fun g hg hk => ⟨hk, by omega, by omega⟩)).below B1)
  have HP1 : Hid (Fk.Rn (Ks K w) W1 Ap np cp P) := Lib.hid ((rn_mono hP (fun g hg hk => ⟨hk, by omega, by omega⟩)).below B1)
  have HC := Lib.hid hc
  have H0 := Lib.hid h0
  have HV1 := Lib.hid V1
  have HT1 := Lib.hid T1
  have HB1 := Lib.hid B1
  clear V1 T1 B1 hc h0 hO hP
  go_enter Tryz.func66, Tryz.ntmps66
  go_upto_region 1 with (fail)
  clear hW1
  go_wp2_with (first
    | (refine load_rc rfl _ rfl w.heap.size rfl c HV1.out ?_))
  have HCK := Cn.rcheck13_any c HC.out W1
  rw [H0.out] at HCK
  refine HCK.mono ?_
  rintro e w2 ⟨rfl, b2⟩
  have HB2 := Lib.hid b2
  have HV2 := Lib.hid (range_later HV1.out b2)
  have HT2 := Lib.hid (th_later HT1.out b2)
  clear b2 HCK
  go_wp2_with fail
  have HB2d : Hid (Below W1.heap.size W1 w2.drew) := Lib.hid (HB2.out.trans ((Below.refl _ _).drew))
  have HS : Hid (w2.drew.rangeAt w.heap.size 0 (ccs c)) := Lib.hid (range_blk HV2.out rfl)
  refine reg_start 11 (fun w' => w'.rangeAt w.heap.size 0 (ccs c)) (by kernel_rfl) (by kernel_rfl) ?_
  intro hTT
  have HTT := Lib.hid hTT
  clear hTT
  refine reg_load 0 HTT.out rfl (by kernel_rfl) (by decide) (fun _ _ _ _ h => h) HS.out rfl ?_
  apply Exists.intro
  refine ⟨fun w' hw => exec_load_rc _ _ _ rfl rfl hw, ?_⟩
  refine reg_load 2 HTT.out rfl (by kernel_rfl) (by decide) (fun _ _ _ _ h => h) HS.out rfl ?_
  apply Exists.intro
  refine ⟨fun w' hw => by (go_simp; exact rfl), ?_⟩
  refine reg_load 3 HTT.out rfl (by kernel_rfl) (by decide) (fun _ _ _ _ h => h) HS.out rfl ?_
  apply Exists.intro
  refine ⟨fun w' hw => by (have kc : w'.cell? ⟨w.heap.size, 5, none⟩ = some (.int .u64 c.leak) := (by have := hw 5 _ rfl; simpa using this); go_simp; exact rfl), ?_⟩
  refine reg_load 4 HTT.out rfl (by kernel_rfl) (by decide) (fun _ _ _ _ h => h) HS.out rfl ?_
  apply Exists.intro
  refine ⟨fun w' hw => by (go_simp; exact rfl), ?_⟩
  refine reg_load 5 HTT.out rfl (by kernel_rfl) (by decide) (fun _ _ _ _ h => h) HS.out rfl ?_
  apply Exists.intro
  refine ⟨fun w' hw => by (go_simp; exact rfl), ?_⟩
  refine reg_load 6 HTT.out rfl (by kernel_rfl) (by decide) (fun _ _ _ _ h => h) HS.out rfl ?_
  apply Exists.intro
  refine ⟨fun w' hw => by (go_simp; exact rfl), ?_⟩
  refine reg_load 7 HTT.out rfl (by kernel_rfl) (by decide) (fun _ _ _ _ h => h) HS.out rfl ?_
  apply Exists.intro
  refine ⟨fun w' hw => by (go_simp; exact rfl), ?_⟩
  refine reg_only 1 rfl (by kernel_rfl) rfl ?_
  unfold Oper.wp
  go_simp
  refine (Lk.rnew_any (K := Ks K w) w2.drew (fun g hg => HK1.out g (by have := HB2.out.size; have hg : w2.heap.size ≤ g := hg; omega))).mono ?_
  rintro e w3 ⟨Al, cl, vs, rfl, hl3, b3⟩
  have hS : w3.rangeAt w.heap.size 0 (ccs c) := range_later HS.out b3
  refine ⟨hS, ?_⟩
  clear HS
  have HS := Lib.hid hS
  have HL3 := Lib.hid hl3
  have HB3 : Hid (Below W1.heap.size W1 w3) := Lib.hid (HB2d.out.trans (b3.mono HB2d.out.size))
  have HT3 := Lib.hid (th_later HT1.out HB3.out)
  clear hS hl3 b3
  refine reg_load 8 HTT.out rfl (by kernel_rfl) (by decide) (fun _ _ _ _ h => h) HS.out rfl ?_
  apply Exists.intro
  refine ⟨fun w' hw => by (go_simp; exact rfl), ?_⟩
  refine reg_only 9 rfl (by kernel_rfl) rfl ?_
  refine wp_store_w _ _ rfl (w.heap.size + 1) rfl ⟨⟨none, 0, 0, none, 0, 0⟩, Al, 8, cl, vs, none, 0, 0, ⟨none, 0, 0, none, 0, 0, none, 0, 0⟩, Ao, no, co, Ap, np, cp, none, 0, none, 0, 0⟩ (newS c O P) rfl HT3.out ?_
  intro w4 hv4 hz4
  have hS : w4.rangeAt w.heap.size 0 (ccs c) := range_blk HS.out (hz4.block _ (hr3lt HS.out) (by simp))
  refine ⟨fun _ => hS, ?_⟩
  clear HS
  have HS := Lib.hid hS
  have HV4 := Lib.hid hv4
  have HZ4 := Lib.hid hz4
  clear hS hv4 hz4
  refine reg_load 10 HTT.out rfl (by kernel_rfl) (by decide) (fun _ _ _ _ h => h) HS.out rfl ?_
  apply Exists.intro
  refine ⟨fun w' hw => by (go_simp; exact rfl), ?_⟩
  refine reg_done (by kernel_rfl) ?_
  go_wp2_with fail
  have hd3 : Dw (Ks K w) w3 ⟨⟨none, 0, 0, none, 0, 0⟩, Al, 8, cl, vs, none, 0, 0, ⟨none, 0, 0, none, 0, 0, none, 0, 0⟩, Ao, no, co, Ap, np, cp, none, 0, none, 0, 0⟩ (newS c O P) [] := dnew_dw HL3.out (HO1.out.below HB3.out) (HP1.out.below HB3.out)
  have hb3 : Below w.heap.size w w3 := HB1.out.trans (HB3.out.mono HB1.out.size)
  exact bodyPost_ret (v := .tuple #[Dv.val _ (newS c O P), .int .i64 0]) (res_w2 _ _ (w.heap.size + 1) _ _ Tryz.results66 rfl HV4.out) rfl ⟨_, rfl, end_w hd3 (fz1 HZ4.out (.inr rfl)), fz_low (fz1 HZ4.out (.inr rfl)) hb3⟩
set_option maxRecDepth 100000 in
theorem dpark_any (v : Dv) (s : Ws) (N : List Int) (h : Dw K w v s N) (hKK : ∀ g, w.heap.size ≤ g → K g) (t d : Int) (hn : s.sl.length ≤ 1000) :
    Calls Tryz.prog 68 #[v.val s, .int .i64 t, .int .u64 d] w fun e w' => ∃ v' : Dv, e = .returned (v'.val { s with sl := St.parkL s.sl t d }) ∧ Dw K w' v' { s with sl := St.parkL s.sl t d } N ∧ Below w.heap.size w w' := by
  obtain ⟨W1, hW1, V1, T1, B1, S1⟩ := boxes_w (v.cells s) w rfl
  obtain ⟨d1, k1⟩ := start_w h hKK B1 S1
  have HD1 := Lib.hid d1
  have HKK1 := Lib.hid k1
  have HV1 := Lib.hid V1
  have HT1 := Lib.hid T1
  have HB1 := Lib.hid B1
  have f11 := V1.cell 11 _ rfl
  clear V1 T1 B1 d1 k1 h hKK
  go_enter Tryz.func68, Tryz.ntmps68
  go_upto_region 1 with (fail)
  clear hW1
  go_wp2_with fail
  refine (St.rparkK_any W1 HKK1.out v.sA v.sn v.sc s.sl t d HD1.out.sk HD1.out.sl (by have := HD1.out.sl.len; omega)).mono ?_
  rintro e w2 ⟨A', n', c', rfl, hd2, hn2, b2⟩
  have HD2 : Hid (Dw (Ks K w) w2 { v with sA := A', sn := n', sc := c' } { s with sl := St.parkL s.sl t d } N) := Lib.hid (by
    have h2 := HD1.out.later b2
    exact ⟨h2.bag, h2.loc, hd2, hn2, h2.book, h2.fact, h2.hist, h2.hk, h2.l8⟩)
  have HV2 := Lib.hid (HV1.out.later b2)
  have HT2 := Lib.hid (th_later HT1.out b2)
  have HB2 := Lib.hid (HB1.out.trans (b2.mono HB1.out.size))
  have hs2 := b2.size
  clear hd2 b2 HD1 HV1 HT1 HB1 f11
  have f11 := HV2.out.cell 11 _ rfl
  have g11 := HV2.out.free 11 (by decide)
  go_upto_region 2 with (fail)
  have HV4 : Hid (Vw (w2.setCell ⟨w.heap.size, 11, none⟩ (.slice A' n' c')) w.heap.size (Dv.cells { v with sA := A', sn := n', sc := c' } { s with sl := St.parkL s.sl t d })) := Lib.hid (HV2.out.set 11 (by simp [cells_len]) (.slice A' n' c'))
  have HT4 : Hid ((w2.setCell ⟨w.heap.size, 11, none⟩ (.slice A' n' c')).there (w.heap.size + 1) 0 23) := Lib.hid (th_set (j := 11) HT2.out (r := w.heap.size) (by omega) (.slice A' n' c'))
  have HZ4 : Hid (Fz (Bx2 w) w2 (w2.setCell ⟨w.heap.size, 11, none⟩ (.slice A' n' c'))) := Lib.hid ((Fz.refl _ w2).trans (fz_set (j := 11) (.slice A' n' c') (.inl rfl)))
  generalize (w2.setCell ⟨w.heap.size, 11, none⟩ (.slice A' n' c')) = W4 at *
  clear HV2 HT2 f11 g11
  go_wp2_with (first
    | (refine load_w rfl _ rfl w.heap.size rfl { v with sA := A', sn := n', sc := c' } { s with sl := St.parkL s.sl t d } HV4.out ?_)
    | (refine store_w rfl _ _ rfl (w.heap.size + 1) rfl { v with sA := A', sn := n', sc := c' } { s with sl := St.parkL s.sl t d } rfl HT4.out ?_; intro w9 hv9 hz9; have HV9 := Lib.hid hv9; have HZ9 := Lib.hid hz9; clear hv9 hz9))
  exact bodyPost_ret (v := Dv.val { v with sA := A', sn := n', sc := c' } { s with sl := St.parkL s.sl t d }) (res_w _ _ (w.heap.size + 1) _ _ Tryz.results68 rfl HV9.out) rfl ⟨{ v with sA := A', sn := n', sc := c' }, rfl, end_w HD2.out (HZ4.out.trans (fz1 HZ9.out (.inr rfl))), fz_low (HZ4.out.trans (fz1 HZ9.out (.inr rfl))) HB2.out⟩
set_option maxRecDepth 100000 in
theorem dmark_any (v : Dv) (s : Ws) (N : List Int) (h : Dw K w v s N) (hKK : ∀ g, w.heap.size ≤ g → K g) (id th : Int) (hnd : Mt.Nd s.L) (hn : s.L.length ≤ 1000) (hn2 : N.length ≤ 1000) (hn3 : s.T.length ≤ 1000) :
    Calls Tryz.prog 70 #[v.val s, .int .u64 id, .int .i64 th] w fun e w' => ∃ v' : Dv, e = .returned (v'.val s) ∧ Dw K w' v' s (mrkN s.L N id th) ∧ Below w.heap.size w w' := by
  obtain ⟨W1, hW1, V1, T1, B1, S1⟩ := boxes_w (v.cells s) w rfl
  obtain ⟨d1, k1⟩ := start_w h hKK B1 S1
  have HD1 := Lib.hid d1
  have HKK1 := Lib.hid k1
  have HV1 := Lib.hid V1
  have HT1 := Lib.hid T1
  have HB1 := Lib.hid B1
  have f12 := V1.cell 12 _ rfl
  have f13 := V1.cell 13 _ rfl
  have f14 := V1.cell 14 _ rfl
  have f15 := V1.cell 15 _ rfl
  clear V1 T1 B1 d1 k1 h hKK
  go_enter Tryz.func70, Tryz.ntmps70
  go_upto_region 1 with (fail)
  clear hW1
  go_wp2_with fail
  refine (Le.rmark_any s.leak v.k.A v.k.A2 v.k.A3 v.k.n v.k.c v.k.n2 v.k.c2 v.k.n3 v.k.c3 s.L N s.T W1 id th HD1.out.book HKK1.out hnd (by have := HD1.out.book.l.len; omega) (by have := HD1.out.book.m.len; omega) (by have := HD1.out.book.t.len; omega)).mono ?_
  rintro e w2 ⟨d, rfl, hd2, b2⟩
  have HD2 : Hid (Dw (Ks K w) w2 { v with k := d } s (mrkN s.L N id th)) := Lib.hid (by
    have h2 := HD1.out.later b2
    exact ⟨h2.bag, h2.loc, h2.sl, h2.sk, hd2, h2.fact, h2.hist, h2.hk, h2.l8⟩)
  have HV2 := Lib.hid (HV1.out.later b2)
  have HT2 := Lib.hid (th_later HT1.out b2)
  have HB2 := Lib.hid (HB1.out.trans (b2.mono HB1.out.size))
  have hs2 := b2.size
  clear hd2 b2 HD1 HV1 HT1 HB1 f12 f13 f14 f15
  have f12 := HV2.out.cell 12 _ rfl
  have g12 := HV2.out.free 12 (by decide)
  have f13 := HV2.out.cell 13 _ rfl
  have g13 := HV2.out.free 13 (by decide)
  have f14 := HV2.out.cell 14 _ rfl
  have g14 := HV2.out.free 14 (by decide)
  have f15 := HV2.out.cell 15 _ rfl
  have g15 := HV2.out.free 15 (by decide)
  go_upto_region 2 with (fail)
  have HV4 : Hid (Vw ((((w2.setCell ⟨w.heap.size, 12, none⟩ (.int .u64 s.leak)).setCell ⟨w.heap.size, 13, none⟩ (.slice d.A d.n d.c)).setCell ⟨w.heap.size, 14, none⟩ (.slice d.A2 d.n2 d.c2)).setCell ⟨w.heap.size, 15, none⟩ (.slice d.A3 d.n3 d.c3)) w.heap.size (Dv.cells { v with k := d } s)) := Lib.hid ((((HV2.out.set 12 (by simp [cells_len]) (.int .u64 s.leak)).set 13 (by simp [cells_len]) (.slice d.A d.n d.c)).set 14 (by simp [cells_len]) (.slice d.A2 d.n2 d.c2)).set 15 (by simp [cells_len]) (.slice d.A3 d.n3 d.c3))
  have HT4 : Hid (((((w2.setCell ⟨w.heap.size, 12, none⟩ (.int .u64 s.leak)).setCell ⟨w.heap.size, 13, none⟩ (.slice d.A d.n d.c)).setCell ⟨w.heap.size, 14, none⟩ (.slice d.A2 d.n2 d.c2)).setCell ⟨w.heap.size, 15, none⟩ (.slice d.A3 d.n3 d.c3)).there (w.heap.size + 1) 0 23) := Lib.hid (th_set (j := 15) (th_set (j := 14) (th_set (j := 13) (th_set (j := 12) HT2.out (r := w.heap.size) (by omega) (.int .u64 s.leak)) (r := w.heap.size) (by omega) (.slice d.A d.n d.c)) (r := w.heap.size) (by omega) (.slice d.A2 d.n2 d.c2)) (r := w.heap.size) (by omega) (.slice d.A3 d.n3 d.c3))
  have HZ4 : Hid (Fz (Bx2 w) w2 ((((w2.setCell ⟨w.heap.size, 12, none⟩ (.int .u64 s.leak)).setCell ⟨w.heap.size, 13, none⟩ (.slice d.A d.n d.c)).setCell ⟨w.heap.size, 14, none⟩ (.slice d.A2 d.n2 d.c2)).setCell ⟨w.heap.size, 15, none⟩ (.slice d.A3 d.n3 d.c3))) := Lib.hid (((((Fz.refl _ w2).trans (fz_set (j := 12) (.int .u64 s.leak) (.inl rfl))).trans (fz_set (j := 13) (.slice d.A d.n d.c) (.inl rfl))).trans (fz_set (j := 14) (.slice d.A2 d.n2 d.c2) (.inl rfl))).trans (fz_set (j := 15) (.slice d.A3 d.n3 d.c3) (.inl rfl)))
  generalize ((((w2.setCell ⟨w.heap.size, 12, none⟩ (.int .u64 s.leak)).setCell ⟨w.heap.size, 13, none⟩ (.slice d.A d.n d.c)).setCell ⟨w.heap.size, 14, none⟩ (.slice d.A2 d.n2 d.c2)).setCell ⟨w.heap.size, 15, none⟩ (.slice d.A3 d.n3 d.c3)) = W4 at *
  clear HV2 HT2 f12 g12 f13 g13 f14 g14 f15 g15
  go_wp2_with (first
    | (refine load_w rfl _ rfl w.heap.size rfl { v with k := d } s HV4.out ?_)
    | (refine store_w rfl _ _ rfl (w.heap.size + 1) rfl { v with k := d } s rfl HT4.out ?_; intro w9 hv9 hz9; have HV9 := Lib.hid hv9; have HZ9 := Lib.hid hz9; clear hv9 hz9))
  exact bodyPost_ret (v := Dv.val { v with k := d } s) (res_w _ _ (w.heap.size + 1) _ _ Tryz.results70 rfl HV9.out) rfl ⟨{ v with k := d }, rfl, end_w HD2.out (HZ4.out.trans (fz1 HZ9.out (.inr rfl))), fz_low (HZ4.out.trans (fz1 HZ9.out (.inr rfl))) HB2.out⟩
end
end Go.Proofs.YthmdiaingolfnaaGreatDoor.Wo
namespace Go.Proofs.YthmdiaingolfnaaGreatDoor.Wo
open Go Go.ChangeShapes Go.WideShapes Go.ChangeAt Go.RowKit Go.Maps Rw Hi Mt Ba
open Cn (Cf cfE)
set_option linter.unusedVariables false
section
variable (w : World) {base : Nat} {col : Nat → Nat} {x : Wp} {s : Ws} {d : Nat} {v : Dv} {y : Ay} {N : List Int} {k : Nat}
set_option maxRecDepth 100000 in
set_option maxHeartbeats 4000000 in
theorem playT3 (h : Tw base col w x v d s N) (hp : Pl s N k) (hk9 : k ≤ 900) (hN : N.length ≤ 900) (hy : y.ok) (hk : y.do_ % 8 = 3) : Plays w base col x s d y N := by
  unfold Plays
  rw [playS3 hk]
  have m0 : (y.do_ % 8 == 0) = false := by rw [hk]; rfl
  have m0t : ((y.do_).tmod 8 == 0) = false := by rw [Int.tmod_eq_emod_of_nonneg hy.d.1, hk]; rfl
  have m1 : (y.do_ % 8 == 1) = false := by rw [hk]; rfl
  have m1t : ((y.do_).tmod 8 == 1) = false := by rw [Int.tmod_eq_emod_of_nonneg hy.d.1, hk]; rfl
  have m2 : (y.do_ % 8 == 2) = false := by rw [hk]; rfl
  have m2t : ((y.do_).tmod 8 == 2) = false := by rw [Int.tmod_eq_emod_of_nonneg hy.d.1, hk]; rfl
  have m3 : (y.do_ % 8 == 3) = true := by rw [hk]; rfl
  have m3t : ((y.do_).tmod 8 == 3) = true := by rw [Int.tmod_eq_emod_of_nonneg hy.d.1, hk]; rfl
  obtain ⟨s4, hs4⟩ : ∃ s4 : Ws, ({ s with O := (Fc.nx s.O).2, n := opnN s.O s.n, D := entD s.D (opnI s.O s.n) y.st s.now } : Ws) = s4 := ⟨_, rfl⟩
  obtain ⟨ok, hok⟩ : ∃ b, (Fc.nx s.O).1 = b := ⟨_, rfl⟩
  have hdl := hp.dl
  have hnl := hp.nl
  have hIu : U64 (opnI s.O s.n) := by unfold opnI; split <;> exact ⟨by omega, by omega⟩
  rw [hs4]
  obtain ⟨I, hI⟩ : ∃ I, opnI s.O s.n = I := ⟨_, rfl⟩
  obtain ⟨nn, hnn⟩ : ∃ nn, opnN s.O s.n = nn := ⟨_, rfl⟩
  rw [hI] at hIu
  rw [hI, hnn] at hs4
  obtain ⟨sA, hsA⟩ : ∃ sA : Ws, ({ s with O := (Fc.nx s.O).2, n := nn } : Ws) = sA := ⟨_, rfl⟩
  obtain ⟨E, hE⟩ : ∃ E, eE s.D I y.st = E := ⟨_, rfl⟩
  have HOP : Hid (∀ W, Wv base col W x s → Calls Tryz.prog 8 #[ptr x.pF] W fun e w' => e = .returned (.tuple #[.int .u64 I, .bool ok]) ∧ Wv base col w' x sA ∧ Fw col W w') := Lib.hid (fun W hw => by
    have q := wopen W hw (by omega)
    rw [hI, hok, hnn, hsA] at q
    exact q)
  have HRO : Hid (∀ W, Dw (Kc col) W v s N → (∀ g, W.heap.size ≤ g → Kc col g) → Calls Tryz.prog 49 #[v.fact s.n] W fun e w' => ∃ v', e = .returned (.tuple #[v', .int .u64 I, .bool ok]) ∧ Fk.Rf (Kc col) w' v' (Fc.nx s.O).2 s.P nn s.C ∧ Below W.heap.size W w') := Lib.hid (fun W hd hK => by
    have q := Fk.ropen_any (v.fact s.n) s.n s.O s.P s.C W hd.fact (by omega) hp.cin hK
    rw [show (if (Fc.nx s.O).1 = true then (s.n : Int) + 1 else 0) = I from hI, show (if (Fc.nx s.O).1 = true then s.n + 1 else s.n) = nn from hnn, hok] at q
    exact q)
  have HEN : Hid (∀ (K : Nat → Prop) (v4 : Dv) W, v4.b = v.b → Dw K W v4 sA N → (∀ g, W.heap.size ≤ g → K g) → Calls Tryz.prog 50 #[.agg #[.slice v.b.A v.b.n v.b.c, .slice v.b.A2 v.b.n2 v.b.c2], .int .u64 I, .int .i64 y.st, .int .u64 s.now] W fun e w' => ∃ A' n' c', e = .returned (.tuple #[.agg #[.slice A' n' c', .slice v.b.A2 v.b.n2 v.b.c2], .int .i64 E]) ∧ Dw K w' { v4 with b := ⟨A', n', c', v.b.A2, v.b.n2, v.b.c2⟩ } s4 N ∧ Below W.heap.size W w') := Lib.hid (fun K v4 W hb hd hK => by
    have hbag : Dq K W v.b s.D s.S := by have := hd.bag; rw [hb, ← hsA] at this; exact this
    refine (renter_any v.b.A v.b.A2 v.b.n v.b.c v.b.n2 v.b.c2 s.D s.S W I y.st s.now hbag hK hp.ri hIu hy.s hp.nw (by have := hbag.l.len; omega)).mono ?_
    rintro e w' ⟨A', n', c', rfl, h1, h2⟩
    refine ⟨A', n', c', by rw [hE], ?_, h2⟩
    have h3 := hd.later h2
    rw [← hsA] at h3
    rw [← hs4]
    exact ⟨h1, h3.loc, h3.sl, h3.sk, h3.book, h3.fact, h3.hist, h3.hk, h3.l8⟩)
  have HPE : Hid (∀ W (col : Nat → Nat), Wv base col W x sA → Calls Tryz.prog 9 #[ptr x.pb, .int .u64 I, .int .i64 y.st, .int .u64 s.now] W fun e w' => e = .returned (.int .i64 E) ∧ ∃ col', Wv base col' w' x s4 ∧ Fw col W w' ∧ El W col col') := Lib.hid (fun W col hw => by
    have q := wenter W hw I y.st s.now hIu hp.nw (by rw [← hsA]; show s.D.length < 1000000; omega)
    rw [← hsA] at q
    rw [← hs4, ← hE]
    exact q)
  have HNS : Hid (sA.now = s.now) := Lib.hid (by rw [← hsA])
  have HSC : Hid (∀ W, Wc W x s4 → Wc W x sA) := Lib.hid (fun W h => by rw [← hs4] at h; rw [← hsA]; exact h.to rfl rfl rfl rfl rfl rfl rfl rfl rfl rfl rfl)
  have HVS : Hid (∀ v4 : Dv, Dv.cells v4 sA = Dv.cells v4 { s with n := nn }) := Lib.hid (fun v4 => by rw [← hsA]; rfl)
  have HV4S : Hid (∀ v4 : Dv, Dv.cells v4 s4 = Dv.cells v4 { s with n := nn }) := Lib.hid (fun v4 => by rw [← hs4]; rfl)
  have HDA : Hid (∀ (K : Nat → Prop) (W : World) (v4 : Dv), Dw K W v s N → Fk.Rf K W (v4.fact nn) (Fc.nx s.O).2 s.P nn s.C → v4.b = v.b → v4.lA = v.lA → v4.ln = v.ln → v4.lc = v.lc → v4.vs = v.vs → v4.sA = v.sA → v4.sn = v.sn → v4.sc = v.sc → v4.k = v.k → v4.hA = v.hA → v4.hn = v.hn → v4.hc = v.hc → Dw K W v4 sA N) := Lib.hid (fun K W v4 hd hf e1 e2 e3 e4 e5 e6 e7 e8 e9 e10 e11 e12 => by
    rw [← hsA]
    refine ⟨e1 ▸ hd.bag, ?_, ?_, ?_, e9 ▸ hd.book, hf, ?_, ?_, e3 ▸ hd.l8⟩
    · rw [e2, e4, e5]; exact hd.loc
    · rw [e6, e7, e8]; exact hd.sl
    · rw [e6, e7]; exact hd.sk
    · rw [e10, e11, e12]; exact hd.hist
    · rw [e10, e11]; exact hd.hk)
  have HT := Lib.hid h
  have HYC := Lib.hid (Yc.new w y)
  have HB0 : Hid (Below w.heap.size w (w.alloc (.cells #[.int .u8 y.do_, .int .u64 y.id, .int .u64 y.n, .int .i64 y.th, .int .i64 y.st] 37))) := Lib.hid ((Below.refl _ _).alloc (Nat.le_refl _) _)
  clear hk hy h hp hs4 hsA hok hdl hnl hI hnn hE hIu
  go_enter Tryz.func11, Tryz.ntmps11
  go_upto_region 1 with (fail)
  generalize (w.alloc (.cells #[.int .u8 y.do_, .int .u64 y.id, .int .u64 y.n, .int .i64 y.th, .int .i64 y.st] 37)) = W1 at *
  have HW1 := Lib.hid (HT.out.wv.later HB0.out)
  have HV1 := Lib.hid (HT.out.vw.later HB0.out)
  have HD1 := Lib.hid (HT.out.dw.later HB0.out)
  obtain ⟨q, hq⟩ : ∃ q, w.heap.size = q := ⟨_, rfl⟩
  have hqd : q ≠ d := fun e => by have := HT.out.vw.lt; omega
  have hsq : w.heap.size ≤ q := by omega
  rw [hq] at HYC
  rw [hq]
  obtain ⟨z0, z1, z2, z3, z4⟩ := HYC.out
  have HQD := Lib.hid hqd
  have HCQ : Hid (col q = 0) := Lib.hid (Classical.byContradiction fun e => by have := HT.out.wv.hi q e; omega)
  clear hq hqd
  have c12 := HW1.out.cells.c12
  go_wp2_with fail
  refine (HOP.out W1 HW1.out).mono ?_
  rintro e w2 ⟨rfl, h2, hz2⟩
  have HW2 := Lib.hid h2
  have HZ2 := Lib.hid hz2
  have HV2 := Lib.hid (HV1.out.blk (hz2.block d HV1.out.lt (fun e => e.2 HT.out.c8)))
  have HD2 := Lib.hid (HD1.out.call hz2 (El.refl _ _))
  have HY2 := Lib.hid (HYC.out.blk (hz2.block q HYC.out.lt (fun e => e.1 HCQ.out)))
  clear h2 hz2 HOP c12 z0 z1 z2 z3 z4 HW1 HV1 HD1
  obtain ⟨z0, z1, z2, z3, z4⟩ := HY2.out
  have f16 := HV2.out.cell 16 _ rfl
  have f17 := HV2.out.cell 17 _ rfl
  have f18 := HV2.out.cell 18 _ rfl
  go_wp2_with fail
  refine (HRO.out w2 HD2.out (fun g hg => HW2.out.new0 g hg)).mono ?_
  rintro e w3 ⟨vf, rfl, hf3, b3⟩
  obtain ⟨A1, n1, c1, A2, n2, c2, A3, c3, S, rfl, hr1, hr2, hr3, hsh⟩ := hf3.form
  have HF3 := Lib.hid hf3
  have HB3 := Lib.hid b3
  have HV3 := Lib.hid (HV2.out.later b3)
  have HW3 := Lib.hid (HW2.out.later b3)
  have HY3 := Lib.hid (HY2.out.later b3)
  clear b3 hf3 hr1 hr2 hr3 hsh HRO f16 f17 f18 z0 z1 z2 z3 z4
  obtain ⟨v4, hv4⟩ : ∃ v4 : Dv, ({ v with fA := A1, fn := n1, fc := c1, pA := A2, pn := n2, pc := c2, cA := A3, cc := c3 } : Dv) = v4 := ⟨_, rfl⟩
  have HV4E := Lib.hid hv4
  have HD3 : Hid (Dw (Kc col) w3 v4 sA N) := Lib.hid (HDA.out (Kc col) w3 v4 (HD2.out.later HB3.out) (by rw [← hv4]; exact HF3.out) (by rw [← hv4]) (by rw [← hv4]) (by rw [← hv4]) (by rw [← hv4]) (by rw [← hv4]) (by rw [← hv4]) (by rw [← hv4]) (by rw [← hv4]) (by rw [← hv4]) (by rw [← hv4]) (by rw [← hv4]) (by rw [← hv4]))
  have HVB : Hid (v4.b = v.b) := Lib.hid (by rw [← hv4])
  clear hv4 HDA HF3
  go_upto_region 20 with (fail)
  have hba : Below w3.heap.size w3 (w3.alloc (.cells #[.slice A1 n1 c1, .slice A2 n2 c2, .slice A3 nn c3] 64)) := (Below.refl _ _).alloc (Nat.le_refl _) _
  have y0 : (w3.alloc (.cells #[.slice A1 n1 c1, .slice A2 n2 c2, .slice A3 nn c3] 64)).cell? ⟨w3.heap.size, 0, none⟩ = some (.slice A1 n1 c1) := by go_simp
  have y1 : (w3.alloc (.cells #[.slice A1 n1 c1, .slice A2 n2 c2, .slice A3 nn c3] 64)).cell? ⟨w3.heap.size, 1, none⟩ = some (.slice A2 n2 c2) := by go_simp
  have y2 : (w3.alloc (.cells #[.slice A1 n1 c1, .slice A2 n2 c2, .slice A3 nn c3] 64)).cell? ⟨w3.heap.size, 2, none⟩ = some (.slice A3 nn c3) := by go_simp
  have HV4 := Lib.hid (HV3.out.later hba)
  have HW4 := Lib.hid (HW3.out.later hba)
  have HD4 := Lib.hid (HD3.out.later hba)
  have HY4 := Lib.hid (HY3.out.later hba)
  have HB4 : Hid (Below w2.heap.size w2 (w3.alloc (.cells #[.slice A1 n1 c1, .slice A2 n2 c2, .slice A3 nn c3] 64))) := Lib.hid (HB3.out.trans (hba.mono HB3.out.size))
  have f16 := HV4.out.cell 16 _ rfl
  have g16 := HV4.out.free 16 (by decide)
  have f17 := HV4.out.cell 17 _ rfl
  have g17 := HV4.out.free 17 (by decide)
  have f18 := HV4.out.cell 18 _ rfl
  have g18 := HV4.out.free 18 (by decide)
  clear hba HV2 HV3 HW3 HD3 HY3
  generalize (w3.alloc (.cells #[.slice A1 n1 c1, .slice A2 n2 c2, .slice A3 nn c3] 64)) = w4 at *
  obtain ⟨x2, hx2⟩ : ∃ x2, w3.heap.size = x2 := ⟨_, rfl⟩
  rw [hx2] at y0 y1 y2
  rw [hx2]
  clear hx2
  go_upto_region 21 with (fail)
  have HV5 : Hid (Vw (((w4.setCell ⟨d, 16, none⟩ (.slice A1 n1 c1)).setCell ⟨d, 17, none⟩ (.slice A2 n2 c2)).setCell ⟨d, 18, none⟩ (.slice A3 nn c3)) d (Dv.cells v4 sA)) := Lib.hid (by
    rw [HVS.out, ← HV4E.out]
    exact ((HV4.out.set 16 (by simp [cells_len]) (.slice A1 n1 c1)).set 17 (by simp [cells_len]) (.slice A2 n2 c2)).set 18 (by simp [cells_len]) (.slice A3 nn c3))
  have hz5 : Fz (fun k => k = d) w4 (((w4.setCell ⟨d, 16, none⟩ (.slice A1 n1 c1)).setCell ⟨d, 17, none⟩ (.slice A2 n2 c2)).setCell ⟨d, 18, none⟩ (.slice A3 nn c3)) := ((Fz.of_set (C := fun k => k = d) (a := ⟨d, 16, none⟩) _ rfl).trans (Fz.of_set (C := fun k => k = d) (a := ⟨d, 17, none⟩) _ rfl)).trans (Fz.of_set (C := fun k => k = d) (a := ⟨d, 18, none⟩) _ rfl)
  have HW5 := Lib.hid (HW4.out.aside hz5 (fun k _ e => by rw [e]; exact HT.out.c8))
  have HD5 := Lib.hid (HD4.out.at_ HT.out.c8 hz5)
  have HY5 := Lib.hid (HY4.out.blk (hz5.block q HY4.out.lt (fun e => HQD.out e)))
  have HZ5 : Hid (Fp col d W1 (((w4.setCell ⟨d, 16, none⟩ (.slice A1 n1 c1)).setCell ⟨d, 17, none⟩ (.slice A2 n2 c2)).setCell ⟨d, 18, none⟩ (.slice A3 nn c3))) := Lib.hid ((fp_w HZ2.out).trans ((Fz.of_below HB4.out).trans (fp_d hz5)))
  generalize (((w4.setCell ⟨d, 16, none⟩ (.slice A1 n1 c1)).setCell ⟨d, 17, none⟩ (.slice A2 n2 c2)).setCell ⟨d, 18, none⟩ (.slice A3 nn c3)) = w0 at *
  clear hz5 y0 y1 y2 f16 g16 f17 g17 f18 g18 HV4 HW4 HD4 HY4 HB4 HZ2 HB3 HW2 HD2 HY2
  go_wp2_with fail
  have HS : Hid (Wc w0.drew x sA ∧ Yc w0.drew q y) := Lib.hid ⟨HW5.out.cells.blk rfl, HY5.out.blk rfl⟩
  refine reg_start 11 (fun w' => Wc w' x sA ∧ Yc w' q y) (by kernel_rfl) (by kernel_rfl) ?_
  intro hTT
  have HTT := Lib.hid hTT
  clear hTT
  refine reg_load 0 HTT.out rfl (by kernel_rfl) (by decide) (fun _ _ _ _ h => h) HS.out rfl ?_
  apply Exists.intro
  refine ⟨fun w' hw => by (go_simp; exact rfl), ?_⟩
  refine reg_load 1 HTT.out rfl (by kernel_rfl) (by decide) (fun _ _ _ _ h => h) HS.out rfl ?_
  apply Exists.intro
  refine ⟨fun w' hw => by (go_simp; exact rfl), ?_⟩
  refine reg_load 2 HTT.out rfl (by kernel_rfl) (by decide) (fun _ _ _ _ h => h) HS.out rfl ?_
  apply Exists.intro
  refine ⟨fun w' hw => by (go_simp; exact rfl), ?_⟩
  refine reg_load 3 HTT.out rfl (by kernel_rfl) (by decide) (fun _ _ _ _ h => h) HS.out rfl ?_
  apply Exists.intro
  refine ⟨fun w' hw => by (have kc := hw.1.c8; go_simp; exact rfl), ?_⟩
  refine reg_load 4 HTT.out rfl (by kernel_rfl) (by decide) (fun _ _ _ _ h => h) HS.out rfl ?_
  apply Exists.intro
  refine ⟨fun w' hw => by (go_simp; exact rfl), ?_⟩
  refine reg_load 5 HTT.out rfl (by kernel_rfl) (by decide) (fun _ _ _ _ h => h) HS.out rfl ?_
  apply Exists.intro
  refine ⟨fun w' hw => by (go_simp; exact rfl), ?_⟩
  refine reg_load 6 HTT.out rfl (by kernel_rfl) (by decide) (fun _ _ _ _ h => h) HS.out rfl ?_
  apply Exists.intro
  refine ⟨fun w' hw => by (have kz := hw.2.z4; go_simp; exact rfl), ?_⟩
  refine reg_load 7 HTT.out rfl (by kernel_rfl) (by decide) (fun _ _ _ _ h => h) HS.out rfl ?_
  apply Exists.intro
  refine ⟨fun w' hw => by (go_simp; exact rfl), ?_⟩
  refine reg_only 8 rfl (by kernel_rfl) rfl ?_
  unfold Oper.wp
  go_simp
  refine (wnow_any _ HS.out.1).mono ?_
  rintro e w6 ⟨rfl, b6⟩
  have hb6 : Below w0.heap.size w0 w6 := (Below.refl _ _).drew.trans b6
  have hS : Wc w6 x sA ∧ Yc w6 q y := ⟨HS.out.1.blk (b6.block _ HS.out.1.lt), HS.out.2.later b6⟩
  refine ⟨hS, ?_⟩
  clear HS
  have HS := Lib.hid hS
  have HB6 := Lib.hid hb6
  rw [HNS.out]
  clear hS b6 hb6
  refine reg_only 9 rfl (by kernel_rfl) rfl ?_
  unfold Oper.wp
  go_simp
  refine (HPE.out _ col (HW5.out.later HB6.out)).mono ?_
  rintro e w7 ⟨rfl, col5, h7, z7, l7⟩
  have hz7 : Fw col w0 w7 := (Fz.of_below HB6.out).trans z7
  have hl7 : El w0 col col5 := fun k hk => l7 k (by have := HB6.out.size; omega)
  have hS : Wc w7 x sA ∧ Yc w7 q y := ⟨HSC.out _ h7.cells, HY5.out.blk (hz7.block q HY5.out.lt (fun e => e.1 HCQ.out))⟩
  refine ⟨hS, ?_⟩
  clear HS
  have HS := Lib.hid hS
  have HW7 := Lib.hid h7
  have HZ7 := Lib.hid hz7
  have HL7 := Lib.hid hl7
  clear hS h7 z7 l7 hz7 hl7
  refine reg_load 10 HTT.out rfl (by kernel_rfl) (by decide) (fun _ _ _ _ h => h) HS.out rfl ?_
  apply Exists.intro
  refine ⟨fun w' hw => by (go_simp; exact rfl), ?_⟩
  refine reg_done (by kernel_rfl) ?_
  have HC58 : Hid (col5 d = 8) := Lib.hid ((HL7.out d HV5.out.lt).trans HT.out.c8)
  have HV7 := Lib.hid (HV5.out.blk (HZ7.out.block d HV5.out.lt (fun e => e.2 HT.out.c8)))
  have HD7 := Lib.hid (HD5.out.call HZ7.out HL7.out)
  have HY7 := Lib.hid HS.out.2
  have HZW5 : Hid (Fp col d W1 w7) := Lib.hid (HZ5.out.trans (fp_w HZ7.out))
  have hs0 := HZ5.out.size
  have hs0' := HB0.out.size
  have HL5 : Hid (El w col col5) := Lib.hid (fun g hg => HL7.out g (by omega))
  clear HS HW5 HV5 HD5 HY5 HZ7 HL7 HB6 HZ5 HPE HSC hs0 hs0'
  generalize HX1 : w7 = w5 at *
  clear HX1
  have HW5 := HW7
  have HV5 := HV7
  have HD5 := HD7
  have HY5 := HY7
  clear HW7 HV7 HD7 HY7
  go_wp2_with fail
  have hb0 : Below w5.heap.size w5 w5.drew := (Below.refl _ _).drew
  have HS : Hid (Vw w5.drew d (Dv.cells v4 sA) ∧ w5.drew.cell? ⟨q, 4, none⟩ = some (.int .i64 y.st)) := Lib.hid ⟨HV5.out.later hb0, (hb0.cell (p := ⟨q, 4, none⟩) HY5.out.lt).trans HY5.out.z4⟩
  refine reg_start 18 (fun w' => Vw w' d (Dv.cells v4 sA) ∧ w'.cell? ⟨q, 4, none⟩ = some (.int .i64 y.st)) (by kernel_rfl) (by kernel_rfl) ?_
  intro hTT
  have HTT := Lib.hid hTT
  clear hTT
  refine reg_load 0 HTT.out rfl (by kernel_rfl) (by decide) (fun _ _ _ _ h => h) HS.out rfl ?_
  apply Exists.intro
  refine ⟨fun w' hw => by (go_simp; exact rfl), ?_⟩
  refine reg_load 1 HTT.out rfl (by kernel_rfl) (by decide) (fun _ _ _ _ h => h) HS.out rfl ?_
  apply Exists.intro
  refine ⟨fun w' hw => by (go_simp; exact rfl), ?_⟩
  refine reg_load 2 HTT.out rfl (by kernel_rfl) (by decide) (fun _ _ _ _ h => h) HS.out rfl ?_
  apply Exists.intro
  refine ⟨fun w' hw => by (go_simp; exact rfl), ?_⟩
  refine reg_load 3 HTT.out rfl (by kernel_rfl) (by decide) (fun _ _ _ _ h => h) HS.out rfl ?_
  apply Exists.intro
  refine ⟨fun w' hw => by (have k8 := hw.1.cell 8 _ rfl; have k9 := hw.1.cell 9 _ rfl; rw [HVB.out] at k8 k9; go_simp; exact rfl), ?_⟩
  refine reg_load 4 HTT.out rfl (by kernel_rfl) (by decide) (fun _ _ _ _ h => h) HS.out rfl ?_
  apply Exists.intro
  refine ⟨fun w' hw => by (go_simp; exact rfl), ?_⟩
  refine reg_load 5 HTT.out rfl (by kernel_rfl) (by decide) (fun _ _ _ _ h => h) HS.out rfl ?_
  apply Exists.intro
  refine ⟨fun w' hw => by (go_simp; exact rfl), ?_⟩
  refine reg_load 6 HTT.out rfl (by kernel_rfl) (by decide) (fun _ _ _ _ h => h) HS.out rfl ?_
  apply Exists.intro
  refine ⟨fun w' hw => by (have kz := hw.2; go_simp; exact rfl), ?_⟩
  refine reg_load 7 HTT.out rfl (by kernel_rfl) (by decide) (fun _ _ _ _ h => h) HS.out rfl ?_
  apply Exists.intro
  refine ⟨fun w' hw => by (go_simp; exact rfl), ?_⟩
  refine reg_load 8 HTT.out rfl (by kernel_rfl) (by decide) (fun _ _ _ _ h => h) HS.out rfl ?_
  apply Exists.intro
  refine ⟨fun w' hw => by (go_simp; exact rfl), ?_⟩
  refine reg_load 9 HTT.out rfl (by kernel_rfl) (by decide) (fun _ _ _ _ h => h) HS.out rfl ?_
  apply Exists.intro
  refine ⟨fun w' hw => by (go_simp; exact rfl), ?_⟩
  refine reg_load 10 HTT.out rfl (by kernel_rfl) (by decide) (fun _ _ _ _ h => h) HS.out rfl ?_
  apply Exists.intro
  refine ⟨fun w' hw => by (have k7 := hw.1.cell 7 _ rfl; rw [HNS.out] at k7; go_simp; exact rfl), ?_⟩
  refine reg_two 11 15 rfl rfl (by kernel_rfl) rfl rfl ?_ ?_
  · as_aux_lemma =>
      unfold Oper.wp
      go_simp
      refine (HEN.out (Kc col5) v4 _ HVB.out (HD5.out.later hb0) (fun g hg => HW5.out.new0 g hg)).mono ?_
      rintro e w6 ⟨A', n', c', rfl, hd6, b6⟩
      have hb6 : Below w5.heap.size w5 w6 := hb0.trans (b6.mono (Nat.le_refl _))
      clear HS
      have HS : Hid (Vw w6 d (Dv.cells v4 sA) ∧ w6.cell? ⟨q, 4, none⟩ = some (.int .i64 y.st)) := Lib.hid ⟨HV5.out.later hb6, (hb6.cell (p := ⟨q, 4, none⟩) HY5.out.lt).trans HY5.out.z4⟩
      refine ⟨HS.out, ?_⟩
      have HD6 := Lib.hid hd6
      have HB6 := Lib.hid hb6
      clear hd6 b6 hb6
      refine reg_load 12 HTT.out rfl (by kernel_rfl) (by decide) (fun _ _ _ _ h => h) HS.out rfl ?_
      apply Exists.intro
      refine ⟨fun w' hw => by (go_simp; exact rfl), ?_⟩
      refine reg_load 13 HTT.out rfl (by kernel_rfl) (by decide) (fun _ _ _ _ h => h) HS.out rfl ?_
      apply Exists.intro
      refine ⟨fun w' hw => by (go_simp; exact rfl), ?_⟩
      refine reg_load 14 HTT.out rfl (by kernel_rfl) (by decide) (fun _ _ _ _ h => h) HS.out rfl ?_
      apply Exists.intro
      refine ⟨fun w' hw => by (go_simp; exact rfl), ?_⟩
      refine reg_only 15 rfl (by kernel_rfl) rfl ?_
      unfold Oper.wp
      go_simp
      have hb7 : Below w6.heap.size w6 (w6.alloc (.cells #[.slice none 0 0, .slice none 0 0] 56)) := (Below.refl _ _).alloc (Nat.le_refl _) _
      have hb8 : Below w5.heap.size w5 (w6.alloc (.cells #[.slice none 0 0, .slice none 0 0] 56)) := HB6.out.trans (hb7.mono HB6.out.size)
      have y0 : (w6.alloc (.cells #[.slice none 0 0, .slice none 0 0] 56)).cell? ⟨w6.heap.size, 0, none⟩ = some (.slice none 0 0) := by go_simp
      have y1 : (w6.alloc (.cells #[.slice none 0 0, .slice none 0 0] 56)).cell? ⟨w6.heap.size, 1, none⟩ = some (.slice none 0 0) := by go_simp
      have x0 : (w6.alloc (.cells #[.slice none 0 0, .slice none 0 0] 56)).frozen? ⟨w6.heap.size, 0, none⟩ = false := by go_simp
      have x1 : (w6.alloc (.cells #[.slice none 0 0, .slice none 0 0] 56)).frozen? ⟨w6.heap.size, 1, none⟩ = false := by go_simp
      clear HS
      have HS : Hid (Vw (w6.alloc (.cells #[.slice none 0 0, .slice none 0 0] 56)) d (Dv.cells v4 sA) ∧ (w6.alloc (.cells #[.slice none 0 0, .slice none 0 0] 56)).cell? ⟨q, 4, none⟩ = some (.int .i64 y.st)) := Lib.hid ⟨HV5.out.later hb8, (hb8.cell (p := ⟨q, 4, none⟩) HY5.out.lt).trans HY5.out.z4⟩
      refine ⟨HS.out, ?_⟩
      have HD7' := Lib.hid ((HD6.out.mono (L := fun k => Kc col5 k ∧ k ≠ w6.heap.size) (fun k hk e => ⟨e, by omega⟩)).later hb7)
      have HB7 := Lib.hid hb8
      obtain ⟨g, hg⟩ : ∃ g, w6.heap.size = g := ⟨_, rfl⟩
      have hgs : w5.heap.size ≤ g := by have := HB6.out.size; omega
      rw [hg] at y0 y1 x0 x1
      rw [hg] at HD7'
      rw [hg]
      generalize (w6.alloc (.cells #[.slice none 0 0, .slice none 0 0] 56)) = w7 at *
      clear hb7 hb8 hg HD6 HB6
      refine reg_only 16 rfl (by kernel_rfl) rfl ?_
      unfold Oper.wp
      go_simp
      have hz8 : Fz (fun k => k = g) w7 ((w7.setCell ⟨g, 0, none⟩ (.slice A' n' c')).setCell ⟨g, 1, none⟩ (.slice v.b.A2 v.b.n2 v.b.c2)) := (Fz.of_set (C := fun k => k = g) (a := ⟨g, 0, none⟩) _ rfl).trans (Fz.of_set (C := fun k => k = g) (a := ⟨g, 1, none⟩) _ rfl)
      have hgd : g ≠ d := fun e => by have := HV5.out.lt; omega
      have hgq : g ≠ q := fun e => by have := HY5.out.lt; omega
      have hS : Vw ((w7.setCell ⟨g, 0, none⟩ (.slice A' n' c')).setCell ⟨g, 1, none⟩ (.slice v.b.A2 v.b.n2 v.b.c2)) d (Dv.cells v4 sA) ∧ (((w7.setCell ⟨g, 0, none⟩ (.slice A' n' c')).setCell ⟨g, 1, none⟩ (.slice v.b.A2 v.b.n2 v.b.c2))).cell? ⟨q, 4, none⟩ = some (.int .i64 y.st) := ⟨HS.out.1.blk (hz8.block d HS.out.1.lt (fun e => hgd e.symm)), (World.cell?_of_block (a := ⟨q, 4, none⟩) (hz8.block q (Lw.lt_heap HS.out.2) (fun e => hgq e.symm))).trans HS.out.2⟩
      have y2 : (((w7.setCell ⟨g, 0, none⟩ (.slice A' n' c')).setCell ⟨g, 1, none⟩ (.slice v.b.A2 v.b.n2 v.b.c2))).cell? ⟨g, 0, none⟩ = some (.slice A' n' c') := (World.cell?_setCell_other _ _ _ _ (by simp)).trans (World.cell?_setCell_same _ _ _ y0)
      have y3 : (((w7.setCell ⟨g, 0, none⟩ (.slice A' n' c')).setCell ⟨g, 1, none⟩ (.slice v.b.A2 v.b.n2 v.b.c2))).cell? ⟨g, 1, none⟩ = some (.slice v.b.A2 v.b.n2 v.b.c2) := World.cell?_setCell_same _ _ _ ((World.cell?_setCell_other _ _ _ _ (by simp)).trans y1)
      refine ⟨by first | exact hS | exact ⟨hS.1, HS.out.2⟩, ?_⟩
      clear HS
      have HS := Lib.hid hS
      have HB8 : Hid (Below w5.heap.size w5 ((w7.setCell ⟨g, 0, none⟩ (.slice A' n' c')).setCell ⟨g, 1, none⟩ (.slice v.b.A2 v.b.n2 v.b.c2))) := Lib.hid (HB7.out.trans (hz8.below HB7.out.size (fun k hk => by omega)))
      have HD8 : Hid (Dw (Kc col5) ((w7.setCell ⟨g, 0, none⟩ (.slice A' n' c')).setCell ⟨g, 1, none⟩ (.slice v.b.A2 v.b.n2 v.b.c2)) { v4 with b := ⟨A', n', c', v.b.A2, v.b.n2, v.b.c2⟩ } s4 N) := Lib.hid ((HD7'.out.fz hz8 (fun k hk e e2 => e.2 e2)).mono (fun k hk e => e.1))
      generalize ((w7.setCell ⟨g, 0, none⟩ (.slice A' n' c')).setCell ⟨g, 1, none⟩ (.slice v.b.A2 v.b.n2 v.b.c2)) = w8 at *
      clear hS hz8 y0 y1 x0 x1
      refine reg_load 17 HTT.out rfl (by kernel_rfl) (by decide) (fun _ _ _ _ h => h) HS.out rfl ?_
      apply Exists.intro
      refine ⟨fun w' hw => by (go_simp; exact rfl), ?_⟩
      refine reg_done (by kernel_rfl) ?_
      have HV8 := Lib.hid HS.out.1
      clear HS
      have f8 := HV8.out.cell 8 _ rfl
      have g8 := HV8.out.free 8 (by decide)
      have f9 := HV8.out.cell 9 _ rfl
      have g9 := HV8.out.free 9 (by decide)
      have HW8 := Lib.hid (HW5.out.later HB8.out)
      go_upto_region 26 with (fail)
      have HV9 : Hid (Vw ((w8.setCell ⟨d, 8, none⟩ (.slice A' n' c')).setCell ⟨d, 9, none⟩ (.slice v.b.A2 v.b.n2 v.b.c2)) d (Dv.cells { v4 with b := ⟨A', n', c', v.b.A2, v.b.n2, v.b.c2⟩ } s4)) := Lib.hid (by
        have q := (HV8.out.set 8 (by simp [cells_len]) (.slice A' n' c')).set 9 (by simp [cells_len]) (.slice v.b.A2 v.b.n2 v.b.c2)
        rw [HVS.out] at q
        rw [HV4S.out]
        exact q)
      have HZ9 : Hid (Fz (fun k => k = d) w8 ((w8.setCell ⟨d, 8, none⟩ (.slice A' n' c')).setCell ⟨d, 9, none⟩ (.slice v.b.A2 v.b.n2 v.b.c2))) := Lib.hid ((Fz.of_set (C := fun k => k = d) (a := ⟨d, 8, none⟩) _ rfl).trans (Fz.of_set (C := fun k => k = d) (a := ⟨d, 9, none⟩) _ rfl))
      generalize ((w8.setCell ⟨d, 8, none⟩ (.slice A' n' c')).setCell ⟨d, 9, none⟩ (.slice v.b.A2 v.b.n2 v.b.c2)) = w9 at *
      clear f8 g8 f9 g9 y2 y3
      go_wp2_with fail
      go_ret
      have hs1 := HB0.out.size
      have hs2 := HZW5.out.size
      refine ⟨by simp, col5, { v4 with b := ⟨A', n', c', v.b.A2, v.b.n2, v.b.c2⟩ }, ⟨HW8.out.aside HZ9.out (fun k _ e => by rw [e]; exact HC58.out), HD8.out.at_ HC58.out HZ9.out, HV9.out, HC58.out⟩, ?_, fun k hk => HL5.out k (by omega)⟩
      exact ((Fz.of_below HB0.out).trans HZW5.out).trans ((Fz.of_below HB8.out).trans (fp_d HZ9.out))
  · as_aux_lemma =>
      unfold Oper.wp
      go_simp
      have hb7 : Below w5.drew.heap.size w5.drew (w5.drew.alloc (.cells #[.slice none 0 0, .slice none 0 0] 56)) := (Below.refl _ _).alloc (Nat.le_refl _) _
      have hb8 : Below w5.heap.size w5 (w5.drew.alloc (.cells #[.slice none 0 0, .slice none 0 0] 56)) := hb0.trans (hb7.mono (Nat.le_refl _))
      have y0 : (w5.drew.alloc (.cells #[.slice none 0 0, .slice none 0 0] 56)).cell? ⟨w5.heap.size, 0, none⟩ = some (.slice none 0 0) := by go_simp
      have y1 : (w5.drew.alloc (.cells #[.slice none 0 0, .slice none 0 0] 56)).cell? ⟨w5.heap.size, 1, none⟩ = some (.slice none 0 0) := by go_simp
      have x0 : (w5.drew.alloc (.cells #[.slice none 0 0, .slice none 0 0] 56)).frozen? ⟨w5.heap.size, 0, none⟩ = false := by go_simp
      have x1 : (w5.drew.alloc (.cells #[.slice none 0 0, .slice none 0 0] 56)).frozen? ⟨w5.heap.size, 1, none⟩ = false := by go_simp
      have hsz7 : (w5.drew.alloc (.cells #[.slice none 0 0, .slice none 0 0] 56)).heap.size = w5.heap.size + 1 := by simp
      clear HS
      have HS : Hid (Vw (w5.drew.alloc (.cells #[.slice none 0 0, .slice none 0 0] 56)) d (Dv.cells v4 sA) ∧ (w5.drew.alloc (.cells #[.slice none 0 0, .slice none 0 0] 56)).cell? ⟨q, 4, none⟩ = some (.int .i64 y.st)) := Lib.hid ⟨HV5.out.later hb8, (hb8.cell (p := ⟨q, 4, none⟩) HY5.out.lt).trans HY5.out.z4⟩
      refine ⟨HS.out, ?_⟩
      refine reg_only 11 rfl (by kernel_rfl) rfl ?_
      unfold Oper.wp
      go_simp
      refine (HEN.out (fun k => Kc col5 k ∧ k ≠ w5.heap.size) v4 _ HVB.out ((HD5.out.mono (fun k hk e => ⟨e, by omega⟩)).later hb8) (fun k hk => ⟨HW5.out.new0 k (by have := hb8.size; omega), by rw [hsz7] at hk; omega⟩)).mono ?_
      rintro e w7 ⟨A', n', c', rfl, hd7, b7⟩
      have hb9 : Below w5.heap.size w5 w7 := hb8.trans (b7.mono hb8.size)
      have y0 := (b7.cell (p := ⟨w5.heap.size, 0, none⟩) (by rw [hsz7]; show w5.heap.size < _; omega)).trans y0
      have y1 := (b7.cell (p := ⟨w5.heap.size, 1, none⟩) (by rw [hsz7]; show w5.heap.size < _; omega)).trans y1
      have x0 := (World.frozen?_of_block (a := ⟨w5.heap.size, 0, none⟩) (b7.block w5.heap.size (by rw [hsz7]; omega))).trans x0
      have x1 := (World.frozen?_of_block (a := ⟨w5.heap.size, 1, none⟩) (b7.block w5.heap.size (by rw [hsz7]; omega))).trans x1
      clear HS
      have HS : Hid (Vw w7 d (Dv.cells v4 sA) ∧ w7.cell? ⟨q, 4, none⟩ = some (.int .i64 y.st)) := Lib.hid ⟨HV5.out.later hb9, (hb9.cell (p := ⟨q, 4, none⟩) HY5.out.lt).trans HY5.out.z4⟩
      refine ⟨HS.out, ?_⟩
      have HD7' := Lib.hid hd7
      have HB7 := Lib.hid hb9
      clear hd7 b7 hb7 hb8 hb9 hsz7
      refine reg_load 12 HTT.out rfl (by kernel_rfl) (by decide) (fun _ _ _ _ h => h) HS.out rfl ?_
      apply Exists.intro
      refine ⟨fun w' hw => by (go_simp; exact rfl), ?_⟩
      refine reg_load 13 HTT.out rfl (by kernel_rfl) (by decide) (fun _ _ _ _ h => h) HS.out rfl ?_
      apply Exists.intro
      refine ⟨fun w' hw => by (go_simp; exact rfl), ?_⟩
      refine reg_load 14 HTT.out rfl (by kernel_rfl) (by decide) (fun _ _ _ _ h => h) HS.out rfl ?_
      apply Exists.intro
      refine ⟨fun w' hw => by (go_simp; exact rfl), ?_⟩
      obtain ⟨g, hg⟩ : ∃ g, w5.heap.size = g := ⟨_, rfl⟩
      have hgs : w5.heap.size ≤ g := by omega
      rw [hg] at y0 y1 x0 x1
      rw [hg] at HD7'
      rw [hg]
      clear hg
      refine reg_only 16 rfl (by kernel_rfl) rfl ?_
      unfold Oper.wp
      go_simp
      have hz8 : Fz (fun k => k = g) w7 ((w7.setCell ⟨g, 0, none⟩ (.slice A' n' c')).setCell ⟨g, 1, none⟩ (.slice v.b.A2 v.b.n2 v.b.c2)) := (Fz.of_set (C := fun k => k = g) (a := ⟨g, 0, none⟩) _ rfl).trans (Fz.of_set (C := fun k => k = g) (a := ⟨g, 1, none⟩) _ rfl)
      have hgd : g ≠ d := fun e => by have := HV5.out.lt; omega
      have hgq : g ≠ q := fun e => by have := HY5.out.lt; omega
      have hS : Vw ((w7.setCell ⟨g, 0, none⟩ (.slice A' n' c')).setCell ⟨g, 1, none⟩ (.slice v.b.A2 v.b.n2 v.b.c2)) d (Dv.cells v4 sA) ∧ (((w7.setCell ⟨g, 0, none⟩ (.slice A' n' c')).setCell ⟨g, 1, none⟩ (.slice v.b.A2 v.b.n2 v.b.c2))).cell? ⟨q, 4, none⟩ = some (.int .i64 y.st) := ⟨HS.out.1.blk (hz8.block d HS.out.1.lt (fun e => hgd e.symm)), (World.cell?_of_block (a := ⟨q, 4, none⟩) (hz8.block q (Lw.lt_heap HS.out.2) (fun e => hgq e.symm))).trans HS.out.2⟩
      have y2 : (((w7.setCell ⟨g, 0, none⟩ (.slice A' n' c')).setCell ⟨g, 1, none⟩ (.slice v.b.A2 v.b.n2 v.b.c2))).cell? ⟨g, 0, none⟩ = some (.slice A' n' c') := (World.cell?_setCell_other _ _ _ _ (by simp)).trans (World.cell?_setCell_same _ _ _ y0)
      have y3 : (((w7.setCell ⟨g, 0, none⟩ (.slice A' n' c')).setCell ⟨g, 1, none⟩ (.slice v.b.A2 v.b.n2 v.b.c2))).cell? ⟨g, 1, none⟩ = some (.slice v.b.A2 v.b.n2 v.b.c2) := World.cell?_setCell_same _ _ _ ((World.cell?_setCell_other _ _ _ _ (by simp)).trans y1)
      refine ⟨by first | exact hS | exact ⟨hS.1, HS.out.2⟩, ?_⟩
      clear HS
      have HS := Lib.hid hS
      have HB8 : Hid (Below w5.heap.size w5 ((w7.setCell ⟨g, 0, none⟩ (.slice A' n' c')).setCell ⟨g, 1, none⟩ (.slice v.b.A2 v.b.n2 v.b.c2))) := Lib.hid (HB7.out.trans (hz8.below HB7.out.size (fun k hk => by omega)))
      have HD8 : Hid (Dw (Kc col5) ((w7.setCell ⟨g, 0, none⟩ (.slice A' n' c')).setCell ⟨g, 1, none⟩ (.slice v.b.A2 v.b.n2 v.b.c2)) { v4 with b := ⟨A', n', c', v.b.A2, v.b.n2, v.b.c2⟩ } s4 N) := Lib.hid ((HD7'.out.fz hz8 (fun k hk e e2 => e.2 e2)).mono (fun k hk e => e.1))
      generalize ((w7.setCell ⟨g, 0, none⟩ (.slice A' n' c')).setCell ⟨g, 1, none⟩ (.slice v.b.A2 v.b.n2 v.b.c2)) = w8 at *
      clear hS hz8 y0 y1 x0 x1
      refine reg_load 17 HTT.out rfl (by kernel_rfl) (by decide) (fun _ _ _ _ h => h) HS.out rfl ?_
      apply Exists.intro
      refine ⟨fun w' hw => by (go_simp; exact rfl), ?_⟩
      refine reg_done (by kernel_rfl) ?_
      have HV8 := Lib.hid HS.out.1
      clear HS
      have f8 := HV8.out.cell 8 _ rfl
      have g8 := HV8.out.free 8 (by decide)
      have f9 := HV8.out.cell 9 _ rfl
      have g9 := HV8.out.free 9 (by decide)
      have HW8 := Lib.hid (HW5.out.later HB8.out)
      go_upto_region 26 with (fail)
      have HV9 : Hid (Vw ((w8.setCell ⟨d, 8, none⟩ (.slice A' n' c')).setCell ⟨d, 9, none⟩ (.slice v.b.A2 v.b.n2 v.b.c2)) d (Dv.cells { v4 with b := ⟨A', n', c', v.b.A2, v.b.n2, v.b.c2⟩ } s4)) := Lib.hid (by
        have q := (HV8.out.set 8 (by simp [cells_len]) (.slice A' n' c')).set 9 (by simp [cells_len]) (.slice v.b.A2 v.b.n2 v.b.c2)
        rw [HVS.out] at q
        rw [HV4S.out]
        exact q)
      have HZ9 : Hid (Fz (fun k => k = d) w8 ((w8.setCell ⟨d, 8, none⟩ (.slice A' n' c')).setCell ⟨d, 9, none⟩ (.slice v.b.A2 v.b.n2 v.b.c2))) := Lib.hid ((Fz.of_set (C := fun k => k = d) (a := ⟨d, 8, none⟩) _ rfl).trans (Fz.of_set (C := fun k => k = d) (a := ⟨d, 9, none⟩) _ rfl))
      generalize ((w8.setCell ⟨d, 8, none⟩ (.slice A' n' c')).setCell ⟨d, 9, none⟩ (.slice v.b.A2 v.b.n2 v.b.c2)) = w9 at *
      clear f8 g8 f9 g9 y2 y3
      go_wp2_with fail
      go_ret
      have hs1 := HB0.out.size
      have hs2 := HZW5.out.size
      refine ⟨by simp, col5, { v4 with b := ⟨A', n', c', v.b.A2, v.b.n2, v.b.c2⟩ }, ⟨HW8.out.aside HZ9.out (fun k _ e => by rw [e]; exact HC58.out), HD8.out.at_ HC58.out HZ9.out, HV9.out, HC58.out⟩, ?_, fun k hk => HL5.out k (by omega)⟩
      exact ((Fz.of_below HB0.out).trans HZW5.out).trans ((Fz.of_below HB8.out).trans (fp_d HZ9.out))
end
end Go.Proofs.YthmdiaingolfnaaGreatDoor.Wo
