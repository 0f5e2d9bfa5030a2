/- A part of the claim: the texts World WorldB. -/
import Derived.Test.YthmdiaingolfnaaGreatDoorZGAw
import Derived.Test.YthmdiaingolfnaaGreatDoorZConfCheck
import Derived.Test.YthmdiaingolfnaaGreatDoorZBase5
import Derived.Test.YthmdiaingolfnaaGreatDoorZBase1
namespace Go.Proofs.YthmdiaingolfnaaGreatDoor.Wo
open Go Go.ChangeShapes Go.WideShapes Go.ChangeAt Go.RowKit Go.Maps Rw Hi Mt Ba
open Cn (Cf cfE)
set_option linter.unusedVariables false
structure Wp where
  pw : Nat
  pb : Nat
  ab : Nat
  pl : Nat
  ps : Nat
  rs : Option Nat
  bk : Le.At
  bF : Nat
  mF : Nat
  pF : Nat
  ph : Nat
  rh : Option Nat
structure Ws where
  conf : Cf
  now : Int
  D : List (Int × Ex)
  S : List Int
  loc : Nat → List Int
  sl : List St.Sx
  leak : Int
  L : List (Int × Le.Ls)
  M : List (Int × Bool)
  T : List (Int × Int)
  O : List Bool
  P : List Bool
  n : Nat
  C : List Int
  step : Int
  ev : List Tx.Ev
  live : Int
  closed : Bool
structure Wc (w : World) (x : Wp) (s : Ws) : Prop where
  c0 : w.cell? ⟨x.pw, 0, none⟩ = some (.int .i64 s.conf.max)
  c1 : w.cell? ⟨x.pw, 1, none⟩ = some (.int .i64 s.conf.min)
  c2 : w.cell? ⟨x.pw, 2, none⟩ = some (.int .u64 s.conf.idle)
  c3 : w.cell? ⟨x.pw, 3, none⟩ = some (.int .u64 s.conf.life)
  c4 : w.cell? ⟨x.pw, 4, none⟩ = some (.int .u64 s.conf.keep)
  c5 : w.cell? ⟨x.pw, 5, none⟩ = some (.int .u64 s.conf.leak)
  c6 : w.cell? ⟨x.pw, 6, none⟩ = some (.float .f64 s.conf.var)
  c7 : w.cell? ⟨x.pw, 7, none⟩ = some (.int .u64 s.now)
  c8 : w.cell? ⟨x.pw, 8, none⟩ = some (ptr x.pb)
  c9 : w.cell? ⟨x.pw, 9, none⟩ = some (ptr x.pl)
  c10 : w.cell? ⟨x.pw, 10, none⟩ = some (ptr x.ps)
  c11 : w.cell? ⟨x.pw, 11, none⟩ = some (ptr x.bk.p)
  c12 : w.cell? ⟨x.pw, 12, none⟩ = some (ptr x.pF)
  c13 : w.cell? ⟨x.pw, 13, none⟩ = some (ptr x.ph)
  c14 : w.cell? ⟨x.pw, 14, none⟩ = some (.int .i64 s.live)
  c15 : w.cell? ⟨x.pw, 15, none⟩ = some (.bool s.closed)
  fz : ∀ o, w.frozen? ⟨x.pw, o, none⟩ = false
structure Wo (base : Nat) (col : Nat → Nat) (w : World) (x : Wp) (s : Ws) : Prop where
  cells : Wc w x s
  bag : Bx (fun g => col g = 1) (fun g => col g = 0) w x.pb x.ab s.D s.S
  loc : Lc.Lo (fun g => col g ≠ 0 ∧ col g ≠ 2) w base x.pl s.loc
  slots : St.Ss w base x.ps x.rs s.sl
  book : Le.Bk w x.bk s.leak s.L s.M s.T
  fact : Fc.Fa w x.bF x.mF x.pF s.O s.P s.n s.C
  hist : Hi.Hs w base x.ph x.rh s.step s.ev
  kl : col x.pl = 2
  ks : col x.ps = 3 ∧ ∀ g, x.rs = some g → col g = 3
  kb : col x.bk.p = 4 ∧ col x.bk.a = 4 ∧ col x.bk.b = 4 ∧ col x.bk.q = 4 ∧ col x.bk.m = 4
  kf : ∀ g, x.bF ≤ g → g ≤ x.pF → col g = 5
  kh : col x.ph = 6 ∧ ∀ g, x.rh = some g → col g = 6
  kw : col x.pw = 7
  lo : ∀ g, col g ≠ 0 → base ≤ g
section
variable {base : Nat} {col : Nat → Nat} {w w' : World} {x : Wp} {s : Ws}
theorem Wc.lt (h : Wc w x s) : x.pw < w.heap.size := Lw.lt_heap h.c0
theorem Wc.blk (h : Wc w x s) (hb : w'.heap[x.pw]? = w.heap[x.pw]?) : Wc w' x s :=
  ⟨(World.cell?_of_block (a := ⟨x.pw, 0, none⟩) hb).trans h.c0, (World.cell?_of_block (a := ⟨x.pw, 1, none⟩) hb).trans h.c1, (World.cell?_of_block (a := ⟨x.pw, 2, none⟩) hb).trans h.c2, (World.cell?_of_block (a := ⟨x.pw, 3, none⟩) hb).trans h.c3, (World.cell?_of_block (a := ⟨x.pw, 4, none⟩) hb).trans h.c4, (World.cell?_of_block (a := ⟨x.pw, 5, none⟩) hb).trans h.c5, (World.cell?_of_block (a := ⟨x.pw, 6, none⟩) hb).trans h.c6, (World.cell?_of_block (a := ⟨x.pw, 7, none⟩) hb).trans h.c7, (World.cell?_of_block (a := ⟨x.pw, 8, none⟩) hb).trans h.c8, (World.cell?_of_block (a := ⟨x.pw, 9, none⟩) hb).trans h.c9, (World.cell?_of_block (a := ⟨x.pw, 10, none⟩) hb).trans h.c10, (World.cell?_of_block (a := ⟨x.pw, 11, none⟩) hb).trans h.c11, (World.cell?_of_block (a := ⟨x.pw, 12, none⟩) hb).trans h.c12, (World.cell?_of_block (a := ⟨x.pw, 13, none⟩) hb).trans h.c13, (World.cell?_of_block (a := ⟨x.pw, 14, none⟩) hb).trans h.c14, (World.cell?_of_block (a := ⟨x.pw, 15, none⟩) hb).trans h.c15, fun o => (World.frozen?_of_block (a := ⟨x.pw, o, none⟩) hb).trans (h.fz o)⟩
theorem Wo.later (h : Wo base col w x s) (hb : Below w.heap.size w w') : Wo base col w' x s :=
  ⟨h.cells.blk (hb.block _ h.cells.lt), h.bag.later hb, h.loc.later hb, h.slots.later hb, h.book.later hb, h.fact.later hb, h.hist.later hb, h.kl, h.ks, h.kb, h.kf, h.kh, h.kw, h.lo⟩
end
section
variable (w : World) {base : Nat} {col : Nat → Nat} {x : Wp} {s : Ws}
theorem Wc.live (h : Wc w x s) (v : Int) : Wc (w.setCell ⟨x.pw, 14, none⟩ (.int .i64 v)) x { s with live := v } := by
  have k : ∀ o u, o ≠ 14 → w.cell? ⟨x.pw, o, none⟩ = some u → (w.setCell ⟨x.pw, 14, none⟩ (.int .i64 v)).cell? ⟨x.pw, o, none⟩ = some u := fun o u ho hu => (World.cell?_setCell_other _ _ _ _ (fun e => by injection e with _ e _; omega)).trans hu
  exact ⟨k 0 _ (by decide) h.c0, k 1 _ (by decide) h.c1, k 2 _ (by decide) h.c2, k 3 _ (by decide) h.c3, k 4 _ (by decide) h.c4, k 5 _ (by decide) h.c5, k 6 _ (by decide) h.c6, k 7 _ (by decide) h.c7, k 8 _ (by decide) h.c8, k 9 _ (by decide) h.c9, k 10 _ (by decide) h.c10, k 11 _ (by decide) h.c11, k 12 _ (by decide) h.c12, k 13 _ (by decide) h.c13, World.cell?_setCell_same _ _ _ h.c14, k 15 _ (by decide) h.c15, fun o => by simpa using h.fz o⟩
end
def col8 (a b c d e f g h k : Nat) : Nat := if k < a then 0 else if k < b then 1 else if k < c then 2 else if k < d then 3 else if k < e then 4 else if k < f then 5 else if k < g then 6 else if k = h then 7 else 0
section
variable {a b c d e f g h k : Nat}
theorem col8_1 (h1 : a ≤ k) (h2 : k < b) : col8 a b c d e f g h k = 1 := by unfold col8; (repeat' split) <;> omega
theorem col8_2 (h0 : a ≤ b) (h1 : b ≤ k) (h2 : k < c) : col8 a b c d e f g h k = 2 := by unfold col8; (repeat' split) <;> omega
theorem col8_3 (h0 : a ≤ b) (h0' : b ≤ c) (h1 : c ≤ k) (h2 : k < d) : col8 a b c d e f g h k = 3 := by unfold col8; (repeat' split) <;> omega
theorem col8_4 (h0 : a ≤ b) (h0' : b ≤ c) (h0'' : c ≤ d) (h1 : d ≤ k) (h2 : k < e) : col8 a b c d e f g h k = 4 := by unfold col8; (repeat' split) <;> omega
theorem col8_5 (h0 : a ≤ b) (h0' : b ≤ c) (h0'' : c ≤ d) (h3 : d ≤ e) (h1 : e ≤ k) (h2 : k < f) : col8 a b c d e f g h k = 5 := by unfold col8; (repeat' split) <;> omega
theorem col8_6 (h0 : a ≤ b) (h0' : b ≤ c) (h0'' : c ≤ d) (h3 : d ≤ e) (h4 : e ≤ f) (h1 : f ≤ k) (h2 : k < g) : col8 a b c d e f g h k = 6 := by unfold col8; (repeat' split) <;> omega
theorem col8_7 (h0 : a ≤ b) (h0' : b ≤ c) (h0'' : c ≤ d) (h3 : d ≤ e) (h4 : e ≤ f) (h5 : f ≤ g) (h1 : k = g) (h2 : k = h) : col8 a b c d e f g h k = 7 := by unfold col8; (repeat' split) <;> omega
theorem col8_lo (h1 : col8 a b c d e f g h k ≠ 0) : a ≤ k := by unfold col8 at h1; split at h1 <;> omega
theorem col8_x (hc : b ≤ c) (h1 : col8 a b c d e f g h k ≠ 0 ∧ col8 a b c d e f g h k ≠ 2) : (a ≤ k ∧ k < b) ∨ c ≤ k := by
  have h2 := col8_lo h1.1
  by_cases h3 : k < b
  · exact .inl ⟨h2, h3⟩
  · by_cases h4 : k < c
    · exfalso
      refine h1.2 ?_
      unfold col8; (repeat' split) <;> omega
    · exact .inr (by omega)
end
theorem at0 (w : World) : Calls Tryz.prog 32 #[.int .u64 0] w fun e w' => e = .returned (.agg #[.int .u64 0]) ∧ Below w.heap.size w w' :=
  (Ck.at_any 0 w (by decide) (by decide)).mono fun e w' ⟨h1, h2⟩ => ⟨h1, h2 ▸ (Below.refl _ _).alloc (Nat.le_refl _) _⟩
set_option maxRecDepth 100000 in
set_option maxHeartbeats 4000000 in
theorem new_ok (c : Cf) (hc : c.ok) (h0 : cfE c = 0) (A A' : Option Addr) (k cp B k' cp' B' : Nat) (O P : List Bool) (w : World) (hO : Rd Value.bool w B A k cp O) (hP : Rd Value.bool w B' A' k' cp' P) (hB : B ≤ w.heap.size) (hB' : B' ≤ w.heap.size) (hk : k ≤ 1000) (hk' : k' ≤ 1000) :
    Calls Tryz.prog 7 #[c.v, .slice A k cp, .slice A' k' cp'] w fun e w' => ∃ (x : Wp) (col : Nat → Nat), e = .returned (.tuple #[ptr x.pw, .int .i64 0]) ∧
      Wo w.heap.size col w' x ⟨c, 0, [], [], fun _ => [], [], c.leak, [], [], [], O, P, 0, [], 0, [], 0, false⟩ ∧ Below w.heap.size w w' := by
  have HC := Lib.hid hc
  have HCH := Lib.hid (Cn.ccheck_any c hc (w.alloc (.cells #[.int .i64 c.max, .int .i64 c.min, .int .u64 c.idle, .int .u64 c.life, .int .u64 c.keep, .int .u64 c.leak, .float .f64 c.var] 30)))
  rw [h0] at HCH
  have HO := Lib.hid hO
  have HP := Lib.hid hP
  have HWl := Lib.hid hB
  have HWl' := Lib.hid hB'
  clear h0 hc hO hP
  go_enter Tryz.func7, Tryz.ntmps7
  go_wp2_with fail
  refine HCH.out.mono ?_
  rintro e w1 ⟨rfl, b1⟩
  have hw0 : Below w.heap.size w (w.alloc (.cells #[.int .i64 c.max, .int .i64 c.min, .int .u64 c.idle, .int .u64 c.life, .int .u64 c.keep, .int .u64 c.leak, .float .f64 c.var] 30)) := (Below.refl _ w).alloc (Nat.le_refl _) _
  have HW := Lib.hid (hw0.trans (b1.mono hw0.size))
  have HWB := Lib.hid (HW.out.mono hB)
  have HWB' := Lib.hid (HW.out.mono hB')
  have hq1 : w.heap.size < w1.heap.size := by have := b1.size; simp at this; omega
  have V0 := Lib.hid ((b1.cell (p := ⟨w.heap.size, 0, none⟩) (by simp)).trans (show _ = some (.int .i64 c.max) by go_simp))
  have V1 := Lib.hid ((b1.cell (p := ⟨w.heap.size, 1, none⟩) (by simp)).trans (show _ = some (.int .i64 c.min) by go_simp))
  have V2 := Lib.hid ((b1.cell (p := ⟨w.heap.size, 2, none⟩) (by simp)).trans (show _ = some (.int .u64 c.idle) by go_simp))
  have V3 := Lib.hid ((b1.cell (p := ⟨w.heap.size, 3, none⟩) (by simp)).trans (show _ = some (.int .u64 c.life) by go_simp))
  have V4 := Lib.hid ((b1.cell (p := ⟨w.heap.size, 4, none⟩) (by simp)).trans (show _ = some (.int .u64 c.keep) by go_simp))
  have V5 := Lib.hid ((b1.cell (p := ⟨w.heap.size, 5, none⟩) (by simp)).trans (show _ = some (.int .u64 c.leak) by go_simp))
  have V6 := Lib.hid ((b1.cell (p := ⟨w.heap.size, 6, none⟩) (by simp)).trans (show _ = some (.float .f64 c.var) by go_simp))
  have HQ := Lib.hid hq1
  clear b1 hw0 HCH
  go_wp2_with fail
  clear hq1 hB hB'
  have HS : Hid (Below w1.heap.size w1 w1.drew) := Lib.hid (Below.refl _ _).drew
  refine reg_start 16 (fun w' => Below w1.heap.size w1 w') (by kernel_rfl) (by kernel_rfl) ?_
  intro hTT
  have HTT := Lib.hid hTT
  clear hTT
  refine reg_load 0 HTT.out rfl (by kernel_rfl) (by decide) (fun _ _ _ _ h => h) HS.out rfl ?_
  apply Exists.intro
  refine ⟨fun w' hw => by (have k0 := (hw.cell (p := ⟨w.heap.size, 0, none⟩) HQ.out).trans V0.out; have k1 := (hw.cell (p := ⟨w.heap.size, 1, none⟩) HQ.out).trans V1.out; have k2 := (hw.cell (p := ⟨w.heap.size, 2, none⟩) HQ.out).trans V2.out; have k3 := (hw.cell (p := ⟨w.heap.size, 3, none⟩) HQ.out).trans V3.out; have k4 := (hw.cell (p := ⟨w.heap.size, 4, none⟩) HQ.out).trans V4.out; have k5 := (hw.cell (p := ⟨w.heap.size, 5, none⟩) HQ.out).trans V5.out; have k6 := (hw.cell (p := ⟨w.heap.size, 6, none⟩) HQ.out).trans V6.out; go_simp; exact rfl), ?_⟩
  refine reg_load 5 HTT.out rfl (by kernel_rfl) (by decide) (fun _ _ _ _ h => h) HS.out rfl ?_
  apply Exists.intro
  refine ⟨fun w' hw => by (go_simp; exact rfl), ?_⟩
  refine reg_load 6 HTT.out rfl (by kernel_rfl) (by decide) (fun _ _ _ _ h => h) HS.out rfl ?_
  apply Exists.intro
  refine ⟨fun w' hw => by (have k5 := (hw.cell (p := ⟨w.heap.size, 5, none⟩) HQ.out).trans V5.out; go_simp; exact rfl), ?_⟩
  refine reg_load 8 HTT.out rfl (by kernel_rfl) (by decide) (fun _ _ _ _ h => h) HS.out rfl ?_
  apply Exists.intro
  refine ⟨fun w' hw => by (go_simp; exact rfl), ?_⟩
  refine reg_load 9 HTT.out rfl (by kernel_rfl) (by decide) (fun _ _ _ _ h => h) HS.out rfl ?_
  apply Exists.intro
  refine ⟨fun w' hw => by (go_simp; exact rfl), ?_⟩
  refine reg_only 1 rfl (by kernel_rfl) rfl ?_
  unfold Oper.wp
  go_simp
  refine (at0 _).mono ?_
  rintro e w2 ⟨rfl, b2⟩
  have hS := HS.out.trans (b2.mono HS.out.size)
  refine ⟨hS, ?_⟩
  have Hw2 := HS
  clear HS
  have HS := Lib.hid hS
  clear hS
  refine reg_only 2 rfl (by kernel_rfl) rfl ?_
  unfold Oper.wp
  go_simp
  refine (bnew_any w2).mono ?_
  rintro e w3 ⟨rfl, h3, b3⟩
  have hS := HS.out.trans (b3.mono HS.out.size)
  refine ⟨hS, ?_⟩
  have Hw3 := HS
  clear HS
  have HS := Lib.hid hS
  clear hS
  refine reg_only 3 rfl (by kernel_rfl) rfl ?_
  unfold Oper.wp
  go_simp
  refine (Lc.new_any (fun g => w.heap.size ≤ g ∧ g < w3.heap.size) w3 w.heap.size (Nat.le_trans HW.out.size HS.out.size) (fun g hg => hg.2)).mono ?_
  rintro e w4 ⟨pl, rfl, h4, l4, b4⟩
  have hS := HS.out.trans (b4.mono HS.out.size)
  refine ⟨hS, ?_⟩
  have Hw4 := HS
  clear HS
  have HS := Lib.hid hS
  clear hS
  refine reg_only 4 rfl (by kernel_rfl) rfl ?_
  unfold Oper.wp
  go_simp
  refine (St.new_any w4 w.heap.size (Nat.le_trans HW.out.size HS.out.size)).mono ?_
  rintro e w5 ⟨ps, rfl, h5, l5, b5⟩
  have hS := HS.out.trans (b5.mono HS.out.size)
  refine ⟨hS, ?_⟩
  have Hw5 := HS
  clear HS
  have HS := Lib.hid hS
  clear hS
  refine reg_only 7 rfl (by kernel_rfl) rfl ?_
  unfold Oper.wp
  go_simp
  refine (Le.new_any w5 c.leak).mono ?_
  rintro e w6 ⟨xk, rfl, h6, b6, lp, la, lb, lq, lm⟩
  have hS := HS.out.trans (b6.mono HS.out.size)
  refine ⟨hS, ?_⟩
  have Hw6 := HS
  clear HS
  have HS := Lib.hid hS
  clear hS
  refine reg_only 10 rfl (by kernel_rfl) rfl ?_
  unfold Oper.wp
  go_simp
  refine (Fc.new_any A k cp B O A' k' cp' B' P w6 (HO.out.below (HWB.out.trans (HS.out.mono (Nat.le_trans HWl.out HW.out.size)))) (HP.out.below (HWB'.out.trans (HS.out.mono (Nat.le_trans HWl'.out HW.out.size)))) (Nat.le_trans HWl.out (Nat.le_trans HW.out.size HS.out.size)) (Nat.le_trans HWl'.out (Nat.le_trans HW.out.size HS.out.size)) hk hk').mono ?_
  rintro e w7 ⟨mF, pF, rfl, h7, b7⟩
  have hS := HS.out.trans (b7.mono HS.out.size)
  refine ⟨hS, ?_⟩
  have Hw7 := HS
  clear HS
  have HS := Lib.hid hS
  clear hS
  refine reg_only 11 rfl (by kernel_rfl) rfl ?_
  unfold Oper.wp
  go_simp
  refine (Hi.new_any w7 w.heap.size (Nat.le_trans HW.out.size HS.out.size)).mono ?_
  rintro e w8 ⟨ph, rfl, h8, l8, b8⟩
  have hS := HS.out.trans (b8.mono HS.out.size)
  refine ⟨hS, ?_⟩
  have Hw8 := HS
  clear HS
  have HS := Lib.hid hS
  clear hS
  refine reg_load 12 HTT.out rfl (by kernel_rfl) (by decide) (fun _ _ _ _ h => h) HS.out rfl ?_
  apply Exists.intro
  refine ⟨fun w' hw => by (go_simp; exact rfl), ?_⟩
  refine reg_only 13 rfl (by kernel_rfl) rfl ?_
  unfold Oper.wp
  go_simp
  have hS := HS.out.alloc HS.out.size (.cells #[.int .i64 c.max, .int .i64 c.min, .int .u64 c.idle, .int .u64 c.life, .int .u64 c.keep, .int .u64 c.leak, .float .f64 c.var, .int .u64 0, ptr (w2.heap.size + 1), ptr pl, ptr ps, ptr xk.p, ptr pF, ptr ph, .int .i64 0, .bool false] 47)
  refine ⟨hS, ?_⟩
  have HW8 := HS
  clear HS
  have HS := Lib.hid hS
  clear hS
  refine reg_load 14 HTT.out rfl (by kernel_rfl) (by decide) (fun _ _ _ _ h => h) HS.out rfl ?_
  apply Exists.intro
  refine ⟨fun w' hw => by (go_simp; exact rfl), ?_⟩
  refine reg_load 15 HTT.out rfl (by kernel_rfl) (by decide) (fun _ _ _ _ h => h) HS.out rfl ?_
  apply Exists.intro
  refine ⟨fun w' hw => by (go_simp; exact rfl), ?_⟩
  refine reg_done (by kernel_rfl) ?_
  go_wp2_with fail
  go_ret2
  have t8 : Below w8.heap.size w8 (w8.alloc (.cells #[.int .i64 c.max, .int .i64 c.min, .int .u64 c.idle, .int .u64 c.life, .int .u64 c.keep, .int .u64 c.leak, .float .f64 c.var, .int .u64 0, ptr (w2.heap.size + 1), ptr pl, ptr ps, ptr xk.p, ptr pF, ptr ph, .int .i64 0, .bool false] 47)) := (Below.refl _ _).alloc (Nat.le_refl _) _
  have t7 := b8.trans (t8.mono b8.size)
  have t6 := b7.trans (t7.mono b7.size)
  have t5 := b6.trans (t6.mono b6.size)
  have t4 := b5.trans (t5.mono b5.size)
  have t3 := b4.trans (t4.mono b4.size)
  have z1 := HW.out.size
  have z2 : w1.heap.size ≤ w2.heap.size := b2.size
  have z3 := b3.size
  have z4 := b4.size
  have z5 := b5.size
  have z6 := b6.size
  have z7 := b7.size
  have z8 := b8.size
  have y3 := h3.lt
  have y4 := h4.lt
  have y5 := h5.lt
  have y6 := h6.lt
  have y7 := h7.in_
  have y7a := h7.lo
  have y7b := h7.lt
  have y8 := h8.lt
  have hX : ∀ g, (col8 w2.heap.size w3.heap.size w4.heap.size w5.heap.size w6.heap.size w7.heap.size w8.heap.size w8.heap.size g ≠ 0 ∧ col8 w2.heap.size w3.heap.size w4.heap.size w5.heap.size w6.heap.size w7.heap.size w8.heap.size w8.heap.size g ≠ 2) → (w.heap.size ≤ g ∧ g < w3.heap.size) ∨ w4.heap.size ≤ g := fun g hg => by
    rcases col8_x z4 hg with h | h
    · exact .inl ⟨by omega, h.2⟩
    · exact .inr h
  refine ⟨⟨w8.heap.size, w2.heap.size + 1, w2.heap.size, pl, ps, none, xk, w6.heap.size, mF, pF, ph, none⟩, col8 w2.heap.size w3.heap.size w4.heap.size w5.heap.size w6.heap.size w7.heap.size w8.heap.size w8.heap.size, rfl, ⟨?_, ?_, ?_, ?_, ?_, ?_, ?_, ?_, ?_, ?_, ?_, ?_, ?_, ?_⟩, ?_⟩
  · refine ⟨?_, ?_, ?_, ?_, ?_, ?_, ?_, ?_, ?_, ?_, ?_, ?_, ?_, ?_, ?_, ?_, ?_⟩
    all_goals (first | (go_simp; done) | (intro o; simp [World.frozen?]))
  · exact (h3.mono (fun g hg hc => col8_1 hc hg) (fun g _ h => h.elim) (fun g h1 h2 => by rw [h1] at h2; cases h2)).later t3
  · exact (h4.shun hX).later t4
  · exact h5.later t5
  · exact h6.later t6
  · exact h7.later t7
  · exact h8.later t8
  · exact col8_2 z3 l4 y4
  · exact ⟨col8_3 z3 z4 l5 y5, fun g hg => by cases hg⟩
  · exact ⟨col8_4 z3 z4 z5 lp y6.1, col8_4 z3 z4 z5 la y6.2.1, col8_4 z3 z4 z5 lb y6.2.2.1, col8_4 z3 z4 z5 lq y6.2.2.2.1, col8_4 z3 z4 z5 lm y6.2.2.2.2⟩
  · exact fun g h1 h2 => col8_5 z3 z4 z5 z6 h1 (by have h2 : g ≤ pF := h2; omega)
  · exact ⟨col8_6 z3 z4 z5 z6 z7 l8 y8, fun g hg => by cases hg⟩
  · exact col8_7 z3 z4 z5 z6 z7 z8 rfl rfl
  · exact fun g hg => by have := col8_lo hg; omega
  · exact HW.out.trans (HS.out.mono z1)
end Go.Proofs.YthmdiaingolfnaaGreatDoor.Wo
namespace Go.Proofs.YthmdiaingolfnaaGreatDoor.Wo
open Go Go.ChangeShapes Go.WideShapes Go.ChangeAt Go.RowKit Go.Maps Rw Hi Mt Ba
open Cn (Cf cfE)
set_option linter.unusedVariables false
section
variable {base : Nat} {col : Nat → Nat} {w w' : World} {x : Wp} {s : Ws} {i : Nat}
theorem lo_aside {X : Nat → Prop} {B p : Nat} {L : Nat → List Int} {D : Nat → Prop} (h : Lc.Lo X w B p L) (hz : Fz D w w') (hd : ∀ g, D g → X g) : Lc.Lo X w' B p L := by
  have hk : ∀ g, g < w.heap.size → ¬ X g → w'.heap[g]? = w.heap[g]? := fun g h1 h2 => hz.block g h1 (fun e => h2 (hd g e))
  have hp := hk p h.lt h.px
  refine ⟨fun j hj => ?_, h.len, fun j hj => (World.frozen?_of_block (a := ⟨p, j, none⟩) hp).trans (h.free j hj), h.lo, h.px⟩
  obtain ⟨A, n, c, h1, h2, h3⟩ := h.at_ j hj
  refine ⟨A, n, c, (World.cell?_of_block (a := ⟨p, j, none⟩) hp).trans h1, rd_blk h2 hz.size fun hn b o e => ?_, fun g hg => ⟨Nat.lt_of_lt_of_le (h3 g hg).1 hz.size, (h3 g hg).2⟩⟩
  have := h3 b (by subst e; obtain ⟨b', o', e', _, _⟩ := h2.at_ hn; injection e' with e'; injection e' with e1 e2; rfl)
  exact hk b this.1 this.2
theorem Wo.bag_aside (h : Wo base col w x s) (hz : Fz (fun g => col g = i) w w') (h0 : i ≠ 0) (h1 : i ≠ 1) : Bx (fun g => col g = 1) (fun g => col g = 0) w' x.pb x.ab s.D s.S :=
  h.bag.aside hz (fun g hg e => by rcases hg with hg | hg <;> omega)
theorem Wo.loc_aside (h : Wo base col w x s) (hz : Fz (fun g => col g = i) w w') (h0 : i ≠ 0) (h2 : i ≠ 2) : Lc.Lo (fun g => col g ≠ 0 ∧ col g ≠ 2) w' base x.pl s.loc :=
  lo_aside h.loc hz (fun g hg => ⟨by omega, by omega⟩)
theorem Wo.slots_aside (h : Wo base col w x s) (hz : Fz (fun g => col g = i) w w') (h3 : i ≠ 3) : St.Ss w' base x.ps x.rs s.sl :=
  h.slots.same (hz.block _ h.slots.lt (fun e => by have := h.ks.1; omega)) (fun g hg => hz.block g (h.slots.rowlt g hg).2 (fun e => by have := h.ks.2 g hg; omega))
theorem Wo.book_aside (h : Wo base col w x s) (hz : Fz (fun g => col g = i) w w') (h4 : i ≠ 4) : Le.Bk w' x.bk s.leak s.L s.M s.T := by
  obtain ⟨k1, k2, k3, k4, k5⟩ := h.kb
  obtain ⟨l1, l2, l3, l4, l5⟩ := h.book.lt
  exact h.book.same (hz.block _ l1 (fun e => by omega)) (hz.block _ l2 (fun e => by omega)) (hz.block _ l3 (fun e => by omega)) (hz.block _ l4 (fun e => by omega)) (hz.block _ l5 (fun e => by omega))
theorem Wo.fact_aside (h : Wo base col w x s) (hz : Fz (fun g => col g = i) w w') (h5 : i ≠ 5) : Fc.Fa w' x.bF x.mF x.pF s.O s.P s.n s.C :=
  h.fact.same fun g h1 h2 => hz.block g (by have := h.fact.in_; omega) (fun e => by have := h.kf g h1 h2; omega)
theorem Wo.hist_aside (h : Wo base col w x s) (hz : Fz (fun g => col g = i) w w') (h6 : i ≠ 6) : Hi.Hs w' base x.ph x.rh s.step s.ev :=
  h.hist.same (hz.block _ h.hist.lt (fun e => by have := h.kh.1; omega)) (fun g hg => hz.block g (h.hist.row g hg).2 (fun e => by have := h.kh.2 g hg; omega))
theorem Wo.cells_aside (h : Wo base col w x s) (hz : Fz (fun g => col g = i) w w') (h7 : i ≠ 7) : Wc w' x s :=
  h.cells.blk (hz.block _ h.cells.lt (fun e => by have := h.kw; omega))
theorem Wo.own_ (h : Wo base col w x s) (cf : Cf) (nw lv : Int) (cl : Bool) (hc : Wc w' x { s with conf := cf, now := nw, live := lv, closed := cl }) (hz : Fz (fun g => col g = 7) w w') : Wo base col w' x { s with conf := cf, now := nw, live := lv, closed := cl } :=
  ⟨hc, h.bag_aside hz (by decide) (by decide), h.loc_aside hz (by decide) (by decide), h.slots_aside hz (by decide), h.book_aside hz (by decide), h.fact_aside hz (by decide), h.hist_aside hz (by decide), h.kl, h.ks, h.kb, h.kf, h.kh, h.kw, h.lo⟩
end
section
variable (w : World) {base : Nat} {col : Nat → Nat} {x : Wp} {s : Ws}
set_option maxRecDepth 100000 in
theorem grow_nil : Calls Tryz.prog 29 #[.pointer none] w fun e w' => e = .returned (.bool false) ∧ Below w.heap.size w w' := by
  go_enter Tryz.func29, Tryz.ntmps29
  go_wp2_with fail
  refine region_after (by kernel_rfl) (by kernel_rfl) ?_
  repeat (go_big_quiet_step (fail))
  refine wpQuiet_nil ?_
  rintro W2 ⟨⟨_, hb2⟩, rfl⟩
  have HB := Lib.hid hb2
  clear hb2
  go_wp2_with fail
  go_ret
  exact ⟨rfl, HB.out⟩
set_option maxRecDepth 100000 in
theorem grow_any (h : Wo base col w x s) (h0 : 0 ≤ s.live) (hm : s.conf.max ≤ 1000000) : Calls Tryz.prog 29 #[ptr x.pw] w fun e w' => e = .returned (.bool (decide (s.live < s.conf.max))) ∧
      Wo base col w' x { s with live := if s.live < s.conf.max then s.live + 1 else s.live } ∧ Fz (fun g => col g = 7) w w' := by
  have c0 := h.cells.c0
  have c14 := h.cells.c14
  have hc0 : ∀ y : After w, y.1.cell? ⟨x.pw, 0, none⟩ = some (.int .i64 s.conf.max) := fun y => y.cell c0
  have hc14 : ∀ y : After w, y.1.cell? ⟨x.pw, 14, none⟩ = some (.int .i64 s.live) := fun y => y.cell c14
  have HK := Lib.hid h
  by_cases hl : s.live < s.conf.max
  · have q1 : decide (s.live < s.conf.max) = true := decide_eq_true hl
    have q2 : decide (s.conf.max ≤ s.live) = false := decide_eq_false (by omega)
    have hwr : IntKind.i64.wrap (s.live + 1) = s.live + 1 := by rw [IntKind.wrap_i64]; omega
    rw [if_pos hl, q1]
    clear h hl h0 hm
    go_enter Tryz.func29, Tryz.ntmps29
    go_wp2_with fail
    refine region_after (by kernel_rfl) (by kernel_rfl) ?_
    repeat (go_big_quiet_step (fail))
    refine wpQuiet_nil ?_
    rintro W2 ⟨⟨_, hb2⟩, rfl⟩
    have H2 := Lib.hid (HK.out.later hb2)
    have HB := Lib.hid hb2
    have d14 := H2.out.cells.c14
    have f14 := H2.out.cells.fz 14
    clear hb2 hc0 hc14 c0 c14
    go_wp2_with fail
    go_ret
    have hz : Fz (fun g => col g = 7) W2 (W2.setCell ⟨x.pw, 14, none⟩ (.int .i64 (s.live + 1))) := Fz.of_set _ H2.out.kw
    exact ⟨rfl, H2.out.own_ s.conf s.now (s.live + 1) s.closed (H2.out.cells.live W2 (s.live + 1)) hz, (Fz.of_below HB.out).trans hz⟩
  · have q1 : decide (s.live < s.conf.max) = false := decide_eq_false hl
    have q2 : decide (s.conf.max ≤ s.live) = true := decide_eq_true (by omega)
    rw [if_neg hl, q1]
    clear h hl h0 hm
    go_enter Tryz.func29, Tryz.ntmps29
    go_wp2_with fail
    refine region_after (by kernel_rfl) (by kernel_rfl) ?_
    repeat (go_big_quiet_step (fail))
    refine wpQuiet_nil ?_
    rintro W2 ⟨⟨_, hb2⟩, rfl⟩
    have H2 := Lib.hid (HK.out.later hb2)
    have HB := Lib.hid hb2
    clear hb2 hc0 hc14 c0 c14
    go_wp2_with fail
    go_ret
    exact ⟨rfl, H2.out, Fz.of_below HB.out⟩
end
end Go.Proofs.YthmdiaingolfnaaGreatDoor.Wo
