/- Layer 16 (world): what a part's turn leaves; Grow, Shrink, Now, Tick; the nil calls; what wakes layer 16; of a nil world nothing is told. -/
import Derived.Test.YtnclbnbjmgbonaaGreatDoorWorld
import Derived.Test.YtnclbnbjmgbonaaGreatDoorBase1
namespace Go.Proofs.YtnclbnbjmgbonaaGreatDoor.Wo
open Go Go.ChangeShapes Go.WideShapes Go.ChangeAt Go.RowKit Go.Maps Rw Hi Mt Ba
open Cn (Cf cfE)
set_option linter.unusedVariables false

section
variable {base : Nat} {col : Nat → Nat} {w w' : World} {x : Wp} {s : Ws} {i : Nat}
theorem lo_aside {X : Nat → Prop} {B p : Nat} {L : Nat → List Int} {D : Nat → Prop} (h : Lc.Lo X w B p L) (hz : Fz D w w') (hd : ∀ g, D g → X g) : Lc.Lo X w' B p L := by
  have hk : ∀ g, g < w.heap.size → ¬ X g → w'.heap[g]? = w.heap[g]? := fun g h1 h2 => hz.block g h1 (fun e => h2 (hd g e))
  have hp := hk p h.lt h.px
  refine ⟨fun j hj => ?_, h.len, fun j hj => (World.frozen?_of_block (a := ⟨p, j, none⟩) hp).trans (h.free j hj), h.lo, h.px⟩
  obtain ⟨A, n, c, h1, h2, h3⟩ := h.at_ j hj
  refine ⟨A, n, c, (World.cell?_of_block (a := ⟨p, j, none⟩) hp).trans h1, rd_blk h2 hz.size fun hn b o e => ?_, fun g hg => ⟨Nat.lt_of_lt_of_le (h3 g hg).1 hz.size, (h3 g hg).2⟩⟩
  have := h3 b (by subst e; obtain ⟨b', o', e', _, _⟩ := h2.at_ hn; injection e' with e'; injection e' with e1 e2; rfl)
  exact hk b this.1 this.2
theorem Wo.bag_aside (h : Wo base col w x s) (hz : Fz (fun g => col g = i) w w') (h0 : i ≠ 0) (h1 : i ≠ 1) : Bx (fun g => col g = 1) (fun g => col g = 0) w' x.pb x.ab s.D s.S :=
  h.bag.aside hz (fun g hg e => by rcases hg with hg | hg <;> omega)
theorem Wo.loc_aside (h : Wo base col w x s) (hz : Fz (fun g => col g = i) w w') (h0 : i ≠ 0) (h2 : i ≠ 2) : Lc.Lo (fun g => col g ≠ 0 ∧ col g ≠ 2) w' base x.pl s.loc :=
  lo_aside h.loc hz (fun g hg => ⟨by omega, by omega⟩)
theorem Wo.slots_aside (h : Wo base col w x s) (hz : Fz (fun g => col g = i) w w') (h3 : i ≠ 3) : St.Ss w' base x.ps x.rs s.sl :=
  h.slots.same (hz.block _ h.slots.lt (fun e => by have := h.ks.1; omega)) (fun g hg => hz.block g (h.slots.rowlt g hg).2 (fun e => by have := h.ks.2 g hg; omega))
theorem Wo.book_aside (h : Wo base col w x s) (hz : Fz (fun g => col g = i) w w') (h4 : i ≠ 4) : Le.Bk w' x.bk s.leak s.L s.M s.T := by
  obtain ⟨k1, k2, k3, k4, k5⟩ := h.kb
  obtain ⟨l1, l2, l3, l4, l5⟩ := h.book.lt
  exact h.book.same (hz.block _ l1 (fun e => by omega)) (hz.block _ l2 (fun e => by omega)) (hz.block _ l3 (fun e => by omega)) (hz.block _ l4 (fun e => by omega)) (hz.block _ l5 (fun e => by omega))
theorem Wo.fact_aside (h : Wo base col w x s) (hz : Fz (fun g => col g = i) w w') (h5 : i ≠ 5) : Fc.Fa w' x.bF x.mF x.pF s.O s.P s.n s.C :=
  h.fact.same fun g h1 h2 => hz.block g (by have := h.fact.in_; omega) (fun e => by have := h.kf g h1 h2; omega)
theorem Wo.hist_aside (h : Wo base col w x s) (hz : Fz (fun g => col g = i) w w') (h6 : i ≠ 6) : Hi.Hs w' base x.ph x.rh s.step s.ev :=
  h.hist.same (hz.block _ h.hist.lt (fun e => by have := h.kh.1; omega)) (fun g hg => hz.block g (h.hist.row g hg).2 (fun e => by have := h.kh.2 g hg; omega))
theorem Wo.cells_aside (h : Wo base col w x s) (hz : Fz (fun g => col g = i) w w') (h7 : i ≠ 7) : Wc w' x s :=
  h.cells.blk (hz.block _ h.cells.lt (fun e => by have := h.kw; omega))
/-- The world's own block turned. -/
theorem Wo.own_ (h : Wo base col w x s) (cf : Cf) (nw lv : Int) (cl : Bool) (hc : Wc w' x { s with conf := cf, now := nw, live := lv, closed := cl }) (hz : Fz (fun g => col g = 7) w w') : Wo base col w' x { s with conf := cf, now := nw, live := lv, closed := cl } :=
  ⟨hc, h.bag_aside hz (by decide) (by decide), h.loc_aside hz (by decide) (by decide), h.slots_aside hz (by decide), h.book_aside hz (by decide), h.fact_aside hz (by decide), h.hist_aside hz (by decide), h.kl, h.ks, h.kb, h.kf, h.kh, h.kw, h.lo⟩
end
section
variable (w : World) {base : Nat} {col : Nat → Nat} {x : Wp} {s : Ws}
set_option maxRecDepth 100000 in
theorem grow_nil : Calls Tryz.prog 41 #[.pointer none] w fun e w' => e = .returned (.bool false) ∧ Below w.heap.size w w' := by
  go_enter Tryz.func41, Tryz.ntmps41
  go_wp2_with fail
  refine region_after (by kernel_rfl) (by kernel_rfl) ?_
  repeat (go_big_quiet_step (fail))
  refine wpQuiet_nil ?_
  rintro W2 ⟨⟨_, hb2⟩, rfl⟩
  have HB := Lib.hid hb2
  clear hb2
  go_wp2_with fail
  go_ret
  exact ⟨rfl, HB.out⟩
set_option maxRecDepth 100000 in
theorem grow_any (h : Wo base col w x s) (h0 : 0 ≤ s.live) (hm : s.conf.max ≤ 1000000) : Calls Tryz.prog 41 #[ptr x.pw] w fun e w' => e = .returned (.bool (decide (s.live < s.conf.max))) ∧
      Wo base col w' x { s with live := if s.live < s.conf.max then s.live + 1 else s.live } ∧ Fz (fun g => col g = 7) w w' := by
  have c0 := h.cells.c0
  have c14 := h.cells.c14
  have hc0 : ∀ y : After w, y.1.cell? ⟨x.pw, 0, none⟩ = some (.int .i64 s.conf.max) := fun y => y.cell c0
  have hc14 : ∀ y : After w, y.1.cell? ⟨x.pw, 14, none⟩ = some (.int .i64 s.live) := fun y => y.cell c14
  have HK := Lib.hid h
  by_cases hl : s.live < s.conf.max
  · have q1 : decide (s.live < s.conf.max) = true := decide_eq_true hl
    have q2 : decide (s.conf.max ≤ s.live) = false := decide_eq_false (by omega)
    have hwr : IntKind.i64.wrap (s.live + 1) = s.live + 1 := by rw [IntKind.wrap_i64]; omega
    rw [if_pos hl, q1]
    clear h hl h0 hm
    go_enter Tryz.func41, Tryz.ntmps41
    go_wp2_with fail
    refine region_after (by kernel_rfl) (by kernel_rfl) ?_
    repeat (go_big_quiet_step (fail))
    refine wpQuiet_nil ?_
    rintro W2 ⟨⟨_, hb2⟩, rfl⟩
    have H2 := Lib.hid (HK.out.later hb2)
    have HB := Lib.hid hb2
    have d14 := H2.out.cells.c14
    have f14 := H2.out.cells.fz 14
    clear hb2 hc0 hc14 c0 c14
    go_wp2_with fail
    go_ret
    have hz : Fz (fun g => col g = 7) W2 (W2.setCell ⟨x.pw, 14, none⟩ (.int .i64 (s.live + 1))) := Fz.of_set _ H2.out.kw
    exact ⟨rfl, H2.out.own_ s.conf s.now (s.live + 1) s.closed (H2.out.cells.live W2 (s.live + 1)) hz, (Fz.of_below HB.out).trans hz⟩
  · have q1 : decide (s.live < s.conf.max) = false := decide_eq_false hl
    have q2 : decide (s.conf.max ≤ s.live) = true := decide_eq_true (by omega)
    rw [if_neg hl, q1]
    clear h hl h0 hm
    go_enter Tryz.func41, Tryz.ntmps41
    go_wp2_with fail
    refine region_after (by kernel_rfl) (by kernel_rfl) ?_
    repeat (go_big_quiet_step (fail))
    refine wpQuiet_nil ?_
    rintro W2 ⟨⟨_, hb2⟩, rfl⟩
    have H2 := Lib.hid (HK.out.later hb2)
    have HB := Lib.hid hb2
    clear hb2 hc0 hc14 c0 c14
    go_wp2_with fail
    go_ret
    exact ⟨rfl, H2.out, Fz.of_below HB.out⟩
end
end Go.Proofs.YtnclbnbjmgbonaaGreatDoor.Wo
