/- A part of the claim: the texts PlayS Two PlayT. -/
import Derived.Test.YthmdiaingolfnaaGreatDoorZGDocW
import Derived.Test.YthmdiaingolfnaaGreatDoorZGWorldC
import Derived.Test.YthmdiaingolfnaaGreatDoorZBase1
import Derived.Test.YthmdiaingolfnaaGreatDoorZSnapFresh
import Derived.Deep.CutBlock
namespace Go.Proofs.YthmdiaingolfnaaGreatDoor.Wo
open Go Go.ChangeShapes Go.WideShapes Go.ChangeAt Go.RowKit Go.Maps Rw Hi Mt Ba
open Cn (Cf cfE)
set_option linter.unusedVariables false
def bLs (D : List (Int × Le.Ls)) (id th now : Int) : List (Int × Le.Ls) := if Le.bE D id th = 0 then ins D id ⟨th, now, false⟩ else D
def playS (s : Ws) (y : Ay) : Ws :=
  if y.do_ % 8 = 0 then { s with now := Ck.cAdd s.now y.n }
  else if y.do_ % 8 = 1 then { s with live := grwV s.live s.conf.max }
  else if y.do_ % 8 = 2 then { s with live := shrV s.live }
  else if y.do_ % 8 = 3 then { s with O := (Fc.nx s.O).2, n := opnN s.O s.n, D := entD s.D (opnI s.O s.n) y.st s.now }
  else if y.do_ % 8 = 4 then (if s.closed then s else { s with S := pubS s.D s.S y.id })
  else if y.do_ % 8 = 5 then { s with L := bLs s.L y.id y.th s.now, T := Le.bT s.leak s.L s.T y.id y.th s.now }
  else s
theorem ris_perm {β : Type} {A B : List (Int × β)} (ha : Ris A) (hb : Ris B) (hp : A.Perm B) : A = B := by
  exact List.Perm.eq_of_pairwise (le := fun (a b : Int × β) => a.1 < b.1) (fun a b _ _ h1 h2 => absurd h1 (by omega)) ha hb hp
theorem bLs_perm {D : List (Int × Le.Ls)} (h : Le.Sd D) (id th now : Int) : (Le.bL D id th now).Perm (bLs D id th now) := by
  unfold Le.bL bLs
  by_cases e : Le.bE D id th = 0
  · rw [if_pos e, if_pos e]
    have hno : id ∉ D.map Prod.fst := fun hm => by
      unfold Le.bE at e
      split at e
      · cases e
      · split at e
        · cases e
        · next h1 =>
          exact h1 (by rw [fnd_is]; exact decide_eq_true hm)
    exact ins_perm h hno _
  · rw [if_neg e, if_neg e]
theorem bLs_sd {D : List (Int × Le.Ls)} (h : Le.Sd D) (id th now : Int) : Le.Sd (bLs D id th now) := by
  unfold bLs
  split
  · exact Ris.ins h _
  · exact h
theorem bLs_eq {D D' : List (Int × Le.Ls)} (h : Le.Sd D) {id th now : Int} (hp : (Le.bL D id th now).Perm D') (hs : Le.Sd D') : D' = bLs D id th now :=
  ris_perm hs (bLs_sd h id th now) (hp.symm.trans (bLs_perm h id th now))
theorem entD_len {D : List (Int × Ex)} (h : Ris D) (id st now : Int) : (entD D id st now).length ≤ D.length + 1 := by
  unfold entD
  split
  · next e =>
    have hno : id ∉ D.map Prod.fst := fun hm => by
      unfold eE at e
      split at e
      · cases e
      · split at e
        · cases e
        · next h1 => exact h1 (by rw [fnd_is]; exact decide_eq_true hm)
    rw [ins_len h hno]
    exact Nat.le_refl _
  · omega
structure Pl (s : Ws) (N : List Int) (k : Nat) : Prop where
  mk_ : s.M = Le.mk N
  mx : 1 ≤ s.conf.max ∧ s.conf.max ≤ 16
  lv : 0 ≤ s.live ∧ s.live ≤ s.conf.max
  nw : U64 s.now
  lk : U64 s.leak
  dl : s.D.length ≤ k
  sl : s.S.length ≤ k
  nl : s.n ≤ k
  cl : s.C.length ≤ k
  el : s.ev.length ≤ k
  ll : s.L.length ≤ k
  tl : s.T.length ≤ k
  ri : Ris s.D
  sd : Le.Sd s.L
  cin : ∀ i ∈ s.C, 1 ≤ i ∧ i ≤ s.n
theorem Pl.play {s : Ws} {N : List Int} {k : Nat} (h : Pl s N k) (hk : k ≤ 900) {y : Ay} (hy : y.ok) : Pl (playS s y) N (k + 1) := by
  have hdl := h.dl
  have hsl := h.sl
  have hnl := h.nl
  have hcl := h.cl
  have hel := h.el
  have hll := h.ll
  have htl := h.tl
  have hm : Pl s N (k + 1) := ⟨h.mk_, h.mx, h.lv, h.nw, h.lk, by omega, by omega, by omega, by omega, by omega, by omega, by omega, h.ri, h.sd, h.cin⟩
  unfold playS
  split
  · exact ⟨hm.mk_, hm.mx, hm.lv, cAdd_u64 h.nw hy.n, hm.lk, hm.dl, hm.sl, hm.nl, hm.cl, hm.el, hm.ll, hm.tl, hm.ri, hm.sd, hm.cin⟩
  split
  · exact ⟨hm.mk_, hm.mx, by have := h.lv; unfold grwV; show 0 ≤ (if s.live < s.conf.max then s.live + 1 else s.live) ∧ (if s.live < s.conf.max then s.live + 1 else s.live) ≤ s.conf.max; split <;> omega, hm.nw, hm.lk, hm.dl, hm.sl, hm.nl, hm.cl, hm.el, hm.ll, hm.tl, hm.ri, hm.sd, hm.cin⟩
  split
  · exact ⟨hm.mk_, hm.mx, by have := h.lv; unfold shrV; show 0 ≤ (if 0 < s.live then s.live - 1 else s.live) ∧ (if 0 < s.live then s.live - 1 else s.live) ≤ s.conf.max; split <;> omega, hm.nw, hm.lk, hm.dl, hm.sl, hm.nl, hm.cl, hm.el, hm.ll, hm.tl, hm.ri, hm.sd, hm.cin⟩
  split
  · refine ⟨hm.mk_, hm.mx, hm.lv, hm.nw, hm.lk, ?_, hm.sl, ?_, hm.cl, hm.el, hm.ll, hm.tl, ?_, hm.sd, fun i hi => ?_⟩
    · show (entD s.D (opnI s.O s.n) y.st s.now).length ≤ k + 1
      have := entD_len h.ri (opnI s.O s.n) y.st s.now
      omega
    · show opnN s.O s.n ≤ k + 1
      unfold opnN; split <;> omega
    · show Ris (entD s.D (opnI s.O s.n) y.st s.now)
      unfold entD; split
      · exact h.ri.ins _
      · exact h.ri
    · have := h.cin i hi
      show 1 ≤ i ∧ i ≤ (opnN s.O s.n : Nat)
      unfold opnN
      split <;> omega
  split
  · split
    · exact hm
    · refine ⟨hm.mk_, hm.mx, hm.lv, hm.nw, hm.lk, hm.dl, ?_, hm.nl, hm.cl, hm.el, hm.ll, hm.tl, hm.ri, hm.sd, hm.cin⟩
      have := Sn.sWith_len s.S y.id
      show (pubS s.D s.S y.id).length ≤ k + 1
      unfold pubS; split <;> omega
  split
  · refine ⟨hm.mk_, hm.mx, hm.lv, hm.nw, hm.lk, hm.dl, hm.sl, hm.nl, hm.cl, hm.el, ?_, ?_, hm.ri, bLs_sd h.sd _ _ _, hm.cin⟩
    · show (bLs s.L y.id y.th s.now).length ≤ k + 1
      rw [← (bLs_perm h.sd y.id y.th s.now).length_eq]
      have := Le.bL_len s.L y.id y.th s.now
      omega
    · show (Le.bT s.leak s.L s.T y.id y.th s.now).length ≤ k + 1
      have := Le.bT_len s.leak s.L (T := s.T) y.id y.th s.now (by omega)
      omega
  · exact hm
end Go.Proofs.YthmdiaingolfnaaGreatDoor.Wo
namespace Go.Proofs.YthmdiaingolfnaaGreatDoor.Rw
open Go Go.RowKit
set_option linter.unusedVariables false
section
variable {P : Program} {ops : Array Oper} {Q : Exit → Act → World → Prop} {md : Region.Mode} {S S1 : World → Prop} {n : Nat}
theorem reg_two (i j : Nat) {oi oj : Oper} {f : Nat} {listed : Array Bool} {a : Act} {w : World} (hi : ops[i]? = some oi) (hj : ops[j]? = some oj) (hr : Region.ready md ops listed = [i, j])
    (hwi : Region.wanted oi (yielded ops a.tmps) = true) (hwj : Region.wanted oj (yielded ops a.tmps) = true)
    (h1 : oi.wp P a w (fun a' w' => (i < n → S w') ∧ wpAnyT P md ops Q n S f (listed.setIfInBounds i true) a' w') Q)
    (h2 : oj.wp P a w (fun a' w' => (j < n → S w') ∧ wpAnyT P md ops Q n S f (listed.setIfInBounds j true) a' w') Q) : wpAnyT P md ops Q n S (f + 1) listed a w := by
  refine ⟨fun h0 => (by rw [hr] at h0; cases h0), fun k hk => ?_⟩
  rw [hr] at hk
  have hk' : k = i ∨ k = j := by simpa using hk
  rcases hk' with e | e
  · subst e
    unfold wpOp
    simp only [hi, hwi, if_true]
    exact .inl h1
  · subst e
    unfold wpOp
    simp only [hj, hwj, if_true]
    exact .inl h2
end
structure Fr2 (ga gw : Option Nat) (w0 w : World) : Prop where
  os : w.os = w0.os
  tape : w.tape = w0.tape
  output : w.output = w0.output
  size : w0.heap.size ≤ w.heap.size
  block : ∀ k, k < w0.heap.size → some k ≠ ga → some k ≠ gw → w.heap[k]? = w0.heap[k]?
theorem Fr2.refl (ga gw : Option Nat) (w : World) : Fr2 ga gw w w := ⟨rfl, rfl, rfl, Nat.le_refl _, fun _ _ _ _ => rfl⟩
theorem Fr2.cell {ga gw : Option Nat} {w0 w : World} (h : Fr2 ga gw w0 w) {p : Addr} (hp : p.block < w0.heap.size) (h1 : some p.block ≠ ga) (h2 : some p.block ≠ gw) : w.cell? p = w0.cell? p := by
  unfold World.cell?; rw [h.block _ hp h1 h2]
theorem Fr2.frozen {ga gw : Option Nat} {w0 w : World} (h : Fr2 ga gw w0 w) {p : Addr} (hp : p.block < w0.heap.size) (h1 : some p.block ≠ ga) (h2 : some p.block ≠ gw) : w.frozen? p = w0.frozen? p := by
  unfold World.frozen?; rw [h.block _ hp h1 h2]
theorem Fr2.step {ga gw row : Option Nat} {w0 w w' : World} (h : Fr2 ga gw w0 w) (hg : w.grownBy w' row) (hr : ∀ j, row = some j → j < w0.heap.size → some j = ga ∨ some j = gw) : Fr2 ga gw w0 w' :=
  ⟨hg.os.trans h.os, hg.tape.trans h.tape, hg.output.trans h.output, Nat.le_trans h.size hg.size, fun k hk h1 h2 => (hg.block k (Nat.lt_of_lt_of_le hk h.size) (fun e => by
    rcases hr k e.symm hk with e | e
    · exact h1 e
    · exact h2 e)).trans (h.block k hk h1 h2)⟩
abbrev Own := Value × TypeId × Nat × List Value
structure S2 (t6 t7 : TypeId) (ga gw : Option Nat) (w0 : World) (base : Nat) (w : World) (v6 : Value) (n6 : Nat) (L6 : List Value) (v7 : Value) (n7 : Nat) (L7 : List Value) (pb : List Own) : Prop where
  fr : Fr2 ga gw w0 w
  all : w.ownsRow base t6 1 v6 n6 L6
  was : w.ownsRow base t7 1 v7 n7 L7
  oa : v6.ownBlock = ga ∨ ∃ b, v6.ownBlock = some b ∧ w0.heap.size ≤ b
  ow : v7.ownBlock = gw ∨ ∃ b, v7.ownBlock = some b ∧ w0.heap.size ≤ b
  ne : ∀ b, v6.ownBlock = some b → v7.ownBlock ≠ some b
  prot : ∀ p ∈ pb, w.ownsRow 0 p.2.1 1 p.1 p.2.2.1 p.2.2.2 ∧ ∀ b, p.1.ownBlock = some b → v6.ownBlock ≠ some b ∧ v7.ownBlock ≠ some b
section
variable {t6 t7 : TypeId} {ga gw : Option Nat} {w0 : World} {base : Nat} {w w' : World} {v6 v7 : Value} {n6 n7 : Nat} {L6 L7 : List Value} {pb : List Own}
theorem kept_ne {w w' : World} {base e n : Nat} {v : Value} {xs : List Value} {row : Option Nat} (h : w.ownsRow base e 1 v n xs) (hg : w.grownBy w' row) (hne : ∀ b, v.ownBlock = some b → row ≠ some b) : w'.ownsRow base e 1 v n xs :=
  h.kept hg (by
    cases hv : v.ownBlock with
    | none => exact .inl rfl
    | some j => exact .inr (fun e => hne j hv e.symm))
theorem S2.quiet (h : S2 t6 t7 ga gw w0 base w v6 n6 L6 v7 n7 L7 pb) (hg : w.grownBy w' none) : S2 t6 t7 ga gw w0 base w' v6 n6 L6 v7 n7 L7 pb :=
  ⟨h.fr.step hg (fun j hj => by cases hj), h.all.kept hg (by cases hv : v6.ownBlock with | none => exact .inl rfl | some j => exact .inr (by simp)), h.was.kept hg (by cases hv : v7.ownBlock with | none => exact .inl rfl | some j => exact .inr (by simp)), h.oa, h.ow, h.ne,
    fun p hp => ⟨kept_ne (h.prot p hp).1 hg (fun b _ e => by cases e), (h.prot p hp).2⟩⟩
theorem S2.below (h : S2 t6 t7 ga gw w0 base w v6 n6 L6 v7 n7 L7 pb) (hb : Below w.heap.size w w') : S2 t6 t7 ga gw w0 base w' v6 n6 L6 v7 n7 L7 pb :=
  h.quiet ⟨hb.os, hb.tape, hb.output, hb.size, fun k hk _ => hb.block k hk⟩
theorem S2.add (h : S2 t6 t7 ga gw w0 base w v6 n6 L6 v7 n7 L7 pb) (hs : S2 t6 t7 ga gw w0 base w' v6 n6 L6 v7 n7 L7 pb) (p : Own) (hp : w'.ownsRow w.heap.size p.2.1 1 p.1 p.2.2.1 p.2.2.2) : S2 t6 t7 ga gw w0 base w' v6 n6 L6 v7 n7 L7 (pb ++ [p]) := by
  refine ⟨hs.fr, hs.all, hs.was, hs.oa, hs.ow, hs.ne, fun q hq => ?_⟩
  rcases List.mem_append.1 hq with hq | hq
  · exact hs.prot q hq
  · obtain rfl : q = p := by simpa using hq
    refine ⟨⟨hp.1, ?_⟩, fun b hb => ⟨fun e => ?_, fun e => ?_⟩⟩
    · rcases hp.2 with h1 | ⟨g, cap, cur, h1, h2, h3⟩
      · exact .inl h1
      · exact .inr ⟨g, cap, cur, h1, Nat.zero_le _, h3⟩
    · have := (hp.lt b hb).1; have := (h.all.lt b e).2; omega
    · have := (hp.lt b hb).1; have := (h.was.lt b e).2; omega
theorem lit_row (w : World) (x : Value) (t : TypeId) : (w.alloc (.cells #[x] t)).ownsRow w.heap.size t 1 (.slice (some ⟨w.heap.size, 0, none⟩) 1 1) 1 [x] :=
  ⟨rfl, .inr ⟨w.heap.size, 1, #[x], rfl, Nat.le_refl _, heap_alloc_new w _, by omega, by unfold maxLen; omega, rfl, rfl⟩⟩
theorem S2.lit (h : S2 t6 t7 ga gw w0 base w v6 n6 L6 v7 n7 L7 pb) (x : Value) (t : TypeId) : S2 t6 t7 ga gw w0 base (w.alloc (.cells #[x] t)) v6 n6 L6 v7 n7 L7 (pb ++ [(.slice (some ⟨w.heap.size, 0, none⟩) 1 1, t, 1, [x])]) :=
  h.add (h.quiet (World.grownBy_alloc w _ none)) _ (lit_row w x t)
end
end Go.Proofs.YthmdiaingolfnaaGreatDoor.Rw
namespace Go.Proofs.YthmdiaingolfnaaGreatDoor.Wo
open Go Go.ChangeShapes Go.WideShapes Go.ChangeAt Go.RowKit Go.Maps Rw Hi Mt Ba
open Cn (Cf cfE)
set_option linter.unusedVariables false
abbrev Kc (col : Nat → Nat) (g : Nat) : Prop := col g = 0
section
variable {w w' : World} {base : Nat} {col col' : Nat → Nat} {x : Wp} {s : Ws} {d : Nat} {v : Dv} {y : Ay} {N : List Int} {k : Nat}
theorem Dw.call (h : Dw (Kc col) w v s N) (hz : Fw col w w') (hl : El w col col') : Dw (Kc col') w' v s N :=
  (h.mono (L := Kc col') (fun g hg e => (hl g hg).trans e)).fz hz (fun g hg e e2 => e2.1 ((hl g hg).symm.trans e))
theorem Dw.at_ (h : Dw (Kc col) w v s N) (hc : col d = 8) (hz : Fz (fun k => k = d) w w') : Dw (Kc col) w' v s N :=
  h.fz hz (fun g hg e e2 => by subst e2; have e : col g = 0 := e; omega)
theorem Wv.new0 (h : Wv base col w x s) : ∀ g, w.heap.size ≤ g → Kc col g := fun g hg => Classical.byContradiction fun e => by have := h.hi g e; omega
theorem Wv.permL (h : Wv base col w x s) {L' : List (Int × Le.Ls)} (hp : s.L.Perm L') : Wv base col w x { s with L := L' } := by
  obtain ⟨r, q, h, hi⟩ := h
  exact ⟨r, q, ⟨h.cells.to rfl rfl rfl rfl rfl rfl rfl rfl rfl rfl rfl, h.bag, h.loc, h.slots, h.book.permL hp, h.fact, h.hist, h.kl, h.ks, h.kb, h.kf, h.kh, h.kw, h.lo⟩, hi⟩
theorem playS1 (hk : y.do_ % 8 = 1) : playS s y = { s with live := grwV s.live s.conf.max } := by unfold playS; rw [if_neg (by omega), if_pos hk]
theorem playS3 (hk : y.do_ % 8 = 3) : playS s y = { s with O := (Fc.nx s.O).2, n := opnN s.O s.n, D := entD s.D (opnI s.O s.n) y.st s.now } := by unfold playS; rw [if_neg (by omega), if_neg (by omega), if_neg (by omega), if_pos hk]
theorem playS4 (hk : y.do_ % 8 = 4) (hc : s.closed = false) : playS s y = { s with S := pubS s.D s.S y.id } := by unfold playS; rw [if_neg (by omega), if_neg (by omega), if_neg (by omega), if_neg (by omega), if_pos hk, hc]; rfl
theorem playS5 (hk : y.do_ % 8 = 5) : playS s y = { s with L := bLs s.L y.id y.th s.now, T := Le.bT s.leak s.L s.T y.id y.th s.now } := by unfold playS; rw [if_neg (by omega), if_neg (by omega), if_neg (by omega), if_neg (by omega), if_neg (by omega), if_pos hk]
end
structure Tw (base : Nat) (col : Nat → Nat) (w : World) (x : Wp) (v : Dv) (d : Nat) (s : Ws) (N : List Int) : Prop where
  wv : Wv base col w x s
  dw : Dw (Kc col) w v s N
  vw : Vw w d (v.cells s)
  c8 : col d = 8
section
variable (w : World) {base : Nat} {col : Nat → Nat} {x : Wp} {s : Ws} {d : Nat} {v : Dv} {y : Ay} {N : List Int} {k : Nat}
abbrev Plays (w : World) (base : Nat) (col : Nat → Nat) (x : Wp) (s : Ws) (d : Nat) (y : Ay) (N : List Int) : Prop :=
  Calls Tryz.prog 11 #[y.val, ptr x.pw, ptr d] w fun e w' => e = .returned (.bool true) ∧ ∃ col' v', Tw base col' w' x v' d (playS s y) N ∧ Fp col d w w' ∧ El w col col'
theorem Tw.fp {w' : World} {s' : Ws} (h : Tw base col w x v d s N) (h2 : Wv base col w' x s') (h3 : Vw w' d (v.cells s')) (hz : Fp col d w w') (h4 : Dw (Kc col) w' v s N → Dw (Kc col) w' v s' N) : Tw base col w' x v d s' N :=
  ⟨h2, h4 (h.dw.fz hz (fun g hg e e2 => by
    have e : col g = 0 := e
    rcases e2 with e2 | e2
    · exact e2.1 e
    · have := h.c8; subst e2; omega)), h3, h.c8⟩
theorem playT1 (h : Tw base col w x v d s N) (hp : Pl s N k) (hy : y.ok) (hk : y.do_ % 8 = 1) : Plays w base col x s d y N := by
  refine (play1 w hk hy h.wv h.vw h.c8 ⟨hp.lv.1, by have := hp.mx; omega⟩ ⟨hp.lv.1, by have := hp.mx; omega⟩).mono ?_
  rintro e w' ⟨rfl, h1, h2, h3⟩
  exact ⟨by simp, col, v, by rw [playS1 hk]; exact h.fp w h1 h2 h3 (fun q => q.own_ s.conf s.now _ s.closed), h3, El.refl _ _⟩
end
end Go.Proofs.YthmdiaingolfnaaGreatDoor.Wo
