/- A part of the claim: the texts DocW DocWB Play. -/
import Derived.Test.YthmdiaingolfnaaGreatDoorZGWorldC
import Derived.Test.YthmdiaingolfnaaGreatDoorZGBagE
import Derived.Test.YthmdiaingolfnaaGreatDoorZGLeaseDE
import Derived.Test.YthmdiaingolfnaaGreatDoorZGLeaseRef
import Derived.Test.YthmdiaingolfnaaGreatDoorZGFact
import Derived.Test.YthmdiaingolfnaaGreatDoorZGLocal
import Derived.Test.YthmdiaingolfnaaGreatDoorZGHist
import Derived.Test.YthmdiaingolfnaaGreatDoorZBase1
import Derived.Deep.MidRow
import Derived.Deep.WholeRow
import Derived.Deep.CutRange
import Derived.Deep.CutBlock
namespace Go.Proofs.YthmdiaingolfnaaGreatDoor.Wo
open Go Go.ChangeShapes Go.WideShapes Go.ChangeAt Go.RowKit Go.Maps Rw Hi Mt Ba
open Cn (Cf cfE)
set_option linter.unusedVariables false
structure Dv where
  b : Db
  lA : Option Addr
  ln : Nat
  lc : Nat
  vs : List Lc.Sv
  sA : Option Addr
  sn : Nat
  sc : Nat
  k : Le.Da
  fA : Option Addr
  fn : Nat
  fc : Nat
  pA : Option Addr
  pn : Nat
  pc : Nat
  cA : Option Addr
  cc : Nat
  hA : Option Addr
  hn : Nat
  hc : Nat
abbrev Dv.bag (v : Dv) : Value := .agg #[.slice v.b.A v.b.n v.b.c, .slice v.b.A2 v.b.n2 v.b.c2]
abbrev Dv.book (v : Dv) (leak : Int) : Value := .agg #[.int .u64 leak, .slice v.k.A v.k.n v.k.c, .slice v.k.A2 v.k.n2 v.k.c2, .slice v.k.A3 v.k.n3 v.k.c3]
abbrev Dv.fact (v : Dv) (n : Nat) : Value := .agg #[.slice v.fA v.fn v.fc, .slice v.pA v.pn v.pc, .slice v.cA n v.cc]
abbrev Dv.hist (v : Dv) (step : Int) : Value := .agg #[.int .u64 step, .slice v.hA v.hn v.hc]
def Dv.cells (v : Dv) (s : Ws) : List Value := [.int .i64 s.conf.max, .int .i64 s.conf.min, .int .u64 s.conf.idle, .int .u64 s.conf.life, .int .u64 s.conf.keep, .int .u64 s.conf.leak, .float .f64 s.conf.var, .int .u64 s.now, .slice v.b.A v.b.n v.b.c, .slice v.b.A2 v.b.n2 v.b.c2, .slice v.lA v.ln v.lc, .slice v.sA v.sn v.sc, .int .u64 s.leak, .slice v.k.A v.k.n v.k.c, .slice v.k.A2 v.k.n2 v.k.c2, .slice v.k.A3 v.k.n3 v.k.c3, .slice v.fA v.fn v.fc, .slice v.pA v.pn v.pc, .slice v.cA s.n v.cc, .int .u64 s.step, .slice v.hA v.hn v.hc, .int .i64 s.live, .bool s.closed]
abbrev Dv.val (v : Dv) (s : Ws) : Value := .agg (v.cells s).toArray
theorem cells_len (v : Dv) (s : Ws) : (v.cells s).length = 23 := rfl
theorem cells_one (v : Dv) (s : Ws) : (v.cells s).toArray.all (·.oneCell') = true := by kernel_rfl
structure Dw (K : Nat → Prop) (w : World) (v : Dv) (s : Ws) (N : List Int) : Prop where
  bag : Dq K w v.b s.D s.S
  loc : Lk.Dc K w v.lA v.lc v.vs s.loc
  sl : Rs St.enc3 3 w w.heap.size v.sA v.sn v.sc s.sl
  sk : Kn K v.sn v.sA
  book : Le.DkK K w v.k s.L N s.T
  fact : Fk.Rf K w (v.fact s.n) s.O s.P s.n s.C
  hist : Rs Tx.encE 6 w w.heap.size v.hA v.hn v.hc s.ev
  hk : Kn K v.hn v.hA
  l8 : v.ln = 8
section
variable {K L E : Nat → Prop} {w w' : World}
theorem kn_mono {n : Nat} {A : Option Addr} {B : Nat} (hb : 0 < n → ∃ b o, A = some ⟨b, o, none⟩ ∧ b < B) (h : Kn K n A) (hk : ∀ g, g < B → K g → L g) : Kn L n A := fun hn a e => by
  obtain ⟨b, o, e', hb'⟩ := hb hn
  have hK := h hn a e
  rw [e'] at e; injection e with e; subst e
  exact hk _ hb' hK
theorem rs_at {α : Type} {enc : α → List Value} {sz : Nat} {B : Nat} {A : Option Addr} {n c : Nat} {xs : List α} (h : Rs enc sz w B A n c xs) : 0 < n → ∃ b o, A = some ⟨b, o, none⟩ ∧ b < B := fun hn => by
  obtain ⟨b, o, e, hb, _⟩ := h.at_ hn
  exact ⟨b, o, e, hb⟩
theorem rd_at {α : Type} {enc : α → Value} {B : Nat} {A : Option Addr} {n c : Nat} {xs : List α} (h : Rd enc w B A n c xs) : 0 < n → ∃ b o, A = some ⟨b, o, none⟩ ∧ b < B := fun hn => by
  obtain ⟨b, o, e, hb, _⟩ := h.at_ hn
  exact ⟨b, o, e, hb⟩
theorem rdx_blk {α : Type} {enc : α → Value} {A : Option Addr} {n c : Nat} {xs : List α} {B B' : Nat} (h : Rd enc w B A n c xs) (hs : B ≤ B') (hk : 0 < n → ∀ b o, A = some ⟨b, o, none⟩ → w'.heap[b]? = w.heap[b]?) : Rd enc w' B' A n c xs :=
  ⟨h.len, h.cap, h.top, fun hn => by
    obtain ⟨b, o, e, hb, hc⟩ := h.at_ hn
    exact ⟨b, o, e, by omega, fun j x hx => (World.cell?_of_block (hk hn b o e)).trans (hc j x hx)⟩⟩
theorem kn_blk {n : Nat} {A : Option Addr} (hb : 0 < n → ∃ b o, A = some ⟨b, o, none⟩ ∧ b < w.heap.size) (h : Kn K n A) (hz : Fz E w w') (hE : ∀ g, g < w.heap.size → K g → ¬ E g) : 0 < n → ∀ b o, A = some ⟨b, o, none⟩ → w'.heap[b]? = w.heap[b]? := fun hn b o e => by
  obtain ⟨b', o', e', hb'⟩ := hb hn
  have hK := h hn _ e
  rw [e'] at e; injection e with e; injection e with e1
  subst e1
  exact hz.block _ hb' (hE _ hb' hK)
theorem dk_mono {d : Le.Da} {D : List (Int × Le.Ls)} {M : List Int} {T : List (Int × Int)} (h : Le.DkK K w d D M T) (hk : ∀ g, g < w.heap.size → K g → L g) : Le.DkK L w d D M T :=
  ⟨h.l, h.m, h.t, h.fm, h.fl, kn_mono (rs_at h.l) h.kl hk, kn_mono (rd_at h.m) h.km hk, kn_mono (rs_at h.t) h.kt hk⟩
theorem dk_fz {d : Le.Da} {D : List (Int × Le.Ls)} {M : List Int} {T : List (Int × Int)} (h : Le.DkK K w d D M T) (hz : Fz E w w') (hE : ∀ g, g < w.heap.size → K g → ¬ E g) : Le.DkK K w' d D M T :=
  ⟨rs_blk h.l hz.size (kn_blk (rs_at h.l) h.kl hz hE), rd_blk h.m hz.size (kn_blk (rd_at h.m) h.km hz hE), rs_blk h.t hz.size (kn_blk (rs_at h.t) h.kt hz hE), h.fm, h.fl, h.kl, h.km, h.kt⟩
theorem rn_kn {A : Option Addr} {n c : Nat} {O : List Bool} (h : Fk.Rn K w A n c O) : Kn K n A := fun hn a e => by
  obtain ⟨b, o, e', _⟩ := rd_at h.rd hn
  rw [e'] at e; injection e with e; subst e
  exact h.ne hn b o e'
theorem rn_mono {A : Option Addr} {n c : Nat} {O : List Bool} (h : Fk.Rn K w A n c O) (hk : ∀ g, g < w.heap.size → K g → L g) : Fk.Rn L w A n c O :=
  ⟨h.rd, fun hn g o e => kn_mono (rd_at h.rd) (rn_kn h) hk hn _ e⟩
theorem rn_fz {A : Option Addr} {n c : Nat} {O : List Bool} (h : Fk.Rn K w A n c O) (hz : Fz E w w') (hE : ∀ g, g < w.heap.size → K g → ¬ E g) : Fk.Rn K w' A n c O :=
  ⟨rdx_blk h.rd hz.size (kn_blk (rd_at h.rd) (rn_kn h) hz hE), h.ne⟩
theorem rf_mono {v : Value} {O P : List Bool} {n : Nat} {C : List Int} (h : Fk.Rf K w v O P n C) (hk : ∀ g, g < w.heap.size → K g → L g) : Fk.Rf L w v O P n C := by
  obtain ⟨A1, n1, c1, A2, n2, c2, A3, c3, S, e, h1, h2, h3, h4⟩ := h.form
  exact ⟨⟨A1, n1, c1, A2, n2, c2, A3, c3, S, e, rn_mono h1 hk, rn_mono h2 hk, rn_mono h3 hk, h4⟩⟩
theorem rf_fz {v : Value} {O P : List Bool} {n : Nat} {C : List Int} (h : Fk.Rf K w v O P n C) (hz : Fz E w w') (hE : ∀ g, g < w.heap.size → K g → ¬ E g) : Fk.Rf K w' v O P n C := by
  obtain ⟨A1, n1, c1, A2, n2, c2, A3, c3, S, e, h1, h2, h3, h4⟩ := h.form
  exact ⟨⟨A1, n1, c1, A2, n2, c2, A3, c3, S, e, rn_fz h1 hz hE, rn_fz h2 hz hE, rn_fz h3 hz hE, h4⟩⟩
theorem own_at {A : Option Addr} {n c : Nat} {b o : Nat} (e : A = some ⟨b, o, none⟩) : (Value.slice A n c).ownBlock = some b := by subst e; rfl
theorem own_lt {B : Nat} {A : Option Addr} {c : Nat} {vs : List Lc.Sv} (h : Rd Lc.encS w B A 8 c vs) : ∀ g, (Value.slice A 8 c).ownBlock = some g → g < B := fun g hg => by
  obtain ⟨b, o, e, hb⟩ := rd_at h (by decide)
  rw [own_at e] at hg
  injection hg with hg
  omega
theorem dc_mono {A : Option Addr} {c : Nat} {vs : List Lc.Sv} {M : Nat → List Int} (h : Lk.Dc K w A c vs M) (hk : ∀ g, g < w.heap.size → K g → L g) : Lk.Dc L w A c vs M :=
  ⟨h.rd, fun g hg => hk g (own_lt h.rd g hg) (h.bl g hg), fun i s hs => ⟨(h.el i s hs).1, fun g hg => ⟨((h.el i s hs).2 g hg).1, hk g ((h.el i s hs).2 g hg).1 ((h.el i s hs).2 g hg).2⟩⟩, h.len⟩
theorem dc_fz {A : Option Addr} {c : Nat} {vs : List Lc.Sv} {M : Nat → List Int} (h : Lk.Dc K w A c vs M) (hz : Fz E w w') (hE : ∀ g, g < w.heap.size → K g → ¬ E g) : Lk.Dc K w' A c vs M :=
  ⟨rdx_blk h.rd hz.size (fun hn b o e => hz.block b (own_lt h.rd b (own_at e)) (hE b (own_lt h.rd b (own_at e)) (h.bl b (own_at e)))), h.bl, fun i s hs =>
    ⟨rd_blk (h.el i s hs).1 hz.size (fun hn b o e => hz.block b ((h.el i s hs).2 b (own_at e)).1 (hE b ((h.el i s hs).2 b (own_at e)).1 ((h.el i s hs).2 b (own_at e)).2)), fun g hg => ⟨Nat.lt_of_lt_of_le ((h.el i s hs).2 g hg).1 hz.size, ((h.el i s hs).2 g hg).2⟩⟩, h.len⟩
variable {v : Dv} {s : Ws} {N : List Int}
theorem Dw.later (h : Dw K w v s N) (hb : Below w.heap.size w w') : Dw K w' v s N :=
  ⟨h.bag.later hb, h.loc.later hb, h.sl.later hb, h.sk, h.book.later hb, h.fact.below hb, h.hist.later hb, h.hk, h.l8⟩
theorem Dw.mono (h : Dw K w v s N) (hk : ∀ g, g < w.heap.size → K g → L g) : Dw L w v s N :=
  ⟨h.bag.mono hk, dc_mono h.loc hk, h.sl, kn_mono (rs_at h.sl) h.sk hk, dk_mono h.book hk, rf_mono h.fact hk, h.hist, kn_mono (rs_at h.hist) h.hk hk, h.l8⟩
theorem Dw.fz (h : Dw K w v s N) (hz : Fz E w w') (hE : ∀ g, g < w.heap.size → K g → ¬ E g) : Dw K w' v s N :=
  ⟨h.bag.fz hz hE, dc_fz h.loc hz hE, rs_blk h.sl hz.size (kn_blk (rs_at h.sl) h.sk hz hE), h.sk, dk_fz h.book hz hE, rf_fz h.fact hz hE, rs_blk h.hist hz.size (kn_blk (rs_at h.hist) h.hk hz hE), h.hk, h.l8⟩
end
structure Vw (w : World) (g : Nat) (cs : List Value) : Prop where
  at_ : w.rangeAt g 0 cs
  th : w.there g 0 23
theorem under_w : Tryz.prog.underlying 69 = some (Tryz.prog.underlying 69).get! := by kernel_rfl
theorem row_w : ((Tryz.prog.underlying 69).get!).isRow = true := by kernel_rfl
theorem info_w : (Tryz.prog.info? 69).map (·.size) = some 23 := by kernel_rfl
section
variable {w w' : World} {g : Nat} {cs : List Value}
theorem Vw.cell (h : Vw w g cs) (j : Nat) (u : Value) (hj : cs[j]? = some u) : w.cell? ⟨g, j, none⟩ = some u := by
  have := h.at_ j u hj
  rwa [Nat.zero_add] at this
theorem th_free (h : w.there g 0 23) (j : Nat) (hj : j < 23) : w.frozen? ⟨g, j, none⟩ = false := by
  have := (h j hj).2
  rwa [Nat.zero_add] at this
theorem Vw.free (h : Vw w g cs) (j : Nat) (hj : j < 23) : w.frozen? ⟨g, j, none⟩ = false := th_free h.th j hj
theorem th_blk (h : w.there g 0 23) (hb : w'.heap[g]? = w.heap[g]?) : w'.there g 0 23 := fun j hj => ⟨by rw [World.cell?_of_block hb]; exact (h j hj).1, by rw [World.frozen?_of_block hb]; exact (h j hj).2⟩
theorem th_lt (h : w.there g 0 23) : g < w.heap.size := by
  obtain ⟨u, hu⟩ := Option.isSome_iff_exists.1 (h 0 (by decide)).1
  exact Lw.lt_heap hu
theorem Vw.blk (h : Vw w g cs) (hb : w'.heap[g]? = w.heap[g]?) : Vw w' g cs := ⟨fun j u hj => (World.cell?_of_block hb).trans (h.at_ j u hj), th_blk h.th hb⟩
theorem Vw.lt (h : Vw w g cs) : g < w.heap.size := th_lt h.th
theorem Vw.later (h : Vw w g cs) (hb : Below w.heap.size w w') : Vw w' g cs := h.blk (hb.block _ h.lt)
theorem th_later (h : w.there g 0 23) (hb : Below w.heap.size w w') : w'.there g 0 23 := th_blk h (hb.block _ (th_lt h))
theorem Vw.set (h : Vw w g cs) (j : Nat) (hj : j < cs.length) (u : Value) : Vw (w.setCell ⟨g, j, none⟩ u) g (cs.set j u) := by
  refine ⟨fun i x hx => ?_, fun i hi => ⟨?_, by simpa using (h.th i hi).2⟩⟩
  · by_cases e : j = i
    · subst e
      rw [List.getElem?_set_self hj] at hx
      injection hx with hx
      subst hx
      have h1 := h.at_ j _ (List.getElem?_eq_getElem hj)
      rw [Nat.zero_add] at h1 ⊢
      exact World.cell?_setCell_same _ _ _ h1
    · rw [List.getElem?_set_ne e] at hx
      exact (World.cell?_setCell_other _ _ _ _ (fun e2 => by injection e2 with _ e2; omega)).trans (h.at_ i x hx)
  · by_cases e : j = i
    · subst e
      have h1 := h.at_ j _ (List.getElem?_eq_getElem hj)
      rw [Nat.zero_add] at h1 ⊢
      rw [World.cell?_setCell_same _ _ _ h1]; rfl
    · rw [World.cell?_setCell_other _ _ _ _ (fun e2 => by injection e2 with _ e2; omega)]
      exact (h.th i hi).1
theorem th_set (h : w.there g 0 23) {r j : Nat} (hr : g ≠ r) (u : Value) : (w.setCell ⟨r, j, none⟩ u).there g 0 23 := th_blk h (heap_setCell_other _ _ g _ hr)
theorem fz_setCells (g : Nat) : ∀ (vs : List Value) (o : Nat) (w : World), Fz (fun k => k = g) w (w.setCells g o vs)
  | [], _, w => Fz.refl _ w
  | v :: r, o, w => by
    rw [World.setCells]
    exact (Fz.of_set (C := fun k => k = g) (a := ⟨g, o, none⟩) v rfl).trans (fz_setCells g r (o + 1) _)
end
theorem box_w (cs : List Value) (w : World) (hl : cs.length = 23) : ∃ W, w.alloc (.cells cs.toArray 69) = W ∧ Vw W w.heap.size cs ∧ Below w.heap.size w W ∧ W.heap.size = w.heap.size + 1 := by
  have h1 : (w.alloc (.cells cs.toArray 69)).heap[w.heap.size]? = some (.cells cs.toArray 69) := heap_alloc_last _ _
  refine ⟨_, rfl, ⟨fun j u hj => ?_, fun j hj => ⟨?_, ?_⟩⟩, (Below.refl _ _).alloc (Nat.le_refl _) _, by simp⟩
  · rw [cell_of_row _ _ _ _ _ _ h1]; simpa using hj
  · rw [cell_of_row _ _ _ _ _ _ h1]; simp; omega
  · unfold World.frozen?; simp only [h1]; rfl
theorem boxes_w (cs : List Value) (w : World) (hl : cs.length = 23) : ∃ W, (w.alloc (.cells cs.toArray 69)).alloc (.cells #[.int .i64 0, .int .i64 0, .int .u64 0, .int .u64 0, .int .u64 0, .int .u64 0, .float .f64 0, .int .u64 0, .slice none 0 0, .slice none 0 0, .slice none 0 0, .slice none 0 0, .int .u64 0, .slice none 0 0, .slice none 0 0, .slice none 0 0, .slice none 0 0, .slice none 0 0, .slice none 0 0, .int .u64 0, .slice none 0 0, .int .i64 0, .bool false] 69) = W ∧
    Vw W w.heap.size cs ∧ W.there (w.heap.size + 1) 0 23 ∧ Below w.heap.size w W ∧ W.heap.size = w.heap.size + 2 := by
  obtain ⟨W1, e1, h1, b1, s1⟩ := box_w cs w hl
  rw [e1]
  obtain ⟨W2, e2, h2, b2, s2⟩ := box_w [.int .i64 0, .int .i64 0, .int .u64 0, .int .u64 0, .int .u64 0, .int .u64 0, .float .f64 0, .int .u64 0, .slice none 0 0, .slice none 0 0, .slice none 0 0, .slice none 0 0, .int .u64 0, .slice none 0 0, .slice none 0 0, .slice none 0 0, .slice none 0 0, .slice none 0 0, .slice none 0 0, .int .u64 0, .slice none 0 0, .int .i64 0, .bool false] W1 rfl
  rw [s1] at h2
  exact ⟨W2, e2, h1.later b2, h2.th, b1.trans (b2.mono b1.size), by omega⟩
section
variable {fn : Func} {p u x : Tmp} (tmps : Array Value) (w : World) (g : Nat) (v : Dv) (s : Ws)
theorem res_w (h : fn.results = #[.cell p 69]) (hp : tmps.getD p undef = .pointer (some ⟨g, 0, none⟩)) (hv : Vw w g (v.cells s)) : (results fn tmps).run Tryz.prog w = .ok (v.val s) w := by
  have hr := run_loadVar_mid (P := Tryz.prog) w g 0 69 _ _ hv.at_ under_w row_w info_w
  have hp' : tmps[p]?.getD undef = .pointer (some ⟨g, 0, none⟩) := by simpa using hp
  simp [results, h, hp', asAddr, hr]
theorem res_w2 (h : fn.results = #[.cell p 69, .tmp u]) (hp : tmps.getD p undef = .pointer (some ⟨g, 0, none⟩)) (hv : Vw w g (v.cells s)) : (results fn tmps).run Tryz.prog w = .ok (.tuple #[v.val s, tmps.getD u undef]) w := by
  have hr := run_loadVar_mid (P := Tryz.prog) w g 0 69 _ _ hv.at_ under_w row_w info_w
  have hp' : tmps[p]?.getD undef = .pointer (some ⟨g, 0, none⟩) := by simpa using hp
  simp [results, h, hp', asAddr, hr]
end
section
variable {ops : Array Oper} {rest : List Oper} {op : Oper} {a : Act} {w : World} {Q : Exit → Act → World → Prop}
theorem load_w (hgd : op.guard = none) (x : Operand) (ho : op.op = .load 69 x) (g : Nat) (hx : a.eval x = .pointer (some ⟨g, 0, none⟩)) (v : Dv) (s : Ws) (hv : Vw w g (v.cells s))
    (h : wpList Tryz.prog ops Q rest (a.put op.dst (v.val s)) w) : wpList Tryz.prog ops Q (op :: rest) a w :=
  wpList_load_mid hgd 69 x ho g 0 hx _ _ hv.at_ under_w row_w info_w h
theorem store_w (hgd : op.guard = none) (x y : Operand) (ho : op.op = .store 69 x y) (g : Nat) (hx : a.eval x = .pointer (some ⟨g, 0, none⟩)) (v : Dv) (s : Ws) (hy : a.eval y = v.val s) (ht : w.there g 0 23)
    (h : ∀ w', Vw w' g (v.cells s) → Fz (fun k => k = g) w w' → wpList Tryz.prog ops Q rest (a.put op.dst undef) w') : wpList Tryz.prog ops Q (op :: rest) a w :=
  wpList_store_mid hgd 69 x y ho g 0 (v.cells s).toArray hx hy ht info_w (cells_one v s) (h _ ⟨World.rangeAt_setCells_same w g 0 _ ht, World.there_setCells ht g 0 _⟩ (fz_setCells _ _ _ _))
end
end Go.Proofs.YthmdiaingolfnaaGreatDoor.Wo
namespace Go.Proofs.YthmdiaingolfnaaGreatDoor.Wo
open Go Go.ChangeShapes Go.WideShapes Go.ChangeAt Go.RowKit Go.Maps Rw Hi Mt Ba
open Cn (Cf cfE)
set_option linter.unusedVariables false
def Ks (K : Nat → Prop) (w : World) (g : Nat) : Prop := K g ∧ g ≠ w.heap.size ∧ g ≠ w.heap.size + 1
abbrev Bx2 (w : World) (k : Nat) : Prop := k = w.heap.size ∨ k = w.heap.size + 1
section
variable {K : Nat → Prop} {w w' w2 w3 : World} {v : Dv} {s : Ws} {N : List Int}
theorem start_w (h : Dw K w v s N) (hKK : ∀ g, w.heap.size ≤ g → K g) (hB : Below w.heap.size w w') (hs : w'.heap.size = w.heap.size + 2) : Dw (Ks K w) w' v s N ∧ ∀ g, w'.heap.size ≤ g → Ks K w g :=
  ⟨(h.mono (fun g hg hk => ⟨hk, by omega, by omega⟩)).later hB, fun g hg => ⟨hKK g (by omega), by omega, by omega⟩⟩
theorem end_w (h : Dw (Ks K w) w2 v s N) (hz : Fz (Bx2 w) w2 w3) : Dw K w3 v s N :=
  (h.fz hz (fun g _ hk e => e.elim hk.2.1 hk.2.2)).mono (fun g _ hk => hk.1)
theorem fz1 {g : Nat} (hz : Fz (fun k => k = g) w2 w3) (hg : Bx2 w g) : Fz (Bx2 w) w2 w3 := hz.mono (fun k _ e => e ▸ hg)
theorem fz_set {g j : Nat} (u : Value) (hg : Bx2 w g) : Fz (Bx2 w) w2 (w2.setCell ⟨g, j, none⟩ u) := Fz.of_set (a := ⟨g, j, none⟩) u hg
theorem fz_low (hz : Fz (Bx2 w) w2 w3) (hb : Below w.heap.size w w2) : Below w.heap.size w w3 := hb.trans (hz.below hb.size (fun k hk => by rcases hk with e | e <;> omega))
theorem Dw.own_ (h : Dw K w v s N) (cf : Cf) (nw lv : Int) (cl : Bool) : Dw K w v { s with conf := cf, now := nw, live := lv, closed := cl } N := ⟨h.bag, h.loc, h.sl, h.sk, h.book, h.fact, h.hist, h.hk, h.l8⟩
end
section
variable {K : Nat → Prop} (w : World) (v : Dv) (s : Ws) (N : List Int)
set_option maxRecDepth 100000 in
theorem dgrow_any (h0 : 0 ≤ s.live) (hm : s.conf.max ≤ 1000000) :
    Calls Tryz.prog 46 #[v.val s] w fun e w' => e = .returned (.tuple #[v.val { s with live := grwV s.live s.conf.max }, .bool (decide (s.live < s.conf.max))]) ∧ Below w.heap.size w w' := by
  by_cases hl : s.live < s.conf.max
  · have q1 : decide (s.live < s.conf.max) = true := decide_eq_true hl
    have q2 : decide (s.conf.max ≤ s.live) = false := decide_eq_false (by omega)
    have hwr : IntKind.i64.wrap (s.live + 1) = s.live + 1 := by rw [IntKind.wrap_i64]; omega
    rw [show grwV s.live s.conf.max = s.live + 1 from if_pos hl, q1]
    clear hl h0 hm q1
    obtain ⟨W1, hW1, V1, T1, B1, S1⟩ := boxes_w (v.cells s) w rfl
    have HV1 := Lib.hid V1
    have HT1 := Lib.hid T1
    have HB1 := Lib.hid B1
    have f0 := V1.cell 0 _ rfl
    have f21 := V1.cell 21 _ rfl
    have g21 := V1.free 21 (by decide)
    clear V1 T1 B1
    go_enter Tryz.func46, Tryz.ntmps46
    go_upto_region 1 with (fail)
    clear hW1
    go_upto_region 4 with (fail)
    have HV2 : Hid (Vw (W1.setCell ⟨w.heap.size, 21, none⟩ (.int .i64 (s.live + 1))) w.heap.size (v.cells { s with live := s.live + 1 })) := Lib.hid (HV1.out.set 21 (by rw [cells_len]; decide) _)
    have HT2 := Lib.hid (th_set (j := 21) HT1.out (r := w.heap.size) (by omega) (.int .i64 (s.live + 1)))
    have HB2 := Lib.hid (HB1.out.setCell (p := ⟨w.heap.size, 21, none⟩) (Nat.le_refl _) (.int .i64 (s.live + 1)))
    generalize (W1.setCell ⟨w.heap.size, 21, none⟩ (.int .i64 (s.live + 1))) = W2 at *
    clear f21 g21 HV1 HT1 HB1 S1
    go_wp2_with (first
      | (refine load_w rfl _ rfl w.heap.size rfl v { s with live := s.live + 1 } HV2.out ?_)
      | (refine store_w rfl _ _ rfl (w.heap.size + 1) rfl v { s with live := s.live + 1 } rfl HT2.out ?_; intro w9 hv9 hz9; have HV9 := Lib.hid hv9; have HZ9 := Lib.hid hz9; clear hv9 hz9))
    exact bodyPost_ret (v := .tuple #[v.val { s with live := s.live + 1 }, .bool true]) (res_w2 _ _ (w.heap.size + 1) _ _ Tryz.results46 rfl HV9.out) rfl ⟨rfl, fz_low (fz1 HZ9.out (.inr rfl)) HB2.out⟩
  · have q1 : decide (s.live < s.conf.max) = false := decide_eq_false hl
    have q2 : decide (s.conf.max ≤ s.live) = true := decide_eq_true (by omega)
    rw [show grwV s.live s.conf.max = s.live from if_neg hl, q1]
    clear hl h0 hm q1
    obtain ⟨W1, hW1, V1, T1, B1, S1⟩ := boxes_w (v.cells s) w rfl
    have HV1 := Lib.hid V1
    have HT1 := Lib.hid T1
    have HB1 := Lib.hid B1
    have f0 := V1.cell 0 _ rfl
    have f21 := V1.cell 21 _ rfl
    have g21 := V1.free 21 (by decide)
    clear V1 T1 B1
    go_enter Tryz.func46, Tryz.ntmps46
    go_upto_region 1 with (fail)
    clear hW1
    go_wp2_with (first
      | (refine load_w rfl _ rfl w.heap.size rfl v s HV1.out ?_)
      | (refine store_w rfl _ _ rfl (w.heap.size + 1) rfl v s rfl HT1.out ?_; intro w9 hv9 hz9; have HV9 := Lib.hid hv9; have HZ9 := Lib.hid hz9; clear hv9 hz9))
    exact bodyPost_ret (v := .tuple #[v.val s, .bool false]) (res_w2 _ _ (w.heap.size + 1) _ _ Tryz.results46 rfl HV9.out) rfl ⟨rfl, fz_low (fz1 HZ9.out (.inr rfl)) HB1.out⟩
set_option maxRecDepth 100000 in
theorem dpublish_no (h : Dw K w v s N) (hKK : ∀ g, w.heap.size ≤ g → K g) (id : Int) (hn : s.D.length ≤ 1000) (hn2 : s.S.length ≤ 1000) (hc : s.closed = false) :
    Calls Tryz.prog 51 #[v.val s, .int .u64 id] w fun e w' => ∃ v' : Dv, e = .returned (.tuple #[v'.val { s with S := pubS s.D s.S id }, .bool (kn s.D id == 0)]) ∧ Dw K w' v' { s with S := pubS s.D s.S id } N ∧ Below w.heap.size w w' := by
  obtain ⟨S2, hS2⟩ : ∃ S2, pubS s.D s.S id = S2 := ⟨_, rfl⟩
  rw [hS2]
  have HS2 := Lib.hid hS2
  clear hS2
  obtain ⟨W1, hW1, V1, T1, B1, S1⟩ := boxes_w (v.cells s) w rfl
  obtain ⟨d1, k1⟩ := start_w h hKK B1 S1
  have HD1 := Lib.hid d1
  have HKK1 := Lib.hid k1
  have HBW := Lib.hid h
  have HV1 := Lib.hid V1
  have HT1 := Lib.hid T1
  have HB1 := Lib.hid B1
  have f8 := V1.cell 8 _ rfl
  have f9 := V1.cell 9 _ rfl
  have f22 : W1.cell? ⟨w.heap.size, 22, none⟩ = some (.bool false) := by rw [← hc]; exact V1.cell 22 _ rfl
  clear hc
  clear V1 T1 B1 d1 k1 h hKK
  go_enter Tryz.func51, Tryz.ntmps51
  go_upto_region 1 with (fail)
  clear hW1
  go_wp2_with fail
  refine ((by have q := rpublish_any (K := Ks K w) v.b.A v.b.A2 v.b.n v.b.c v.b.n2 v.b.c2 s.D s.S W1 id HD1.out.bag HKK1.out (by have := HD1.out.bag.l.len; omega) (by have := HD1.out.bag.s.len; omega); rw [show (if (fnd s.D id).isSome then Sn.sWith s.S id else s.S) = S2 from HS2.out] at q; exact q : Calls _ _ _ _ _)).mono ?_
  rintro e w2 ⟨A', n', c', rfl, hd2, b2⟩
  have HD2 : Hid (Dw (Ks K w) w2 { v with b := ⟨v.b.A, v.b.n, v.b.c, A', n', c'⟩ } { s with S := S2 } N) := Lib.hid (by
    have h2 := HD1.out.later b2
    exact ⟨hd2, h2.loc, h2.sl, h2.sk, h2.book, h2.fact, h2.hist, h2.hk, h2.l8⟩)
  have HV2 := Lib.hid (HV1.out.later b2)
  have HT2 := Lib.hid (th_later HT1.out b2)
  have HB2 := Lib.hid (HB1.out.trans (b2.mono HB1.out.size))
  have hs2 := b2.size
  clear hd2 b2 HD1 HV1 HT1 HB1 f8 f9 f22
  go_upto_region 4 with (fail)
  have hba : Below w2.heap.size w2 (w2.alloc (.cells #[.slice v.b.A v.b.n v.b.c, .slice A' n' c'] 56)) := (Below.refl _ _).alloc (Nat.le_refl _) _
  have HZ3 : Hid (Fz (Bx2 w) w2 (w2.alloc (.cells #[.slice v.b.A v.b.n v.b.c, .slice A' n' c'] 56))) := Lib.hid (Fz.of_below hba)
  have HV3 := Lib.hid (HV2.out.later hba)
  have HT3 := Lib.hid (th_later HT2.out hba)
  have y0 : (w2.alloc (.cells #[.slice v.b.A v.b.n v.b.c, .slice A' n' c'] 56)).cell? ⟨w2.heap.size, 0, none⟩ = some (.slice v.b.A v.b.n v.b.c) := by go_simp
  have y1 : (w2.alloc (.cells #[.slice v.b.A v.b.n v.b.c, .slice A' n' c'] 56)).cell? ⟨w2.heap.size, 1, none⟩ = some (.slice A' n' c') := by go_simp
  have f8 := HV3.out.cell 8 _ rfl
  have g8 := HV3.out.free 8 (by decide)
  have f9 := HV3.out.cell 9 _ rfl
  have g9 := HV3.out.free 9 (by decide)
  clear hba HV2 HT2
  generalize (w2.alloc (.cells #[.slice v.b.A v.b.n v.b.c, .slice A' n' c'] 56)) = W3 at *
  generalize w2.heap.size = x2 at *
  go_upto_region 5 with (fail)
  have HV4 : Hid (Vw ((W3.setCell ⟨w.heap.size, 8, none⟩ (.slice v.b.A v.b.n v.b.c)).setCell ⟨w.heap.size, 9, none⟩ (.slice A' n' c')) w.heap.size (Dv.cells { v with b := ⟨v.b.A, v.b.n, v.b.c, A', n', c'⟩ } { s with S := S2 })) := Lib.hid ((HV3.out.set 8 (by simp [cells_len]) (.slice v.b.A v.b.n v.b.c)).set 9 (by simp [cells_len]) (.slice A' n' c'))
  have HT4 : Hid (((W3.setCell ⟨w.heap.size, 8, none⟩ (.slice v.b.A v.b.n v.b.c)).setCell ⟨w.heap.size, 9, none⟩ (.slice A' n' c')).there (w.heap.size + 1) 0 23) := Lib.hid (th_set (j := 9) (th_set (j := 8) HT3.out (r := w.heap.size) (by omega) (.slice v.b.A v.b.n v.b.c)) (r := w.heap.size) (by omega) (.slice A' n' c'))
  have HZ4 : Hid (Fz (Bx2 w) w2 ((W3.setCell ⟨w.heap.size, 8, none⟩ (.slice v.b.A v.b.n v.b.c)).setCell ⟨w.heap.size, 9, none⟩ (.slice A' n' c'))) := Lib.hid ((HZ3.out.trans (fz_set (j := 8) (.slice v.b.A v.b.n v.b.c) (.inl rfl))).trans (fz_set (j := 9) (.slice A' n' c') (.inl rfl)))
  generalize ((W3.setCell ⟨w.heap.size, 8, none⟩ (.slice v.b.A v.b.n v.b.c)).setCell ⟨w.heap.size, 9, none⟩ (.slice A' n' c')) = W4 at *
  clear HV3 HT3 HZ3 f8 g8 f9 g9 y0 y1
  go_wp2_with (first
    | (refine load_w rfl _ rfl w.heap.size rfl { v with b := ⟨v.b.A, v.b.n, v.b.c, A', n', c'⟩ } { s with S := S2 } HV4.out ?_)
    | (refine store_w rfl _ _ rfl (w.heap.size + 1) rfl { v with b := ⟨v.b.A, v.b.n, v.b.c, A', n', c'⟩ } { s with S := S2 } rfl HT4.out ?_; intro w9 hv9 hz9; have HV9 := Lib.hid hv9; have HZ9 := Lib.hid hz9; clear hv9 hz9))
  exact bodyPost_ret (v := .tuple #[Dv.val { v with b := ⟨v.b.A, v.b.n, v.b.c, A', n', c'⟩ } { s with S := S2 }, .bool (kn s.D id == 0)]) (res_w2 _ _ (w.heap.size + 1) _ _ Tryz.results51 rfl HV9.out) rfl ⟨{ v with b := ⟨v.b.A, v.b.n, v.b.c, A', n', c'⟩ }, rfl, end_w HD2.out (HZ4.out.trans (fz1 HZ9.out (.inr rfl))), fz_low (HZ4.out.trans (fz1 HZ9.out (.inr rfl))) HB2.out⟩
set_option maxRecDepth 100000 in
theorem dlease_any (h : Dw K w v s N) (hKK : ∀ g, w.heap.size ≤ g → K g) (id th : Int) (hs : Le.Sd s.L) (tms : Wl.Tms s.T) (hid : U64 id) (hnow : U64 s.now) (hlk : U64 s.leak) (hn : s.L.length ≤ 1000) (hn2 : N.length ≤ 1000) (hn3 : s.T.length ≤ 1000) :
    Calls Tryz.prog 52 #[v.val s, .int .u64 id, .int .i64 th] w fun e w' => ∃ (v' : Dv) (D' : List (Int × Le.Ls)), e = .returned (.tuple #[v'.val { s with L := D', T := Le.bT s.leak s.L s.T id th s.now }, .int .i64 (Le.bE s.L id th)]) ∧ Dw K w' v' { s with L := D', T := Le.bT s.leak s.L s.T id th s.now } N ∧ (Le.bL s.L id th s.now).Perm D' ∧ Le.Sd D' ∧ Below w.heap.size w w' := by
  obtain ⟨W1, hW1, V1, T1, B1, S1⟩ := boxes_w (v.cells s) w rfl
  obtain ⟨d1, k1⟩ := start_w h hKK B1 S1
  have HD1 := Lib.hid d1
  have HKK1 := Lib.hid k1
  have HBW := Lib.hid h
  have HV1 := Lib.hid V1
  have HT1 := Lib.hid T1
  have HB1 := Lib.hid B1
  have f12 := V1.cell 12 _ rfl
  have f13 := V1.cell 13 _ rfl
  have f14 := V1.cell 14 _ rfl
  have f15 := V1.cell 15 _ rfl
  have f7 := V1.cell 7 _ rfl
  clear V1 T1 B1 d1 k1 h hKK
  go_enter Tryz.func52, Tryz.ntmps52
  go_upto_region 1 with (fail)
  clear hW1
  go_wp2_with fail
  refine (Le.rbegin_any s.leak v.k.A v.k.A2 v.k.A3 v.k.n v.k.c v.k.n2 v.k.c2 v.k.n3 v.k.c3 s.L N s.T W1 id th s.now HD1.out.book HKK1.out hs tms hid hnow hlk (by have := HD1.out.book.l.len; omega) (by have := HD1.out.book.m.len; omega) (by have := HD1.out.book.t.len; omega)).mono ?_
  rintro e w2 ⟨d, D', rfl, hp2, hs2', hd2, b2⟩
  have HP2 := Lib.hid hp2
  have HS2 := Lib.hid hs2'
  clear hp2 hs2'
  have HD2 : Hid (Dw (Ks K w) w2 { v with k := d } { s with L := D', T := Le.bT s.leak s.L s.T id th s.now } N) := Lib.hid (by
    have h2 := HD1.out.later b2
    exact ⟨h2.bag, h2.loc, h2.sl, h2.sk, hd2, h2.fact, h2.hist, h2.hk, h2.l8⟩)
  have HV2 := Lib.hid (HV1.out.later b2)
  have HT2 := Lib.hid (th_later HT1.out b2)
  have HB2 := Lib.hid (HB1.out.trans (b2.mono HB1.out.size))
  have hs2 := b2.size
  clear hd2 b2 HD1 HV1 HT1 HB1 f12 f13 f14 f15 f7
  go_upto_region 2 with (fail)
  have hba : Below w2.heap.size w2 (w2.alloc (.cells #[.int .u64 s.leak, .slice d.A d.n d.c, .slice d.A2 d.n2 d.c2, .slice d.A3 d.n3 d.c3] 62)) := (Below.refl _ _).alloc (Nat.le_refl _) _
  have HZ3 : Hid (Fz (Bx2 w) w2 (w2.alloc (.cells #[.int .u64 s.leak, .slice d.A d.n d.c, .slice d.A2 d.n2 d.c2, .slice d.A3 d.n3 d.c3] 62))) := Lib.hid (Fz.of_below hba)
  have HV3 := Lib.hid (HV2.out.later hba)
  have HT3 := Lib.hid (th_later HT2.out hba)
  have y0 : (w2.alloc (.cells #[.int .u64 s.leak, .slice d.A d.n d.c, .slice d.A2 d.n2 d.c2, .slice d.A3 d.n3 d.c3] 62)).cell? ⟨w2.heap.size, 0, none⟩ = some (.int .u64 s.leak) := by go_simp
  have y1 : (w2.alloc (.cells #[.int .u64 s.leak, .slice d.A d.n d.c, .slice d.A2 d.n2 d.c2, .slice d.A3 d.n3 d.c3] 62)).cell? ⟨w2.heap.size, 1, none⟩ = some (.slice d.A d.n d.c) := by go_simp
  have y2 : (w2.alloc (.cells #[.int .u64 s.leak, .slice d.A d.n d.c, .slice d.A2 d.n2 d.c2, .slice d.A3 d.n3 d.c3] 62)).cell? ⟨w2.heap.size, 2, none⟩ = some (.slice d.A2 d.n2 d.c2) := by go_simp
  have y3 : (w2.alloc (.cells #[.int .u64 s.leak, .slice d.A d.n d.c, .slice d.A2 d.n2 d.c2, .slice d.A3 d.n3 d.c3] 62)).cell? ⟨w2.heap.size, 3, none⟩ = some (.slice d.A3 d.n3 d.c3) := by go_simp
  have f12 := HV3.out.cell 12 _ rfl
  have g12 := HV3.out.free 12 (by decide)
  have f13 := HV3.out.cell 13 _ rfl
  have g13 := HV3.out.free 13 (by decide)
  have f14 := HV3.out.cell 14 _ rfl
  have g14 := HV3.out.free 14 (by decide)
  have f15 := HV3.out.cell 15 _ rfl
  have g15 := HV3.out.free 15 (by decide)
  clear hba HV2 HT2
  generalize (w2.alloc (.cells #[.int .u64 s.leak, .slice d.A d.n d.c, .slice d.A2 d.n2 d.c2, .slice d.A3 d.n3 d.c3] 62)) = W3 at *
  generalize w2.heap.size = x2 at *
  go_upto_region 3 with (fail)
  have HV4 : Hid (Vw ((((W3.setCell ⟨w.heap.size, 12, none⟩ (.int .u64 s.leak)).setCell ⟨w.heap.size, 13, none⟩ (.slice d.A d.n d.c)).setCell ⟨w.heap.size, 14, none⟩ (.slice d.A2 d.n2 d.c2)).setCell ⟨w.heap.size, 15, none⟩ (.slice d.A3 d.n3 d.c3)) w.heap.size (Dv.cells { v with k := d } { s with L := D', T := Le.bT s.leak s.L s.T id th s.now })) := Lib.hid ((((HV3.out.set 12 (by simp [cells_len]) (.int .u64 s.leak)).set 13 (by simp [cells_len]) (.slice d.A d.n d.c)).set 14 (by simp [cells_len]) (.slice d.A2 d.n2 d.c2)).set 15 (by simp [cells_len]) (.slice d.A3 d.n3 d.c3))
  have HT4 : Hid (((((W3.setCell ⟨w.heap.size, 12, none⟩ (.int .u64 s.leak)).setCell ⟨w.heap.size, 13, none⟩ (.slice d.A d.n d.c)).setCell ⟨w.heap.size, 14, none⟩ (.slice d.A2 d.n2 d.c2)).setCell ⟨w.heap.size, 15, none⟩ (.slice d.A3 d.n3 d.c3)).there (w.heap.size + 1) 0 23) := Lib.hid (th_set (j := 15) (th_set (j := 14) (th_set (j := 13) (th_set (j := 12) HT3.out (r := w.heap.size) (by omega) (.int .u64 s.leak)) (r := w.heap.size) (by omega) (.slice d.A d.n d.c)) (r := w.heap.size) (by omega) (.slice d.A2 d.n2 d.c2)) (r := w.heap.size) (by omega) (.slice d.A3 d.n3 d.c3))
  have HZ4 : Hid (Fz (Bx2 w) w2 ((((W3.setCell ⟨w.heap.size, 12, none⟩ (.int .u64 s.leak)).setCell ⟨w.heap.size, 13, none⟩ (.slice d.A d.n d.c)).setCell ⟨w.heap.size, 14, none⟩ (.slice d.A2 d.n2 d.c2)).setCell ⟨w.heap.size, 15, none⟩ (.slice d.A3 d.n3 d.c3))) := Lib.hid ((((HZ3.out.trans (fz_set (j := 12) (.int .u64 s.leak) (.inl rfl))).trans (fz_set (j := 13) (.slice d.A d.n d.c) (.inl rfl))).trans (fz_set (j := 14) (.slice d.A2 d.n2 d.c2) (.inl rfl))).trans (fz_set (j := 15) (.slice d.A3 d.n3 d.c3) (.inl rfl)))
  generalize ((((W3.setCell ⟨w.heap.size, 12, none⟩ (.int .u64 s.leak)).setCell ⟨w.heap.size, 13, none⟩ (.slice d.A d.n d.c)).setCell ⟨w.heap.size, 14, none⟩ (.slice d.A2 d.n2 d.c2)).setCell ⟨w.heap.size, 15, none⟩ (.slice d.A3 d.n3 d.c3)) = W4 at *
  clear HV3 HT3 HZ3 f12 g12 f13 g13 f14 g14 f15 g15 y0 y1 y2 y3
  go_wp2_with (first
    | (refine load_w rfl _ rfl w.heap.size rfl { v with k := d } { s with L := D', T := Le.bT s.leak s.L s.T id th s.now } HV4.out ?_)
    | (refine store_w rfl _ _ rfl (w.heap.size + 1) rfl { v with k := d } { s with L := D', T := Le.bT s.leak s.L s.T id th s.now } rfl HT4.out ?_; intro w9 hv9 hz9; have HV9 := Lib.hid hv9; have HZ9 := Lib.hid hz9; clear hv9 hz9))
  exact bodyPost_ret (v := .tuple #[Dv.val { v with k := d } { s with L := D', T := Le.bT s.leak s.L s.T id th s.now }, .int .i64 (Le.bE s.L id th)]) (res_w2 _ _ (w.heap.size + 1) _ _ Tryz.results52 rfl HV9.out) rfl ⟨{ v with k := d }, D', rfl, end_w HD2.out (HZ4.out.trans (fz1 HZ9.out (.inr rfl))), HP2.out, HS2.out, fz_low (HZ4.out.trans (fz1 HZ9.out (.inr rfl))) HB2.out⟩
end
end Go.Proofs.YthmdiaingolfnaaGreatDoor.Wo
namespace Go.Proofs.YthmdiaingolfnaaGreatDoor.Wo
open Go Go.ChangeShapes Go.WideShapes Go.ChangeAt Go.RowKit Go.Maps Rw Hi Mt Ba
open Cn (Cf cfE)
set_option linter.unusedVariables false
theorem exec_load_w (oi : Oper) (ev : Operand → Value) (y : Operand) (ho : oi.op = .load 69 y) {g : Nat} (hx : ev y = .pointer (some ⟨g, 0, none⟩)) {w : World} {v : Dv} {s : Ws} (hv : Vw w g (v.cells s)) : (execOp ev oi).run Tryz.prog w = .ok (.value (v.val s)) w := by
  unfold execOp
  simp only [ho, hx, Instr.loadAt, Instr.sureAddr, Sem.run_bind, Sem.run_pure, Result.andThen_ok, run_loadVar_mid (P := Tryz.prog) w g 0 69 _ _ hv.at_ under_w row_w info_w]
theorem wp_store_w {op : Oper} {a : Act} {w : World} {K : Act → World → Prop} {Q : Exit → Act → World → Prop} (y z : Operand) (ho : op.op = .store 69 y z) (g : Nat) (hx : a.eval y = .pointer (some ⟨g, 0, none⟩)) (v : Dv) (s : Ws) (hy : a.eval z = v.val s) (ht : w.there g 0 23)
    (h : ∀ w', Vw w' g (v.cells s) → Fz (fun k => k = g) w w' → K (a.put op.dst undef) w') : op.wp Tryz.prog a w K Q :=
  wp_store_mid 69 y z ho g 0 (v.cells s).toArray hx hy ht info_w (cells_one v s) (h _ ⟨World.rangeAt_setCells_same w g 0 _ ht, World.there_setCells ht g 0 _⟩ (fz_setCells _ _ _ _))
theorem th_zero (w : World) : (w.alloc (.cells #[.int .i64 0, .int .i64 0, .int .u64 0, .int .u64 0, .int .u64 0, .int .u64 0, .float .f64 0, .int .u64 0, .slice none 0 0, .slice none 0 0, .slice none 0 0, .slice none 0 0, .int .u64 0, .slice none 0 0, .slice none 0 0, .slice none 0 0, .slice none 0 0, .slice none 0 0, .slice none 0 0, .int .u64 0, .slice none 0 0, .int .i64 0, .bool false] 69)).there w.heap.size 0 23 := by
  obtain ⟨W, e, h, _⟩ := box_w [.int .i64 0, .int .i64 0, .int .u64 0, .int .u64 0, .int .u64 0, .int .u64 0, .float .f64 0, .int .u64 0, .slice none 0 0, .slice none 0 0, .slice none 0 0, .slice none 0 0, .int .u64 0, .slice none 0 0, .slice none 0 0, .slice none 0 0, .slice none 0 0, .slice none 0 0, .slice none 0 0, .int .u64 0, .slice none 0 0, .int .i64 0, .bool false] w rfl
  exact e ▸ h.th
structure Ay where
  do_ : Int
  id : Int
  n : Int
  th : Int
  st : Int
abbrev Ay.val (y : Ay) : Value := .agg #[.int .u8 y.do_, .int .u64 y.id, .int .u64 y.n, .int .i64 y.th, .int .i64 y.st]
structure Ay.ok (y : Ay) : Prop where
  d : 0 ≤ y.do_ ∧ y.do_ ≤ 255
  i : U64 y.id
  n : U64 y.n
  t : -9223372036854775808 ≤ y.th ∧ y.th ≤ 9223372036854775807
  s : -9223372036854775808 ≤ y.st ∧ y.st ≤ 9223372036854775807
structure Yc (w : World) (q : Nat) (y : Ay) : Prop where
  z0 : w.cell? ⟨q, 0, none⟩ = some (.int .u8 y.do_)
  z1 : w.cell? ⟨q, 1, none⟩ = some (.int .u64 y.id)
  z2 : w.cell? ⟨q, 2, none⟩ = some (.int .u64 y.n)
  z3 : w.cell? ⟨q, 3, none⟩ = some (.int .i64 y.th)
  z4 : w.cell? ⟨q, 4, none⟩ = some (.int .i64 y.st)
theorem Yc.blk {w w' : World} {q : Nat} {y : Ay} (h : Yc w q y) (hb : w'.heap[q]? = w.heap[q]?) : Yc w' q y :=
  ⟨(World.cell?_of_block hb).trans h.z0, (World.cell?_of_block hb).trans h.z1, (World.cell?_of_block hb).trans h.z2, (World.cell?_of_block hb).trans h.z3, (World.cell?_of_block hb).trans h.z4⟩
theorem Yc.lt {w : World} {q : Nat} {y : Ay} (h : Yc w q y) : q < w.heap.size := Lw.lt_heap h.z0
theorem Yc.later {w w' : World} {q : Nat} {y : Ay} (h : Yc w q y) (hb : Below w.heap.size w w') : Yc w' q y := h.blk (hb.block q h.lt)
theorem Yc.new (w : World) (y : Ay) : Yc (w.alloc (.cells #[.int .u8 y.do_, .int .u64 y.id, .int .u64 y.n, .int .i64 y.th, .int .i64 y.st] 37)) w.heap.size y := by
  refine ⟨?_, ?_, ?_, ?_, ?_⟩ <;> go_simp
abbrev Fp (col : Nat → Nat) (d : Nat) (w w' : World) : Prop := Fz (fun g => (col g ≠ 0 ∧ col g ≠ 8) ∨ g = d) w w'
theorem fp_w {col : Nat → Nat} {d : Nat} {w w' : World} (h : Fw col w w') : Fp col d w w' := h.mono fun _ _ e => .inl e
theorem fp_d {col : Nat → Nat} {d : Nat} {w w' : World} (h : Fz (fun k => k = d) w w') : Fp col d w w' := h.mono fun _ _ e => .inr e
section
variable (w : World) {base : Nat} {col : Nat → Nat} {x : Wp} {s s0 : Ws} {d : Nat} {v : Dv} {y : Ay}
set_option maxRecDepth 100000 in
theorem play1 (hk : y.do_ % 8 = 1) (hy : y.ok) (h : Wv base col w x s) (hv : Vw w d (v.cells s0)) (hc : col d = 8) (h0 : 0 ≤ s.live ∧ s.conf.max ≤ 1000000) (h0' : 0 ≤ s0.live ∧ s0.conf.max ≤ 1000000) :
    Calls Tryz.prog 11 #[y.val, ptr x.pw, ptr d] w fun e w' => e = .returned (.bool (decide (s.live < s.conf.max) == decide (s0.live < s0.conf.max))) ∧
    Wv base col w' x { s with live := grwV s.live s.conf.max } ∧ Vw w' d (v.cells { s0 with live := grwV s0.live s0.conf.max }) ∧ Fp col d w w' := by
  have m0 : (y.do_ % 8 == 0) = false := by rw [hk]; rfl
  have m0t : ((y.do_).tmod 8 == 0) = false := by rw [Int.tmod_eq_emod_of_nonneg hy.d.1, hk]; rfl
  have m1 : (y.do_ % 8 == 1) = true := by rw [hk]; rfl
  have m1t : ((y.do_).tmod 8 == 1) = true := by rw [Int.tmod_eq_emod_of_nonneg hy.d.1, hk]; rfl
  have HY := Lib.hid hy
  have HW := Lib.hid h
  have HV := Lib.hid hv
  have HC := Lib.hid hc
  have HYC := Lib.hid (Yc.new w y)
  have HB0 : Hid (Below w.heap.size w (w.alloc (.cells #[.int .u8 y.do_, .int .u64 y.id, .int .u64 y.n, .int .i64 y.th, .int .i64 y.st] 37))) := Lib.hid ((Below.refl _ _).alloc (Nat.le_refl _) _)
  have HN0 := Lib.hid h0
  have HN1 := Lib.hid h0'
  obtain ⟨g1, hg1⟩ : ∃ b, decide (s.live < s.conf.max) = b := ⟨_, rfl⟩
  obtain ⟨g2, hg2⟩ : ∃ b, decide (s0.live < s0.conf.max) = b := ⟨_, rfl⟩
  rw [hg1, hg2]
  have HG1 := Lib.hid hg1
  have HG2 := Lib.hid hg2
  clear hg1 hg2
  clear hk hy h hv hc h0 h0'
  go_enter Tryz.func11, Tryz.ntmps11
  go_upto_region 1 with (fail)
  generalize (w.alloc (.cells #[.int .u8 y.do_, .int .u64 y.id, .int .u64 y.n, .int .i64 y.th, .int .i64 y.st] 37)) = W1 at *
  have HW1 := Lib.hid (HW.out.later HB0.out)
  have HV1 := Lib.hid (HV.out.later HB0.out)
  obtain ⟨q, hq⟩ : ∃ q, w.heap.size = q := ⟨_, rfl⟩
  have hqd : q ≠ d := fun e => by have := HV.out.lt; omega
  have hsq : w.heap.size ≤ q := by omega
  rw [hq] at HYC
  rw [hq]
  obtain ⟨z0, z1, z2, z3, z4⟩ := HYC.out
  have HQD := Lib.hid hqd
  have HCQ : Hid (col q = 0) := Lib.hid (Classical.byContradiction fun e => by have := HW.out.hi q e; omega)
  clear hq hqd
  go_wp2_with (first
    | (refine load_w rfl _ rfl d rfl v s0 HV1.out ?_))
  refine (dgrow_any W1 v s0 HN1.out.1 HN1.out.2).mono ?_
  rw [HG2.out]
  rintro e w3 ⟨rfl, b3⟩
  have HB3 := Lib.hid b3
  have HV3 := Lib.hid (HV1.out.later b3)
  clear b3
  go_wp2_with (first
    | (refine store_w rfl _ _ rfl w3.heap.size rfl v { s0 with live := grwV s0.live s0.conf.max } rfl (th_zero w3) ?_; intro w4 hv4 hz4; have HV4 := Lib.hid hv4; have HB4 : Hid (Below w3.heap.size w3 w4) := Lib.hid (((Below.refl _ w3).alloc (Nat.le_refl _) _).trans (hz4.below (by simp) (fun k hk => by omega))); have HV34 := Lib.hid (HV3.out.later HB4.out).th; have HV35 : Hid (d ≠ w3.heap.size) := Lib.hid (by have := HV3.out.lt; omega); clear hv4 hz4)
    | (refine load_w rfl _ rfl w3.heap.size rfl v { s0 with live := grwV s0.live s0.conf.max } HV4.out ?_)
    | (refine store_w rfl _ _ rfl d rfl v { s0 with live := grwV s0.live s0.conf.max } rfl HV34.out ?_; intro w5 hv5 hz5; have HV5 := Lib.hid hv5; have HZ5 := Lib.hid hz5; clear hv5 hz5))
  have HW5 : Hid (Wv base col w5 x s) := Lib.hid (((HW1.out.later HB3.out).later HB4.out).aside HZ5.out (fun g _ e => e ▸ HC.out))
  refine (wgrow_any w5 HW5.out HN0.out.1 HN0.out.2).mono ?_
  rw [HG1.out]
  rintro e w6 ⟨rfl, h6, hz6⟩
  have HW6 := Lib.hid h6
  have HZ6 := Lib.hid hz6
  clear h6 hz6
  go_wp2_with fail
  go_ret
  refine ⟨by cases g1 <;> cases g2 <;> rfl, HW6.out, HV5.out.blk (HZ6.out.block d HV5.out.lt (fun e => e.2 HC.out)), ?_⟩
  exact (Fz.of_below HB0.out).trans ((Fz.of_below HB3.out).trans ((Fz.of_below HB4.out).trans ((fp_d HZ5.out).trans (fp_w HZ6.out))))
end
end Go.Proofs.YthmdiaingolfnaaGreatDoor.Wo
