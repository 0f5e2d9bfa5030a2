/- A part of the claim: the texts DocW DocWB Play. -/
import Derived.Test.YtoiklelghfckgaaGreatDoorZGWorldC
import Derived.Test.YtoiklelghfckgaaGreatDoorZGBagE
import Derived.Test.YtoiklelghfckgaaGreatDoorZGLeaseDE
import Derived.Test.YtoiklelghfckgaaGreatDoorZGLeaseRef
import Derived.Test.YtoiklelghfckgaaGreatDoorZGFact
import Derived.Test.YtoiklelghfckgaaGreatDoorZGLocal
import Derived.Test.YtoiklelghfckgaaGreatDoorZGHist
import Derived.Test.YtoiklelghfckgaaGreatDoorZBase1
import Derived.Deep.MidRow
import Derived.Deep.WholeRow
import Derived.Deep.CutRange
import Derived.Deep.CutBlock
set_option maxRecDepth 100000
set_option linter.unusedVariables false
namespace Go.Proofs.YtoiklelghfckgaaGreatDoor.Wo
open Go Go.ChangeShapes Go.WideShapes Go.ChangeAt Go.RowKit Go.Maps Rw Hi Mt Ba
open Cn (Cf cfE)
structure Dv where
 b:Db
 lA:Option Addr
 ln:Nat
 lc:Nat
 vs:List Lc.Sv
 sA:Option Addr
 sn:Nat
 sc:Nat
 k:Le.Da
 fA:Option Addr
 fn:Nat
 fc:Nat
 pA:Option Addr
 pn:Nat
 pc:Nat
 cA:Option Addr
 cc:Nat
 hA:Option Addr
 hn:Nat
 hc:Nat
abbrev Dv.bag (v:Dv):Value:=.agg #[.slice v.b.A v.b.n v.b.c,.slice v.b.A2 v.b.n2 v.b.c2]
abbrev Dv.book (v:Dv) (leak:Int):Value:=.agg #[.int .u64 leak,.slice v.k.A v.k.n v.k.c,.slice v.k.A2 v.k.n2 v.k.c2,.slice v.k.A3 v.k.n3 v.k.c3]
abbrev Dv.fact (v:Dv) (n:Nat):Value:=.agg #[.slice v.fA v.fn v.fc,.slice v.pA v.pn v.pc,.slice v.cA n v.cc]
abbrev Dv.hist (v:Dv) (step:Int):Value:=.agg #[.int .u64 step,.slice v.hA v.hn v.hc]
def Dv.cells (v:Dv) (s:Ws):List Value:=[.int .i64 s.conf.max,.int .i64 s.conf.min,.int .u64 s.conf.idle,.int .u64 s.conf.life,.int .u64 s.conf.keep,.int .u64 s.conf.leak,.float .f64 s.conf.var,.int .u64 s.now,.slice v.b.A v.b.n v.b.c,.slice v.b.A2 v.b.n2 v.b.c2,.slice v.lA v.ln v.lc,.slice v.sA v.sn v.sc,.int .u64 s.leak,.slice v.k.A v.k.n v.k.c,.slice v.k.A2 v.k.n2 v.k.c2,.slice v.k.A3 v.k.n3 v.k.c3,.slice v.fA v.fn v.fc,.slice v.pA v.pn v.pc,.slice v.cA s.n v.cc,.int .u64 s.step,.slice v.hA v.hn v.hc,.int .i64 s.live,.bool s.closed]
abbrev Dv.val (v:Dv) (s:Ws):Value:=.agg (v.cells s).toArray
theorem cells_len (v:Dv) (s:Ws):(v.cells s).length=23:=rfl
theorem cells_one (v:Dv) (s:Ws):(v.cells s).toArray.all (·.oneCell')=true:=by kernel_rfl
structure Dw (K:Nat→Prop) (w:World) (v:Dv) (s:Ws) (N:List Int):Prop where
 bag:Dq K w v.b s.D s.S
 loc:Lk.Dc K w v.lA v.lc v.vs s.loc
 sl:Rs St.enc3 3 w w.heap.size v.sA v.sn v.sc s.sl
 sk:Kn K v.sn v.sA
 book:Le.DkK K w v.k s.L N s.T
 fact:Fk.Rf K w (v.fact s.n) s.O s.P s.n s.C
 hist:Rs Tx.encE 6 w w.heap.size v.hA v.hn v.hc s.ev
 hk:Kn K v.hn v.hA
 l8:v.ln=8
section
variable {K L E:Nat→Prop} {w w':World}
theorem kn_mono {n:Nat} {A:Option Addr} {B:Nat} (G:0 < n → ∃ b o,A=some ⟨b,o,none⟩∧b < B) (h:Kn K n A) (hk:∀ g,g < B→K g→L g):Kn L n A:=fun hn a e=>by
 obtain ⟨b,o,z,I⟩:=G hn
 have F:=h hn a e
 rw [z] at e; injection e with e; subst e
 exact hk _ I F
theorem rs_at {α:Type} {enc:α→List Value} {F:Nat} {B:Nat} {A:Option Addr} {n c:Nat} {xs:List α} (h:Rs enc F w B A n c xs):0 < n → ∃ b o,A=some ⟨b,o,none⟩∧b < B:=fun hn=>by
 obtain ⟨b,o,e,z,_⟩:=h.at_ hn
 exact ⟨b,o,e,z⟩
theorem rd_at {α:Type} {enc:α→Value} {B:Nat} {A:Option Addr} {n c:Nat} {xs:List α} (h:Rd enc w B A n c xs):0 < n → ∃ b o,A=some ⟨b,o,none⟩∧b < B:=fun hn=>by
 obtain ⟨b,o,e,z,_⟩:=h.at_ hn
 exact ⟨b,o,e,z⟩
theorem rdx_blk {α:Type} {enc:α→Value} {A:Option Addr} {n c:Nat} {xs:List α} {B B':Nat} (h:Rd enc w B A n c xs) (F:B≤B') (hk:0 < n → ∀ b o,A=some ⟨b,o,none⟩→w'.heap[b]? = w.heap[b]?):Rd enc w' B' A n c xs:=
 ⟨h.len,h.cap,h.top,fun hn=>by
  obtain ⟨b,o,e,z,hc⟩:=h.at_ hn
  exact ⟨b,o,e,by omega,fun j x hx=>(World.cell?_of_block (hk hn b o e)).trans (hc j x hx)⟩⟩
theorem kn_blk {n:Nat} {A:Option Addr} (J:0 < n → ∃ b o,A=some ⟨b,o,none⟩∧b < w.heap.size) (h:Kn K n A) (W:Fz E w w') (G:∀ g,g < w.heap.size→K g → ¬ E g):0 < n → ∀ b o,A=some ⟨b,o,none⟩→w'.heap[b]? = w.heap[b]?:=fun hn b o e=>by
 obtain ⟨b',Y,F,z⟩:=J hn
 have I:=h hn _ e
 rw [F] at e; injection e with e; injection e with e1
 subst e1
 exact W.block _ z (G _ z I)
theorem dk_mono {d:Le.Da} {D:List (Int × Le.Ls)} {M:List Int} {T:List (Int × Int)} (h:Le.DkK K w d D M T) (hk:∀ g,g < w.heap.size→K g→L g):Le.DkK L w d D M T:=
 ⟨h.l,h.m,h.t,h.fm,h.fl,kn_mono (rs_at h.l) h.kl hk,kn_mono (rd_at h.m) h.km hk,kn_mono (rs_at h.t) h.kt hk⟩
theorem dk_fz {d:Le.Da} {D:List (Int × Le.Ls)} {M:List Int} {T:List (Int × Int)} (h:Le.DkK K w d D M T) (z:Fz E w w') (F:∀ g,g < w.heap.size→K g → ¬ E g):Le.DkK K w' d D M T:=
 ⟨rs_blk h.l z.size (kn_blk (rs_at h.l) h.kl z F),rd_blk h.m z.size (kn_blk (rd_at h.m) h.km z F),rs_blk h.t z.size (kn_blk (rs_at h.t) h.kt z F),h.fm,h.fl,h.kl,h.km,h.kt⟩
theorem rn_kn {A:Option Addr} {n c:Nat} {O:List Bool} (h:Fk.Rn K w A n c O):Kn K n A:=fun hn a e=>by
 obtain ⟨b,o,z,_⟩:=rd_at h.rd hn
 rw [z] at e; injection e with e; subst e
 exact h.ne hn b o z
theorem rn_mono {A:Option Addr} {n c:Nat} {O:List Bool} (h:Fk.Rn K w A n c O) (hk:∀ g,g < w.heap.size→K g→L g):Fk.Rn L w A n c O:=
 ⟨h.rd,fun hn g o e=>kn_mono (rd_at h.rd) (rn_kn h) hk hn _ e⟩
theorem rn_fz {A:Option Addr} {n c:Nat} {O:List Bool} (h:Fk.Rn K w A n c O) (z:Fz E w w') (F:∀ g,g < w.heap.size→K g → ¬ E g):Fk.Rn K w' A n c O:=
 ⟨rdx_blk h.rd z.size (kn_blk (rd_at h.rd) (rn_kn h) z F),h.ne⟩
theorem rf_mono {v:Value} {O P:List Bool} {n:Nat} {C:List Int} (h:Fk.Rf K w v O P n C) (hk:∀ g,g < w.heap.size→K g→L g):Fk.Rf L w v O P n C:=by
 obtain ⟨z,W,c1,A2,n2,c2,A3,c3,S,e,F,G,I,J⟩:=h.form
 exact ⟨⟨z,W,c1,A2,n2,c2,A3,c3,S,e,rn_mono F hk,rn_mono G hk,rn_mono I hk,J⟩⟩
theorem rf_fz {v:Value} {O P:List Bool} {n:Nat} {C:List Int} (h:Fk.Rf K w v O P n C) (F:Fz E w w') (z:∀ g,g < w.heap.size→K g → ¬ E g):Fk.Rf K w' v O P n C:=by
 obtain ⟨G,n1,c1,A2,n2,c2,A3,c3,S,e,I,J,W,Y⟩:=h.form
 exact ⟨⟨G,n1,c1,A2,n2,c2,A3,c3,S,e,rn_fz I F z,rn_fz J F z,rn_fz W F z,Y⟩⟩
theorem own_at {A:Option Addr} {n c:Nat} {b o:Nat} (e:A=some ⟨b,o,none⟩):(Value.slice A n c).ownBlock=some b:=by subst e; rfl
theorem own_lt {B:Nat} {A:Option Addr} {c:Nat} {vs:List Lc.Sv} (h:Rd Lc.encS w B A 8 c vs):∀ g,(Value.slice A 8 c).ownBlock=some g→g < B:=fun g z=>by
 obtain ⟨b,o,e,F⟩:=rd_at h (by decide)
 rw [own_at e] at z
 injection z with z
 omega
theorem dc_mono {A:Option Addr} {c:Nat} {vs:List Lc.Sv} {M:Nat→List Int} (h:Lk.Dc K w A c vs M) (hk:∀ g,g < w.heap.size→K g→L g):Lk.Dc L w A c vs M:=
 ⟨h.rd,fun g z=>hk g (own_lt h.rd g z) (h.bl g z),fun i s F=>⟨(h.el i s F).1,fun g z=>⟨((h.el i s F).2 g z).1,hk g ((h.el i s F).2 g z).1 ((h.el i s F).2 g z).2⟩⟩,h.len⟩
theorem dc_fz {A:Option Addr} {c:Nat} {vs:List Lc.Sv} {M:Nat→List Int} (h:Lk.Dc K w A c vs M) (F:Fz E w w') (G:∀ g,g < w.heap.size→K g → ¬ E g):Lk.Dc K w' A c vs M:=
 ⟨rdx_blk h.rd F.size (fun hn b o e=>F.block b (own_lt h.rd b (own_at e)) (G b (own_lt h.rd b (own_at e)) (h.bl b (own_at e)))),h.bl,fun i s z=>
  ⟨rd_blk (h.el i s z).1 F.size (fun hn b o e=>F.block b ((h.el i s z).2 b (own_at e)).1 (G b ((h.el i s z).2 b (own_at e)).1 ((h.el i s z).2 b (own_at e)).2)),fun g I=>⟨Nat.lt_of_lt_of_le ((h.el i s z).2 g I).1 F.size,((h.el i s z).2 g I).2⟩⟩,h.len⟩
variable {v:Dv} {s:Ws} {N:List Int}
theorem Dw.later (h:Dw K w v s N) (z:Below w.heap.size w w'):Dw K w' v s N:=
 ⟨h.bag.later z,h.loc.later z,h.sl.later z,h.sk,h.book.later z,h.fact.below z,h.hist.later z,h.hk,h.l8⟩
theorem Dw.mono (h:Dw K w v s N) (hk:∀ g,g < w.heap.size→K g→L g):Dw L w v s N:=
 ⟨h.bag.mono hk,dc_mono h.loc hk,h.sl,kn_mono (rs_at h.sl) h.sk hk,dk_mono h.book hk,rf_mono h.fact hk,h.hist,kn_mono (rs_at h.hist) h.hk hk,h.l8⟩
theorem Dw.fz (h:Dw K w v s N) (z:Fz E w w') (F:∀ g,g < w.heap.size→K g → ¬ E g):Dw K w' v s N:=
 ⟨h.bag.fz z F,dc_fz h.loc z F,rs_blk h.sl z.size (kn_blk (rs_at h.sl) h.sk z F),h.sk,dk_fz h.book z F,rf_fz h.fact z F,rs_blk h.hist z.size (kn_blk (rs_at h.hist) h.hk z F),h.hk,h.l8⟩
end
structure Vw (w:World) (g:Nat) (cs:List Value):Prop where
 at_:w.rangeAt g 0 cs
 th:w.there g 0 23
theorem under_w:Tryz.prog.underlying 46=some (Tryz.prog.underlying 46).get!:=by kernel_rfl
theorem row_w:((Tryz.prog.underlying 46).get!).isRow=true:=by kernel_rfl
theorem info_w:(Tryz.prog.info? 46).map (·.size)=some 23:=by kernel_rfl
section
variable {w w':World} {g:Nat} {cs:List Value}
theorem Vw.cell (h:Vw w g cs) (j:Nat) (u:Value) (z:cs[j]? = some u):w.cell? ⟨g,j,none⟩=some u:=by
 have:=h.at_ j u z
 rwa [Nat.zero_add] at this
theorem th_free (h:w.there g 0 23) (j:Nat) (z:j < 23):w.frozen? ⟨g,j,none⟩=false:=by
 have:=(h j z).2
 rwa [Nat.zero_add] at this
theorem Vw.free (h:Vw w g cs) (j:Nat) (z:j < 23):w.frozen? ⟨g,j,none⟩=false:=th_free h.th j z
theorem th_blk (h:w.there g 0 23) (z:w'.heap[g]? = w.heap[g]?):w'.there g 0 23:=fun j F=>⟨by rw [World.cell?_of_block z]; exact (h j F).1,by rw [World.frozen?_of_block z]; exact (h j F).2⟩
theorem th_lt (h:w.there g 0 23):g < w.heap.size:=by
 obtain ⟨u,z⟩:=Option.isSome_iff_exists.1 (h 0 (by decide)).1
 exact Lw.lt_heap z
theorem Vw.blk (h:Vw w g cs) (z:w'.heap[g]? = w.heap[g]?):Vw w' g cs:=⟨fun j u F=>(World.cell?_of_block z).trans (h.at_ j u F),th_blk h.th z⟩
theorem Vw.lt (h:Vw w g cs):g < w.heap.size:=th_lt h.th
theorem Vw.later (h:Vw w g cs) (z:Below w.heap.size w w'):Vw w' g cs:=h.blk (z.block _ h.lt)
theorem th_later (h:w.there g 0 23) (z:Below w.heap.size w w'):w'.there g 0 23:=th_blk h (z.block _ (th_lt h))
theorem Vw.set (h:Vw w g cs) (j:Nat) (G:j < cs.length) (u:Value):Vw (w.setCell ⟨g,j,none⟩ u) g (cs.set j u):=by
 refine ⟨fun i x hx=>?_,fun i hi=>⟨?_,by simpa using (h.th i hi).2⟩⟩
 ·by_cases e:j=i
  ·subst e
   rw [List.getElem?_set_self G] at hx
   injection hx with hx
   subst hx
   have F:=h.at_ j _ (List.getElem?_eq_getElem G)
   rw [Nat.zero_add] at F ⊢
   exact World.cell?_setCell_same _ _ _ F
  ·rw [List.getElem?_set_ne e] at hx
   exact (World.cell?_setCell_other _ _ _ _ (fun z=>by injection z with _ z; omega)).trans (h.at_ i x hx)
 ·by_cases e:j=i
  ·subst e
   have F:=h.at_ j _ (List.getElem?_eq_getElem G)
   rw [Nat.zero_add] at F ⊢
   rw [World.cell?_setCell_same _ _ _ F]; rfl
  ·rw [World.cell?_setCell_other _ _ _ _ (fun z=>by injection z with _ z; omega)]
   exact (h.th i hi).1
theorem th_set (h:w.there g 0 23) {r j:Nat} (z:g≠r) (u:Value):(w.setCell ⟨r,j,none⟩ u).there g 0 23:=th_blk h (heap_setCell_other _ _ g _ z)
theorem fz_setCells (g:Nat):∀ (vs:List Value) (o:Nat) (w:World),Fz (fun k=>k=g) w (w.setCells g o vs)
 | [],_,w=>Fz.refl _ w
 | v :: r,o,w=>by
  rw [World.setCells]
  exact (Fz.of_set (C:=fun k=>k=g) (a:=⟨g,o,none⟩) v rfl).trans (fz_setCells g r (o+1) _)
end
theorem box_w (cs:List Value) (w:World) (F:cs.length=23):∃ W,w.alloc (.cells cs.toArray 46)=W∧Vw W w.heap.size cs∧Below w.heap.size w W∧W.heap.size=w.heap.size+1:=by
 have h:(w.alloc (.cells cs.toArray 46)).heap[w.heap.size]? = some (.cells cs.toArray 46):=heap_alloc_last _ _
 refine ⟨_,rfl,⟨fun j u z=>?_,fun j z=>⟨?_,?_⟩⟩,(Below.refl _ _).alloc (Nat.le_refl _) _,by simp⟩
 ·rw [cell_of_row _ _ _ _ _ _ h]; simpa using z
 ·rw [cell_of_row _ _ _ _ _ _ h]; simp; omega
 ·unfold World.frozen?; simp only [h]; rfl
theorem boxes_w (cs:List Value) (w:World) (hl:cs.length=23):∃ W,(w.alloc (.cells cs.toArray 46)).alloc (.cells #[.int .i64 0,.int .i64 0,.int .u64 0,.int .u64 0,.int .u64 0,.int .u64 0,.float .f64 0,.int .u64 0,.slice none 0 0,.slice none 0 0,.slice none 0 0,.slice none 0 0,.int .u64 0,.slice none 0 0,.slice none 0 0,.slice none 0 0,.slice none 0 0,.slice none 0 0,.slice none 0 0,.int .u64 0,.slice none 0 0,.int .i64 0,.bool false] 46)=W ∧
  Vw W w.heap.size cs∧W.there (w.heap.size+1) 0 23∧Below w.heap.size w W∧W.heap.size=w.heap.size+2:=by
 obtain ⟨F,I,Y,b1,s1⟩:=box_w cs w hl
 rw [I]
 obtain ⟨G,J,z,h,s2⟩:=box_w [.int .i64 0,.int .i64 0,.int .u64 0,.int .u64 0,.int .u64 0,.int .u64 0,.float .f64 0,.int .u64 0,.slice none 0 0,.slice none 0 0,.slice none 0 0,.slice none 0 0,.int .u64 0,.slice none 0 0,.slice none 0 0,.slice none 0 0,.slice none 0 0,.slice none 0 0,.slice none 0 0,.int .u64 0,.slice none 0 0,.int .i64 0,.bool false] F rfl
 rw [s1] at z
 exact ⟨G,J,Y.later h,z.th,b1.trans (h.mono b1.size),by omega⟩
section
variable {fn:Func} {p u x:Tmp} (tmps:Array Value) (w:World) (g:Nat) (v:Dv) (s:Ws)
theorem res_w (h:fn.results=#[.cell p 46]) (z:tmps.getD p undef=.pointer (some ⟨g,0,none⟩)) (hv:Vw w g (v.cells s)):(results fn tmps).run Tryz.prog w=.ok (v.val s) w:=by
 have G:=run_loadVar_mid (P:=Tryz.prog) w g 0 46 _ _ hv.at_ under_w row_w info_w
 have F:tmps[p]?.getD undef=.pointer (some ⟨g,0,none⟩):=by simpa using z
 simp [results,h,F,asAddr,G]
theorem res_w2 (h:fn.results=#[.cell p 46,.tmp u]) (z:tmps.getD p undef=.pointer (some ⟨g,0,none⟩)) (hv:Vw w g (v.cells s)):(results fn tmps).run Tryz.prog w=.ok (.tuple #[v.val s,tmps.getD u undef]) w:=by
 have G:=run_loadVar_mid (P:=Tryz.prog) w g 0 46 _ _ hv.at_ under_w row_w info_w
 have F:tmps[p]?.getD undef=.pointer (some ⟨g,0,none⟩):=by simpa using z
 simp [results,h,F,asAddr,G]
end
section
variable {ops:Array Oper} {rest:List Oper} {op:Oper} {a:Act} {w:World} {Q:Exit→Act→World→Prop}
theorem load_w (z:op.guard=none) (x:Operand) (F:op.op=.load 46 x) (g:Nat) (hx:a.eval x=.pointer (some ⟨g,0,none⟩)) (v:Dv) (s:Ws) (hv:Vw w g (v.cells s))
  (h:wpList Tryz.prog ops Q rest (a.put op.dst (v.val s)) w):wpList Tryz.prog ops Q (op :: rest) a w:=
 wpList_load_mid z 46 x F g 0 hx _ _ hv.at_ under_w row_w info_w h
theorem store_w (F:op.guard=none) (x y:Operand) (G:op.op=.store 46 x y) (g:Nat) (hx:a.eval x=.pointer (some ⟨g,0,none⟩)) (v:Dv) (s:Ws) (I:a.eval y=v.val s) (z:w.there g 0 23)
  (h:∀ w',Vw w' g (v.cells s)→Fz (fun k=>k=g) w w'→wpList Tryz.prog ops Q rest (a.put op.dst undef) w'):wpList Tryz.prog ops Q (op :: rest) a w:=
 wpList_store_mid F 46 x y G g 0 (v.cells s).toArray hx I z info_w (cells_one v s) (h _ ⟨World.rangeAt_setCells_same w g 0 _ z,World.there_setCells z g 0 _⟩ (fz_setCells _ _ _ _))
end
def Ks (K:Nat→Prop) (w:World) (g:Nat):Prop:=K g∧g≠w.heap.size∧g≠w.heap.size+1
abbrev Bx2 (w:World) (k:Nat):Prop:=k=w.heap.size∨k=w.heap.size+1
section
variable {K:Nat→Prop} {w w' w2 w3:World} {v:Dv} {s:Ws} {N:List Int}
theorem start_w (h:Dw K w v s N) (F:∀ g,w.heap.size≤g→K g) (z:Below w.heap.size w w') (I:w'.heap.size=w.heap.size+2):Dw (Ks K w) w' v s N ∧ ∀ g,w'.heap.size≤g→Ks K w g:=
 ⟨(h.mono (fun g G hk=>⟨hk,by omega,by omega⟩)).later z,fun g G=>⟨F g (by omega),by omega,by omega⟩⟩
theorem end_w (h:Dw (Ks K w) w2 v s N) (z:Fz (Bx2 w) w2 w3):Dw K w3 v s N:=
 (h.fz z (fun g _ hk e=>e.elim hk.2.1 hk.2.2)).mono (fun g _ hk=>hk.1)
theorem fz1 {g:Nat} (z:Fz (fun k=>k=g) w2 w3) (h:Bx2 w g):Fz (Bx2 w) w2 w3:=z.mono (fun k _ e=>e ▸ h)
theorem fz_set {g j:Nat} (u:Value) (h:Bx2 w g):Fz (Bx2 w) w2 (w2.setCell ⟨g,j,none⟩ u):=Fz.of_set (a:=⟨g,j,none⟩) u h
theorem fz_low (z:Fz (Bx2 w) w2 w3) (h:Below w.heap.size w w2):Below w.heap.size w w3:=h.trans (z.below h.size (fun k hk=>by rcases hk with e | e <;> omega))
theorem Dw.own_ (h:Dw K w v s N) (cf:Cf) (nw lv:Int) (cl:Bool):Dw K w v { s with conf:=cf,now:=nw,live:=lv,closed:=cl } N:=⟨h.bag,h.loc,h.sl,h.sk,h.book,h.fact,h.hist,h.hk,h.l8⟩
end
section
variable {K:Nat→Prop} (w:World) (v:Dv) (s:Ws) (N:List Int)
theorem dgrow_any (h0:0≤s.live) (hm:s.conf.max≤1000000) :
  Calls Tryz.prog 67 #[v.val s] w fun e w'=>e=.returned (.tuple #[v.val { s with live:=grwV s.live s.conf.max },.bool (decide (s.live < s.conf.max))])∧Below w.heap.size w w':=by
 by_cases hl:s.live < s.conf.max
 ·have J:decide (s.live < s.conf.max)=true:=decide_eq_true hl
  have q2:decide (s.conf.max≤s.live)=false:=decide_eq_false (by omega)
  have a9:IntKind.i64.wrap (s.live+1)=s.live+1:=by rw [IntKind.wrap_i64]; omega
  rw [show grwV s.live s.conf.max=s.live+1 from if_pos hl,J]
  clear hl h0 hm J
  obtain ⟨W1,a3,h,F,z,S1⟩:=boxes_w (v.cells s) w rfl
  have a0:=Lh h
  have Y:=Lh F
  have W:=Lh z
  have f0:=h.cell 0 _ rfl
  have a4:=h.cell 21 _ rfl
  have a5:=h.free 21 (by decide)
  clear h F z
  go_enter Tryz.func67,Tryz.ntmps67
  go_upto_region 1 with (fail)
  clear a3
  go_upto_region 4 with (fail)
  have a8:Hid (Vw (W1.setCell ⟨w.heap.size,21,none⟩ (.int .i64 (s.live+1))) w.heap.size (v.cells { s with live:=s.live+1 })):=Lh (a0.out.set 21 (by rw [cells_len]; decide) _)
  have a7:=Lh (th_set (j:=21) Y.out (r:=w.heap.size) (by omega) (.int .i64 (s.live+1)))
  have a6:=Lh (W.out.setCell (p:=⟨w.heap.size,21,none⟩) (Nat.le_refl _) (.int .i64 (s.live+1)))
  generalize (W1.setCell ⟨w.heap.size,21,none⟩ (.int .i64 (s.live+1)))=W2 at *
  clear a4 a5 a0 Y W S1
  go_wp2_with (first
   | (refine load_w rfl _ rfl w.heap.size rfl v { s with live:=s.live+1 } a8.out ?_)
   | (refine store_w rfl _ _ rfl (w.heap.size+1) rfl v { s with live:=s.live+1 } rfl a7.out ?_; intro w9 G I; have a1:=Lh G; have a2:=Lh I; clear G I))
  exact bodyPost_ret (v:=.tuple #[v.val { s with live:=s.live+1 },.bool true]) (res_w2 _ _ (w.heap.size+1) _ _ Tryz.results67 rfl a1.out) rfl ⟨rfl,fz_low (fz1 a2.out (.inr rfl)) a6.out⟩
 ·have J:decide (s.live < s.conf.max)=false:=decide_eq_false hl
  have q2:decide (s.conf.max≤s.live)=true:=decide_eq_true (by omega)
  rw [show grwV s.live s.conf.max=s.live from if_neg hl,J]
  clear hl h0 hm J
  obtain ⟨W1,a3,h,F,z,S1⟩:=boxes_w (v.cells s) w rfl
  have a0:=Lh h
  have Y:=Lh F
  have W:=Lh z
  have f0:=h.cell 0 _ rfl
  have a4:=h.cell 21 _ rfl
  have a5:=h.free 21 (by decide)
  clear h F z
  go_enter Tryz.func67,Tryz.ntmps67
  go_upto_region 1 with (fail)
  clear a3
  go_wp2_with (first
   | (refine load_w rfl _ rfl w.heap.size rfl v s a0.out ?_)
   | (refine store_w rfl _ _ rfl (w.heap.size+1) rfl v s rfl Y.out ?_; intro w9 G I; have a1:=Lh G; have a2:=Lh I; clear G I))
  exact bodyPost_ret (v:=.tuple #[v.val s,.bool false]) (res_w2 _ _ (w.heap.size+1) _ _ Tryz.results67 rfl a1.out) rfl ⟨rfl,fz_low (fz1 a2.out (.inr rfl)) W.out⟩
theorem dpublish_no (h:Dw K w v s N) (ac:∀ g,w.heap.size≤g→K g) (id:Int) (hn:s.D.length≤1000) (au:s.S.length≤1000) (hc:s.closed=false) :
  Calls Tryz.prog 76 #[v.val s,.int .u64 id] w fun e w'=>∃ v':Dv,e=.returned (.tuple #[v'.val { s with S:=pubS s.D s.S id },.bool (kn s.D id == 0)])∧Dw K w' v' { s with S:=pubS s.D s.S id } N∧Below w.heap.size w w':=by
 obtain ⟨S2,a2⟩:∃ S2,pubS s.D s.S id=S2:=⟨_,rfl⟩
 rw [a2]
 have aj:=Lh a2
 clear a2
 obtain ⟨W1,aq,W,T1,B1,S1⟩:=boxes_w (v.cells s) w rfl
 obtain ⟨d1,k1⟩:=start_w h ac B1 S1
 have J:=Lh d1
 have ai:=Lh k1
 have ar:=Lh h
 have a6:=Lh W
 have a3:=Lh T1
 have a1:=Lh B1
 have f8:=W.cell 8 _ rfl
 have f9:=W.cell 9 _ rfl
 have ao:W1.cell? ⟨w.heap.size,22,none⟩=some (.bool false):=by rw [← hc]; exact W.cell 22 _ rfl
 clear hc
 clear W T1 B1 d1 k1 h ac
 go_enter Tryz.func76,Tryz.ntmps76
 go_upto_region 1 with (fail)
 clear aq
 go_wp2_with fail
 refine ((by have q:=rpublish_any (K:=Ks K w) v.b.A v.b.A2 v.b.n v.b.c v.b.n2 v.b.c2 s.D s.S W1 id J.out.bag ai.out (by have:=J.out.bag.l.len; omega) (by have:=J.out.bag.s.len; omega); rw [show (if (fnd s.D id).isSome then Sn.sWith s.S id else s.S)=S2 from aj.out] at q; exact q:Calls _ _ _ _ _)).mono ?_
 rintro e w2 ⟨A',n',z,rfl,ad,I⟩
 have ah:Hid (Dw (Ks K w) w2 { v with b:=⟨v.b.A,v.b.n,v.b.c,A',n',z⟩ } { s with S:=S2 } N):=Lh (by
  have F:=J.out.later I
  exact ⟨ad,F.loc,F.sl,F.sk,F.book,F.fact,F.hist,F.hk,F.l8⟩)
 have a7:=Lh (a6.out.later I)
 have a4:=Lh (th_later a3.out I)
 have ag:=Lh (a1.out.trans (I.mono a1.out.size))
 have av:=I.size
 clear ad I J a6 a3 a1 f8 f9 ao
 go_upto_region 4 with (fail)
 have a0:Below w2.heap.size w2 (w2.alloc (.cells #[.slice v.b.A v.b.n v.b.c,.slice A' n' z] 32)):=(Below.refl _ _).alloc (Nat.le_refl _) _
 have a8:Hid (Fz (Bx2 w) w2 (w2.alloc (.cells #[.slice v.b.A v.b.n v.b.c,.slice A' n' z] 32))):=Lh (Fz.of_below a0)
 have G:=Lh (a7.out.later a0)
 have a5:=Lh (th_later a4.out a0)
 have y0:(w2.alloc (.cells #[.slice v.b.A v.b.n v.b.c,.slice A' n' z] 32)).cell? ⟨w2.heap.size,0,none⟩=some (.slice v.b.A v.b.n v.b.c):=by go_simp
 have y1:(w2.alloc (.cells #[.slice v.b.A v.b.n v.b.c,.slice A' n' z] 32)).cell? ⟨w2.heap.size,1,none⟩=some (.slice A' n' z):=by go_simp
 have f8:=G.out.cell 8 _ rfl
 have g8:=G.out.free 8 (by decide)
 have f9:=G.out.cell 9 _ rfl
 have g9:=G.out.free 9 (by decide)
 clear a0 a7 a4
 generalize (w2.alloc (.cells #[.slice v.b.A v.b.n v.b.c,.slice A' n' z] 32))=Y at *
 generalize w2.heap.size=x2 at *
 go_upto_region 5 with (fail)
 have al:Hid (Vw ((Y.setCell ⟨w.heap.size,8,none⟩ (.slice v.b.A v.b.n v.b.c)).setCell ⟨w.heap.size,9,none⟩ (.slice A' n' z)) w.heap.size (Dv.cells { v with b:=⟨v.b.A,v.b.n,v.b.c,A',n',z⟩ } { s with S:=S2 })):=Lh ((G.out.set 8 (by simp [cells_len]) (.slice v.b.A v.b.n v.b.c)).set 9 (by simp [cells_len]) (.slice A' n' z))
 have ak:Hid (((Y.setCell ⟨w.heap.size,8,none⟩ (.slice v.b.A v.b.n v.b.c)).setCell ⟨w.heap.size,9,none⟩ (.slice A' n' z)).there (w.heap.size+1) 0 23):=Lh (th_set (j:=9) (th_set (j:=8) a5.out (r:=w.heap.size) (by omega) (.slice v.b.A v.b.n v.b.c)) (r:=w.heap.size) (by omega) (.slice A' n' z))
 have a9:Hid (Fz (Bx2 w) w2 ((Y.setCell ⟨w.heap.size,8,none⟩ (.slice v.b.A v.b.n v.b.c)).setCell ⟨w.heap.size,9,none⟩ (.slice A' n' z))):=Lh ((a8.out.trans (fz_set (j:=8) (.slice v.b.A v.b.n v.b.c) (.inl rfl))).trans (fz_set (j:=9) (.slice A' n' z) (.inl rfl)))
 generalize ((Y.setCell ⟨w.heap.size,8,none⟩ (.slice v.b.A v.b.n v.b.c)).setCell ⟨w.heap.size,9,none⟩ (.slice A' n' z))=W4 at *
 clear G a5 a8 f8 g8 f9 g9 y0 y1
 go_wp2_with (first
  | (refine load_w rfl _ rfl w.heap.size rfl { v with b:=⟨v.b.A,v.b.n,v.b.c,A',n',z⟩ } { s with S:=S2 } al.out ?_)
  | (refine store_w rfl _ _ rfl (w.heap.size+1) rfl { v with b:=⟨v.b.A,v.b.n,v.b.c,A',n',z⟩ } { s with S:=S2 } rfl ak.out ?_; intro w9 ae af; have an:=Lh ae; have aa:=Lh af; clear ae af))
 exact bodyPost_ret (v:=.tuple #[Dv.val { v with b:=⟨v.b.A,v.b.n,v.b.c,A',n',z⟩ } { s with S:=S2 },.bool (kn s.D id == 0)]) (res_w2 _ _ (w.heap.size+1) _ _ Tryz.results76 rfl an.out) rfl ⟨{ v with b:=⟨v.b.A,v.b.n,v.b.c,A',n',z⟩ },rfl,end_w ah.out (a9.out.trans (fz1 aa.out (.inr rfl))),fz_low (a9.out.trans (fz1 aa.out (.inr rfl))) ag.out⟩
theorem dlease_any (h:Dw K w v s N) (af:∀ g,w.heap.size≤g→K g) (id th:Int) (hs:Le.Sd s.L) (tms:Wl.Tms s.T) (hid:U64 id) (aD:U64 s.now) (aC:U64 s.leak) (hn:s.L.length≤1000) (aF:N.length≤1000) (aG:s.T.length≤1000) :
  Calls Tryz.prog 78 #[v.val s,.int .u64 id,.int .i64 th] w fun e w'=>∃ (v':Dv) (z:List (Int × Le.Ls)),e=.returned (.tuple #[v'.val { s with L:=z,T:=Le.bT s.leak s.L s.T id th s.now },.int .i64 (Le.bE s.L id th)])∧Dw K w' v' { s with L:=z,T:=Le.bT s.leak s.L s.T id th s.now } N∧(Le.bL s.L id th s.now).Perm z∧Le.Sd z∧Below w.heap.size w w':=by
 obtain ⟨W1,aB,I,T1,B1,S1⟩:=boxes_w (v.cells s) w rfl
 obtain ⟨d1,k1⟩:=start_w h af B1 S1
 have J:=Lh d1
 have ao:=Lh k1
 have aE:=Lh h
 have a9:=Lh I
 have a6:=Lh T1
 have a1:=Lh B1
 have a2:=I.cell 12 _ rfl
 have a3:=I.cell 13 _ rfl
 have a4:=I.cell 14 _ rfl
 have a5:=I.cell 15 _ rfl
 have f7:=I.cell 7 _ rfl
 clear I T1 B1 d1 k1 h af
 go_enter Tryz.func78,Tryz.ntmps78
 go_upto_region 1 with (fail)
 clear aB
 go_wp2_with fail
 refine (Le.rbegin_any s.leak v.k.A v.k.A2 v.k.A3 v.k.n v.k.c v.k.n2 v.k.c2 v.k.n3 v.k.c3 s.L N s.T W1 id th s.now J.out.book ao.out hs tms hid aD aC (by have:=J.out.book.l.len; omega) (by have:=J.out.book.m.len; omega) (by have:=J.out.book.t.len; omega)).mono ?_
 rintro e w2 ⟨d,z,rfl,ah,ai,ag,W⟩
 have aq:=Lh ah
 have ar:=Lh ai
 clear ah ai
 have an:Hid (Dw (Ks K w) w2 { v with k:=d } { s with L:=z,T:=Le.bT s.leak s.L s.T id th s.now } N):=Lh (by
  have G:=J.out.later W
  exact ⟨G.bag,G.loc,G.sl,G.sk,ag,G.fact,G.hist,G.hk,G.l8⟩)
 have aa:=Lh (a9.out.later W)
 have a7:=Lh (th_later a6.out W)
 have al:=Lh (a1.out.trans (W.mono a1.out.size))
 have aH:=W.size
 clear ag W J a9 a6 a1 a2 a3 a4 a5 f7
 go_upto_region 2 with (fail)
 have a0:Below w2.heap.size w2 (w2.alloc (.cells #[.int .u64 s.leak,.slice d.A d.n d.c,.slice d.A2 d.n2 d.c2,.slice d.A3 d.n3 d.c3] 38)):=(Below.refl _ _).alloc (Nat.le_refl _) _
 have ac:Hid (Fz (Bx2 w) w2 (w2.alloc (.cells #[.int .u64 s.leak,.slice d.A d.n d.c,.slice d.A2 d.n2 d.c2,.slice d.A3 d.n3 d.c3] 38))):=Lh (Fz.of_below a0)
 have F:=Lh (aa.out.later a0)
 have a8:=Lh (th_later a7.out a0)
 have y0:(w2.alloc (.cells #[.int .u64 s.leak,.slice d.A d.n d.c,.slice d.A2 d.n2 d.c2,.slice d.A3 d.n3 d.c3] 38)).cell? ⟨w2.heap.size,0,none⟩=some (.int .u64 s.leak):=by go_simp
 have y1:(w2.alloc (.cells #[.int .u64 s.leak,.slice d.A d.n d.c,.slice d.A2 d.n2 d.c2,.slice d.A3 d.n3 d.c3] 38)).cell? ⟨w2.heap.size,1,none⟩=some (.slice d.A d.n d.c):=by go_simp
 have y2:(w2.alloc (.cells #[.int .u64 s.leak,.slice d.A d.n d.c,.slice d.A2 d.n2 d.c2,.slice d.A3 d.n3 d.c3] 38)).cell? ⟨w2.heap.size,2,none⟩=some (.slice d.A2 d.n2 d.c2):=by go_simp
 have y3:(w2.alloc (.cells #[.int .u64 s.leak,.slice d.A d.n d.c,.slice d.A2 d.n2 d.c2,.slice d.A3 d.n3 d.c3] 38)).cell? ⟨w2.heap.size,3,none⟩=some (.slice d.A3 d.n3 d.c3):=by go_simp
 have a2:=F.out.cell 12 _ rfl
 have ax:=F.out.free 12 (by decide)
 have a3:=F.out.cell 13 _ rfl
 have ay:=F.out.free 13 (by decide)
 have a4:=F.out.cell 14 _ rfl
 have az:=F.out.free 14 (by decide)
 have a5:=F.out.cell 15 _ rfl
 have aA:=F.out.free 15 (by decide)
 clear a0 aa a7
 generalize (w2.alloc (.cells #[.int .u64 s.leak,.slice d.A d.n d.c,.slice d.A2 d.n2 d.c2,.slice d.A3 d.n3 d.c3] 38))=Y at *
 generalize w2.heap.size=x2 at *
 go_upto_region 3 with (fail)
 have av:Hid (Vw ((((Y.setCell ⟨w.heap.size,12,none⟩ (.int .u64 s.leak)).setCell ⟨w.heap.size,13,none⟩ (.slice d.A d.n d.c)).setCell ⟨w.heap.size,14,none⟩ (.slice d.A2 d.n2 d.c2)).setCell ⟨w.heap.size,15,none⟩ (.slice d.A3 d.n3 d.c3)) w.heap.size (Dv.cells { v with k:=d } { s with L:=z,T:=Le.bT s.leak s.L s.T id th s.now })):=Lh ((((F.out.set 12 (by simp [cells_len]) (.int .u64 s.leak)).set 13 (by simp [cells_len]) (.slice d.A d.n d.c)).set 14 (by simp [cells_len]) (.slice d.A2 d.n2 d.c2)).set 15 (by simp [cells_len]) (.slice d.A3 d.n3 d.c3))
 have au:Hid (((((Y.setCell ⟨w.heap.size,12,none⟩ (.int .u64 s.leak)).setCell ⟨w.heap.size,13,none⟩ (.slice d.A d.n d.c)).setCell ⟨w.heap.size,14,none⟩ (.slice d.A2 d.n2 d.c2)).setCell ⟨w.heap.size,15,none⟩ (.slice d.A3 d.n3 d.c3)).there (w.heap.size+1) 0 23):=Lh (th_set (j:=15) (th_set (j:=14) (th_set (j:=13) (th_set (j:=12) a8.out (r:=w.heap.size) (by omega) (.int .u64 s.leak)) (r:=w.heap.size) (by omega) (.slice d.A d.n d.c)) (r:=w.heap.size) (by omega) (.slice d.A2 d.n2 d.c2)) (r:=w.heap.size) (by omega) (.slice d.A3 d.n3 d.c3))
 have ad:Hid (Fz (Bx2 w) w2 ((((Y.setCell ⟨w.heap.size,12,none⟩ (.int .u64 s.leak)).setCell ⟨w.heap.size,13,none⟩ (.slice d.A d.n d.c)).setCell ⟨w.heap.size,14,none⟩ (.slice d.A2 d.n2 d.c2)).setCell ⟨w.heap.size,15,none⟩ (.slice d.A3 d.n3 d.c3))):=Lh ((((ac.out.trans (fz_set (j:=12) (.int .u64 s.leak) (.inl rfl))).trans (fz_set (j:=13) (.slice d.A d.n d.c) (.inl rfl))).trans (fz_set (j:=14) (.slice d.A2 d.n2 d.c2) (.inl rfl))).trans (fz_set (j:=15) (.slice d.A3 d.n3 d.c3) (.inl rfl)))
 generalize ((((Y.setCell ⟨w.heap.size,12,none⟩ (.int .u64 s.leak)).setCell ⟨w.heap.size,13,none⟩ (.slice d.A d.n d.c)).setCell ⟨w.heap.size,14,none⟩ (.slice d.A2 d.n2 d.c2)).setCell ⟨w.heap.size,15,none⟩ (.slice d.A3 d.n3 d.c3))=W4 at *
 clear F a8 ac a2 ax a3 ay a4 az a5 aA y0 y1 y2 y3
 go_wp2_with (first
  | (refine load_w rfl _ rfl w.heap.size rfl { v with k:=d } { s with L:=z,T:=Le.bT s.leak s.L s.T id th s.now } av.out ?_)
  | (refine store_w rfl _ _ rfl (w.heap.size+1) rfl { v with k:=d } { s with L:=z,T:=Le.bT s.leak s.L s.T id th s.now } rfl au.out ?_; intro w9 aj ak; have aw:=Lh aj; have ae:=Lh ak; clear aj ak))
 exact bodyPost_ret (v:=.tuple #[Dv.val { v with k:=d } { s with L:=z,T:=Le.bT s.leak s.L s.T id th s.now },.int .i64 (Le.bE s.L id th)]) (res_w2 _ _ (w.heap.size+1) _ _ Tryz.results78 rfl aw.out) rfl ⟨{ v with k:=d },z,rfl,end_w an.out (ad.out.trans (fz1 ae.out (.inr rfl))),aq.out,ar.out,fz_low (ad.out.trans (fz1 ae.out (.inr rfl))) al.out⟩
end
theorem exec_load_w (h:Oper) (ev:Operand→Value) (y:Operand) (z:h.op=.load 46 y) {g:Nat} (hx:ev y=.pointer (some ⟨g,0,none⟩)) {w:World} {v:Dv} {s:Ws} (hv:Vw w g (v.cells s)):(execOp ev h).run Tryz.prog w=.ok (.value (v.val s)) w:=by
 unfold execOp
 simp only [z,hx,Instr.loadAt,Instr.sureAddr,Sem.run_bind,Sem.run_pure,Result.andThen_ok,run_loadVar_mid (P:=Tryz.prog) w g 0 46 _ _ hv.at_ under_w row_w info_w]
theorem wp_store_w {op:Oper} {a:Act} {w:World} {K:Act→World→Prop} {Q:Exit→Act→World→Prop} (y z:Operand) (G:op.op=.store 46 y z) (g:Nat) (hx:a.eval y=.pointer (some ⟨g,0,none⟩)) (v:Dv) (s:Ws) (I:a.eval z=v.val s) (F:w.there g 0 23)
  (h:∀ w',Vw w' g (v.cells s)→Fz (fun k=>k=g) w w'→K (a.put op.dst undef) w'):op.wp Tryz.prog a w K Q:=
 wp_store_mid 46 y z G g 0 (v.cells s).toArray hx I F info_w (cells_one v s) (h _ ⟨World.rangeAt_setCells_same w g 0 _ F,World.there_setCells F g 0 _⟩ (fz_setCells _ _ _ _))
theorem th_zero (w:World):(w.alloc (.cells #[.int .i64 0,.int .i64 0,.int .u64 0,.int .u64 0,.int .u64 0,.int .u64 0,.float .f64 0,.int .u64 0,.slice none 0 0,.slice none 0 0,.slice none 0 0,.slice none 0 0,.int .u64 0,.slice none 0 0,.slice none 0 0,.slice none 0 0,.slice none 0 0,.slice none 0 0,.slice none 0 0,.int .u64 0,.slice none 0 0,.int .i64 0,.bool false] 46)).there w.heap.size 0 23:=by
 obtain ⟨W,e,h,_⟩:=box_w [.int .i64 0,.int .i64 0,.int .u64 0,.int .u64 0,.int .u64 0,.int .u64 0,.float .f64 0,.int .u64 0,.slice none 0 0,.slice none 0 0,.slice none 0 0,.slice none 0 0,.int .u64 0,.slice none 0 0,.slice none 0 0,.slice none 0 0,.slice none 0 0,.slice none 0 0,.slice none 0 0,.int .u64 0,.slice none 0 0,.int .i64 0,.bool false] w rfl
 exact e ▸ h.th
structure Ay where
 do_:Int
 id:Int
 n:Int
 th:Int
 st:Int
abbrev Ay.val (y:Ay):Value:=.agg #[.int .u8 y.do_,.int .u64 y.id,.int .u64 y.n,.int .i64 y.th,.int .i64 y.st]
structure Ay.ok (y:Ay):Prop where
 d:0≤y.do_∧y.do_≤255
 i:U64 y.id
 n:U64 y.n
 t:-9223372036854775808≤y.th∧y.th≤9223372036854775807
 s:-9223372036854775808≤y.st∧y.st≤9223372036854775807
structure Yc (w:World) (q:Nat) (y:Ay):Prop where
 z0:w.cell? ⟨q,0,none⟩=some (.int .u8 y.do_)
 z1:w.cell? ⟨q,1,none⟩=some (.int .u64 y.id)
 z2:w.cell? ⟨q,2,none⟩=some (.int .u64 y.n)
 z3:w.cell? ⟨q,3,none⟩=some (.int .i64 y.th)
 z4:w.cell? ⟨q,4,none⟩=some (.int .i64 y.st)
theorem Yc.blk {w w':World} {q:Nat} {y:Ay} (h:Yc w q y) (z:w'.heap[q]? = w.heap[q]?):Yc w' q y:=
 ⟨(World.cell?_of_block z).trans h.z0,(World.cell?_of_block z).trans h.z1,(World.cell?_of_block z).trans h.z2,(World.cell?_of_block z).trans h.z3,(World.cell?_of_block z).trans h.z4⟩
theorem Yc.lt {w:World} {q:Nat} {y:Ay} (h:Yc w q y):q < w.heap.size:=Lw.lt_heap h.z0
theorem Yc.later {w w':World} {q:Nat} {y:Ay} (h:Yc w q y) (z:Below w.heap.size w w'):Yc w' q y:=h.blk (z.block q h.lt)
theorem Yc.new (w:World) (y:Ay):Yc (w.alloc (.cells #[.int .u8 y.do_,.int .u64 y.id,.int .u64 y.n,.int .i64 y.th,.int .i64 y.st] 103)) w.heap.size y:=by
 refine ⟨?_,?_,?_,?_,?_⟩ <;> go_simp
abbrev Fp (col:Nat→Nat) (d:Nat) (w w':World):Prop:=Fz (fun g=>(col g≠0∧col g≠8)∨g=d) w w'
theorem fp_w {col:Nat→Nat} {d:Nat} {w w':World} (h:Fw col w w'):Fp col d w w':=h.mono fun _ _ e=>.inl e
theorem fp_d {col:Nat→Nat} {d:Nat} {w w':World} (h:Fz (fun k=>k=d) w w'):Fp col d w w':=h.mono fun _ _ e=>.inr e
section
variable (w:World) {base:Nat} {col:Nat→Nat} {x:Wp} {s s0:Ws} {d:Nat} {v:Dv} {y:Ay}
theorem play1 (hk:y.do_ % 8=1) (z:y.ok) (h:Wv base col w x s) (hv:Vw w d (v.cells s0)) (hc:col d=8) (h0:0≤s.live∧s.conf.max≤1000000) (a9:0≤s0.live∧s0.conf.max≤1000000) :
  Calls Tryz.prog 34 #[y.val,ptr x.pw,ptr d] w fun e w'=>e=.returned (.bool (decide (s.live < s.conf.max) == decide (s0.live < s0.conf.max))) ∧
  Wv base col w' x { s with live:=grwV s.live s.conf.max } ∧ Vw w' d (v.cells { s0 with live:=grwV s0.live s0.conf.max })∧Fp col d w w':=by
 have m0:(y.do_ % 8 == 0)=false:=by rw [hk]; rfl
 have aw:((y.do_).tmod 8 == 0)=false:=by rw [Int.tmod_eq_emod_of_nonneg z.d.1,hk]; rfl
 have m1:(y.do_ % 8 == 1)=true:=by rw [hk]; rfl
 have ax:((y.do_).tmod 8 == 1)=true:=by rw [Int.tmod_eq_emod_of_nonneg z.d.1,hk]; rfl
 have HY:=Lh z
 have HW:=Lh h
 have HV:=Lh hv
 have HC:=Lh hc
 have a6:=Lh (Yc.new w y)
 have F:Hid (Below w.heap.size w (w.alloc (.cells #[.int .u8 y.do_,.int .u64 y.id,.int .u64 y.n,.int .i64 y.th,.int .i64 y.st] 103))):=Lh ((Below.refl _ _).alloc (Nat.le_refl _) _)
 have a1:=Lh h0
 have a2:=Lh a9
 obtain ⟨g1,J⟩:∃ b,decide (s.live < s.conf.max)=b:=⟨_,rfl⟩
 obtain ⟨g2,W⟩:∃ b,decide (s0.live < s0.conf.max)=b:=⟨_,rfl⟩
 rw [J,W]
 have ah:=Lh J
 have ai:=Lh W
 clear J W
 clear hk z h hv hc h0 a9
 go_enter Tryz.func34,Tryz.ntmps34
 go_upto_region 1 with (fail)
 generalize (w.alloc (.cells #[.int .u8 y.do_,.int .u64 y.id,.int .u64 y.n,.int .i64 y.th,.int .i64 y.st] 103))=W1 at *
 have al:=Lh (HW.out.later F.out)
 have a3:=Lh (HV.out.later F.out)
 obtain ⟨q,Y⟩:∃ q,w.heap.size=q:=⟨_,rfl⟩
 have aa:q≠d:=fun e=>by have:=HV.out.lt; omega
 have av:w.heap.size≤q:=by omega
 rw [Y] at a6
 rw [Y]
 obtain ⟨z0,z1,z2,z3,z4⟩:=a6.out
 have ar:=Lh aa
 have aq:Hid (col q=0):=Lh (Classical.byContradiction fun e=>by have:=HW.out.hi q e; omega)
 clear Y aa
 go_wp2_with (first
  | (refine load_w rfl _ rfl d rfl v s0 a3.out ?_))
 refine (dgrow_any W1 v s0 a2.out.1 a2.out.2).mono ?_
 rw [ai.out]
 rintro e w3 ⟨rfl,I⟩
 have a0:=Lh I
 have a4:=Lh (a3.out.later I)
 clear I
 go_wp2_with (first
  | (refine store_w rfl _ _ rfl w3.heap.size rfl v { s0 with live:=grwV s0.live s0.conf.max } rfl (th_zero w3) ?_; intro w4 ac ae; have ak:=Lh ac; have G:Hid (Below w3.heap.size w3 w4):=Lh (((Below.refl _ w3).alloc (Nat.le_refl _) _).trans (ae.below (by simp) (fun k hk=>by omega))); have aj:=Lh (a4.out.later G.out).th; have au:Hid (d≠w3.heap.size):=Lh (by have:=a4.out.lt; omega); clear ac ae)
  | (refine load_w rfl _ rfl w3.heap.size rfl v { s0 with live:=grwV s0.live s0.conf.max } ak.out ?_)
  | (refine store_w rfl _ _ rfl d rfl v { s0 with live:=grwV s0.live s0.conf.max } rfl aj.out ?_; intro w5 ad af; have a5:=Lh ad; have a7:=Lh af; clear ad af))
 have an:Hid (Wv base col w5 x s):=Lh (((al.out.later a0.out).later G.out).aside a7.out (fun g _ e=>e ▸ HC.out))
 refine (wgrow_any w5 an.out a1.out.1 a1.out.2).mono ?_
 rw [ah.out]
 rintro e w6 ⟨rfl,h6,ag⟩
 have ao:=Lh h6
 have a8:=Lh ag
 clear h6 ag
 go_wp2_with fail
 go_ret
 refine ⟨by cases g1 <;> cases g2 <;> rfl,ao.out,a5.out.blk (a8.out.block d a5.out.lt (fun e=>e.2 HC.out)),?_⟩
 exact (Fz.of_below F.out).trans ((Fz.of_below a0.out).trans ((Fz.of_below G.out).trans ((fp_d a7.out).trans (fp_w a8.out))))
end
end Go.Proofs.YtoiklelghfckgaaGreatDoor.Wo
