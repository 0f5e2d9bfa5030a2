/- A part of the claim. -/
import Derived.Test.YtoiklelghfckgaaGreatDoorYK7
section
set_option maxRecDepth 100000
set_option linter.unusedVariables false
namespace Go.Proofs.YtoiklelghfckgaaGreatDoor.Wo
open Go Go.ChangeShapes Go.WideShapes Go.ChangeAt Go.RowKit Go.Maps Rw Hi Mt Ba
open Cn (Cf cfE)
structure Dv where
 b:Db
 lA:Option Addr
 ln:Nat
 lc:Nat
 vs:List Lc.Sv
 sA:Option Addr
 sn:Nat
 sc:Nat
 k:Le.Da
 fA:Option Addr
 fn:Nat
 fc:Nat
 pA:Option Addr
 pn:Nat
 pc:Nat
 cA:Option Addr
 cc:Nat
 hA:Option Addr
 hn:Nat
 hc:Nat
abbrev Dv.bag (v:Dv):Value:=.agg #[.slice v.b.A v.b.n v.b.c,.slice v.b.A2 v.b.n2 v.b.c2]
abbrev Dv.book (v:Dv) (leak:Int):Value:=.agg #[.int .u64 leak,.slice v.k.A v.k.n v.k.c,.slice v.k.A2 v.k.n2 v.k.c2,.slice v.k.A3 v.k.n3 v.k.c3]
abbrev Dv.fact (v:Dv) (n:Nat):Value:=.agg #[.slice v.fA v.fn v.fc,.slice v.pA v.pn v.pc,.slice v.cA n v.cc]
abbrev Dv.hist (v:Dv) (step:Int):Value:=.agg #[.int .u64 step,.slice v.hA v.hn v.hc]
def Dv.cells (v:Dv) (s:Ws):List Value:=[.int .i64 s.conf.max,.int .i64 s.conf.min,.int .u64 s.conf.idle,.int .u64 s.conf.life,.int .u64 s.conf.keep,.int .u64 s.conf.leak,.float .f64 s.conf.var,.int .u64 s.now,.slice v.b.A v.b.n v.b.c,.slice v.b.A2 v.b.n2 v.b.c2,.slice v.lA v.ln v.lc,.slice v.sA v.sn v.sc,.int .u64 s.leak,.slice v.k.A v.k.n v.k.c,.slice v.k.A2 v.k.n2 v.k.c2,.slice v.k.A3 v.k.n3 v.k.c3,.slice v.fA v.fn v.fc,.slice v.pA v.pn v.pc,.slice v.cA s.n v.cc,.int .u64 s.step,.slice v.hA v.hn v.hc,.int .i64 s.live,.bool s.closed]
abbrev Dv.val (v:Dv) (s:Ws):Value:=.agg (v.cells s).toArray
theorem cells_len (v:Dv) (s:Ws):(v.cells s).length=23:=rfl
theorem cells_one (v:Dv) (s:Ws):(v.cells s).toArray.all (·.oneCell')=true:=by kernel_rfl
structure Dw (K:Nat->Prop) (w:World) (v:Dv) (s:Ws) (N:List Int):Prop where
 bag:Dq K w v.b s.D s.S
 loc:Lk.Dc K w v.lA v.lc v.vs s.loc
 sl:Rs St.enc3 3 w w.heap.size v.sA v.sn v.sc s.sl
 sk:Kn K v.sn v.sA
 book:Le.DkK K w v.k s.L N s.T
 fact:Fk.Rf K w (v.fact s.n) s.O s.P s.n s.C
 hist:Rs Tx.encE 6 w w.heap.size v.hA v.hn v.hc s.ev
 hk:Kn K v.hn v.hA
 l8:v.ln=8
section
variable {K L E:Nat->Prop} {w w':World}
theorem kn_mono {n:Nat} {A:Option Addr} {B:Nat} (G:0 < n -> ∃ b o,A=some ⟨b,o,none⟩/\b < B) (h:Kn K n A) (hk:∀ g,g < B->K g->L g):Kn L n A:=fun hn a e=>by
 obtain⟨b,o,z,I⟩:=G hn
 have F:=h hn a e
 rw[z] at e; injection e with e; subst e
 exact hk _ I F
theorem rs_at {α:Type} {enc:α->List Value} {F:Nat} {B:Nat} {A:Option Addr} {n c:Nat} {xs:List α} (h:Rs enc F w B A n c xs):0 < n -> ∃ b o,A=some ⟨b,o,none⟩/\b < B:=fun hn=>by
 obtain⟨b,o,e,z,_⟩:=h.at_ hn
 exact⟨b,o,e,z⟩
theorem rd_at {α:Type} {enc:α->Value} {B:Nat} {A:Option Addr} {n c:Nat} {xs:List α} (h:Rd enc w B A n c xs):0 < n -> ∃ b o,A=some ⟨b,o,none⟩/\b < B:=fun hn=>by
 obtain⟨b,o,e,z,_⟩:=h.at_ hn
 exact⟨b,o,e,z⟩
theorem rdx_blk {α:Type} {enc:α->Value} {A:Option Addr} {n c:Nat} {xs:List α} {B B':Nat} (h:Rd enc w B A n c xs) (F:B<=B') (hk:0 < n -> ∀ b o,A=some ⟨b,o,none⟩->w'.heap[b]? = w.heap[b]?):Rd enc w' B' A n c xs:=
 ⟨h.len,h.cap,h.top,fun hn=>by
  obtain⟨b,o,e,z,hc⟩:=h.at_ hn
  exact⟨b,o,e,by omega,fun j x hx=>(World.cell?_of_block (hk hn b o e)).trans (hc j x hx)⟩⟩
theorem kn_blk {n:Nat} {A:Option Addr} (J:0 < n -> ∃ b o,A=some ⟨b,o,none⟩/\b < w.heap.size) (h:Kn K n A) (W:Fz E w w') (G:∀ g,g < w.heap.size->K g -> ¬ E g):0 < n -> ∀ b o,A=some ⟨b,o,none⟩->w'.heap[b]? = w.heap[b]?:=fun hn b o e=>by
 obtain⟨b',Y,F,z⟩:=J hn
 have I:=h hn _ e
 rw[F] at e; injection e with e; injection e with e1
 subst e1
 exact W.block _ z (G _ z I)
theorem dk_mono {d:Le.Da} {D:List (Int × Le.Ls)} {M:List Int} {T:List (Int × Int)} (h:Le.DkK K w d D M T) (hk:∀ g,g < w.heap.size->K g->L g):Le.DkK L w d D M T:=
 ⟨h.l,h.m,h.t,h.fm,h.fl,kn_mono (rs_at h.l) h.kl hk,kn_mono (rd_at h.m) h.km hk,kn_mono (rs_at h.t) h.kt hk⟩
theorem dk_fz {d:Le.Da} {D:List (Int × Le.Ls)} {M:List Int} {T:List (Int × Int)} (h:Le.DkK K w d D M T) (z:Fz E w w') (F:∀ g,g < w.heap.size->K g -> ¬ E g):Le.DkK K w' d D M T:=
 ⟨rs_blk h.l z.size (kn_blk (rs_at h.l) h.kl z F),rd_blk h.m z.size (kn_blk (rd_at h.m) h.km z F),rs_blk h.t z.size (kn_blk (rs_at h.t) h.kt z F),h.fm,h.fl,h.kl,h.km,h.kt⟩
theorem rn_kn {A:Option Addr} {n c:Nat} {O:List Bool} (h:Fk.Rn K w A n c O):Kn K n A:=fun hn a e=>by
 obtain⟨b,o,z,_⟩:=rd_at h.rd hn
 rw[z] at e; injection e with e; subst e
 exact h.ne hn b o z
theorem rn_mono {A:Option Addr} {n c:Nat} {O:List Bool} (h:Fk.Rn K w A n c O) (hk:∀ g,g < w.heap.size->K g->L g):Fk.Rn L w A n c O:=
 ⟨h.rd,fun hn g o e=>kn_mono (rd_at h.rd) (rn_kn h) hk hn _ e⟩
theorem rn_fz {A:Option Addr} {n c:Nat} {O:List Bool} (h:Fk.Rn K w A n c O) (z:Fz E w w') (F:∀ g,g < w.heap.size->K g -> ¬ E g):Fk.Rn K w' A n c O:=
 ⟨rdx_blk h.rd z.size (kn_blk (rd_at h.rd) (rn_kn h) z F),h.ne⟩
theorem rf_mono {v:Value} {O P:List Bool} {n:Nat} {C:List Int} (h:Fk.Rf K w v O P n C) (hk:∀ g,g < w.heap.size->K g->L g):Fk.Rf L w v O P n C:=by
 obtain⟨z,W,c1,A2,n2,c2,A3,c3,S,e,F,G,I,J⟩:=h.form
 exact⟨⟨z,W,c1,A2,n2,c2,A3,c3,S,e,rn_mono F hk,rn_mono G hk,rn_mono I hk,J⟩⟩
theorem rf_fz {v:Value} {O P:List Bool} {n:Nat} {C:List Int} (h:Fk.Rf K w v O P n C) (F:Fz E w w') (z:∀ g,g < w.heap.size->K g -> ¬ E g):Fk.Rf K w' v O P n C:=by
 obtain⟨G,n1,c1,A2,n2,c2,A3,c3,S,e,I,J,W,Y⟩:=h.form
 exact⟨⟨G,n1,c1,A2,n2,c2,A3,c3,S,e,rn_fz I F z,rn_fz J F z,rn_fz W F z,Y⟩⟩
theorem own_at {A:Option Addr} {n c:Nat} {b o:Nat} (e:A=some ⟨b,o,none⟩):(Value.slice A n c).ownBlock=some b:=by subst e; rfl
theorem own_lt {B:Nat} {A:Option Addr} {c:Nat} {vs:List Lc.Sv} (h:Rd Lc.encS w B A 8 c vs):∀ g,(Value.slice A 8 c).ownBlock=some g->g < B:=fun g z=>by
 obtain⟨b,o,e,F⟩:=rd_at h (by decide)
 rw[own_at e] at z
 injection z with z
 omega
theorem dc_mono {A:Option Addr} {c:Nat} {vs:List Lc.Sv} {M:Nat->List Int} (h:Lk.Dc K w A c vs M) (hk:∀ g,g < w.heap.size->K g->L g):Lk.Dc L w A c vs M:=
 ⟨h.rd,fun g z=>hk g (own_lt h.rd g z) (h.bl g z),fun i s F=>⟨(h.el i s F).1,fun g z=>⟨((h.el i s F).2 g z).1,hk g ((h.el i s F).2 g z).1 ((h.el i s F).2 g z).2⟩⟩,h.len⟩
theorem dc_fz {A:Option Addr} {c:Nat} {vs:List Lc.Sv} {M:Nat->List Int} (h:Lk.Dc K w A c vs M) (F:Fz E w w') (G:∀ g,g < w.heap.size->K g -> ¬ E g):Lk.Dc K w' A c vs M:=
 ⟨rdx_blk h.rd F.size (fun hn b o e=>F.block b (own_lt h.rd b (own_at e)) (G b (own_lt h.rd b (own_at e)) (h.bl b (own_at e)))),h.bl,fun i s z=>
  ⟨rd_blk (h.el i s z).1 F.size (fun hn b o e=>F.block b ((h.el i s z).2 b (own_at e)).1 (G b ((h.el i s z).2 b (own_at e)).1 ((h.el i s z).2 b (own_at e)).2)),fun g I=>⟨Nat.lt_of_lt_of_le ((h.el i s z).2 g I).1 F.size,((h.el i s z).2 g I).2⟩⟩,h.len⟩
variable {v:Dv} {s:Ws} {N:List Int}
theorem Dw.later (h:Dw K w v s N) (z:Below w.heap.size w w'):Dw K w' v s N:=
 ⟨h.bag.later z,h.loc.later z,h.sl.later z,h.sk,h.book.later z,h.fact.below z,h.hist.later z,h.hk,h.l8⟩
theorem Dw.mono (h:Dw K w v s N) (hk:∀ g,g < w.heap.size->K g->L g):Dw L w v s N:=
 ⟨h.bag.mono hk,dc_mono h.loc hk,h.sl,kn_mono (rs_at h.sl) h.sk hk,dk_mono h.book hk,rf_mono h.fact hk,h.hist,kn_mono (rs_at h.hist) h.hk hk,h.l8⟩
theorem Dw.fz (h:Dw K w v s N) (z:Fz E w w') (F:∀ g,g < w.heap.size->K g -> ¬ E g):Dw K w' v s N:=
 ⟨h.bag.fz z F,dc_fz h.loc z F,rs_blk h.sl z.size (kn_blk (rs_at h.sl) h.sk z F),h.sk,dk_fz h.book z F,rf_fz h.fact z F,rs_blk h.hist z.size (kn_blk (rs_at h.hist) h.hk z F),h.hk,h.l8⟩
end
structure Vw (w:World) (g:Nat) (cs:List Value):Prop where
 at_:w.rangeAt g 0 cs
 th:w.there g 0 23
theorem under_w:Tryz.prog.underlying 46=some (Tryz.prog.underlying 46).get!:=by kernel_rfl
theorem row_w:((Tryz.prog.underlying 46).get!).isRow=true:=by kernel_rfl
theorem info_w:(Tryz.prog.info? 46).map (·.size)=some 23:=by kernel_rfl
section
variable {w w':World} {g:Nat} {cs:List Value}
theorem Vw.cell (h:Vw w g cs) (j:Nat) (u:Value) (z:cs[j]? = some u):w.cell? ⟨g,j,none⟩=some u:=by
 have:=h.at_ j u z
 rwa [Nat.zero_add] at this
theorem th_free (h:w.there g 0 23) (j:Nat) (z:j < 23):w.frozen? ⟨g,j,none⟩=false:=by
 have:=(h j z).2
 rwa [Nat.zero_add] at this
theorem Vw.free (h:Vw w g cs) (j:Nat) (z:j < 23):w.frozen? ⟨g,j,none⟩=false:=th_free h.th j z
theorem th_blk (h:w.there g 0 23) (z:w'.heap[g]? = w.heap[g]?):w'.there g 0 23:=fun j F=>⟨by rw[World.cell?_of_block z]; exact (h j F).1,by rw[World.frozen?_of_block z]; exact (h j F).2⟩
theorem th_lt (h:w.there g 0 23):g < w.heap.size:=by
 obtain⟨u,z⟩:=Option.isSome_iff_exists.1 (h 0 (by decide)).1
 exact Lw.ltH z
theorem Vw.blk (h:Vw w g cs) (z:w'.heap[g]? = w.heap[g]?):Vw w' g cs:=⟨fun j u F=>(World.cell?_of_block z).trans (h.at_ j u F),th_blk h.th z⟩
theorem Vw.lt (h:Vw w g cs):g < w.heap.size:=th_lt h.th
theorem Vw.later (h:Vw w g cs) (z:Below w.heap.size w w'):Vw w' g cs:=h.blk (z.block _ h.lt)
theorem th_later (h:w.there g 0 23) (z:Below w.heap.size w w'):w'.there g 0 23:=th_blk h (z.block _ (th_lt h))
theorem Vw.set (h:Vw w g cs) (j:Nat) (G:j < cs.length) (u:Value):Vw (w.setCell ⟨g,j,none⟩ u) g (cs.set j u):=by
 refine⟨fun i x hx=>?_,fun i hi=>⟨?_,by simpa using (h.th i hi).2⟩⟩
 .by_cases e:j=i
  .subst e
   rw[List.getElem?_set_self G] at hx
   injection hx with hx
   subst hx
   have F:=h.at_ j _ (List.getElem?_eq_getElem G)
   rw[Nat.zero_add] at F ⊢
   exact World.cell?_setCell_same _ _ _ F
  .rw[List.getElem?_set_ne e] at hx
   exact (World.cell?_setCell_other _ _ _ _ (fun z=>by injection z with _ z; omega)).trans (h.at_ i x hx)
 .by_cases e:j=i
  .subst e
   have F:=h.at_ j _ (List.getElem?_eq_getElem G)
   rw[Nat.zero_add] at F ⊢
   rw[World.cell?_setCell_same _ _ _ F]; rfl
  .rw[World.cell?_setCell_other _ _ _ _ (fun z=>by injection z with _ z; omega)]
   exact (h.th i hi).1
theorem th_set (h:w.there g 0 23) {r j:Nat} (z:g≠r) (u:Value):(w.setCell ⟨r,j,none⟩ u).there g 0 23:=th_blk h (heap_setCell_other _ _ g _ z)
theorem fz_setCells (g:Nat):∀ (vs:List Value) (o:Nat) (w:World),Fz (fun k=>k=g) w (w.setCells g o vs)
 | [],_,w=>Fz.refl _ w
 | v :: r,o,w=>by
  rw[World.setCells]
  exact (Fz.of_set (C:=fun k=>k=g) (a:=⟨g,o,none⟩) v rfl).trans (fz_setCells g r (o+1) _)
end
theorem box_w (cs:List Value) (w:World) (F:cs.length=23):∃ W,w.alloc (.cells cs.toArray 46)=W/\Vw W w.heap.size cs/\Below w.heap.size w W/\W.heap.size=w.heap.size+1:=by
 have h:(w.alloc (.cells cs.toArray 46)).heap[w.heap.size]? = some (.cells cs.toArray 46):=heap_alloc_last _ _
 refine⟨_,rfl,⟨fun j u z=>?_,fun j z=>⟨?_,?_⟩⟩,(Below.refl _ _).alloc (Nat.le_refl _) _,by simp⟩
 .rw[cell_of_row _ _ _ _ _ _ h]; simpa using z
 .rw[cell_of_row _ _ _ _ _ _ h]; simp; omega
 .unfold World.frozen?; simp only[h]; rfl
theorem boxes_w (cs:List Value) (w:World) (hl:cs.length=23):∃ W,(w.alloc (.cells cs.toArray 46)).alloc (.cells #[.int .i64 0,.int .i64 0,.int .u64 0,.int .u64 0,.int .u64 0,.int .u64 0,.float .f64 0,.int .u64 0,.slice none 0 0,.slice none 0 0,.slice none 0 0,.slice none 0 0,.int .u64 0,.slice none 0 0,.slice none 0 0,.slice none 0 0,.slice none 0 0,.slice none 0 0,.slice none 0 0,.int .u64 0,.slice none 0 0,.int .i64 0,.bool false] 46)=W /\
  Vw W w.heap.size cs/\W.there (w.heap.size+1) 0 23/\Below w.heap.size w W/\W.heap.size=w.heap.size+2:=by
 obtain⟨F,I,Y,b1,s1⟩:=box_w cs w hl
 rw[I]
 obtain⟨G,J,z,h,s2⟩:=box_w [.int .i64 0,.int .i64 0,.int .u64 0,.int .u64 0,.int .u64 0,.int .u64 0,.float .f64 0,.int .u64 0,.slice none 0 0,.slice none 0 0,.slice none 0 0,.slice none 0 0,.int .u64 0,.slice none 0 0,.slice none 0 0,.slice none 0 0,.slice none 0 0,.slice none 0 0,.slice none 0 0,.int .u64 0,.slice none 0 0,.int .i64 0,.bool false] F rfl
 rw[s1] at z
 exact⟨G,J,Y.later h,z.th,b1.trans (h.mono b1.size),by omega⟩
section
variable {fn:Func} {p u x:Tmp} (tmps:Array Value) (w:World) (g:Nat) (v:Dv) (s:Ws)
theorem res_w (h:fn.results=#[.cell p 46]) (z:tmps.getD p undef=.pointer (some ⟨g,0,none⟩)) (hv:Vw w g (v.cells s)):(results fn tmps).run Tryz.prog w=.ok (v.val s) w:=by
 have G:=run_loadVar_mid (P:=Tryz.prog) w g 0 46 _ _ hv.at_ under_w row_w info_w
 have F:tmps[p]?.getD undef=.pointer (some ⟨g,0,none⟩):=by simpa using z
 simp[results,h,F,asAddr,G]
theorem res_w2 (h:fn.results=#[.cell p 46,.tmp u]) (z:tmps.getD p undef=.pointer (some ⟨g,0,none⟩)) (hv:Vw w g (v.cells s)):(results fn tmps).run Tryz.prog w=.ok (.tuple #[v.val s,tmps.getD u undef]) w:=by
 have G:=run_loadVar_mid (P:=Tryz.prog) w g 0 46 _ _ hv.at_ under_w row_w info_w
 have F:tmps[p]?.getD undef=.pointer (some ⟨g,0,none⟩):=by simpa using z
 simp[results,h,F,asAddr,G]
end
section
variable {ops:Array Oper} {rest:List Oper} {op:Oper} {a:Act} {w:World} {Q:Exit->Act->World->Prop}
theorem load_w (z:op.guard=none) (x:Operand) (F:op.op=.load 46 x) (g:Nat) (hx:a.eval x=.pointer (some ⟨g,0,none⟩)) (v:Dv) (s:Ws) (hv:Vw w g (v.cells s))
  (h:wpList Tryz.prog ops Q rest (a.put op.dst (v.val s)) w):wpList Tryz.prog ops Q (op :: rest) a w:=
 wpList_load_mid z 46 x F g 0 hx _ _ hv.at_ under_w row_w info_w h
theorem store_w (F:op.guard=none) (x y:Operand) (G:op.op=.store 46 x y) (g:Nat) (hx:a.eval x=.pointer (some ⟨g,0,none⟩)) (v:Dv) (s:Ws) (I:a.eval y=v.val s) (z:w.there g 0 23)
  (h:∀ w',Vw w' g (v.cells s)->Fz (fun k=>k=g) w w'->wpList Tryz.prog ops Q rest (a.put op.dst undef) w'):wpList Tryz.prog ops Q (op :: rest) a w:=
 wpList_store_mid F 46 x y G g 0 (v.cells s).toArray hx I z info_w (cells_one v s) (h _ ⟨World.rangeAt_setCells_same w g 0 _ z,World.there_setCells z g 0 _⟩ (fz_setCells _ _ _ _))
end
def Ks (K:Nat->Prop) (w:World) (g:Nat):Prop:=K g/\g≠w.heap.size/\g≠w.heap.size+1
abbrev Bx2 (w:World) (k:Nat):Prop:=k=w.heap.size\/k=w.heap.size+1
section
variable {K:Nat->Prop} {w w' w2 w3:World} {v:Dv} {s:Ws} {N:List Int}
theorem start_w (h:Dw K w v s N) (F:∀ g,w.heap.size<=g->K g) (z:Below w.heap.size w w') (I:w'.heap.size=w.heap.size+2):Dw (Ks K w) w' v s N /\ ∀ g,w'.heap.size<=g->Ks K w g:=
 ⟨(h.mono (fun g G hk=>⟨hk,by omega,by omega⟩)).later z,fun g G=>⟨F g (by omega),by omega,by omega⟩⟩
theorem end_w (h:Dw (Ks K w) w2 v s N) (z:Fz (Bx2 w) w2 w3):Dw K w3 v s N:=
 (h.fz z (fun g _ hk e=>e.elim hk.2.1 hk.2.2)).mono (fun g _ hk=>hk.1)
theorem fz1 {g:Nat} (z:Fz (fun k=>k=g) w2 w3) (h:Bx2 w g):Fz (Bx2 w) w2 w3:=z.mono (fun k _ e=>e ▸ h)
theorem fz_set {g j:Nat} (u:Value) (h:Bx2 w g):Fz (Bx2 w) w2 (w2.setCell ⟨g,j,none⟩ u):=Fz.of_set (a:=⟨g,j,none⟩) u h
theorem fz_low (z:Fz (Bx2 w) w2 w3) (h:Below w.heap.size w w2):Below w.heap.size w w3:=h.trans (z.below h.size (fun k hk=>by rcases hk with e | e <;> omega))
theorem Dw.own_ (h:Dw K w v s N) (cf:Cf) (nw lv:Int) (cl:Bool):Dw K w v { s with conf:=cf,now:=nw,live:=lv,closed:=cl } N:=⟨h.bag,h.loc,h.sl,h.sk,h.book,h.fact,h.hist,h.hk,h.l8⟩
end
section
variable {K:Nat->Prop} (w:World) (v:Dv) (s:Ws) (N:List Int)
theorem dgrow_any (h0:0<=s.live) (hm:s.conf.max<=1000000) :
  Calls Tryz.prog 67 #[v.val s] w fun e w'=>e=.returned (.tuple #[v.val { s with live:=grwV s.live s.conf.max },.bool (decide (s.live < s.conf.max))])/\Below w.heap.size w w':=by
 by_cases hl:s.live < s.conf.max
 .have J:decide (s.live < s.conf.max)=true:=decide_eq_true hl
  have q2:decide (s.conf.max<=s.live)=false:=decide_eq_false (by omega)
  have a9:IntKind.i64.wrap (s.live+1)=s.live+1:=by rw[IntKind.wrap_i64]; omega
  rw[show grwV s.live s.conf.max=s.live+1 from if_pos hl,J]
  clear hl h0 hm J
  obtain⟨W1,a3,h,F,z,S1⟩:=boxes_w (v.cells s) w rfl
  have a0:=Lh h
  have Y:=Lh F
  have W:=Lh z
  have f0:=h.cell 0 _ rfl
  have a4:=h.cell 21 _ rfl
  have a5:=h.free 21 (by decide)
  clear h F z
  go_enter Tryz.func67,Tryz.ntmps67
  go_upto_region 1 with (fail)
  clear a3
  go_upto_region 4 with (fail)
  have a8:Hid (Vw (W1.setCell ⟨w.heap.size,21,none⟩ (.int .i64 (s.live+1))) w.heap.size (v.cells { s with live:=s.live+1 })):=Lh (a0.out.set 21 (by rw[cells_len]; decide) _)
  have a7:=Lh (th_set (j:=21) Y.out (r:=w.heap.size) (by omega) (.int .i64 (s.live+1)))
  have a6:=Lh (W.out.setCell (p:=⟨w.heap.size,21,none⟩) (Nat.le_refl _) (.int .i64 (s.live+1)))
  generalize (W1.setCell ⟨w.heap.size,21,none⟩ (.int .i64 (s.live+1)))=W2 at *
  clear a4 a5 a0 Y W S1
  go_wp2_with (first
   | (refine load_w rfl _ rfl w.heap.size rfl v { s with live:=s.live+1 } a8.out ?_)
   | (refine store_w rfl _ _ rfl (w.heap.size+1) rfl v { s with live:=s.live+1 } rfl a7.out ?_; intro w9 G I; have a1:=Lh G; have a2:=Lh I; clear G I))
  exact bodyPost_ret (v:=.tuple #[v.val { s with live:=s.live+1 },.bool true]) (res_w2 _ _ (w.heap.size+1) _ _ Tryz.results67 rfl a1.out) rfl ⟨rfl,fz_low (fz1 a2.out (.inr rfl)) a6.out⟩
 .have J:decide (s.live < s.conf.max)=false:=decide_eq_false hl
  have q2:decide (s.conf.max<=s.live)=true:=decide_eq_true (by omega)
  rw[show grwV s.live s.conf.max=s.live from if_neg hl,J]
  clear hl h0 hm J
  obtain⟨W1,a3,h,F,z,S1⟩:=boxes_w (v.cells s) w rfl
  have a0:=Lh h
  have Y:=Lh F
  have W:=Lh z
  have f0:=h.cell 0 _ rfl
  have a4:=h.cell 21 _ rfl
  have a5:=h.free 21 (by decide)
  clear h F z
  go_enter Tryz.func67,Tryz.ntmps67
  go_upto_region 1 with (fail)
  clear a3
  go_wp2_with (first
   | (refine load_w rfl _ rfl w.heap.size rfl v s a0.out ?_)
   | (refine store_w rfl _ _ rfl (w.heap.size+1) rfl v s rfl Y.out ?_; intro w9 G I; have a1:=Lh G; have a2:=Lh I; clear G I))
  exact bodyPost_ret (v:=.tuple #[v.val s,.bool false]) (res_w2 _ _ (w.heap.size+1) _ _ Tryz.results67 rfl a1.out) rfl ⟨rfl,fz_low (fz1 a2.out (.inr rfl)) W.out⟩
theorem dpublish_no (h:Dw K w v s N) (ac:∀ g,w.heap.size<=g->K g) (id:Int) (hn:s.D.length<=1000) (au:s.S.length<=1000) (hc:s.closed=false) :
  Calls Tryz.prog 76 #[v.val s,.int .u64 id] w fun e w'=>∃ v':Dv,e=.returned (.tuple #[v'.val { s with S:=pubS s.D s.S id },.bool (kn s.D id == 0)])/\Dw K w' v' { s with S:=pubS s.D s.S id } N/\Below w.heap.size w w':=by
 obtain⟨S2,a2⟩:∃ S2,pubS s.D s.S id=S2:=⟨_,rfl⟩
 rw[a2]
 have aj:=Lh a2
 clear a2
 obtain⟨W1,aq,Y,T1,B1,S1⟩:=boxes_w (v.cells s) w rfl
 obtain⟨d1,k1⟩:=start_w h ac B1 S1
 have W:=Lh d1
 have ai:=Lh k1
 have ar:=Lh h
 have a6:=Lh Y
 have a3:=Lh T1
 have a1:=Lh B1
 have f8:=Y.cell 8 _ rfl
 have f9:=Y.cell 9 _ rfl
 have ao:W1.cell? ⟨w.heap.size,22,none⟩=some (.bool false):=by rw[<- hc]; exact Y.cell 22 _ rfl
 clear hc
 clear Y T1 B1 d1 k1 h ac
 go_enter Tryz.func76,Tryz.ntmps76
 go_upto_region 1 with (fail)
 clear aq
 go_wp2_with fail
 refine ((by have q:=rpublish_any (K:=Ks K w) v.b.A v.b.A2 v.b.n v.b.c v.b.n2 v.b.c2 s.D s.S W1 id W.out.bag ai.out (by have:=W.out.bag.l.len; omega) (by have:=W.out.bag.s.len; omega); rw[show (if (fnd s.D id).isSome then Sn.sWith s.S id else s.S)=S2 from aj.out] at q; exact q:Calls _ _ _ _ _)).mono ?_
 rintro e w2 ⟨A',F,z,rfl,ad,J⟩
 have ah:Hid (Dw (Ks K w) w2 { v with b:=⟨v.b.A,v.b.n,v.b.c,A',F,z⟩ } { s with S:=S2 } N):=Lh (by
  have G:=W.out.later J
  exact⟨ad,G.loc,G.sl,G.sk,G.book,G.fact,G.hist,G.hk,G.l8⟩)
 have a7:=Lh (a6.out.later J)
 have a4:=Lh (th_later a3.out J)
 have ag:=Lh (a1.out.trans (J.mono a1.out.size))
 have av:=J.size
 clear ad J W a6 a3 a1 f8 f9 ao
 go_upto_region 4 with (fail)
 have a0:Below w2.heap.size w2 (w2.alloc (.cells #[.slice v.b.A v.b.n v.b.c,.slice A' F z] 32)):=(Below.refl _ _).alloc (Nat.le_refl _) _
 have a8:Hid (Fz (Bx2 w) w2 (w2.alloc (.cells #[.slice v.b.A v.b.n v.b.c,.slice A' F z] 32))):=Lh (Fz.of_below a0)
 have I:=Lh (a7.out.later a0)
 have a5:=Lh (th_later a4.out a0)
 have y0:(w2.alloc (.cells #[.slice v.b.A v.b.n v.b.c,.slice A' F z] 32)).cell? ⟨w2.heap.size,0,none⟩=some (.slice v.b.A v.b.n v.b.c):=by go_simp
 have y1:(w2.alloc (.cells #[.slice v.b.A v.b.n v.b.c,.slice A' F z] 32)).cell? ⟨w2.heap.size,1,none⟩=some (.slice A' F z):=by go_simp
 have f8:=I.out.cell 8 _ rfl
 have g8:=I.out.free 8 (by decide)
 have f9:=I.out.cell 9 _ rfl
 have g9:=I.out.free 9 (by decide)
 clear a0 a7 a4
 generalize (w2.alloc (.cells #[.slice v.b.A v.b.n v.b.c,.slice A' F z] 32))=W3 at *
 generalize w2.heap.size=x2 at *
 go_upto_region 5 with (fail)
 have al:Hid (Vw ((W3.setCell ⟨w.heap.size,8,none⟩ (.slice v.b.A v.b.n v.b.c)).setCell ⟨w.heap.size,9,none⟩ (.slice A' F z)) w.heap.size (Dv.cells { v with b:=⟨v.b.A,v.b.n,v.b.c,A',F,z⟩ } { s with S:=S2 })):=Lh ((I.out.set 8 (by simp[cells_len]) (.slice v.b.A v.b.n v.b.c)).set 9 (by simp[cells_len]) (.slice A' F z))
 have ak:Hid (((W3.setCell ⟨w.heap.size,8,none⟩ (.slice v.b.A v.b.n v.b.c)).setCell ⟨w.heap.size,9,none⟩ (.slice A' F z)).there (w.heap.size+1) 0 23):=Lh (th_set (j:=9) (th_set (j:=8) a5.out (r:=w.heap.size) (by omega) (.slice v.b.A v.b.n v.b.c)) (r:=w.heap.size) (by omega) (.slice A' F z))
 have a9:Hid (Fz (Bx2 w) w2 ((W3.setCell ⟨w.heap.size,8,none⟩ (.slice v.b.A v.b.n v.b.c)).setCell ⟨w.heap.size,9,none⟩ (.slice A' F z))):=Lh ((a8.out.trans (fz_set (j:=8) (.slice v.b.A v.b.n v.b.c) (.inl rfl))).trans (fz_set (j:=9) (.slice A' F z) (.inl rfl)))
 generalize ((W3.setCell ⟨w.heap.size,8,none⟩ (.slice v.b.A v.b.n v.b.c)).setCell ⟨w.heap.size,9,none⟩ (.slice A' F z))=W4 at *
 clear I a5 a8 f8 g8 f9 g9 y0 y1
 go_wp2_with (first
  | (refine load_w rfl _ rfl w.heap.size rfl { v with b:=⟨v.b.A,v.b.n,v.b.c,A',F,z⟩ } { s with S:=S2 } al.out ?_)
  | (refine store_w rfl _ _ rfl (w.heap.size+1) rfl { v with b:=⟨v.b.A,v.b.n,v.b.c,A',F,z⟩ } { s with S:=S2 } rfl ak.out ?_; intro w9 ae af; have an:=Lh ae; have aa:=Lh af; clear ae af))
 exact bodyPost_ret (v:=.tuple #[Dv.val { v with b:=⟨v.b.A,v.b.n,v.b.c,A',F,z⟩ } { s with S:=S2 },.bool (kn s.D id == 0)]) (res_w2 _ _ (w.heap.size+1) _ _ Tryz.results76 rfl an.out) rfl ⟨{ v with b:=⟨v.b.A,v.b.n,v.b.c,A',F,z⟩ },rfl,end_w ah.out (a9.out.trans (fz1 aa.out (.inr rfl))),fz_low (a9.out.trans (fz1 aa.out (.inr rfl))) ag.out⟩
theorem dlease_any (h:Dw K w v s N) (af:∀ g,w.heap.size<=g->K g) (id th:Int) (hs:Le.Sd s.L) (tms:Wl.Tms s.T) (hid:U64 id) (aD:U64 s.now) (aC:U64 s.leak) (hn:s.L.length<=1000) (aF:N.length<=1000) (aG:s.T.length<=1000) :
  Calls Tryz.prog 78 #[v.val s,.int .u64 id,.int .i64 th] w fun e w'=>∃ (v':Dv) (z:List (Int × Le.Ls)),e=.returned (.tuple #[v'.val { s with L:=z,T:=Le.bT s.leak s.L s.T id th s.now },.int .i64 (Le.bE s.L id th)])/\Dw K w' v' { s with L:=z,T:=Le.bT s.leak s.L s.T id th s.now } N/\(Le.bL s.L id th s.now).Perm z/\Le.Sd z/\Below w.heap.size w w':=by
 obtain⟨W1,aB,I,T1,B1,S1⟩:=boxes_w (v.cells s) w rfl
 obtain⟨d1,k1⟩:=start_w h af B1 S1
 have J:=Lh d1
 have ao:=Lh k1
 have aE:=Lh h
 have a9:=Lh I
 have a6:=Lh T1
 have a1:=Lh B1
 have a2:=I.cell 12 _ rfl
 have a3:=I.cell 13 _ rfl
 have a4:=I.cell 14 _ rfl
 have a5:=I.cell 15 _ rfl
 have f7:=I.cell 7 _ rfl
 clear I T1 B1 d1 k1 h af
 go_enter Tryz.func78,Tryz.ntmps78
 go_upto_region 1 with (fail)
 clear aB
 go_wp2_with fail
 refine (Le.rbegin_any s.leak v.k.A v.k.A2 v.k.A3 v.k.n v.k.c v.k.n2 v.k.c2 v.k.n3 v.k.c3 s.L N s.T W1 id th s.now J.out.book ao.out hs tms hid aD aC (by have:=J.out.book.l.len; omega) (by have:=J.out.book.m.len; omega) (by have:=J.out.book.t.len; omega)).mono ?_
 rintro e w2 ⟨d,z,rfl,ah,ai,ag,W⟩
 have aq:=Lh ah
 have ar:=Lh ai
 clear ah ai
 have an:Hid (Dw (Ks K w) w2 { v with k:=d } { s with L:=z,T:=Le.bT s.leak s.L s.T id th s.now } N):=Lh (by
  have G:=J.out.later W
  exact⟨G.bag,G.loc,G.sl,G.sk,ag,G.fact,G.hist,G.hk,G.l8⟩)
 have aa:=Lh (a9.out.later W)
 have a7:=Lh (th_later a6.out W)
 have al:=Lh (a1.out.trans (W.mono a1.out.size))
 have aH:=W.size
 clear ag W J a9 a6 a1 a2 a3 a4 a5 f7
 go_upto_region 2 with (fail)
 have a0:Below w2.heap.size w2 (w2.alloc (.cells #[.int .u64 s.leak,.slice d.A d.n d.c,.slice d.A2 d.n2 d.c2,.slice d.A3 d.n3 d.c3] 38)):=(Below.refl _ _).alloc (Nat.le_refl _) _
 have ac:Hid (Fz (Bx2 w) w2 (w2.alloc (.cells #[.int .u64 s.leak,.slice d.A d.n d.c,.slice d.A2 d.n2 d.c2,.slice d.A3 d.n3 d.c3] 38))):=Lh (Fz.of_below a0)
 have F:=Lh (aa.out.later a0)
 have a8:=Lh (th_later a7.out a0)
 have y0:(w2.alloc (.cells #[.int .u64 s.leak,.slice d.A d.n d.c,.slice d.A2 d.n2 d.c2,.slice d.A3 d.n3 d.c3] 38)).cell? ⟨w2.heap.size,0,none⟩=some (.int .u64 s.leak):=by go_simp
 have y1:(w2.alloc (.cells #[.int .u64 s.leak,.slice d.A d.n d.c,.slice d.A2 d.n2 d.c2,.slice d.A3 d.n3 d.c3] 38)).cell? ⟨w2.heap.size,1,none⟩=some (.slice d.A d.n d.c):=by go_simp
 have y2:(w2.alloc (.cells #[.int .u64 s.leak,.slice d.A d.n d.c,.slice d.A2 d.n2 d.c2,.slice d.A3 d.n3 d.c3] 38)).cell? ⟨w2.heap.size,2,none⟩=some (.slice d.A2 d.n2 d.c2):=by go_simp
 have y3:(w2.alloc (.cells #[.int .u64 s.leak,.slice d.A d.n d.c,.slice d.A2 d.n2 d.c2,.slice d.A3 d.n3 d.c3] 38)).cell? ⟨w2.heap.size,3,none⟩=some (.slice d.A3 d.n3 d.c3):=by go_simp
 have a2:=F.out.cell 12 _ rfl
 have ax:=F.out.free 12 (by decide)
 have a3:=F.out.cell 13 _ rfl
 have ay:=F.out.free 13 (by decide)
 have a4:=F.out.cell 14 _ rfl
 have az:=F.out.free 14 (by decide)
 have a5:=F.out.cell 15 _ rfl
 have aA:=F.out.free 15 (by decide)
 clear a0 aa a7
 generalize (w2.alloc (.cells #[.int .u64 s.leak,.slice d.A d.n d.c,.slice d.A2 d.n2 d.c2,.slice d.A3 d.n3 d.c3] 38))=Y at *
 generalize w2.heap.size=x2 at *
 go_upto_region 3 with (fail)
 have av:Hid (Vw ((((Y.setCell ⟨w.heap.size,12,none⟩ (.int .u64 s.leak)).setCell ⟨w.heap.size,13,none⟩ (.slice d.A d.n d.c)).setCell ⟨w.heap.size,14,none⟩ (.slice d.A2 d.n2 d.c2)).setCell ⟨w.heap.size,15,none⟩ (.slice d.A3 d.n3 d.c3)) w.heap.size (Dv.cells { v with k:=d } { s with L:=z,T:=Le.bT s.leak s.L s.T id th s.now })):=Lh ((((F.out.set 12 (by simp[cells_len]) (.int .u64 s.leak)).set 13 (by simp[cells_len]) (.slice d.A d.n d.c)).set 14 (by simp[cells_len]) (.slice d.A2 d.n2 d.c2)).set 15 (by simp[cells_len]) (.slice d.A3 d.n3 d.c3))
 have au:Hid (((((Y.setCell ⟨w.heap.size,12,none⟩ (.int .u64 s.leak)).setCell ⟨w.heap.size,13,none⟩ (.slice d.A d.n d.c)).setCell ⟨w.heap.size,14,none⟩ (.slice d.A2 d.n2 d.c2)).setCell ⟨w.heap.size,15,none⟩ (.slice d.A3 d.n3 d.c3)).there (w.heap.size+1) 0 23):=Lh (th_set (j:=15) (th_set (j:=14) (th_set (j:=13) (th_set (j:=12) a8.out (r:=w.heap.size) (by omega) (.int .u64 s.leak)) (r:=w.heap.size) (by omega) (.slice d.A d.n d.c)) (r:=w.heap.size) (by omega) (.slice d.A2 d.n2 d.c2)) (r:=w.heap.size) (by omega) (.slice d.A3 d.n3 d.c3))
 have ad:Hid (Fz (Bx2 w) w2 ((((Y.setCell ⟨w.heap.size,12,none⟩ (.int .u64 s.leak)).setCell ⟨w.heap.size,13,none⟩ (.slice d.A d.n d.c)).setCell ⟨w.heap.size,14,none⟩ (.slice d.A2 d.n2 d.c2)).setCell ⟨w.heap.size,15,none⟩ (.slice d.A3 d.n3 d.c3))):=Lh ((((ac.out.trans (fz_set (j:=12) (.int .u64 s.leak) (.inl rfl))).trans (fz_set (j:=13) (.slice d.A d.n d.c) (.inl rfl))).trans (fz_set (j:=14) (.slice d.A2 d.n2 d.c2) (.inl rfl))).trans (fz_set (j:=15) (.slice d.A3 d.n3 d.c3) (.inl rfl)))
 generalize ((((Y.setCell ⟨w.heap.size,12,none⟩ (.int .u64 s.leak)).setCell ⟨w.heap.size,13,none⟩ (.slice d.A d.n d.c)).setCell ⟨w.heap.size,14,none⟩ (.slice d.A2 d.n2 d.c2)).setCell ⟨w.heap.size,15,none⟩ (.slice d.A3 d.n3 d.c3))=W4 at *
 clear F a8 ac a2 ax a3 ay a4 az a5 aA y0 y1 y2 y3
 go_wp2_with (first
  | (refine load_w rfl _ rfl w.heap.size rfl { v with k:=d } { s with L:=z,T:=Le.bT s.leak s.L s.T id th s.now } av.out ?_)
  | (refine store_w rfl _ _ rfl (w.heap.size+1) rfl { v with k:=d } { s with L:=z,T:=Le.bT s.leak s.L s.T id th s.now } rfl au.out ?_; intro w9 aj ak; have aw:=Lh aj; have ae:=Lh ak; clear aj ak))
 exact bodyPost_ret (v:=.tuple #[Dv.val { v with k:=d } { s with L:=z,T:=Le.bT s.leak s.L s.T id th s.now },.int .i64 (Le.bE s.L id th)]) (res_w2 _ _ (w.heap.size+1) _ _ Tryz.results78 rfl aw.out) rfl ⟨{ v with k:=d },z,rfl,end_w an.out (ad.out.trans (fz1 ae.out (.inr rfl))),aq.out,ar.out,fz_low (ad.out.trans (fz1 ae.out (.inr rfl))) al.out⟩
end
theorem exec_load_w (h:Oper) (ev:Operand->Value) (y:Operand) (z:h.op=.load 46 y) {g:Nat} (hx:ev y=.pointer (some ⟨g,0,none⟩)) {w:World} {v:Dv} {s:Ws} (hv:Vw w g (v.cells s)):(execOp ev h).run Tryz.prog w=.ok (.value (v.val s)) w:=by
 unfold execOp
 simp only[z,hx,Instr.loadAt,Instr.sureAddr,Sem.run_bind,Sem.run_pure,Result.andThen_ok,run_loadVar_mid (P:=Tryz.prog) w g 0 46 _ _ hv.at_ under_w row_w info_w]
theorem wp_store_w {op:Oper} {a:Act} {w:World} {K:Act->World->Prop} {Q:Exit->Act->World->Prop} (y z:Operand) (G:op.op=.store 46 y z) (g:Nat) (hx:a.eval y=.pointer (some ⟨g,0,none⟩)) (v:Dv) (s:Ws) (I:a.eval z=v.val s) (F:w.there g 0 23)
  (h:∀ w',Vw w' g (v.cells s)->Fz (fun k=>k=g) w w'->K (a.put op.dst undef) w'):op.wp Tryz.prog a w K Q:=
 wp_store_mid 46 y z G g 0 (v.cells s).toArray hx I F info_w (cells_one v s) (h _ ⟨World.rangeAt_setCells_same w g 0 _ F,World.there_setCells F g 0 _⟩ (fz_setCells _ _ _ _))
theorem th_zero (w:World):(w.alloc (.cells #[.int .i64 0,.int .i64 0,.int .u64 0,.int .u64 0,.int .u64 0,.int .u64 0,.float .f64 0,.int .u64 0,.slice none 0 0,.slice none 0 0,.slice none 0 0,.slice none 0 0,.int .u64 0,.slice none 0 0,.slice none 0 0,.slice none 0 0,.slice none 0 0,.slice none 0 0,.slice none 0 0,.int .u64 0,.slice none 0 0,.int .i64 0,.bool false] 46)).there w.heap.size 0 23:=by
 obtain⟨W,e,h,_⟩:=box_w [.int .i64 0,.int .i64 0,.int .u64 0,.int .u64 0,.int .u64 0,.int .u64 0,.float .f64 0,.int .u64 0,.slice none 0 0,.slice none 0 0,.slice none 0 0,.slice none 0 0,.int .u64 0,.slice none 0 0,.slice none 0 0,.slice none 0 0,.slice none 0 0,.slice none 0 0,.slice none 0 0,.int .u64 0,.slice none 0 0,.int .i64 0,.bool false] w rfl
 exact e ▸ h.th
structure Ay where
 do_:Int
 id:Int
 n:Int
 th:Int
 st:Int
abbrev Ay.val (y:Ay):Value:=.agg #[.int .u8 y.do_,.int .u64 y.id,.int .u64 y.n,.int .i64 y.th,.int .i64 y.st]
structure Ay.ok (y:Ay):Prop where
 d:0<=y.do_/\y.do_<=255
 i:U64 y.id
 n:U64 y.n
 t:-9223372036854775808<=y.th/\y.th<=9223372036854775807
 s:-9223372036854775808<=y.st/\y.st<=9223372036854775807
structure Yc (w:World) (q:Nat) (y:Ay):Prop where
 z0:w.cell? ⟨q,0,none⟩=some (.int .u8 y.do_)
 z1:w.cell? ⟨q,1,none⟩=some (.int .u64 y.id)
 z2:w.cell? ⟨q,2,none⟩=some (.int .u64 y.n)
 z3:w.cell? ⟨q,3,none⟩=some (.int .i64 y.th)
 z4:w.cell? ⟨q,4,none⟩=some (.int .i64 y.st)
theorem Yc.blk {w w':World} {q:Nat} {y:Ay} (h:Yc w q y) (z:w'.heap[q]? = w.heap[q]?):Yc w' q y:=
 ⟨(World.cell?_of_block z).trans h.z0,(World.cell?_of_block z).trans h.z1,(World.cell?_of_block z).trans h.z2,(World.cell?_of_block z).trans h.z3,(World.cell?_of_block z).trans h.z4⟩
theorem Yc.lt {w:World} {q:Nat} {y:Ay} (h:Yc w q y):q < w.heap.size:=Lw.ltH h.z0
theorem Yc.later {w w':World} {q:Nat} {y:Ay} (h:Yc w q y) (z:Below w.heap.size w w'):Yc w' q y:=h.blk (z.block q h.lt)
theorem Yc.new (w:World) (y:Ay):Yc (w.alloc (.cells #[.int .u8 y.do_,.int .u64 y.id,.int .u64 y.n,.int .i64 y.th,.int .i64 y.st] 103)) w.heap.size y:=by
 refine⟨?_,?_,?_,?_,?_⟩ <;> go_simp
abbrev Fp (col:Nat->Nat) (d:Nat) (w w':World):Prop:=Fz (fun g=>(col g≠0/\col g≠8)\/g=d) w w'
theorem fp_w {col:Nat->Nat} {d:Nat} {w w':World} (h:Fw col w w'):Fp col d w w':=h.mono fun _ _ e=>.inl e
theorem fp_d {col:Nat->Nat} {d:Nat} {w w':World} (h:Fz (fun k=>k=d) w w'):Fp col d w w':=h.mono fun _ _ e=>.inr e
section
variable (w:World) {base:Nat} {col:Nat->Nat} {x:Wp} {s s0:Ws} {d:Nat} {v:Dv} {y:Ay}
theorem play1 (hk:y.do_ % 8=1) (z:y.ok) (h:Wv base col w x s) (hv:Vw w d (v.cells s0)) (hc:col d=8) (h0:0<=s.live/\s.conf.max<=1000000) (a8:0<=s0.live/\s0.conf.max<=1000000) :
  Calls Tryz.prog 34 #[y.val,ptr x.pw,ptr d] w fun e w'=>e=.returned (.bool (decide (s.live < s.conf.max) == decide (s0.live < s0.conf.max))) /\
  Wv base col w' x { s with live:=grwV s.live s.conf.max } /\ Vw w' d (v.cells { s0 with live:=grwV s0.live s0.conf.max })/\Fp col d w w':=by
 have m0:(y.do_ % 8 == 0)=false:=by rw[hk]; rfl
 have av:((y.do_).tmod 8 == 0)=false:=by rw[Int.tmod_eq_emod_of_nonneg z.d.1,hk]; rfl
 have m1:(y.do_ % 8 == 1)=true:=by rw[hk]; rfl
 have aw:((y.do_).tmod 8 == 1)=true:=by rw[Int.tmod_eq_emod_of_nonneg z.d.1,hk]; rfl
 have HY:=Lh z
 have HW:=Lh h
 have HV:=Lh hv
 have HC:=Lh hc
 have a5:=Lh (Yc.new w y)
 have F:Hid (Below w.heap.size w (w.alloc (.cells #[.int .u8 y.do_,.int .u64 y.id,.int .u64 y.n,.int .i64 y.th,.int .i64 y.st] 103))):=Lh ((Below.refl _ _).alloc (Nat.le_refl _) _)
 have a0:=Lh h0
 have a1:=Lh a8
 obtain⟨g1,J⟩:∃ b,decide (s.live < s.conf.max)=b:=⟨_,rfl⟩
 obtain⟨g2,W⟩:∃ b,decide (s0.live < s0.conf.max)=b:=⟨_,rfl⟩
 rw[J,W]
 have ag:=Lh J
 have ah:=Lh W
 clear J W
 clear hk z h hv hc h0 a8
 go_enter Tryz.func34,Tryz.ntmps34
 go_upto_region 1 with (fail)
 generalize (w.alloc (.cells #[.int .u8 y.do_,.int .u64 y.id,.int .u64 y.n,.int .i64 y.th,.int .i64 y.st] 103))=W1 at *
 have ak:=Lh (HW.out.later F.out)
 have a2:=Lh (HV.out.later F.out)
 obtain⟨q,hq⟩:∃ q,w.heap.size=q:=⟨_,rfl⟩
 have a9:q≠d:=fun e=>by have:=HV.out.lt; omega
 have au:w.heap.size<=q:=by omega
 rw[hq] at a5
 rw[hq]
 obtain⟨z0,z1,z2,z3,z4⟩:=a5.out
 have aq:=Lh a9
 have ao:Hid (col q=0):=Lh (Classical.byContradiction fun e=>by have:=HW.out.hi q e; omega)
 clear hq a9
 go_wp2_with (first
  | (refine load_w rfl _ rfl d rfl v s0 a2.out ?_))
 refine (dgrow_any W1 v s0 a1.out.1 a1.out.2).mono ?_
 rw[ah.out]
 rintro e w3 ⟨rfl,I⟩
 have Y:=Lh I
 have a3:=Lh (a2.out.later I)
 clear I
 go_wp2_with (first
  | (refine store_w rfl _ _ rfl w3.heap.size rfl v { s0 with live:=grwV s0.live s0.conf.max } rfl (th_zero w3) ?_; intro w4 aa ad; have aj:=Lh aa; have G:Hid (Below w3.heap.size w3 w4):=Lh (((Below.refl _ w3).alloc (Nat.le_refl _) _).trans (ad.below (by simp) (fun k hk=>by omega))); have ai:=Lh (a3.out.later G.out).th; have ar:Hid (d≠w3.heap.size):=Lh (by have:=a3.out.lt; omega); clear aa ad)
  | (refine load_w rfl _ rfl w3.heap.size rfl v { s0 with live:=grwV s0.live s0.conf.max } aj.out ?_)
  | (refine store_w rfl _ _ rfl d rfl v { s0 with live:=grwV s0.live s0.conf.max } rfl ai.out ?_; intro w5 ac ae; have a4:=Lh ac; have a6:=Lh ae; clear ac ae))
 have al:Hid (Wv base col w5 x s):=Lh (((ak.out.later Y.out).later G.out).aside a6.out (fun g _ e=>e ▸ HC.out))
 refine (wgrow_any w5 al.out a0.out.1 a0.out.2).mono ?_
 rw[ag.out]
 rintro e w6 ⟨rfl,h6,af⟩
 have an:=Lh h6
 have a7:=Lh af
 clear h6 af
 go_wp2_with fail
 go_ret
 refine⟨by cases g1 <;> cases g2 <;> rfl,an.out,a4.out.blk (a7.out.block d a4.out.lt (fun e=>e.2 HC.out)),?_⟩
 exact (Fz.of_below F.out).trans ((Fz.of_below Y.out).trans ((Fz.of_below G.out).trans ((fp_d a6.out).trans (fp_w a7.out))))
end
end Go.Proofs.YtoiklelghfckgaaGreatDoor.Wo
end
section
set_option maxRecDepth 100000
set_option linter.unusedVariables false
namespace Go.Proofs.YtoiklelghfckgaaGreatDoor.Cn
open Go Go.ChangeShapes Go.WideShapes Go.ChangeAt Go.RowKit Rw
theorem mx2_le {a b M:Int} : mx2 a b<=M↔a<=M/\b<=M:=by unfold mx2; split <;> omega
theorem rcheck13_any (c:Cf) (h:c.ok) (w:World) :
  Calls Tryz.prog 64 #[c.v] w fun e w'=>e=.returned (.int .i64 (cfE c))/\Below w.heap.size w w':=by
 obtain⟨mx,G,u,F,z,lk,J⟩:=c
 have Q:=Lh (fun w=>Fl.rcheck_any J 0 4607182418800017408 w h.var (by decide) (by decide))
 have I:Cf.hi ⟨mx,G,u,F,z,lk,J⟩=mx2 (mx2 (mx2 u F) z) lk:=rfl
 unfold cfE
 simp only[I]
 clear h I
 by_cases h1:mx < 1
 .have W:decide (mx < 1)=true:=decide_eq_true h1
  rw[if_pos (.inl h1)]
  clear h1
  go_enter Tryz.func64,Tryz.ntmps64
  go_wp2_with fail
  go_ret
  exact⟨rfl,(Below.refl _ _).alloc (Nat.le_refl _) _⟩
 have W:decide (mx < 1)=false:=decide_eq_false h1
 by_cases h2:16 < mx
 .have Y:decide (16 < mx)=true:=decide_eq_true h2
  rw[if_pos (.inr (.inl h2))]
  clear h1 h2
  go_enter Tryz.func64,Tryz.ntmps64
  go_wp2_with fail
  go_ret
  exact⟨rfl,(Below.refl _ _).alloc (Nat.le_refl _) _⟩
 have Y:decide (16 < mx)=false:=decide_eq_false h2
 by_cases h3:G < 0
 .have q3:decide (G < 0)=true:=decide_eq_true h3
  rw[if_pos (.inr (.inr (.inl h3)))]
  clear h1 h2 h3
  go_enter Tryz.func64,Tryz.ntmps64
  go_wp2_with fail
  go_ret
  exact⟨rfl,(Below.refl _ _).alloc (Nat.le_refl _) _⟩
 have q3:decide (G < 0)=false:=decide_eq_false h3
 by_cases h4:mx < G
 .have q4:decide (mx < G)=true:=decide_eq_true h4
  rw[if_pos (.inr (.inr (.inr h4)))]
  clear h1 h2 h3 h4
  go_enter Tryz.func64,Tryz.ntmps64
  go_wp2_with fail
  go_ret
  exact⟨rfl,(Below.refl _ _).alloc (Nat.le_refl _) _⟩
 have q4:decide (mx < G)=false:=decide_eq_false h4
 rw[if_neg (by omega)]
 clear h1 h2 h3 h4
 unfold hiE
 by_cases h5:1152921504606846976 < u
 .have q5:decide (1152921504606846976 < u)=true:=decide_eq_true h5
  rw[if_pos (by rcases Int.lt_or_le 1152921504606846976 (mx2 (mx2 (mx2 u F) z) lk) with h | h; exact h; rw[mx2_le,mx2_le,mx2_le] at h; omega)]
  clear h5
  go_enter Tryz.func64,Tryz.ntmps64
  go_wp2_with fail
  go_ret
  exact⟨rfl,(Below.refl _ _).alloc (Nat.le_refl _) _⟩
 have q5:decide (1152921504606846976 < u)=false:=decide_eq_false h5
 by_cases h6:1152921504606846976 < F
 .have q6:decide (1152921504606846976 < F)=true:=decide_eq_true h6
  rw[if_pos (by rcases Int.lt_or_le 1152921504606846976 (mx2 (mx2 (mx2 u F) z) lk) with h | h; exact h; rw[mx2_le,mx2_le,mx2_le] at h; omega)]
  clear h5 h6
  go_enter Tryz.func64,Tryz.ntmps64
  go_wp2_with fail
  go_ret
  exact⟨rfl,(Below.refl _ _).alloc (Nat.le_refl _) _⟩
 have q6:decide (1152921504606846976 < F)=false:=decide_eq_false h6
 by_cases h7:1152921504606846976 < z
 .have q7:decide (1152921504606846976 < z)=true:=decide_eq_true h7
  rw[if_pos (by rcases Int.lt_or_le 1152921504606846976 (mx2 (mx2 (mx2 u F) z) lk) with h | h; exact h; rw[mx2_le,mx2_le,mx2_le] at h; omega)]
  clear h5 h6 h7
  go_enter Tryz.func64,Tryz.ntmps64
  go_wp2_with fail
  go_ret
  exact⟨rfl,(Below.refl _ _).alloc (Nat.le_refl _) _⟩
 have q7:decide (1152921504606846976 < z)=false:=decide_eq_false h7
 by_cases h8:1152921504606846976 < lk
 .have q8:decide (1152921504606846976 < lk)=true:=decide_eq_true h8
  rw[if_pos (by rcases Int.lt_or_le 1152921504606846976 (mx2 (mx2 (mx2 u F) z) lk) with h | h; exact h; rw[mx2_le,mx2_le,mx2_le] at h; omega)]
  clear h5 h6 h7 h8
  go_enter Tryz.func64,Tryz.ntmps64
  go_wp2_with fail
  go_ret
  exact⟨rfl,(Below.refl _ _).alloc (Nat.le_refl _) _⟩
 have q8:decide (1152921504606846976 < lk)=false:=decide_eq_false h8
 rw[if_neg (by rw[Int.not_lt,mx2_le,mx2_le,mx2_le]; omega)]
 clear h5 h6 h7 h8
 go_enter Tryz.func64,Tryz.ntmps64
 go_wp2_with fail
 refine (Q.out _).mono ?_
 rintro e w1 ⟨rfl,rfl⟩
 go_wp2_with fail
 go_ret
 exact⟨rfl,(Below.refl _ _).alloc (Nat.le_refl _) _⟩
theorem under_c:Tryz.prog.underlying 50=some (Tryz.prog.underlying 50).get!:=by kernel_rfl
theorem row_c:((Tryz.prog.underlying 50).get!).isRow=true:=by kernel_rfl
end Go.Proofs.YtoiklelghfckgaaGreatDoor.Cn
end
section
set_option maxRecDepth 100000
set_option linter.unusedVariables false
namespace Go.Proofs.YtoiklelghfckgaaGreatDoor.Wo
open Go Go.ChangeShapes Go.WideShapes Go.ChangeAt Go.RowKit Go.Maps Rw Hi Mt Ba
open Cn (Cf cfE)
theorem awake16_any (w:World) (hT:Tb.Tabs w) :
  Calls Tryz.prog 178 #[] w fun e w'=>e=.returned (.bool true)/\Below w.heap.size w w':=by
 have HT:=Lh hT
 have J:=Lh (new_ok ⟨1,0,0,0,0,0,0⟩ ⟨by decide,by decide,by decide,by decide,by decide⟩ (by decide +kernel) none none 0 0 0 0 0 0 [] [] w Rd.nil_ Rd.nil_ (Nat.zero_le _) (Nat.zero_le _) (by decide) (by decide))
 clear hT
 go_enter Tryz.func178,Tryz.ntmps178
 go_wp2_with fail
 refine J.out.mono ?_
 rintro e w1 ⟨x,col,rfl,Y,b1⟩
 have I:=Lh Y
 have h:=Lh b1
 clear Y b1 J
 go_wp2_with fail
 refine (Ba.Awake15_any _ (HT.out.below h.out)).mono ?_
 rintro e w2 ⟨rfl,z⟩
 have u:=Lh (I.out.later z)
 have F:=Lh (h.out.trans (z.mono h.out.size))
 clear z I
 go_wp2_with fail
 refine (grow_any w2 u.out (by decide) (by decide)).mono ?_
 rintro e w3 ⟨rfl,h3,z3⟩
 have H3:=Lh h3
 have G:=Lh (F.out.trans (z3.below F.out.size (fun g hg=>u.out.lo g (by omega))))
 clear h3 z3
 go_wp2_with fail
 refine (grow_any w3 H3.out (by decide) (by decide)).mono ?_
 rintro e w4 ⟨rfl,h4,z4⟩
 have B4:=Lh (G.out.trans (z4.below G.out.size (fun g hg=>u.out.lo g (by omega))))
 clear h4 z4
 go_wp2_with fail
 go_ret
 exact⟨rfl,B4.out⟩
theorem Awake16_any (w:World) (u:Tb.Tabs w) :
  Calls Tryz.prog 125 #[] w fun e w'=>e=.returned (.bool true)/\Below w.heap.size w w':=by
 go_enter Tryz.func125,Tryz.ntmps125
 go_wp2_with fail
 refine (awake16_any w u).mono ?_
 rintro e z ⟨rfl,h⟩
 go_wp2_with fail
 go_ret
 exact⟨rfl,h⟩
def encY (a:Ay):List Value:=[.int .u8 a.do_,.int .u64 a.id,.int .u64 a.n,.int .i64 a.th,.int .i64 a.st]
theorem encY_len (a:Ay):(encY a).length=5:=rfl
theorem actY_at {w:World} {B:Nat} {A:Option Addr} {n c:Nat} {xs:List Ay} (h:Rs encY 5 w B A n c xs) {k:Nat} (hk:k < n) :
  ∃ b o x,A=some ⟨b,o,none⟩/\b < B/\xs[k]? = some x/\w.cell? ⟨b,o+k * 5,none⟩=some (.int .u8 x.do_)/\w.cell? ⟨b,o+k * 5+1,none⟩=some (.int .u64 x.id)/\w.cell? ⟨b,o+k * 5+2,none⟩=some (.int .u64 x.n)/\w.cell? ⟨b,o+k * 5+3,none⟩=some (.int .i64 x.th)/\w.cell? ⟨b,o+k * 5+4,none⟩=some (.int .i64 x.st):=by
 obtain⟨b,o,x,hA,u,hx,hc⟩:=h.get hk
 exact⟨b,o,x,hA,u,hx,hc 0 _ (by omega) rfl,hc 1 _ (by omega) rfl,hc 2 _ (by omega) rfl,hc 3 _ (by omega) rfl,hc 4 _ (by omega) rfl⟩
abbrev ccs (c:Cf):List Value:=[.int .i64 c.max,.int .i64 c.min,.int .u64 c.idle,.int .u64 c.life,.int .u64 c.keep,.int .u64 c.leak,.float .f64 c.var]
theorem th_conf (w:World):(w.alloc (.cells #[.int .i64 0,.int .i64 0,.int .u64 0,.int .u64 0,.int .u64 0,.int .u64 0,.float .f64 0] 50)).there w.heap.size 0 7:=by
 have h:(w.alloc (.cells #[.int .i64 0,.int .i64 0,.int .u64 0,.int .u64 0,.int .u64 0,.int .u64 0,.float .f64 0] 50)).heap[w.heap.size]? = some (.cells #[.int .i64 0,.int .i64 0,.int .u64 0,.int .u64 0,.int .u64 0,.int .u64 0,.float .f64 0] 50):=heap_alloc_last _ _
 intro j u
 refine⟨?_,?_⟩
 .rw[cell_of_row _ _ _ _ _ _ h]; simp; omega
 .unfold World.frozen?; simp only[h]; rfl
section
variable {ops:Array Oper} {rest:List Oper} {op:Oper} {a:Act} {w:World} {Q:Exit->Act->World->Prop}
theorem load_c (u:op.guard=none) (y:Operand) (z:op.op=.load 50 y) (g:Nat) (hx:a.eval y=.pointer (some ⟨g,0,none⟩)) (c:Cf) (hv:w.rangeAt g 0 (ccs c))
  (h:wpList Tryz.prog ops Q rest (a.put op.dst c.v) w):wpList Tryz.prog ops Q (op :: rest) a w:=
 wpList_load_mid u 50 y z g 0 hx _ _ hv Cn.under_c Cn.row_c (by kernel_rfl) h
end
def zs:Ws:=⟨⟨0,0,0,0,0,0,0⟩,0,[],[],fun _=>[],[],0,[],[],[],[],[],0,[],0,[],0,false⟩
theorem hr3lt {w:World} {g:Nat} {c:Cf} (h:w.rangeAt g 0 (ccs c)):g < w.heap.size:=by
 have:=h 0 _ rfl
 exact Lw.ltH this
section
variable {W w w':World} {bs:Nat} {x:Wp} {c:Cf} {cb:Nat} {col col':Nat->Nat} {s s':Ws} {N N':List Int} {k k':Nat}
end
end Go.Proofs.YtoiklelghfckgaaGreatDoor.Wo
end
section
set_option linter.unusedVariables false
namespace Go.Proofs.YtoiklelghfckgaaGreatDoor.Wo
open Go Go.ChangeShapes Go.WideShapes Go.ChangeAt Go.RowKit Go.Maps Rw Hi Mt Ba
open Cn (Cf cfE)
def bLs (D:List (Int × Le.Ls)) (id th now:Int):List (Int × Le.Ls):=if Le.bE D id th=0 then ins D id ⟨th,now,false⟩ else D
def playS (s:Ws) (y:Ay):Ws:=
 if y.do_ % 8=0 then { s with now:=Ck.cAdd s.now y.n }
 else if y.do_ % 8=1 then { s with live:=grwV s.live s.conf.max }
 else if y.do_ % 8=2 then { s with live:=shrV s.live }
 else if y.do_ % 8=3 then { s with O:=(Fc.nx s.O).2,n:=opnN s.O s.n,D:=entD s.D (opnI s.O s.n) y.st s.now }
 else if y.do_ % 8=4 then (if s.closed then s else { s with S:=pubS s.D s.S y.id })
 else if y.do_ % 8=5 then { s with L:=bLs s.L y.id y.th s.now,T:=Le.bT s.leak s.L s.T y.id y.th s.now }
 else s
theorem ris_perm {β:Type} {A B:List (Int × β)} (ha:Ris A) (u:Ris B) (z:A.Perm B):A=B:=by
 exact List.Perm.eq_of_pairwise (le:=fun (a b:Int × β)=>a.1 < b.1) (fun a b _ _ h F=>absurd h (by omega)) ha u z
theorem bLs_perm {D:List (Int × Le.Ls)} (h:Le.Sd D) (id th now:Int):(Le.bL D id th now).Perm (bLs D id th now):=by
 unfold Le.bL bLs
 by_cases e:Le.bE D id th=0
 .rw[if_pos e,if_pos e]
  have F:id ∉ D.map Prod.fst:=fun z=>by
   unfold Le.bE at e
   split at e
   .cases e
   .split at e
    .cases e
    .next u=>
     exact u (by rw[fnd_is]; exact decide_eq_true z)
  exact ins_perm h F _
 .rw[if_neg e,if_neg e]
theorem bLs_sd {D:List (Int × Le.Ls)} (h:Le.Sd D) (id th now:Int):Le.Sd (bLs D id th now):=by
 unfold bLs
 split
 .exact Ris.ins h _
 .exact h
theorem bLs_eq {D u:List (Int × Le.Ls)} (h:Le.Sd D) {id th now:Int} (z:(Le.bL D id th now).Perm u) (F:Le.Sd u):u=bLs D id th now:=
 ris_perm F (bLs_sd h id th now) (z.symm.trans (bLs_perm h id th now))
theorem entD_len {D:List (Int × Ex)} (h:Ris D) (id st now:Int):(entD D id st now).length<=D.length+1:=by
 unfold entD
 split
 .next e=>
  have F:id ∉ D.map Prod.fst:=fun z=>by
   unfold eE at e
   split at e
   .cases e
   .split at e
    .cases e
    .next u=>exact u (by rw[fnd_is]; exact decide_eq_true z)
  rw[ins_len h F]
  exact Nat.le_refl _
 .omega
structure Pl (s:Ws) (N:List Int) (k:Nat):Prop where
 mk_:s.M=Le.mk N
 mx:1<=s.conf.max/\s.conf.max<=16
 lv:0<=s.live/\s.live<=s.conf.max
 nw:U64 s.now
 lk:U64 s.leak
 dl:s.D.length<=k
 sl:s.S.length<=k
 nl:s.n<=k
 cl:s.C.length<=k
 el:s.ev.length<=k
 ll:s.L.length<=k
 tl:s.T.length<=k
 ri:Ris s.D
 sd:Le.Sd s.L
 cin:∀ i∈s.C,1<=i/\i<=s.n
theorem Pl.play {s:Ws} {N:List Int} {k:Nat} (h:Pl s N k) (hk:k<=900) {y:Ay} (z:y.ok):Pl (playS s y) N (k+1):=by
 have G:=h.dl
 have Y:=h.sl
 have W:=h.nl
 have F:=h.cl
 have I:=h.el
 have J:=h.ll
 have a0:=h.tl
 have u:Pl s N (k+1):=⟨h.mk_,h.mx,h.lv,h.nw,h.lk,by omega,by omega,by omega,by omega,by omega,by omega,by omega,h.ri,h.sd,h.cin⟩
 unfold playS
 split
 .exact⟨u.mk_,u.mx,u.lv,cAdd_u64 h.nw z.n,u.lk,u.dl,u.sl,u.nl,u.cl,u.el,u.ll,u.tl,u.ri,u.sd,u.cin⟩
 split
 .exact⟨u.mk_,u.mx,by have:=h.lv; unfold grwV; show 0<=(if s.live < s.conf.max then s.live+1 else s.live)/\(if s.live < s.conf.max then s.live+1 else s.live)<=s.conf.max; split <;> omega,u.nw,u.lk,u.dl,u.sl,u.nl,u.cl,u.el,u.ll,u.tl,u.ri,u.sd,u.cin⟩
 split
 .exact⟨u.mk_,u.mx,by have:=h.lv; unfold shrV; show 0<=(if 0 < s.live then s.live - 1 else s.live)/\(if 0 < s.live then s.live - 1 else s.live)<=s.conf.max; split <;> omega,u.nw,u.lk,u.dl,u.sl,u.nl,u.cl,u.el,u.ll,u.tl,u.ri,u.sd,u.cin⟩
 split
 .refine⟨u.mk_,u.mx,u.lv,u.nw,u.lk,?_,u.sl,?_,u.cl,u.el,u.ll,u.tl,?_,u.sd,fun i hi=>?_⟩
  .show (entD s.D (opnI s.O s.n) y.st s.now).length<=k+1
   have:=entD_len h.ri (opnI s.O s.n) y.st s.now
   omega
  .show opnN s.O s.n<=k+1
   unfold opnN; split <;> omega
  .show Ris (entD s.D (opnI s.O s.n) y.st s.now)
   unfold entD; split
   .exact h.ri.ins _
   .exact h.ri
  .have:=h.cin i hi
   show 1<=i/\i<=(opnN s.O s.n:Nat)
   unfold opnN
   split <;> omega
 split
 .split
  .exact u
  .refine⟨u.mk_,u.mx,u.lv,u.nw,u.lk,u.dl,?_,u.nl,u.cl,u.el,u.ll,u.tl,u.ri,u.sd,u.cin⟩
   have:=Sn.sWith_len s.S y.id
   show (pubS s.D s.S y.id).length<=k+1
   unfold pubS; split <;> omega
 split
 .refine⟨u.mk_,u.mx,u.lv,u.nw,u.lk,u.dl,u.sl,u.nl,u.cl,u.el,?_,?_,u.ri,bLs_sd h.sd _ _ _,u.cin⟩
  .show (bLs s.L y.id y.th s.now).length<=k+1
   rw[<- (bLs_perm h.sd y.id y.th s.now).length_eq]
   have:=Le.bL_len s.L y.id y.th s.now
   omega
  .show (Le.bT s.leak s.L s.T y.id y.th s.now).length<=k+1
   have:=Le.bT_len s.leak s.L (T:=s.T) y.id y.th s.now (by omega)
   omega
 .exact u
end Go.Proofs.YtoiklelghfckgaaGreatDoor.Wo
namespace Go.Proofs.YtoiklelghfckgaaGreatDoor.Rw
open Go Go.RowKit
section
variable {P:Program} {ops:Array Oper} {Q:Exit->Act->World->Prop} {md:Region.Mode} {S S1:World->Prop} {n:Nat}
theorem reg_two (i j:Nat) {u z:Oper} {f:Nat} {h:Array Bool} {a:Act} {w:World} (hi:ops[i]? = some u) (W:ops[j]? = some z) (G:Region.ready md ops h=[i,j])
  (a0:Region.wanted u (yielded ops a.tmps)=true) (a1:Region.wanted z (yielded ops a.tmps)=true)
  (I:u.wp P a w (fun a' w'=>(i < n->S w')/\wpAnyT P md ops Q n S f (h.setIfInBounds i true) a' w') Q)
  (J:z.wp P a w (fun a' w'=>(j < n->S w')/\wpAnyT P md ops Q n S f (h.setIfInBounds j true) a' w') Q):wpAnyT P md ops Q n S (f+1) h a w:=by
 refine⟨fun F=>(by rw[G] at F; cases F),fun k hk=>?_⟩
 rw[G] at hk
 have Y:k=i\/k=j:=by simpa using hk
 rcases Y with e | e
 .subst e
  unfold wpOp
  simp only[hi,a0,if_true]
  exact .inl I
 .subst e
  unfold wpOp
  simp only[W,a1,if_true]
  exact .inl J
end
structure Fr2 (ga gw:Option Nat) (w0 w:World):Prop where
 os:w.os=w0.os
 tape:w.tape=w0.tape
 output:w.output=w0.output
 size:w0.heap.size<=w.heap.size
 block:∀ k,k < w0.heap.size->some k≠ga->some k≠gw->w.heap[k]? = w0.heap[k]?
abbrev Own:=Value × TypeId × Nat × List Value
structure S2 (t6 t7:TypeId) (ga gw:Option Nat) (w0:World) (base:Nat) (w:World) (v6:Value) (n6:Nat) (L6:List Value) (v7:Value) (n7:Nat) (L7:List Value) (pb:List Own):Prop where
 fr:Fr2 ga gw w0 w
 all:w.ownsRow base t6 1 v6 n6 L6
 was:w.ownsRow base t7 1 v7 n7 L7
 oa:v6.ownBlock=ga \/ ∃ b,v6.ownBlock=some b/\w0.heap.size<=b
 ow:v7.ownBlock=gw \/ ∃ b,v7.ownBlock=some b/\w0.heap.size<=b
 ne:∀ b,v6.ownBlock=some b->v7.ownBlock≠some b
 prot:∀ p∈pb,w.ownsRow 0 p.2.1 1 p.1 p.2.2.1 p.2.2.2 /\ ∀ b,p.1.ownBlock=some b->v6.ownBlock≠some b/\v7.ownBlock≠some b
section
variable {t6 t7:TypeId} {ga gw:Option Nat} {w0:World} {base:Nat} {w w':World} {v6 v7:Value} {n6 n7:Nat} {L6 L7:List Value} {pb:List Own}
end
end Go.Proofs.YtoiklelghfckgaaGreatDoor.Rw
end
section
set_option maxRecDepth 100000
set_option maxHeartbeats 8000000
set_option linter.unusedVariables false
namespace Go.Proofs.YtoiklelghfckgaaGreatDoor.Wo
open Go Go.ChangeShapes Go.WideShapes Go.ChangeAt Go.RowKit Go.Maps Rw Hi Mt Ba
open Cn (Cf cfE)
abbrev Kc (base:Nat) (col:Nat->Nat) (g:Nat):Prop:=col g=0/\base<=g
section
variable {w w':World} {base:Nat} {col col':Nat->Nat} {x:Wp} {s:Ws} {d:Nat} {v:Dv} {y:Ay} {N:List Int} {k:Nat}
theorem Dw.call (h:Dw (Kc base col) w v s N) (G:Fw col w w') (z:El w col col'):Dw (Kc base col') w' v s N:=
 (h.mono (L:=Kc base col') (fun g u e=>⟨(z g u).trans e.1,e.2⟩)).fz G (fun g u e F=>F.1 ((z g u).symm.trans e.1))
theorem Dw.at_ (h:Dw (Kc base col) w v s N) (hc:col d=8) (z:Fz (fun k=>k=d) w w'):Dw (Kc base col) w' v s N:=
 h.fz z (fun g F e u=>by subst u; have e:col g=0:=e.1; omega)
theorem Wv.new0 (h:Wv base col w x s):∀ g,w.heap.size<=g->Kc base col g:=fun g u=>⟨Classical.byContradiction fun e=>by have:=h.hi g e; omega,Nat.le_trans h.base_le u⟩
theorem Wv.permL (h:Wv base col w x s) {u:List (Int × Le.Ls)} (z:s.L.Perm u):Wv base col w x { s with L:=u }:=by
 obtain⟨r,q,h,hi⟩:=h
 exact⟨r,q,⟨h.cells.to rfl rfl rfl rfl rfl rfl rfl rfl rfl rfl rfl,h.bag,h.loc,h.slots,h.book.permL z,h.fact,h.hist,h.kl,h.ks,h.kb,h.kf,h.kh,h.kw,h.lo⟩,hi⟩
theorem playS1 (hk:y.do_ % 8=1):playS s y = { s with live:=grwV s.live s.conf.max }:=by unfold playS; rw[if_neg (by omega),if_pos hk]
theorem playS3 (hk:y.do_ % 8=3):playS s y = { s with O:=(Fc.nx s.O).2,n:=opnN s.O s.n,D:=entD s.D (opnI s.O s.n) y.st s.now }:=by unfold playS; rw[if_neg (by omega),if_neg (by omega),if_neg (by omega),if_pos hk]
theorem playS4 (hk:y.do_ % 8=4) (hc:s.closed=false):playS s y = { s with S:=pubS s.D s.S y.id }:=by unfold playS; rw[if_neg (by omega),if_neg (by omega),if_neg (by omega),if_neg (by omega),if_pos hk,hc]; rfl
theorem playS5 (hk:y.do_ % 8=5):playS s y = { s with L:=bLs s.L y.id y.th s.now,T:=Le.bT s.leak s.L s.T y.id y.th s.now }:=by unfold playS; rw[if_neg (by omega),if_neg (by omega),if_neg (by omega),if_neg (by omega),if_neg (by omega),if_pos hk]
end
structure Tw (base:Nat) (col:Nat->Nat) (w:World) (x:Wp) (v:Dv) (d:Nat) (s:Ws) (N:List Int):Prop where
 wv:Wv base col w x s
 dw:Dw (Kc base col) w v s N
 vw:Vw w d (v.cells s)
 c8:col d=8
section
variable (w:World) {base:Nat} {col:Nat->Nat} {x:Wp} {s:Ws} {d:Nat} {v:Dv} {y:Ay} {N:List Int} {k:Nat}
abbrev Plays (w:World) (base:Nat) (col:Nat->Nat) (x:Wp) (s:Ws) (d:Nat) (y:Ay) (N:List Int):Prop:=
 Calls Tryz.prog 34 #[y.val,ptr x.pw,ptr d] w fun e w'=>e=.returned (.bool true) /\ ∃ col' v',Tw base col' w' x v' d (playS s y) N/\Fp col d w w'/\El w col col'
theorem Tw.fp {w':World} {z:Ws} (h:Tw base col w x v d s N) (F:Wv base col w' x z) (G:Vw w' d (v.cells z)) (J:Fp col d w w') (I:Dw (Kc base col) w' v s N->Dw (Kc base col) w' v z N):Tw base col w' x v d z N:=
 ⟨F,I (h.dw.fz J (fun g Q e u=>by
  have e:col g=0:=e.1
  rcases u with u | u
  .exact u.1 e
  .have:=h.c8; subst u; omega)),G,h.c8⟩
theorem playT1 (h:Tw base col w x v d s N) (u:Pl s N k) (I:y.ok) (hk:y.do_ % 8=1):Plays w base col x s d y N:=by
 refine (play1 w hk I h.wv h.vw h.c8 ⟨u.lv.1,by have:=u.mx; omega⟩ ⟨u.lv.1,by have:=u.mx; omega⟩).mono ?_
 rintro e w' ⟨rfl,F,G,z⟩
 exact⟨by simp,col,v,by rw[playS1 hk]; exact h.fp w F G z (fun q=>q.own_ s.conf s.now _ s.closed),z,El.refl _ _⟩
theorem playT4 (h:Tw base col w x v d s N) (hp:Pl s N k) (aU:k<=900) (hN:N.length<=900) (hy:y.ok) (hk:y.do_ % 8=4) (aw:s.closed=false):Plays w base col x s d y N:=by
 unfold Plays
 rw[playS4 hk aw]
 have m0:(y.do_ % 8 == 0)=false:=by rw[hk]; rfl
 have aW:((y.do_).tmod 8 == 0)=false:=by rw[Int.tmod_eq_emod_of_nonneg hy.d.1,hk]; rfl
 have m1:(y.do_ % 8 == 1)=false:=by rw[hk]; rfl
 have aX:((y.do_).tmod 8 == 1)=false:=by rw[Int.tmod_eq_emod_of_nonneg hy.d.1,hk]; rfl
 have m2:(y.do_ % 8 == 2)=false:=by rw[hk]; rfl
 have aY:((y.do_).tmod 8 == 2)=false:=by rw[Int.tmod_eq_emod_of_nonneg hy.d.1,hk]; rfl
 have m3:(y.do_ % 8 == 3)=false:=by rw[hk]; rfl
 have aZ:((y.do_).tmod 8 == 3)=false:=by rw[Int.tmod_eq_emod_of_nonneg hy.d.1,hk]; rfl
 have m4:(y.do_ % 8 == 4)=true:=by rw[hk]; rfl
 have b2:((y.do_).tmod 8 == 4)=true:=by rw[Int.tmod_eq_emod_of_nonneg hy.d.1,hk]; rfl
 obtain⟨J,af⟩:∃ J:Ws,({ s with S:=pubS s.D s.S y.id } : Ws)=J:=⟨_,rfl⟩
 have aM:=hp.dl
 have aQ:=hp.sl
 have aN:=hp.ll
 have aS:=hp.tl
 obtain⟨b0,a1⟩:∃ b:Bool,(kn s.D y.id == 0)=b:=⟨_,rfl⟩
 have ar:=Lh (show ∀ (K:Nat->Prop) W,Dw K W v s N->(∀ g,W.heap.size<=g->K g)->Calls Tryz.prog 76 #[v.val s,.int .u64 y.id] W fun e w'=>∃ I:Dv,e=.returned (.tuple #[I.val J,.bool b0])/\Dw K w' I J N/\Below W.heap.size W w' from fun K W hd hK=>by
  have q:=dpublish_no W v s N hd hK y.id (by omega) (by omega) aw
  rw[af,a1] at q
  exact q)
 have au:=Lh (show ∀ W,Wv base col W x s->Calls Tryz.prog 77 #[ptr x.pw,.int .u64 y.id] W fun e w'=>e=.returned (.bool b0) /\ ∃ col',Wv base col' w' x J/\Fw col W w'/\El W col col' from fun W hw=>by
  have q:=wpub_open W hw y.id hy.i (by omega) aw
  rw[af,a1] at q
  exact q)
 rw[af]
 have Q:=Lh h
 have F:=Lh (Yc.new w y)
 have a5:Hid (Below w.heap.size w (w.alloc (.cells #[.int .u8 y.do_,.int .u64 y.id,.int .u64 y.n,.int .i64 y.th,.int .i64 y.st] 103))):=Lh ((Below.refl _ _).alloc (Nat.le_refl _) _)
 clear a1
 clear hk hy h hp af aM aQ aN aS aw
 go_enter Tryz.func34,Tryz.ntmps34
 go_upto_region 1 with (fail)
 generalize (w.alloc (.cells #[.int .u8 y.do_,.int .u64 y.id,.int .u64 y.n,.int .i64 y.th,.int .i64 y.st] 103))=z at *
 have av:=Lh (Q.out.wv.later a5.out)
 have a8:=Lh (Q.out.vw.later a5.out)
 have aG:=Lh (Q.out.dw.later a5.out)
 obtain⟨q,hq⟩:∃ q,w.heap.size=q:=⟨_,rfl⟩
 have aJ:q≠d:=fun e=>by have:=Q.out.vw.lt; omega
 have aV:w.heap.size<=q:=by omega
 rw[hq] at F
 rw[hq]
 obtain⟨z0,z1,z2,z3,z4⟩:=F.out
 have aH:=Lh aJ
 have aT:Hid (col q=0):=Lh (Classical.byContradiction fun e=>by have:=Q.out.wv.hi q e; omega)
 clear hq aJ
 go_wp2_with fail
 have a1:Below z.heap.size z z.drew:=(Below.refl _ _).drew
 have u:Hid (Vw z.drew d (v.cells s)/\z.drew.cell? ⟨q,1,none⟩=some (.int .u64 y.id)):=Lh ⟨a8.out.later a1,(a1.cell (p:=⟨q,1,none⟩) F.out.lt).trans F.out.z1⟩
 clear z0 z1 z2 z3 z4
 refine rgS 12 (fun w'=>Vw w' d (v.cells s)/\w'.cell? ⟨q,1,none⟩=some (.int .u64 y.id)) (by kernel_rfl) (by kernel_rfl) ?_
 intro aI
 have Y:=Lh aI
 clear aI
 refine rq 0 Y.out u.out rfl ?_
 refine rq 1 Y.out u.out rfl ?_
 refine rl 2 Y.out u.out rfl ?_
 apply Exists.intro
 refine⟨fun w' hw=>exec_load_w _ _ _ rfl rfl hw.1,?_⟩
 refine rq 3 Y.out u.out rfl ?_
 refine rq 4 Y.out u.out rfl ?_ (hv:=fun w' hw=>by (have kz:=hw.2; go_simp; exact rfl))
 refine reg_two 5 9 rfl rfl (by kernel_rfl) rfl rfl ?_ ?_
 .as_aux_lemma=>
   unfold Oper.wp
   go_simp
   refine (ar.out (Kc base col) _ (aG.out.later a1) (fun g hg=>av.out.new0 g hg)).mono ?_
   rintro e G ⟨I,rfl,ak,b3⟩
   have a0:Below z.heap.size z G:=a1.trans (b3.mono (Nat.le_refl _))
   clear u
   have u:Hid (Vw G d (v.cells s)/\G.cell? ⟨q,1,none⟩=some (.int .u64 y.id)):=Lh ⟨a8.out.later a0,(a0.cell (p:=⟨q,1,none⟩) F.out.lt).trans F.out.z1⟩
   refine⟨u.out,?_⟩
   have ah:=Lh ak
   clear ak b3
   refine rq 6 Y.out u.out rfl ?_
   refine rq 7 Y.out u.out rfl ?_
   refine rq 8 Y.out u.out rfl ?_
   refine rO 9 rfl (by kernel_rfl) rfl ?_
   unfold Oper.wp
   go_simp
   have ad:Below G.heap.size G (G.alloc (.cells #[.int .i64 0,.int .i64 0,.int .u64 0,.int .u64 0,.int .u64 0,.int .u64 0,.float .f64 0,.int .u64 0,.slice none 0 0,.slice none 0 0,.slice none 0 0,.slice none 0 0,.int .u64 0,.slice none 0 0,.slice none 0 0,.slice none 0 0,.slice none 0 0,.slice none 0 0,.slice none 0 0,.int .u64 0,.slice none 0 0,.int .i64 0,.bool false] 46)):=(Below.refl _ _).alloc (Nat.le_refl _) _
   have a2:Below z.heap.size z (G.alloc (.cells #[.int .i64 0,.int .i64 0,.int .u64 0,.int .u64 0,.int .u64 0,.int .u64 0,.float .f64 0,.int .u64 0,.slice none 0 0,.slice none 0 0,.slice none 0 0,.slice none 0 0,.int .u64 0,.slice none 0 0,.slice none 0 0,.slice none 0 0,.slice none 0 0,.slice none 0 0,.slice none 0 0,.int .u64 0,.slice none 0 0,.int .i64 0,.bool false] 46)):=a0.trans (ad.mono a0.size)
   clear u
   have u:Hid (Vw (G.alloc (.cells #[.int .i64 0,.int .i64 0,.int .u64 0,.int .u64 0,.int .u64 0,.int .u64 0,.float .f64 0,.int .u64 0,.slice none 0 0,.slice none 0 0,.slice none 0 0,.slice none 0 0,.int .u64 0,.slice none 0 0,.slice none 0 0,.slice none 0 0,.slice none 0 0,.slice none 0 0,.slice none 0 0,.int .u64 0,.slice none 0 0,.int .i64 0,.bool false] 46)) d (v.cells s)/\(G.alloc (.cells #[.int .i64 0,.int .i64 0,.int .u64 0,.int .u64 0,.int .u64 0,.int .u64 0,.float .f64 0,.int .u64 0,.slice none 0 0,.slice none 0 0,.slice none 0 0,.slice none 0 0,.int .u64 0,.slice none 0 0,.slice none 0 0,.slice none 0 0,.slice none 0 0,.slice none 0 0,.slice none 0 0,.int .u64 0,.slice none 0 0,.int .i64 0,.bool false] 46)).cell? ⟨q,1,none⟩=some (.int .u64 y.id)):=Lh ⟨a8.out.later a2,(a2.cell (p:=⟨q,1,none⟩) F.out.lt).trans F.out.z1⟩
   refine⟨u.out,?_⟩
   refine rO 10 rfl (by kernel_rfl) rfl ?_
   refine wp_store_w _ _ rfl G.heap.size rfl I J rfl (th_zero G) ?_
   intro w4 an ag
   have aE:Below G.heap.size G w4:=ad.trans (ag.below ad.size (fun k hk=>by omega))
   have a3:Below z.heap.size z w4:=a0.trans (aE.mono a0.size)
   clear u
   have u:Hid (Vw w4 d (v.cells s)/\w4.cell? ⟨q,1,none⟩=some (.int .u64 y.id)):=Lh ⟨a8.out.later a3,(a3.cell (p:=⟨q,1,none⟩) F.out.lt).trans F.out.z1⟩
   refine⟨fun _=>u.out,?_⟩
   have ai:=Lh an
   have ax:=Lh (ah.out.later aE)
   have a6:=Lh a3
   have aA:=Lh (av.out.later a3)
   clear an ag a1 a0 ad a2 aE a3 ah
   obtain⟨g,hg⟩:∃ g,G.heap.size=g:=⟨_,rfl⟩
   rw[hg] at ai
   rw[hg]
   clear hg
   refine rq 11 Y.out u.out rfl ?_
   refine rgD (by kernel_rfl) ?_
   have aL:=Lh u.out.1
   have az:=Lh u.out.1.th
   have aa:=Lh (F.out.later a6.out)
   obtain⟨z0,z1,z2,z3,z4⟩:=aa.out
   clear u ar
   go_wp2_with (first
    | (refine load_w rfl _ rfl g rfl I J ai.out ?_)
    | (refine store_w rfl _ _ rfl d rfl I J rfl az.out ?_; intro w5 ao ae; have a9:=Lh ao; have a4:=Lh ae; have aD:=Lh (aa.out.blk (ae.block q aa.out.lt aH.out)); clear ao ae z0 z1 z2 z3 z4; obtain⟨z0,z1,z2,z3,z4⟩:=aD.out))
   have aB:Hid (Wv base col w5 x s):=Lh (aA.out.aside a4.out (fun g _ e=>e ▸ Q.out.c8))
   have ay:Hid (Dw (Kc base col) w5 I J N):=Lh (ax.out.at_ Q.out.c8 a4.out)
   refine (au.out w5 aB.out).mono ?_
   rintro e w6 ⟨rfl,aj,h6,aq,al⟩
   have aC:=Lh h6
   have ac:=Lh aq
   have a7:=Lh al
   clear h6 aq al au
   go_wp2_with fail
   go_ret
   have aO:=a5.out.size
   have af:=a6.out.size
   have aP:=a4.out.size
   have aF:aj d=8:=(a7.out d a9.out.lt).trans Q.out.c8
   refine⟨by simp,aj,I,⟨aC.out,ay.out.call ac.out a7.out,a9.out.blk (ac.out.block d a9.out.lt (fun e=>e.2 Q.out.c8)),aF⟩,?_,fun k hk=>a7.out k (by omega)⟩
   exact (Fz.of_below a5.out).trans ((Fz.of_below a6.out).trans ((fp_d a4.out).trans (fp_w ac.out)))
 .as_aux_lemma=>
   unfold Oper.wp
   go_simp
   have ad:Below z.drew.heap.size z.drew (z.drew.alloc (.cells #[.int .i64 0,.int .i64 0,.int .u64 0,.int .u64 0,.int .u64 0,.int .u64 0,.float .f64 0,.int .u64 0,.slice none 0 0,.slice none 0 0,.slice none 0 0,.slice none 0 0,.int .u64 0,.slice none 0 0,.slice none 0 0,.slice none 0 0,.slice none 0 0,.slice none 0 0,.slice none 0 0,.int .u64 0,.slice none 0 0,.int .i64 0,.bool false] 46)):=(Below.refl _ _).alloc (Nat.le_refl _) _
   have a2:Below z.heap.size z (z.drew.alloc (.cells #[.int .i64 0,.int .i64 0,.int .u64 0,.int .u64 0,.int .u64 0,.int .u64 0,.float .f64 0,.int .u64 0,.slice none 0 0,.slice none 0 0,.slice none 0 0,.slice none 0 0,.int .u64 0,.slice none 0 0,.slice none 0 0,.slice none 0 0,.slice none 0 0,.slice none 0 0,.slice none 0 0,.int .u64 0,.slice none 0 0,.int .i64 0,.bool false] 46)):=a1.trans (ad.mono (Nat.le_refl _))
   clear u
   have u:Hid (Vw (z.drew.alloc (.cells #[.int .i64 0,.int .i64 0,.int .u64 0,.int .u64 0,.int .u64 0,.int .u64 0,.float .f64 0,.int .u64 0,.slice none 0 0,.slice none 0 0,.slice none 0 0,.slice none 0 0,.int .u64 0,.slice none 0 0,.slice none 0 0,.slice none 0 0,.slice none 0 0,.slice none 0 0,.slice none 0 0,.int .u64 0,.slice none 0 0,.int .i64 0,.bool false] 46)) d (v.cells s)/\(z.drew.alloc (.cells #[.int .i64 0,.int .i64 0,.int .u64 0,.int .u64 0,.int .u64 0,.int .u64 0,.float .f64 0,.int .u64 0,.slice none 0 0,.slice none 0 0,.slice none 0 0,.slice none 0 0,.int .u64 0,.slice none 0 0,.slice none 0 0,.slice none 0 0,.slice none 0 0,.slice none 0 0,.slice none 0 0,.int .u64 0,.slice none 0 0,.int .i64 0,.bool false] 46)).cell? ⟨q,1,none⟩=some (.int .u64 y.id)):=Lh ⟨a8.out.later a2,(a2.cell (p:=⟨q,1,none⟩) F.out.lt).trans F.out.z1⟩
   refine⟨u.out,?_⟩
   have aR:(z.drew.alloc (.cells #[.int .i64 0,.int .i64 0,.int .u64 0,.int .u64 0,.int .u64 0,.int .u64 0,.float .f64 0,.int .u64 0,.slice none 0 0,.slice none 0 0,.slice none 0 0,.slice none 0 0,.int .u64 0,.slice none 0 0,.slice none 0 0,.slice none 0 0,.slice none 0 0,.slice none 0 0,.slice none 0 0,.int .u64 0,.slice none 0 0,.int .i64 0,.bool false] 46)).heap.size=z.heap.size+1:=by simp
   refine rO 5 rfl (by kernel_rfl) rfl ?_
   unfold Oper.wp
   go_simp
   refine (ar.out (fun k=>Kc base col k/\k≠z.heap.size) _ ((aG.out.mono (fun k hk e=>⟨e,by omega⟩)).later a2) (fun k hk=>⟨av.out.new0 k (by have:=a2.size; omega),by rw[aR] at hk; omega⟩)).mono ?_
   rintro e G ⟨I,rfl,ak,b3⟩
   have a0:Below z.heap.size z G:=a2.trans (b3.mono a2.size)
   have aK:=th_later (th_zero z.drew) b3
   clear u
   have u:Hid (Vw G d (v.cells s)/\G.cell? ⟨q,1,none⟩=some (.int .u64 y.id)):=Lh ⟨a8.out.later a0,(a0.cell (p:=⟨q,1,none⟩) F.out.lt).trans F.out.z1⟩
   refine⟨u.out,?_⟩
   have ah:=Lh ak
   clear ak b3
   refine rq 6 Y.out u.out rfl ?_
   refine rq 7 Y.out u.out rfl ?_
   refine rq 8 Y.out u.out rfl ?_
   refine rO 10 rfl (by kernel_rfl) rfl ?_
   refine wp_store_w _ _ rfl z.heap.size rfl I J rfl aK ?_
   intro w4 an ag
   have a3:Below z.heap.size z w4:=a0.trans (ag.below a0.size (fun k hk=>by omega))
   clear u
   have u:Hid (Vw w4 d (v.cells s)/\w4.cell? ⟨q,1,none⟩=some (.int .u64 y.id)):=Lh ⟨a8.out.later a3,(a3.cell (p:=⟨q,1,none⟩) F.out.lt).trans F.out.z1⟩
   refine⟨fun _=>u.out,?_⟩
   have ai:=Lh an
   have ax:Hid (Dw (Kc base col) w4 I J N):=Lh ((ah.out.fz ag (fun k hk e e2=>e.2 e2)).mono (fun k hk e=>e.1))
   have a6:=Lh a3
   have aA:=Lh (av.out.later a3)
   clear an ag a1 a0 ad a2 a3 ah aK
   obtain⟨g,hg⟩:∃ g,z.heap.size=g:=⟨_,rfl⟩
   rw[hg] at ai
   rw[hg]
   clear hg
   refine rq 11 Y.out u.out rfl ?_
   refine rgD (by kernel_rfl) ?_
   have aL:=Lh u.out.1
   have az:=Lh u.out.1.th
   have aa:=Lh (F.out.later a6.out)
   obtain⟨z0,z1,z2,z3,z4⟩:=aa.out
   clear u ar
   go_wp2_with (first
    | (refine load_w rfl _ rfl g rfl I J ai.out ?_)
    | (refine store_w rfl _ _ rfl d rfl I J rfl az.out ?_; intro w5 ao ae; have a9:=Lh ao; have a4:=Lh ae; have aD:=Lh (aa.out.blk (ae.block q aa.out.lt aH.out)); clear ao ae z0 z1 z2 z3 z4; obtain⟨z0,z1,z2,z3,z4⟩:=aD.out))
   have aB:Hid (Wv base col w5 x s):=Lh (aA.out.aside a4.out (fun g _ e=>e ▸ Q.out.c8))
   have ay:Hid (Dw (Kc base col) w5 I J N):=Lh (ax.out.at_ Q.out.c8 a4.out)
   refine (au.out w5 aB.out).mono ?_
   rintro e w6 ⟨rfl,aj,h6,aq,al⟩
   have aC:=Lh h6
   have ac:=Lh aq
   have a7:=Lh al
   clear h6 aq al au
   go_wp2_with fail
   go_ret
   have aO:=a5.out.size
   have af:=a6.out.size
   have aP:=a4.out.size
   have aF:aj d=8:=(a7.out d a9.out.lt).trans Q.out.c8
   refine⟨by simp,aj,I,⟨aC.out,ay.out.call ac.out a7.out,a9.out.blk (ac.out.block d a9.out.lt (fun e=>e.2 Q.out.c8)),aF⟩,?_,fun k hk=>a7.out k (by omega)⟩
   exact (Fz.of_below a5.out).trans ((Fz.of_below a6.out).trans ((fp_d a4.out).trans (fp_w ac.out)))
theorem playT5 (h:Tw base col w x v d s N) (hp:Pl s N k) (aS:k<=900) (hN:N.length<=900) (hy:y.ok) (hk:y.do_ % 8=5):Plays w base col x s d y N:=by
 unfold Plays
 rw[playS5 hk]
 have m0:(y.do_ % 8 == 0)=false:=by rw[hk]; rfl
 have aU:((y.do_).tmod 8 == 0)=false:=by rw[Int.tmod_eq_emod_of_nonneg hy.d.1,hk]; rfl
 have m1:(y.do_ % 8 == 1)=false:=by rw[hk]; rfl
 have aV:((y.do_).tmod 8 == 1)=false:=by rw[Int.tmod_eq_emod_of_nonneg hy.d.1,hk]; rfl
 have m2:(y.do_ % 8 == 2)=false:=by rw[hk]; rfl
 have aW:((y.do_).tmod 8 == 2)=false:=by rw[Int.tmod_eq_emod_of_nonneg hy.d.1,hk]; rfl
 have m3:(y.do_ % 8 == 3)=false:=by rw[hk]; rfl
 have aX:((y.do_).tmod 8 == 3)=false:=by rw[Int.tmod_eq_emod_of_nonneg hy.d.1,hk]; rfl
 have m4:(y.do_ % 8 == 4)=false:=by rw[hk]; rfl
 have aY:((y.do_).tmod 8 == 4)=false:=by rw[Int.tmod_eq_emod_of_nonneg hy.d.1,hk]; rfl
 have m5:(y.do_ % 8 == 5)=true:=by rw[hk]; rfl
 have aZ:((y.do_).tmod 8 == 5)=true:=by rw[Int.tmod_eq_emod_of_nonneg hy.d.1,hk]; rfl
 obtain⟨Y,ae⟩:∃ Y:Ws,({ s with L:=bLs s.L y.id y.th s.now,T:=Le.bT s.leak s.L s.T y.id y.th s.now } : Ws)=Y:=⟨_,rfl⟩
 have aK:=hp.dl
 have aO:=hp.sl
 have aL:=hp.ll
 have aQ:=hp.tl
 obtain⟨b0,a2⟩:∃ b:Int,Le.bE s.L y.id y.th=b:=⟨_,rfl⟩
 have aq:=Lh (show ∀ (K:Nat->Prop) W,Dw K W v s N->(∀ g,W.heap.size<=g->K g)->Calls Tryz.prog 78 #[v.val s,.int .u64 y.id,.int .i64 y.th] W fun e w'=>∃ I:Dv,e=.returned (.tuple #[I.val Y,.int .i64 b0])/\Dw K w' I Y N/\Below W.heap.size W w' from fun K W hd hK=>by
  refine (dlease_any W v s N hd hK y.id y.th hp.sd h.wv.book.wheel.tms hy.i hp.nw hp.lk (by omega) (by omega) (by omega)).mono ?_
  rintro e w' ⟨I,D',rfl,h1,h2,h3,h4⟩
  obtain rfl:=bLs_eq hp.sd h2 h3
  rw[ae] at h1 ⊢
  rw[a2]
  exact⟨I,rfl,h1,h4⟩)
 have ar:=Lh (show ∀ W,Wv base col W x s->Calls Tryz.prog 79 #[ptr x.pw,.int .u64 y.id,.int .i64 y.th] W fun e w'=>e=.returned (.int .i64 b0) /\ ∃ col',Wv base col' w' x Y/\Fw col W w'/\El W col col' from fun W hw=>by
  refine (wlease_any W N hw hp.mk_ y.id y.th hy.i hp.nw hp.lk (by omega) (by omega)).mono ?_
  rintro e w' ⟨rfl,h1,h2⟩
  have h3:=h1.permL (bLs_perm hp.sd y.id y.th s.now)
  rw[<- ae,<- a2]
  exact⟨rfl,col,h3,h2,El.refl _ _⟩)
 rw[ae]
 have HT:=Lh h
 have z:=Lh (Yc.new w y)
 have a4:Hid (Below w.heap.size w (w.alloc (.cells #[.int .u8 y.do_,.int .u64 y.id,.int .u64 y.n,.int .i64 y.th,.int .i64 y.st] 103))):=Lh ((Below.refl _ _).alloc (Nat.le_refl _) _)
 clear a2
 clear hk hy h hp ae aK aO aL aQ
 go_enter Tryz.func34,Tryz.ntmps34
 go_upto_region 1 with (fail)
 generalize (w.alloc (.cells #[.int .u8 y.do_,.int .u64 y.id,.int .u64 y.n,.int .i64 y.th,.int .i64 y.st] 103))=F at *
 have au:=Lh (HT.out.wv.later a4.out)
 have a7:=Lh (HT.out.vw.later a4.out)
 have aE:=Lh (HT.out.dw.later a4.out)
 obtain⟨q,hq⟩:∃ q,w.heap.size=q:=⟨_,rfl⟩
 have aH:q≠d:=fun e=>by have:=HT.out.vw.lt; omega
 have aT:w.heap.size<=q:=by omega
 rw[hq] at z
 rw[hq]
 obtain⟨z0,z1,z2,z3,z4⟩:=z.out
 have aF:=Lh aH
 have aR:Hid (col q=0):=Lh (Classical.byContradiction fun e=>by have:=HT.out.wv.hi q e; omega)
 clear hq aH
 go_wp2_with fail
 have a2:Below F.heap.size F F.drew:=(Below.refl _ _).drew
 have u:Hid (Vw F.drew d (v.cells s)/\F.drew.cell? ⟨q,1,none⟩=some (.int .u64 y.id)/\F.drew.cell? ⟨q,3,none⟩=some (.int .i64 y.th)):=Lh ⟨a7.out.later a2,(a2.cell (p:=⟨q,1,none⟩) z.out.lt).trans z.out.z1,(a2.cell (p:=⟨q,3,none⟩) z.out.lt).trans z.out.z3⟩
 clear z0 z1 z2 z3 z4
 refine rgS 14 (fun w'=>Vw w' d (v.cells s)/\w'.cell? ⟨q,1,none⟩=some (.int .u64 y.id)/\w'.cell? ⟨q,3,none⟩=some (.int .i64 y.th)) (by kernel_rfl) (by kernel_rfl) ?_
 intro aG
 have J:=Lh aG
 clear aG
 refine rq 0 J.out u.out rfl ?_
 refine rq 1 J.out u.out rfl ?_
 refine rl 2 J.out u.out rfl ?_
 apply Exists.intro
 refine⟨fun w' hw=>exec_load_w _ _ _ rfl rfl hw.1,?_⟩
 refine rq 3 J.out u.out rfl ?_
 refine rq 4 J.out u.out rfl ?_ (hv:=fun w' hw=>by (have kz:=hw.2.1; go_simp; exact rfl))
 refine rq 5 J.out u.out rfl ?_
 refine rq 6 J.out u.out rfl ?_ (hv:=fun w' hw=>by (have kz:=hw.2.2; go_simp; exact rfl))
 refine reg_two 7 11 rfl rfl (by kernel_rfl) rfl rfl ?_ ?_
 .as_aux_lemma=>
   unfold Oper.wp
   go_simp
   refine (aq.out (Kc base col) _ (aE.out.later a2) (fun g hg=>au.out.new0 g hg)).mono ?_
   rintro e G ⟨I,rfl,aj,b3⟩
   have Q:Below F.heap.size F G:=a2.trans (b3.mono (Nat.le_refl _))
   clear u
   have u:Hid (Vw G d (v.cells s)/\G.cell? ⟨q,1,none⟩=some (.int .u64 y.id)/\G.cell? ⟨q,3,none⟩=some (.int .i64 y.th)):=Lh ⟨a7.out.later Q,(Q.cell (p:=⟨q,1,none⟩) z.out.lt).trans z.out.z1,(Q.cell (p:=⟨q,3,none⟩) z.out.lt).trans z.out.z3⟩
   refine⟨u.out,?_⟩
   have ag:=Lh aj
   clear aj b3
   refine rq 8 J.out u.out rfl ?_
   refine rq 9 J.out u.out rfl ?_
   refine rq 10 J.out u.out rfl ?_
   refine rO 11 rfl (by kernel_rfl) rfl ?_
   unfold Oper.wp
   go_simp
   have ac:Below G.heap.size G (G.alloc (.cells #[.int .i64 0,.int .i64 0,.int .u64 0,.int .u64 0,.int .u64 0,.int .u64 0,.float .f64 0,.int .u64 0,.slice none 0 0,.slice none 0 0,.slice none 0 0,.slice none 0 0,.int .u64 0,.slice none 0 0,.slice none 0 0,.slice none 0 0,.slice none 0 0,.slice none 0 0,.slice none 0 0,.int .u64 0,.slice none 0 0,.int .i64 0,.bool false] 46)):=(Below.refl _ _).alloc (Nat.le_refl _) _
   have a0:Below F.heap.size F (G.alloc (.cells #[.int .i64 0,.int .i64 0,.int .u64 0,.int .u64 0,.int .u64 0,.int .u64 0,.float .f64 0,.int .u64 0,.slice none 0 0,.slice none 0 0,.slice none 0 0,.slice none 0 0,.int .u64 0,.slice none 0 0,.slice none 0 0,.slice none 0 0,.slice none 0 0,.slice none 0 0,.slice none 0 0,.int .u64 0,.slice none 0 0,.int .i64 0,.bool false] 46)):=Q.trans (ac.mono Q.size)
   clear u
   have u:Hid (Vw (G.alloc (.cells #[.int .i64 0,.int .i64 0,.int .u64 0,.int .u64 0,.int .u64 0,.int .u64 0,.float .f64 0,.int .u64 0,.slice none 0 0,.slice none 0 0,.slice none 0 0,.slice none 0 0,.int .u64 0,.slice none 0 0,.slice none 0 0,.slice none 0 0,.slice none 0 0,.slice none 0 0,.slice none 0 0,.int .u64 0,.slice none 0 0,.int .i64 0,.bool false] 46)) d (v.cells s)/\(G.alloc (.cells #[.int .i64 0,.int .i64 0,.int .u64 0,.int .u64 0,.int .u64 0,.int .u64 0,.float .f64 0,.int .u64 0,.slice none 0 0,.slice none 0 0,.slice none 0 0,.slice none 0 0,.int .u64 0,.slice none 0 0,.slice none 0 0,.slice none 0 0,.slice none 0 0,.slice none 0 0,.slice none 0 0,.int .u64 0,.slice none 0 0,.int .i64 0,.bool false] 46)).cell? ⟨q,1,none⟩=some (.int .u64 y.id)/\(G.alloc (.cells #[.int .i64 0,.int .i64 0,.int .u64 0,.int .u64 0,.int .u64 0,.int .u64 0,.float .f64 0,.int .u64 0,.slice none 0 0,.slice none 0 0,.slice none 0 0,.slice none 0 0,.int .u64 0,.slice none 0 0,.slice none 0 0,.slice none 0 0,.slice none 0 0,.slice none 0 0,.slice none 0 0,.int .u64 0,.slice none 0 0,.int .i64 0,.bool false] 46)).cell? ⟨q,3,none⟩=some (.int .i64 y.th)):=Lh ⟨a7.out.later a0,(a0.cell (p:=⟨q,1,none⟩) z.out.lt).trans z.out.z1,(a0.cell (p:=⟨q,3,none⟩) z.out.lt).trans z.out.z3⟩
   refine⟨u.out,?_⟩
   refine rO 12 rfl (by kernel_rfl) rfl ?_
   refine wp_store_w _ _ rfl G.heap.size rfl I Y rfl (th_zero G) ?_
   intro w4 al af
   have aC:Below G.heap.size G w4:=ac.trans (af.below ac.size (fun k hk=>by omega))
   have a1:Below F.heap.size F w4:=Q.trans (aC.mono Q.size)
   clear u
   have u:Hid (Vw w4 d (v.cells s)/\w4.cell? ⟨q,1,none⟩=some (.int .u64 y.id)/\w4.cell? ⟨q,3,none⟩=some (.int .i64 y.th)):=Lh ⟨a7.out.later a1,(a1.cell (p:=⟨q,1,none⟩) z.out.lt).trans z.out.z1,(a1.cell (p:=⟨q,3,none⟩) z.out.lt).trans z.out.z3⟩
   refine⟨fun _=>u.out,?_⟩
   have ah:=Lh al
   have av:=Lh (ag.out.later aC)
   have a5:=Lh a1
   have ay:=Lh (au.out.later a1)
   clear al af a2 Q ac a0 aC a1 ag
   obtain⟨g,hg⟩:∃ g,G.heap.size=g:=⟨_,rfl⟩
   rw[hg] at ah
   rw[hg]
   clear hg
   refine rq 13 J.out u.out rfl ?_
   refine rgD (by kernel_rfl) ?_
   have aJ:=Lh u.out.1
   have ax:=Lh u.out.1.th
   have a9:=Lh (z.out.later a5.out)
   obtain⟨z0,z1,z2,z3,z4⟩:=a9.out
   clear u aq
   go_wp2_with (first
    | (refine load_w rfl _ rfl g rfl I Y ah.out ?_)
    | (refine store_w rfl _ _ rfl d rfl I Y rfl ax.out ?_; intro w5 an ad; have a8:=Lh an; have a3:=Lh ad; have aB:=Lh (a9.out.blk (ad.block q a9.out.lt aF.out)); clear an ad z0 z1 z2 z3 z4; obtain⟨z0,z1,z2,z3,z4⟩:=aB.out))
   have az:Hid (Wv base col w5 x s):=Lh (ay.out.aside a3.out (fun g _ e=>e ▸ HT.out.c8))
   have aw:Hid (Dw (Kc base col) w5 I Y N):=Lh (av.out.at_ HT.out.c8 a3.out)
   refine (ar.out w5 az.out).mono ?_
   rintro e w6 ⟨rfl,ai,h6,ao,ak⟩
   have aA:=Lh h6
   have aa:=Lh ao
   have a6:=Lh ak
   clear h6 ao ak ar
   go_wp2_with fail
   go_ret
   have aM:=a4.out.size
   have ae:=a5.out.size
   have aN:=a3.out.size
   have aD:ai d=8:=(a6.out d a8.out.lt).trans HT.out.c8
   refine⟨by simp,ai,I,⟨aA.out,aw.out.call aa.out a6.out,a8.out.blk (aa.out.block d a8.out.lt (fun e=>e.2 HT.out.c8)),aD⟩,?_,fun k hk=>a6.out k (by omega)⟩
   exact (Fz.of_below a4.out).trans ((Fz.of_below a5.out).trans ((fp_d a3.out).trans (fp_w aa.out)))
 .as_aux_lemma=>
   unfold Oper.wp
   go_simp
   have ac:Below F.drew.heap.size F.drew (F.drew.alloc (.cells #[.int .i64 0,.int .i64 0,.int .u64 0,.int .u64 0,.int .u64 0,.int .u64 0,.float .f64 0,.int .u64 0,.slice none 0 0,.slice none 0 0,.slice none 0 0,.slice none 0 0,.int .u64 0,.slice none 0 0,.slice none 0 0,.slice none 0 0,.slice none 0 0,.slice none 0 0,.slice none 0 0,.int .u64 0,.slice none 0 0,.int .i64 0,.bool false] 46)):=(Below.refl _ _).alloc (Nat.le_refl _) _
   have a0:Below F.heap.size F (F.drew.alloc (.cells #[.int .i64 0,.int .i64 0,.int .u64 0,.int .u64 0,.int .u64 0,.int .u64 0,.float .f64 0,.int .u64 0,.slice none 0 0,.slice none 0 0,.slice none 0 0,.slice none 0 0,.int .u64 0,.slice none 0 0,.slice none 0 0,.slice none 0 0,.slice none 0 0,.slice none 0 0,.slice none 0 0,.int .u64 0,.slice none 0 0,.int .i64 0,.bool false] 46)):=a2.trans (ac.mono (Nat.le_refl _))
   clear u
   have u:Hid (Vw (F.drew.alloc (.cells #[.int .i64 0,.int .i64 0,.int .u64 0,.int .u64 0,.int .u64 0,.int .u64 0,.float .f64 0,.int .u64 0,.slice none 0 0,.slice none 0 0,.slice none 0 0,.slice none 0 0,.int .u64 0,.slice none 0 0,.slice none 0 0,.slice none 0 0,.slice none 0 0,.slice none 0 0,.slice none 0 0,.int .u64 0,.slice none 0 0,.int .i64 0,.bool false] 46)) d (v.cells s)/\(F.drew.alloc (.cells #[.int .i64 0,.int .i64 0,.int .u64 0,.int .u64 0,.int .u64 0,.int .u64 0,.float .f64 0,.int .u64 0,.slice none 0 0,.slice none 0 0,.slice none 0 0,.slice none 0 0,.int .u64 0,.slice none 0 0,.slice none 0 0,.slice none 0 0,.slice none 0 0,.slice none 0 0,.slice none 0 0,.int .u64 0,.slice none 0 0,.int .i64 0,.bool false] 46)).cell? ⟨q,1,none⟩=some (.int .u64 y.id)/\(F.drew.alloc (.cells #[.int .i64 0,.int .i64 0,.int .u64 0,.int .u64 0,.int .u64 0,.int .u64 0,.float .f64 0,.int .u64 0,.slice none 0 0,.slice none 0 0,.slice none 0 0,.slice none 0 0,.int .u64 0,.slice none 0 0,.slice none 0 0,.slice none 0 0,.slice none 0 0,.slice none 0 0,.slice none 0 0,.int .u64 0,.slice none 0 0,.int .i64 0,.bool false] 46)).cell? ⟨q,3,none⟩=some (.int .i64 y.th)):=Lh ⟨a7.out.later a0,(a0.cell (p:=⟨q,1,none⟩) z.out.lt).trans z.out.z1,(a0.cell (p:=⟨q,3,none⟩) z.out.lt).trans z.out.z3⟩
   refine⟨u.out,?_⟩
   have aP:(F.drew.alloc (.cells #[.int .i64 0,.int .i64 0,.int .u64 0,.int .u64 0,.int .u64 0,.int .u64 0,.float .f64 0,.int .u64 0,.slice none 0 0,.slice none 0 0,.slice none 0 0,.slice none 0 0,.int .u64 0,.slice none 0 0,.slice none 0 0,.slice none 0 0,.slice none 0 0,.slice none 0 0,.slice none 0 0,.int .u64 0,.slice none 0 0,.int .i64 0,.bool false] 46)).heap.size=F.heap.size+1:=by simp
   refine rO 7 rfl (by kernel_rfl) rfl ?_
   unfold Oper.wp
   go_simp
   refine (aq.out (fun k=>Kc base col k/\k≠F.heap.size) _ ((aE.out.mono (fun k hk e=>⟨e,by omega⟩)).later a0) (fun k hk=>⟨au.out.new0 k (by have:=a0.size; omega),by rw[aP] at hk; omega⟩)).mono ?_
   rintro e G ⟨I,rfl,aj,b3⟩
   have Q:Below F.heap.size F G:=a0.trans (b3.mono a0.size)
   have aI:=th_later (th_zero F.drew) b3
   clear u
   have u:Hid (Vw G d (v.cells s)/\G.cell? ⟨q,1,none⟩=some (.int .u64 y.id)/\G.cell? ⟨q,3,none⟩=some (.int .i64 y.th)):=Lh ⟨a7.out.later Q,(Q.cell (p:=⟨q,1,none⟩) z.out.lt).trans z.out.z1,(Q.cell (p:=⟨q,3,none⟩) z.out.lt).trans z.out.z3⟩
   refine⟨u.out,?_⟩
   have ag:=Lh aj
   clear aj b3
   refine rq 8 J.out u.out rfl ?_
   refine rq 9 J.out u.out rfl ?_
   refine rq 10 J.out u.out rfl ?_
   refine rO 12 rfl (by kernel_rfl) rfl ?_
   refine wp_store_w _ _ rfl F.heap.size rfl I Y rfl aI ?_
   intro w4 al af
   have a1:Below F.heap.size F w4:=Q.trans (af.below Q.size (fun k hk=>by omega))
   clear u
   have u:Hid (Vw w4 d (v.cells s)/\w4.cell? ⟨q,1,none⟩=some (.int .u64 y.id)/\w4.cell? ⟨q,3,none⟩=some (.int .i64 y.th)):=Lh ⟨a7.out.later a1,(a1.cell (p:=⟨q,1,none⟩) z.out.lt).trans z.out.z1,(a1.cell (p:=⟨q,3,none⟩) z.out.lt).trans z.out.z3⟩
   refine⟨fun _=>u.out,?_⟩
   have ah:=Lh al
   have av:Hid (Dw (Kc base col) w4 I Y N):=Lh ((ag.out.fz af (fun k hk e e2=>e.2 e2)).mono (fun k hk e=>e.1))
   have a5:=Lh a1
   have ay:=Lh (au.out.later a1)
   clear al af a2 Q ac a0 a1 ag aI
   obtain⟨g,hg⟩:∃ g,F.heap.size=g:=⟨_,rfl⟩
   rw[hg] at ah
   rw[hg]
   clear hg
   refine rq 13 J.out u.out rfl ?_
   refine rgD (by kernel_rfl) ?_
   have aJ:=Lh u.out.1
   have ax:=Lh u.out.1.th
   have a9:=Lh (z.out.later a5.out)
   obtain⟨z0,z1,z2,z3,z4⟩:=a9.out
   clear u aq
   go_wp2_with (first
    | (refine load_w rfl _ rfl g rfl I Y ah.out ?_)
    | (refine store_w rfl _ _ rfl d rfl I Y rfl ax.out ?_; intro w5 an ad; have a8:=Lh an; have a3:=Lh ad; have aB:=Lh (a9.out.blk (ad.block q a9.out.lt aF.out)); clear an ad z0 z1 z2 z3 z4; obtain⟨z0,z1,z2,z3,z4⟩:=aB.out))
   have az:Hid (Wv base col w5 x s):=Lh (ay.out.aside a3.out (fun g _ e=>e ▸ HT.out.c8))
   have aw:Hid (Dw (Kc base col) w5 I Y N):=Lh (av.out.at_ HT.out.c8 a3.out)
   refine (ar.out w5 az.out).mono ?_
   rintro e w6 ⟨rfl,ai,h6,ao,ak⟩
   have aA:=Lh h6
   have aa:=Lh ao
   have a6:=Lh ak
   clear h6 ao ak ar
   go_wp2_with fail
   go_ret
   have aM:=a4.out.size
   have ae:=a5.out.size
   have aN:=a3.out.size
   have aD:ai d=8:=(a6.out d a8.out.lt).trans HT.out.c8
   refine⟨by simp,ai,I,⟨aA.out,aw.out.call aa.out a6.out,a8.out.blk (aa.out.block d a8.out.lt (fun e=>e.2 HT.out.c8)),aD⟩,?_,fun k hk=>a6.out k (by omega)⟩
   exact (Fz.of_below a4.out).trans ((Fz.of_below a5.out).trans ((fp_d a3.out).trans (fp_w aa.out)))
end
end Go.Proofs.YtoiklelghfckgaaGreatDoor.Wo
end
section
set_option maxRecDepth 100000
set_option maxHeartbeats 8000000
set_option linter.unusedVariables false
namespace Go.Proofs.YtoiklelghfckgaaGreatDoor.Wo
open Go Go.ChangeShapes Go.WideShapes Go.ChangeAt Go.RowKit Go.Maps Rw Hi Mt Ba
open Cn (Cf cfE)
section
variable (w:World) {base:Nat} {col:Nat->Nat} {x:Wp} {s:Ws} {d:Nat} {v:Dv} {y:Ay} {N:List Int} {k:Nat}
theorem playT3 (h:Tw base col w x v d s N) (hp:Pl s N k) (cj:k<=900) (hN:N.length<=900) (hy:y.ok) (hk:y.do_ % 8=3):Plays w base col x s d y N:=by
 unfold Plays
 rw[playS3 hk]
 have m0:(y.do_ % 8 == 0)=false:=by rw[hk]; rfl
 have cn:((y.do_).tmod 8 == 0)=false:=by rw[Int.tmod_eq_emod_of_nonneg hy.d.1,hk]; rfl
 have m1:(y.do_ % 8 == 1)=false:=by rw[hk]; rfl
 have co:((y.do_).tmod 8 == 1)=false:=by rw[Int.tmod_eq_emod_of_nonneg hy.d.1,hk]; rfl
 have m2:(y.do_ % 8 == 2)=false:=by rw[hk]; rfl
 have cp:((y.do_).tmod 8 == 2)=false:=by rw[Int.tmod_eq_emod_of_nonneg hy.d.1,hk]; rfl
 have m3:(y.do_ % 8 == 3)=true:=by rw[hk]; rfl
 have ct:((y.do_).tmod 8 == 3)=true:=by rw[Int.tmod_eq_emod_of_nonneg hy.d.1,hk]; rfl
 obtain⟨s4,af⟩:∃ s4:Ws,({ s with O:=(Fc.nx s.O).2,n:=opnN s.O s.n,D:=entD s.D (opnI s.O s.n) y.st s.now } : Ws)=s4:=⟨_,rfl⟩
 obtain⟨ok,aX⟩:∃ b,(Fc.nx s.O).1=b:=⟨_,rfl⟩
 have bS:=hp.dl
 have bX:=hp.nl
 have aC:U64 (opnI s.O s.n):=by unfold opnI; split <;> exact⟨by omega,by omega⟩
 rw[af]
 obtain⟨I,hI⟩:∃ I,opnI s.O s.n=I:=⟨_,rfl⟩
 obtain⟨nn,aE⟩:∃ nn,opnN s.O s.n=nn:=⟨_,rfl⟩
 rw[hI] at aC
 rw[hI,aE] at af
 obtain⟨sA,a7⟩:∃ sA:Ws,({ s with O:=(Fc.nx s.O).2,n:=nn } : Ws)=sA:=⟨_,rfl⟩
 obtain⟨E,hE⟩:∃ E,eE s.D I y.st=E:=⟨_,rfl⟩
 have bh:Hid (∀ W,Wv base col W x s->Calls Tryz.prog 71 #[ptr x.pF] W fun e w'=>e=.returned (.tuple #[.int .u64 I,.bool ok])/\Wv base col w' x sA/\Fw col W w'):=Lh (fun W hw=>by
  have q:=wopen W hw (by omega)
  rw[hI,aX,aE,a7] at q
  exact q)
 have bj:Hid (∀ W,Dw (Kc base col) W v s N->(∀ g,W.heap.size<=g->Kc base col g)->Calls Tryz.prog 72 #[v.fact s.n] W fun e w'=>∃ v',e=.returned (.tuple #[v',.int .u64 I,.bool ok])/\Fk.Rf (Kc base col) w' v' (Fc.nx s.O).2 s.P nn s.C/\Below W.heap.size W w'):=Lh (fun W hd hK=>by
  have q:=Fk.ropen_any (v.fact s.n) s.n s.O s.P s.C W hd.fact (by omega) hp.cin hK
  rw[show (if (Fc.nx s.O).1=true then (s.n:Int)+1 else 0)=I from hI,show (if (Fc.nx s.O).1=true then s.n+1 else s.n)=nn from aE,aX] at q
  exact q)
 have bc:Hid (∀ (K:Nat->Prop) (z:Dv) W,z.b=v.b->Dw K W z sA N->(∀ g,W.heap.size<=g->K g)->Calls Tryz.prog 75 #[.agg #[.slice v.b.A v.b.n v.b.c,.slice v.b.A2 v.b.n2 v.b.c2],.int .u64 I,.int .i64 y.st,.int .u64 s.now] W fun e w'=>∃ A' J G,e=.returned (.tuple #[.agg #[.slice A' J G,.slice v.b.A2 v.b.n2 v.b.c2],.int .i64 E])/\Dw K w' { z with b:=⟨A',J,G,v.b.A2,v.b.n2,v.b.c2⟩ } s4 N/\Below W.heap.size W w'):=Lh (fun K z W hb hd hK=>by
  have bC:Dq K W v.b s.D s.S:=by have:=hd.bag; rw[hb,<- a7] at this; exact this
  refine (renter_any v.b.A v.b.A2 v.b.n v.b.c v.b.n2 v.b.c2 s.D s.S W I y.st s.now bC hK hp.ri aC hy.s hp.nw (by have:=bC.l.len; omega)).mono ?_
  rintro e w' ⟨A',J,G,rfl,h1,h2⟩
  refine⟨A',J,G,by rw[hE],?_,h2⟩
  have h3:=hd.later h2
  rw[<- a7] at h3
  rw[<- af]
  exact⟨h1,h3.loc,h3.sl,h3.sk,h3.book,h3.fact,h3.hist,h3.hk,h3.l8⟩)
 have bi:Hid (∀ W (col:Nat->Nat),Wv base col W x sA->Calls Tryz.prog 73 #[ptr x.pb,.int .u64 I,.int .i64 y.st,.int .u64 s.now] W fun e w'=>e=.returned (.int .i64 E) /\ ∃ col',Wv base col' w' x s4/\Fw col W w'/\El W col col'):=Lh (fun W col hw=>by
  have q:=wenter W hw I y.st s.now aC hp.nw (by rw[<- a7]; show s.D.length < 1000000; omega)
  rw[<- a7] at q
  rw[<- af,<- hE]
  exact q)
 have bg:Hid (sA.now=s.now):=Lh (by rw[<- a7])
 have bn:Hid (∀ W,Wc W x s4->Wc W x sA):=Lh (fun W h=>by rw[<- af] at h; rw[<- a7]; exact h.to rfl rfl rfl rfl rfl rfl rfl rfl rfl rfl rfl)
 have aK:Hid (∀ z:Dv,Dv.cells z sA=Dv.cells z { s with n:=nn }):=Lh (fun z=>by rw[<- a7]; rfl)
 have bp:Hid (∀ z:Dv,Dv.cells z s4=Dv.cells z { s with n:=nn }):=Lh (fun z=>by rw[<- af]; rfl)
 have bb:Hid (∀ (K:Nat->Prop) (W:World) (z:Dv),Dw K W v s N->Fk.Rf K W (z.fact nn) (Fc.nx s.O).2 s.P nn s.C->z.b=v.b->z.lA=v.lA->z.ln=v.ln->z.lc=v.lc->z.vs=v.vs->z.sA=v.sA->z.sn=v.sn->z.sc=v.sc->z.k=v.k->z.hA=v.hA->z.hn=v.hn->z.hc=v.hc->Dw K W z sA N):=Lh (fun K W z hd hf e1 e2 e3 e4 e5 e6 e7 e8 e9 bA bB bO=>by
  rw[<- a7]
  refine⟨e1 ▸ hd.bag,?_,?_,?_,e9 ▸ hd.book,hf,?_,?_,e3 ▸ hd.l8⟩
  .rw[e2,e4,e5]; exact hd.loc
  .rw[e6,e7,e8]; exact hd.sl
  .rw[e6,e7]; exact hd.sk
  .rw[bA,bB,bO]; exact hd.hist
  .rw[bA,bB]; exact hd.hk)
 have HT:=Lh h
 have az:=Lh (Yc.new w y)
 have a9:Hid (Below w.heap.size w (w.alloc (.cells #[.int .u8 y.do_,.int .u64 y.id,.int .u64 y.n,.int .i64 y.th,.int .i64 y.st] 103))):=Lh ((Below.refl _ _).alloc (Nat.le_refl _) _)
 clear hk hy h hp af a7 aX bS bX hI aE hE aC
 go_enter Tryz.func34,Tryz.ntmps34
 go_upto_region 1 with (fail)
 generalize (w.alloc (.cells #[.int .u8 y.do_,.int .u64 y.id,.int .u64 y.n,.int .i64 y.th,.int .i64 y.st] 103))=W1 at *
 have aL:=Lh (HT.out.wv.later a9.out)
 have aH:=Lh (HT.out.vw.later a9.out)
 have b4:=Lh (HT.out.dw.later a9.out)
 obtain⟨q,hq⟩:∃ q,w.heap.size=q:=⟨_,rfl⟩
 have bI:q≠d:=fun e=>by have:=HT.out.vw.lt; omega
 have cm:w.heap.size<=q:=by omega
 rw[hq] at az
 rw[hq]
 obtain⟨z0,z1,z2,z3,z4⟩:=az.out
 have bJ:=Lh bI
 have b2:Hid (col q=0):=Lh (Classical.byContradiction fun e=>by have:=HT.out.wv.hi q e; omega)
 clear hq bI
 have c12:=aL.out.cells.c12
 go_wp2_with fail
 refine (bh.out W1 aL.out).mono ?_
 rintro e w2 ⟨rfl,h2,av⟩
 have aM:=Lh h2
 have bz:=Lh av
 have aq:=Lh (aH.out.blk (av.block d aH.out.lt (fun e=>e.2 HT.out.c8)))
 have aF:=Lh (b4.out.call av (El.refl _ _))
 have aO:=Lh (az.out.blk (av.block q az.out.lt (fun e=>e.1 b2.out)))
 clear h2 av bh c12 z0 z1 z2 z3 z4 aL aH b4
 obtain⟨z0,z1,z2,z3,z4⟩:=aO.out
 have aR:=aq.out.cell 16 _ rfl
 have aS:=aq.out.cell 17 _ rfl
 have aT:=aq.out.cell 18 _ rfl
 go_wp2_with fail
 refine (bj.out w2 aF.out (fun g hg=>aM.out.new0 g hg)).mono ?_
 rintro e w3 ⟨vf,rfl,aU,b3⟩
 obtain⟨A1,n1,c1,A2,n2,c2,A3,c3,S,rfl,bY,bZ,ca,ci⟩:=aU.form
 have bd:=Lh aU
 have ax:=Lh b3
 have bo:=Lh (aq.out.later b3)
 have br:=Lh (aM.out.later b3)
 have bv:=Lh (aO.out.later b3)
 clear b3 aU bY bZ ca ci bj aR aS aT z0 z1 z2 z3 z4
 obtain⟨z,a1⟩:∃ z:Dv,({ v with fA:=A1,fn:=n1,fc:=c1,pA:=A2,pn:=n2,pc:=c2,cA:=A3,cc:=c3 } : Dv)=z:=⟨_,rfl⟩
 have bM:=Lh a1
 have b5:Hid (Dw (Kc base col) w3 z sA N):=Lh (bb.out (Kc base col) w3 z (aF.out.later ax.out) (by rw[<- a1]; exact bd.out) (by rw[<- a1]) (by rw[<- a1]) (by rw[<- a1]) (by rw[<- a1]) (by rw[<- a1]) (by rw[<- a1]) (by rw[<- a1]) (by rw[<- a1]) (by rw[<- a1]) (by rw[<- a1]) (by rw[<- a1]) (by rw[<- a1]))
 have aJ:Hid (z.b=v.b):=Lh (by rw[<- a1])
 clear a1 bb bd
 go_upto_region 20 with (fail)
 have ai:Below w3.heap.size w3 (w3.alloc (.cells #[.slice A1 n1 c1,.slice A2 n2 c2,.slice A3 nn c3] 41)):=(Below.refl _ _).alloc (Nat.le_refl _) _
 have y0:(w3.alloc (.cells #[.slice A1 n1 c1,.slice A2 n2 c2,.slice A3 nn c3] 41)).cell? ⟨w3.heap.size,0,none⟩=some (.slice A1 n1 c1):=by go_simp
 have y1:(w3.alloc (.cells #[.slice A1 n1 c1,.slice A2 n2 c2,.slice A3 nn c3] 41)).cell? ⟨w3.heap.size,1,none⟩=some (.slice A2 n2 c2):=by go_simp
 have y2:(w3.alloc (.cells #[.slice A1 n1 c1,.slice A2 n2 c2,.slice A3 nn c3] 41)).cell? ⟨w3.heap.size,2,none⟩=some (.slice A3 nn c3):=by go_simp
 have aa:=Lh (bo.out.later ai)
 have bt:=Lh (br.out.later ai)
 have b8:=Lh (b5.out.later ai)
 have aP:=Lh (bv.out.later ai)
 have b0:Hid (Below w2.heap.size w2 (w3.alloc (.cells #[.slice A1 n1 c1,.slice A2 n2 c2,.slice A3 nn c3] 41))):=Lh (ax.out.trans (ai.mono ax.out.size))
 have aR:=aa.out.cell 16 _ rfl
 have bP:=aa.out.free 16 (by decide)
 have aS:=aa.out.cell 17 _ rfl
 have bQ:=aa.out.free 17 (by decide)
 have aT:=aa.out.cell 18 _ rfl
 have bR:=aa.out.free 18 (by decide)
 clear ai aq bo br b5 bv
 generalize (w3.alloc (.cells #[.slice A1 n1 c1,.slice A2 n2 c2,.slice A3 nn c3] 41))=w4 at *
 obtain⟨x2,aY⟩:∃ x2,w3.heap.size=x2:=⟨_,rfl⟩
 rw[aY] at y0 y1 y2
 rw[aY]
 clear aY
 go_upto_region 21 with (fail)
 have a2:Hid (Vw (((w4.setCell ⟨d,16,none⟩ (.slice A1 n1 c1)).setCell ⟨d,17,none⟩ (.slice A2 n2 c2)).setCell ⟨d,18,none⟩ (.slice A3 nn c3)) d (Dv.cells z sA)):=Lh (by
  rw[aK.out,<- bM.out]
  exact ((aa.out.set 16 (by simp[cells_len]) (.slice A1 n1 c1)).set 17 (by simp[cells_len]) (.slice A2 n2 c2)).set 18 (by simp[cells_len]) (.slice A3 nn c3))
 have aw:Fz (fun k=>k=d) w4 (((w4.setCell ⟨d,16,none⟩ (.slice A1 n1 c1)).setCell ⟨d,17,none⟩ (.slice A2 n2 c2)).setCell ⟨d,18,none⟩ (.slice A3 nn c3)):=((Fz.of_set (C:=fun k=>k=d) (a:=⟨d,16,none⟩) _ rfl).trans (Fz.of_set (C:=fun k=>k=d) (a:=⟨d,17,none⟩) _ rfl)).trans (Fz.of_set (C:=fun k=>k=d) (a:=⟨d,18,none⟩) _ rfl)
 have ac:=Lh (bt.out.aside aw (fun k _ e=>by rw[e]; exact HT.out.c8))
 have an:=Lh (b8.out.at_ HT.out.c8 aw)
 have a0:=Lh (aP.out.blk (aw.block q aP.out.lt (fun e=>bJ.out e)))
 have aQ:Hid (Fp col d W1 (((w4.setCell ⟨d,16,none⟩ (.slice A1 n1 c1)).setCell ⟨d,17,none⟩ (.slice A2 n2 c2)).setCell ⟨d,18,none⟩ (.slice A3 nn c3))):=Lh ((fp_w bz.out).trans ((Fz.of_below b0.out).trans (fp_d aw)))
 generalize (((w4.setCell ⟨d,16,none⟩ (.slice A1 n1 c1)).setCell ⟨d,17,none⟩ (.slice A2 n2 c2)).setCell ⟨d,18,none⟩ (.slice A3 nn c3))=w0 at *
 clear aw y0 y1 y2 aR bP aS bQ aT bR aa bt b8 aP b0 bz ax aM aF aO
 go_wp2_with fail
 have u:Hid (Wc w0.drew x sA/\Yc w0.drew q y):=Lh ⟨ac.out.cells.blk rfl,a0.out.blk rfl⟩
 refine rgS 11 (fun w'=>Wc w' x sA/\Yc w' q y) (by kernel_rfl) (by kernel_rfl) ?_
 intro ar
 have Q:=Lh ar
 clear ar
 refine rq 0 Q.out u.out rfl ?_
 refine rq 1 Q.out u.out rfl ?_
 refine rq 2 Q.out u.out rfl ?_
 refine rq 3 Q.out u.out rfl ?_ (hv:=fun w' hw=>by (have kc:=hw.1.c8; go_simp; exact rfl))
 refine rq 4 Q.out u.out rfl ?_
 refine rq 5 Q.out u.out rfl ?_
 refine rq 6 Q.out u.out rfl ?_ (hv:=fun w' hw=>by (have kz:=hw.2.z4; go_simp; exact rfl))
 refine rq 7 Q.out u.out rfl ?_
 refine rO 8 rfl (by kernel_rfl) rfl ?_
 unfold Oper.wp
 go_simp
 refine (wnow_any _ u.out.1).mono ?_
 rintro e w6 ⟨rfl,b6⟩
 have ae:Below w0.heap.size w0 w6:=(Below.refl _ _).drew.trans b6
 have hS:Wc w6 x sA/\Yc w6 q y:=⟨u.out.1.blk (b6.block _ u.out.1.lt),u.out.2.later b6⟩
 refine⟨hS,?_⟩
 clear u
 have u:=Lh hS
 have a8:=Lh ae
 rw[bg.out]
 clear hS b6 ae
 refine rO 9 rfl (by kernel_rfl) rfl ?_
 unfold Oper.wp
 go_simp
 refine (bi.out _ col (ac.out.later a8.out)).mono ?_
 rintro e Y ⟨rfl,a6,h7,z7,l7⟩
 have aZ:Fw col w0 Y:=(Fz.of_below a8.out).trans z7
 have bH:El w0 col a6:=fun k hk=>l7 k (by have:=a8.out.size; omega)
 have hS:Wc Y x sA/\Yc Y q y:=⟨bn.out _ h7.cells,a0.out.blk (aZ.block q a0.out.lt (fun e=>e.1 b2.out))⟩
 refine⟨hS,?_⟩
 clear u
 have u:=Lh hS
 have bu:=Lh h7
 have aA:=Lh aZ
 have ay:=Lh bH
 clear hS h7 z7 l7 aZ bH
 refine rq 10 Q.out u.out rfl ?_
 refine rgD (by kernel_rfl) ?_
 have ag:Hid (a6 d=8):=Lh ((ay.out d a2.out.lt).trans HT.out.c8)
 have bq:=Lh (a2.out.blk (aA.out.block d a2.out.lt (fun e=>e.2 HT.out.c8)))
 have ba:=Lh (an.out.call aA.out ay.out)
 have bw:=Lh u.out.2
 have aB:Hid (Fp col d W1 Y):=Lh (aQ.out.trans (fp_w aA.out))
 have cd:=aQ.out.size
 have ce:=a9.out.size
 have be:Hid (El w col a6):=Lh (fun g hg=>ay.out g (by omega))
 clear u ac a2 an a0 aA ay a8 aQ bi bn cd ce
 generalize bN:Y=F at *
 clear bN
 have ac:=bu
 have a2:=bq
 have an:=ba
 have a0:=bw
 clear bu bq ba bw
 go_wp2_with fail
 have au:Below F.heap.size F F.drew:=(Below.refl _ _).drew
 have u:Hid (Vw F.drew d (Dv.cells z sA)/\F.drew.cell? ⟨q,4,none⟩=some (.int .i64 y.st)):=Lh ⟨a2.out.later au,(au.cell (p:=⟨q,4,none⟩) a0.out.lt).trans a0.out.z4⟩
 refine rgS 18 (fun w'=>Vw w' d (Dv.cells z sA)/\w'.cell? ⟨q,4,none⟩=some (.int .i64 y.st)) (by kernel_rfl) (by kernel_rfl) ?_
 intro ar
 have Q:=Lh ar
 clear ar
 refine rq 0 Q.out u.out rfl ?_
 refine rq 1 Q.out u.out rfl ?_
 refine rq 2 Q.out u.out rfl ?_
 refine rq 3 Q.out u.out rfl ?_ (hv:=fun w' hw=>by (have k8:=hw.1.cell 8 _ rfl; have k9:=hw.1.cell 9 _ rfl; rw[aJ.out] at k8 k9; go_simp; exact rfl))
 refine rq 4 Q.out u.out rfl ?_
 refine rq 5 Q.out u.out rfl ?_
 refine rq 6 Q.out u.out rfl ?_ (hv:=fun w' hw=>by (have kz:=hw.2; go_simp; exact rfl))
 refine rq 7 Q.out u.out rfl ?_
 refine rq 8 Q.out u.out rfl ?_
 refine rq 9 Q.out u.out rfl ?_
 refine rq 10 Q.out u.out rfl ?_ (hv:=fun w' hw=>by (have k7:=hw.1.cell 7 _ rfl; rw[bg.out] at k7; go_simp; exact rfl))
 refine reg_two 11 15 rfl rfl (by kernel_rfl) rfl rfl ?_ ?_
 .as_aux_lemma=>
   unfold Oper.wp
   go_simp
   refine (bc.out (Kc base a6) z _ aJ.out (an.out.later au) (fun g hg=>ac.out.new0 g hg)).mono ?_
   rintro e w6 ⟨A',J,G,rfl,bD,b6⟩
   have ae:Below F.heap.size F w6:=au.trans (b6.mono (Nat.le_refl _))
   clear u
   have u:Hid (Vw w6 d (Dv.cells z sA)/\w6.cell? ⟨q,4,none⟩=some (.int .i64 y.st)):=Lh ⟨a2.out.later ae,(ae.cell (p:=⟨q,4,none⟩) a0.out.lt).trans a0.out.z4⟩
   refine⟨u.out,?_⟩
   have b9:=Lh bD
   have a8:=Lh ae
   clear bD b6 ae
   refine rq 12 Q.out u.out rfl ?_
   refine rq 13 Q.out u.out rfl ?_
   refine rq 14 Q.out u.out rfl ?_
   refine rO 15 rfl (by kernel_rfl) rfl ?_
   unfold Oper.wp
   go_simp
   have ah:Below w6.heap.size w6 (w6.alloc (.cells #[.slice none 0 0,.slice none 0 0] 32)):=(Below.refl _ _).alloc (Nat.le_refl _) _
   have a3:Below F.heap.size F (w6.alloc (.cells #[.slice none 0 0,.slice none 0 0] 32)):=a8.out.trans (ah.mono a8.out.size)
   have y0:(w6.alloc (.cells #[.slice none 0 0,.slice none 0 0] 32)).cell? ⟨w6.heap.size,0,none⟩=some (.slice none 0 0):=by go_simp
   have y1:(w6.alloc (.cells #[.slice none 0 0,.slice none 0 0] 32)).cell? ⟨w6.heap.size,1,none⟩=some (.slice none 0 0):=by go_simp
   have x0:(w6.alloc (.cells #[.slice none 0 0,.slice none 0 0] 32)).frozen? ⟨w6.heap.size,0,none⟩=false:=by go_simp
   have x1:(w6.alloc (.cells #[.slice none 0 0,.slice none 0 0] 32)).frozen? ⟨w6.heap.size,1,none⟩=false:=by go_simp
   clear u
   have u:Hid (Vw (w6.alloc (.cells #[.slice none 0 0,.slice none 0 0] 32)) d (Dv.cells z sA)/\(w6.alloc (.cells #[.slice none 0 0,.slice none 0 0] 32)).cell? ⟨q,4,none⟩=some (.int .i64 y.st)):=Lh ⟨a2.out.later a3,(a3.cell (p:=⟨q,4,none⟩) a0.out.lt).trans a0.out.z4⟩
   refine⟨u.out,?_⟩
   have ao:=Lh ((b9.out.mono (L:=fun k=>Kc base a6 k/\k≠w6.heap.size) (fun k hk e=>⟨e,by omega⟩)).later ah)
   have ak:=Lh a3
   obtain⟨g,hg⟩:∃ g,w6.heap.size=g:=⟨_,rfl⟩
   have bU:F.heap.size<=g:=by have:=a8.out.size; omega
   rw[hg] at y0 y1 x0 x1
   rw[hg] at ao
   rw[hg]
   generalize (w6.alloc (.cells #[.slice none 0 0,.slice none 0 0] 32))=Y at *
   clear ah a3 hg b9 a8
   refine rO 16 rfl (by kernel_rfl) rfl ?_
   unfold Oper.wp
   go_simp
   have a5:Fz (fun k=>k=g) Y ((Y.setCell ⟨g,0,none⟩ (.slice A' J G)).setCell ⟨g,1,none⟩ (.slice v.b.A2 v.b.n2 v.b.c2)):=(Fz.of_set (C:=fun k=>k=g) (a:=⟨g,0,none⟩) _ rfl).trans (Fz.of_set (C:=fun k=>k=g) (a:=⟨g,1,none⟩) _ rfl)
   have aV:g≠d:=fun e=>by have:=a2.out.lt; omega
   have aW:g≠q:=fun e=>by have:=a0.out.lt; omega
   have hS:Vw ((Y.setCell ⟨g,0,none⟩ (.slice A' J G)).setCell ⟨g,1,none⟩ (.slice v.b.A2 v.b.n2 v.b.c2)) d (Dv.cells z sA)/\(((Y.setCell ⟨g,0,none⟩ (.slice A' J G)).setCell ⟨g,1,none⟩ (.slice v.b.A2 v.b.n2 v.b.c2))).cell? ⟨q,4,none⟩=some (.int .i64 y.st):=⟨u.out.1.blk (a5.block d u.out.1.lt (fun e=>aV e.symm)),(World.cell?_of_block (a:=⟨q,4,none⟩) (a5.block q (Lw.ltH u.out.2) (fun e=>aW e.symm))).trans u.out.2⟩
   have y2:(((Y.setCell ⟨g,0,none⟩ (.slice A' J G)).setCell ⟨g,1,none⟩ (.slice v.b.A2 v.b.n2 v.b.c2))).cell? ⟨g,0,none⟩=some (.slice A' J G):=(World.cell?_setCell_other _ _ _ _ (by simp)).trans (World.cell?_setCell_same _ _ _ y0)
   have y3:(((Y.setCell ⟨g,0,none⟩ (.slice A' J G)).setCell ⟨g,1,none⟩ (.slice v.b.A2 v.b.n2 v.b.c2))).cell? ⟨g,1,none⟩=some (.slice v.b.A2 v.b.n2 v.b.c2):=World.cell?_setCell_same _ _ _ ((World.cell?_setCell_other _ _ _ _ (by simp)).trans y1)
   refine⟨by first | exact hS | exact⟨hS.1,u.out.2⟩,?_⟩
   clear u
   have u:=Lh hS
   have al:Hid (Below F.heap.size F ((Y.setCell ⟨g,0,none⟩ (.slice A' J G)).setCell ⟨g,1,none⟩ (.slice v.b.A2 v.b.n2 v.b.c2))):=Lh (ak.out.trans (a5.below ak.out.size (fun k hk=>by omega)))
   have aG:Hid (Dw (Kc base a6) ((Y.setCell ⟨g,0,none⟩ (.slice A' J G)).setCell ⟨g,1,none⟩ (.slice v.b.A2 v.b.n2 v.b.c2)) { z with b:=⟨A',J,G,v.b.A2,v.b.n2,v.b.c2⟩ } s4 N):=Lh ((ao.out.fz a5 (fun k hk e e2=>e.2 e2)).mono (fun k hk e=>e.1))
   generalize ((Y.setCell ⟨g,0,none⟩ (.slice A' J G)).setCell ⟨g,1,none⟩ (.slice v.b.A2 v.b.n2 v.b.c2))=w8 at *
   clear hS a5 y0 y1 x0 x1
   refine rq 17 Q.out u.out rfl ?_
   refine rgD (by kernel_rfl) ?_
   have a4:=Lh u.out.1
   clear u
   have f8:=a4.out.cell 8 _ rfl
   have g8:=a4.out.free 8 (by decide)
   have f9:=a4.out.cell 9 _ rfl
   have g9:=a4.out.free 9 (by decide)
   have aN:=Lh (ac.out.later al.out)
   go_upto_region 26 with (fail)
   have aI:Hid (Vw ((w8.setCell ⟨d,8,none⟩ (.slice A' J G)).setCell ⟨d,9,none⟩ (.slice v.b.A2 v.b.n2 v.b.c2)) d (Dv.cells { z with b:=⟨A',J,G,v.b.A2,v.b.n2,v.b.c2⟩ } s4)):=Lh (by
    have q:=(a4.out.set 8 (by simp[cells_len]) (.slice A' J G)).set 9 (by simp[cells_len]) (.slice v.b.A2 v.b.n2 v.b.c2)
    rw[aK.out] at q
    rw[bp.out]
    exact q)
   have ad:Hid (Fz (fun k=>k=d) w8 ((w8.setCell ⟨d,8,none⟩ (.slice A' J G)).setCell ⟨d,9,none⟩ (.slice v.b.A2 v.b.n2 v.b.c2))):=Lh ((Fz.of_set (C:=fun k=>k=d) (a:=⟨d,8,none⟩) _ rfl).trans (Fz.of_set (C:=fun k=>k=d) (a:=⟨d,9,none⟩) _ rfl))
   generalize ((w8.setCell ⟨d,8,none⟩ (.slice A' J G)).setCell ⟨d,9,none⟩ (.slice v.b.A2 v.b.n2 v.b.c2))=w9 at *
   clear f8 g8 f9 g9 y2 y3
   go_wp2_with fail
   go_ret
   have cg:=a9.out.size
   have ch:=aB.out.size
   refine⟨by simp,a6,{ z with b:=⟨A',J,G,v.b.A2,v.b.n2,v.b.c2⟩ },⟨aN.out.aside ad.out (fun k _ e=>by rw[e]; exact ag.out),aG.out.at_ ag.out ad.out,aI.out,ag.out⟩,?_,fun k hk=>be.out k (by omega)⟩
   exact ((Fz.of_below a9.out).trans aB.out).trans ((Fz.of_below al.out).trans (fp_d ad.out))
 .as_aux_lemma=>
   unfold Oper.wp
   go_simp
   have ah:Below F.drew.heap.size F.drew (F.drew.alloc (.cells #[.slice none 0 0,.slice none 0 0] 32)):=(Below.refl _ _).alloc (Nat.le_refl _) _
   have a3:Below F.heap.size F (F.drew.alloc (.cells #[.slice none 0 0,.slice none 0 0] 32)):=au.trans (ah.mono (Nat.le_refl _))
   have y0:(F.drew.alloc (.cells #[.slice none 0 0,.slice none 0 0] 32)).cell? ⟨F.heap.size,0,none⟩=some (.slice none 0 0):=by go_simp
   have y1:(F.drew.alloc (.cells #[.slice none 0 0,.slice none 0 0] 32)).cell? ⟨F.heap.size,1,none⟩=some (.slice none 0 0):=by go_simp
   have x0:(F.drew.alloc (.cells #[.slice none 0 0,.slice none 0 0] 32)).frozen? ⟨F.heap.size,0,none⟩=false:=by go_simp
   have x1:(F.drew.alloc (.cells #[.slice none 0 0,.slice none 0 0] 32)).frozen? ⟨F.heap.size,1,none⟩=false:=by go_simp
   have aj:(F.drew.alloc (.cells #[.slice none 0 0,.slice none 0 0] 32)).heap.size=F.heap.size+1:=by simp
   clear u
   have u:Hid (Vw (F.drew.alloc (.cells #[.slice none 0 0,.slice none 0 0] 32)) d (Dv.cells z sA)/\(F.drew.alloc (.cells #[.slice none 0 0,.slice none 0 0] 32)).cell? ⟨q,4,none⟩=some (.int .i64 y.st)):=Lh ⟨a2.out.later a3,(a3.cell (p:=⟨q,4,none⟩) a0.out.lt).trans a0.out.z4⟩
   refine⟨u.out,?_⟩
   refine rO 11 rfl (by kernel_rfl) rfl ?_
   unfold Oper.wp
   go_simp
   refine (bc.out (fun k=>Kc base a6 k/\k≠F.heap.size) z _ aJ.out ((an.out.mono (fun k hk e=>⟨e,by omega⟩)).later a3) (fun k hk=>⟨ac.out.new0 k (by have:=a3.size; omega),by rw[aj] at hk; omega⟩)).mono ?_
   rintro e Y ⟨A',J,G,rfl,bG,b7⟩
   have aD:Below F.heap.size F Y:=a3.trans (b7.mono a3.size)
   have y0:=(b7.cell (p:=⟨F.heap.size,0,none⟩) (by rw[aj]; show F.heap.size < _; omega)).trans y0
   have y1:=(b7.cell (p:=⟨F.heap.size,1,none⟩) (by rw[aj]; show F.heap.size < _; omega)).trans y1
   have x0:=(World.frozen?_of_block (a:=⟨F.heap.size,0,none⟩) (b7.block F.heap.size (by rw[aj]; omega))).trans x0
   have x1:=(World.frozen?_of_block (a:=⟨F.heap.size,1,none⟩) (b7.block F.heap.size (by rw[aj]; omega))).trans x1
   clear u
   have u:Hid (Vw Y d (Dv.cells z sA)/\Y.cell? ⟨q,4,none⟩=some (.int .i64 y.st)):=Lh ⟨a2.out.later aD,(aD.cell (p:=⟨q,4,none⟩) a0.out.lt).trans a0.out.z4⟩
   refine⟨u.out,?_⟩
   have ao:=Lh bG
   have ak:=Lh aD
   clear bG b7 ah a3 aD aj
   refine rq 12 Q.out u.out rfl ?_
   refine rq 13 Q.out u.out rfl ?_
   refine rq 14 Q.out u.out rfl ?_
   obtain⟨g,hg⟩:∃ g,F.heap.size=g:=⟨_,rfl⟩
   have bU:F.heap.size<=g:=by omega
   rw[hg] at y0 y1 x0 x1
   rw[hg] at ao
   rw[hg]
   clear hg
   refine rO 16 rfl (by kernel_rfl) rfl ?_
   unfold Oper.wp
   go_simp
   have a5:Fz (fun k=>k=g) Y ((Y.setCell ⟨g,0,none⟩ (.slice A' J G)).setCell ⟨g,1,none⟩ (.slice v.b.A2 v.b.n2 v.b.c2)):=(Fz.of_set (C:=fun k=>k=g) (a:=⟨g,0,none⟩) _ rfl).trans (Fz.of_set (C:=fun k=>k=g) (a:=⟨g,1,none⟩) _ rfl)
   have aV:g≠d:=fun e=>by have:=a2.out.lt; omega
   have aW:g≠q:=fun e=>by have:=a0.out.lt; omega
   have hS:Vw ((Y.setCell ⟨g,0,none⟩ (.slice A' J G)).setCell ⟨g,1,none⟩ (.slice v.b.A2 v.b.n2 v.b.c2)) d (Dv.cells z sA)/\(((Y.setCell ⟨g,0,none⟩ (.slice A' J G)).setCell ⟨g,1,none⟩ (.slice v.b.A2 v.b.n2 v.b.c2))).cell? ⟨q,4,none⟩=some (.int .i64 y.st):=⟨u.out.1.blk (a5.block d u.out.1.lt (fun e=>aV e.symm)),(World.cell?_of_block (a:=⟨q,4,none⟩) (a5.block q (Lw.ltH u.out.2) (fun e=>aW e.symm))).trans u.out.2⟩
   have y2:(((Y.setCell ⟨g,0,none⟩ (.slice A' J G)).setCell ⟨g,1,none⟩ (.slice v.b.A2 v.b.n2 v.b.c2))).cell? ⟨g,0,none⟩=some (.slice A' J G):=(World.cell?_setCell_other _ _ _ _ (by simp)).trans (World.cell?_setCell_same _ _ _ y0)
   have y3:(((Y.setCell ⟨g,0,none⟩ (.slice A' J G)).setCell ⟨g,1,none⟩ (.slice v.b.A2 v.b.n2 v.b.c2))).cell? ⟨g,1,none⟩=some (.slice v.b.A2 v.b.n2 v.b.c2):=World.cell?_setCell_same _ _ _ ((World.cell?_setCell_other _ _ _ _ (by simp)).trans y1)
   refine⟨by first | exact hS | exact⟨hS.1,u.out.2⟩,?_⟩
   clear u
   have u:=Lh hS
   have al:Hid (Below F.heap.size F ((Y.setCell ⟨g,0,none⟩ (.slice A' J G)).setCell ⟨g,1,none⟩ (.slice v.b.A2 v.b.n2 v.b.c2))):=Lh (ak.out.trans (a5.below ak.out.size (fun k hk=>by omega)))
   have aG:Hid (Dw (Kc base a6) ((Y.setCell ⟨g,0,none⟩ (.slice A' J G)).setCell ⟨g,1,none⟩ (.slice v.b.A2 v.b.n2 v.b.c2)) { z with b:=⟨A',J,G,v.b.A2,v.b.n2,v.b.c2⟩ } s4 N):=Lh ((ao.out.fz a5 (fun k hk e e2=>e.2 e2)).mono (fun k hk e=>e.1))
   generalize ((Y.setCell ⟨g,0,none⟩ (.slice A' J G)).setCell ⟨g,1,none⟩ (.slice v.b.A2 v.b.n2 v.b.c2))=w8 at *
   clear hS a5 y0 y1 x0 x1
   refine rq 17 Q.out u.out rfl ?_
   refine rgD (by kernel_rfl) ?_
   have a4:=Lh u.out.1
   clear u
   have f8:=a4.out.cell 8 _ rfl
   have g8:=a4.out.free 8 (by decide)
   have f9:=a4.out.cell 9 _ rfl
   have g9:=a4.out.free 9 (by decide)
   have aN:=Lh (ac.out.later al.out)
   go_upto_region 26 with (fail)
   have aI:Hid (Vw ((w8.setCell ⟨d,8,none⟩ (.slice A' J G)).setCell ⟨d,9,none⟩ (.slice v.b.A2 v.b.n2 v.b.c2)) d (Dv.cells { z with b:=⟨A',J,G,v.b.A2,v.b.n2,v.b.c2⟩ } s4)):=Lh (by
    have q:=(a4.out.set 8 (by simp[cells_len]) (.slice A' J G)).set 9 (by simp[cells_len]) (.slice v.b.A2 v.b.n2 v.b.c2)
    rw[aK.out] at q
    rw[bp.out]
    exact q)
   have ad:Hid (Fz (fun k=>k=d) w8 ((w8.setCell ⟨d,8,none⟩ (.slice A' J G)).setCell ⟨d,9,none⟩ (.slice v.b.A2 v.b.n2 v.b.c2))):=Lh ((Fz.of_set (C:=fun k=>k=d) (a:=⟨d,8,none⟩) _ rfl).trans (Fz.of_set (C:=fun k=>k=d) (a:=⟨d,9,none⟩) _ rfl))
   generalize ((w8.setCell ⟨d,8,none⟩ (.slice A' J G)).setCell ⟨d,9,none⟩ (.slice v.b.A2 v.b.n2 v.b.c2))=w9 at *
   clear f8 g8 f9 g9 y2 y3
   go_wp2_with fail
   go_ret
   have cg:=a9.out.size
   have ch:=aB.out.size
   refine⟨by simp,a6,{ z with b:=⟨A',J,G,v.b.A2,v.b.n2,v.b.c2⟩ },⟨aN.out.aside ad.out (fun k _ e=>by rw[e]; exact ag.out),aG.out.at_ ag.out ad.out,aI.out,ag.out⟩,?_,fun k hk=>be.out k (by omega)⟩
   exact ((Fz.of_below a9.out).trans aB.out).trans ((Fz.of_below al.out).trans (fp_d ad.out))
end
end Go.Proofs.YtoiklelghfckgaaGreatDoor.Wo
end
