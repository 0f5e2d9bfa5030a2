/- A part of the claim. -/
import Derived.Test.YtoiklelghfckgaaGreatDoorYK8
import Derived.Maps.Own
section
set_option maxRecDepth 100000
set_option linter.unusedVariables false
namespace Go.Proofs.YtoiklelghfckgaaGreatDoor.Wo
open Go Go.ChangeShapes Go.WideShapes Go.ChangeAt Go.RowKit Go.Maps Rw Hi Mt Ba
open Cn (Cf cfE)
abbrev sOffer:ByteArray:=⟨#[111,102,102,101,114]⟩
abbrev sFree:ByteArray:=⟨#[102,114,101,101]⟩
abbrev sStash:ByteArray:=⟨#[115,116,97,115,104]⟩
abbrev sAgain:ByteArray:=⟨#[97,103,97,105,110]⟩
abbrev sBack:ByteArray:=⟨#[98,97,99,107]⟩
abbrev sClose:ByteArray:=⟨#[99,108,111,115,101]⟩
abbrev sUnlist:ByteArray:=⟨#[117,110,108,105,115,116]⟩
abbrev sShrink:ByteArray:=⟨#[115,104,114,105,110,107]⟩
abbrev sDone:ByteArray:=⟨#[100,111,110,101]⟩
structure Gv where
 th:Int
 op:Int
 id:Int
 word:Int
 st:ByteArray
abbrev Gv.val (g:Gv):Value:=.agg #[.int .i64 g.th,.int .i64 g.op,.int .u64 g.id,.int .u64 g.word,.string g.st]
structure Gv.ok (g:Gv):Prop where
 i:U64 g.id
 w:U64 g.word
structure Gw where
 g:Gv
 s:Ws
 N:List Int
def swapG (q:Gw) (st:Int) (then_:ByteArray):Gw:=
 ⟨if bK q.s.D q.g.id q.g.word st=true then { q.g with word:=bV q.s.D q.g.id q.g.word st,st:=then_ } else { q.g with st:=sDone },{ q.s with D:=up q.s.D q.g.id (exS q.g.word st q.s.now) },q.N⟩
def offerG (q:Gw):Gw:=
 if q.s.closed=true\/q.g.id∈q.N then ⟨{ q.g with st:=sClose },q.s,q.N⟩
 else if (St.fillR q.s.sl q.g.id).2.2=true then ⟨{ q.g with st:=sDone },{ q.s with sl:=(St.fillR q.s.sl q.g.id).1 },q.N⟩
 else ⟨{ q.g with st:=sFree },{ q.s with sl:=(St.fillR q.s.sl q.g.id).1 },q.N⟩
def stashG (q:Gw):Gw:=⟨{ q.g with st:=sAgain },{ q.s with loc:=Lc.putR q.s.loc q.g.th [q.g.id] },q.N⟩
def againG (q:Gw):Gw:=⟨{ q.g with st:=if q.s.closed=true\/0 < St.waitN q.s.sl then sBack else sDone },q.s,q.N⟩
def closeG (q:Gw):Gw:=
 if bK q.s.D q.g.id q.g.word 3=true then ⟨{ q.g with st:=sUnlist },remS q.s q.N q.g.id q.g.word q.g.th q.g.op,q.N.filter (· != q.g.id)⟩ else ⟨{ q.g with st:=sUnlist },q.s,q.N⟩
def unlistG (q:Gw):Gw:=⟨{ q.g with st:=sShrink },{ q.s with S:=unlS q.s.D q.s.S q.g.id },q.N⟩
def shrinkG (q:Gw):Gw:=⟨{ q.g with st:=sDone },{ q.s with live:=shrV q.s.live },q.N⟩
def stepG (q:Gw):Gw:=
 if q.g.st=sOffer then offerG q
 else if q.g.st=sFree then swapG q 0 sStash
 else if q.g.st=sStash then stashG q
 else if q.g.st=sAgain then againG q
 else if q.g.st=sBack then swapG q 1 sOffer
 else if q.g.st=sClose then closeG q
 else if q.g.st=sUnlist then unlistG q
 else if q.g.st=sShrink then shrinkG q
 else ⟨{ q.g with st:=sDone },q.s,q.N⟩
def itG:Nat->Gw->Gw
 | 0,q=>q
 | n+1,q=>stepG (itG n q)
section
variable {q:Gw}
theorem stepG_offer (h:q.g.st=sOffer):stepG q=offerG q:=by unfold stepG; rw[if_pos h]
theorem stepG_free (h:q.g.st=sFree):stepG q=swapG q 0 sStash:=by unfold stepG; rw[h,if_neg (by decide),if_pos rfl]
theorem stepG_stash (h:q.g.st=sStash):stepG q=stashG q:=by unfold stepG; rw[h,if_neg (by decide),if_neg (by decide),if_pos rfl]
theorem stepG_again (h:q.g.st=sAgain):stepG q=againG q:=by unfold stepG; rw[h,if_neg (by decide),if_neg (by decide),if_neg (by decide),if_pos rfl]
theorem stepG_back (h:q.g.st=sBack):stepG q=swapG q 1 sOffer:=by unfold stepG; rw[h,if_neg (by decide),if_neg (by decide),if_neg (by decide),if_neg (by decide),if_pos rfl]
theorem stepG_close (h:q.g.st=sClose):stepG q=closeG q:=by unfold stepG; rw[h,if_neg (by decide),if_neg (by decide),if_neg (by decide),if_neg (by decide),if_neg (by decide),if_pos rfl]
theorem stepG_unlist (h:q.g.st=sUnlist):stepG q=unlistG q:=by unfold stepG; rw[h,if_neg (by decide),if_neg (by decide),if_neg (by decide),if_neg (by decide),if_neg (by decide),if_neg (by decide),if_pos rfl]
theorem stepG_shrink (h:q.g.st=sShrink):stepG q=shrinkG q:=by unfold stepG; rw[h,if_neg (by decide),if_neg (by decide),if_neg (by decide),if_neg (by decide),if_neg (by decide),if_neg (by decide),if_neg (by decide),if_pos rfl]
theorem stepG_done (h:q.g.st=sDone):stepG q=q:=by
 unfold stepG
 rw[h,if_neg (by decide),if_neg (by decide),if_neg (by decide),if_neg (by decide),if_neg (by decide),if_neg (by decide),if_neg (by decide),if_neg (by decide)]
 obtain⟨⟨th,op,id,word,st⟩,s,N⟩:=q
 cases h
 rfl
end
structure Gd (s:Ws) (n:Nat):Prop where
 D:s.D=(List.range n).map fun j:Nat=>((j:Int)+1,(⟨Wd.wOf 1 0,0,0,0⟩:Ex))
 S:s.S=(List.range n).map fun j:Nat=>(j:Int)+1
 live:s.live=n
 n_:s.n=n
 C:s.C=[]
 now:s.now=0
 O:s.O=[]
 mx:s.conf.max=8
 el:s.ev=[]
section
variable {s:Ws} {n:Nat}
def oneMore (s:Ws) (st:Int) (i:Nat):Ws:=playS (playS (playS s ⟨1,0,0,0,0⟩) ⟨3,0,0,0,st⟩) ⟨4,(i:Int)+1,0,0,0⟩
end
section
variable {s:Ws} {n:Nat} {N:List Int} {id:Int}
abbrev g0 (id:Int):Gv:=⟨0,1,id,Wd.wOf 1 0,sOffer⟩
end
end Go.Proofs.YtoiklelghfckgaaGreatDoor.Wo
namespace Go.Proofs.YtoiklelghfckgaaGreatDoor.Wo
open Go Go.ChangeShapes Go.WideShapes Go.ChangeAt Go.RowKit Go.Deep Go.Maps Rw Hi Mt Ba
open Cn (Cf cfE)
def Gv.cells (g:Gv):List Value:=[.int .i64 g.th,.int .i64 g.op,.int .u64 g.id,.int .u64 g.word,.string g.st]
theorem gcells_one (g:Gv):g.cells.toArray.all (·.oneCell')=true:=by kernel_rfl
structure Vg (w:World) (b:Nat) (g:Gv):Prop where
 at_:w.rangeAt b 0 g.cells
 th:w.there b 0 5
theorem under_g:Tryz.prog.underlying 66=some (Tryz.prog.underlying 66).get!:=by kernel_rfl
theorem row_g:((Tryz.prog.underlying 66).get!).isRow=true:=by kernel_rfl
theorem info_g:(Tryz.prog.info? 66).map (·.size)=some 5:=by kernel_rfl
section
variable {w w':World} {b:Nat} {g:Gv}
theorem Vg.cell (h:Vg w b g) (j:Nat) (u:Value) (z:g.cells[j]? = some u):w.cell? ⟨b,j,none⟩=some u:=by
 have:=h.at_ j u z
 rwa [Nat.zero_add] at this
theorem th5_free (h:w.there b 0 5) (j:Nat) (u:j < 5):w.frozen? ⟨b,j,none⟩=false:=by
 have:=(h j u).2
 rwa [Nat.zero_add] at this
theorem th5_blk (h:w.there b 0 5) (u:w'.heap[b]? = w.heap[b]?):w'.there b 0 5:=fun j z=>⟨by rw[World.cell?_of_block u]; exact (h j z).1,by rw[World.frozen?_of_block u]; exact (h j z).2⟩
theorem th5_lt (h:w.there b 0 5):b < w.heap.size:=by
 obtain⟨u,z⟩:=Option.isSome_iff_exists.1 (h 0 (by decide)).1
 exact Lw.ltH z
theorem Vg.blk (h:Vg w b g) (z:w'.heap[b]? = w.heap[b]?):Vg w' b g:=⟨fun j u F=>(World.cell?_of_block z).trans (h.at_ j u F),th5_blk h.th z⟩
theorem Vg.lt (h:Vg w b g):b < w.heap.size:=th5_lt h.th
theorem Vg.later (h:Vg w b g) (u:Below w.heap.size w w'):Vg w' b g:=h.blk (u.block _ h.lt)
theorem th5_later (h:w.there b 0 5) (u:Below w.heap.size w w'):w'.there b 0 5:=th5_blk h (u.block _ (th5_lt h))
end
theorem box_g (g:Gv) (w:World):∃ W,w.alloc (.cells g.cells.toArray 66)=W/\Vg W w.heap.size g/\Below w.heap.size w W/\W.heap.size=w.heap.size+1:=by
 have h:(w.alloc (.cells g.cells.toArray 66)).heap[w.heap.size]? = some (.cells g.cells.toArray 66):=heap_alloc_last _ _
 refine⟨_,rfl,⟨fun j u z=>?_,fun j z=>⟨?_,?_⟩⟩,(Below.refl _ _).alloc (Nat.le_refl _) _,by simp⟩
 .rw[cell_of_row _ _ _ _ _ _ h]; simpa using z
 .rw[cell_of_row _ _ _ _ _ _ h]; simp[Gv.cells]; omega
 .unfold World.frozen?; simp only[h]; rfl
abbrev zg:Gv:=⟨0,0,0,0,⟨#[]⟩⟩
theorem boxes_g (g:Gv) (w:World):∃ W,(w.alloc (.cells #[.int .i64 g.th,.int .i64 g.op,.int .u64 g.id,.int .u64 g.word,.string g.st] 66)).alloc (.cells #[.int .i64 0,.int .i64 0,.int .u64 0,.int .u64 0,.string ⟨#[]⟩] 66)=W /\
  Vg W w.heap.size g/\W.there (w.heap.size+1) 0 5/\Below w.heap.size w W/\W.heap.size=w.heap.size+2:=by
 obtain⟨u,h,J,b1,Y⟩:=box_g g w
 have h:w.alloc (.cells #[.int .i64 g.th,.int .i64 g.op,.int .u64 g.id,.int .u64 g.word,.string g.st] 66)=u:=h
 rw[h]
 obtain⟨G,I,F,z,s2⟩:=box_g zg u
 rw[Y] at F
 exact⟨G,I,J.later z,F.th,b1.trans (z.mono b1.size),by omega⟩
theorem res_g {fn:Func} {p:Tmp} (u:Array Value) (w:World) (b:Nat) (g:Gv) (h:fn.results=#[.cell p 66]) (z:u.getD p undef=.pointer (some ⟨b,0,none⟩)) (hv:Vg w b g):(results fn u).run Tryz.prog w=.ok g.val w:=by
 have G:=run_loadVar_mid (P:=Tryz.prog) w b 0 66 _ _ hv.at_ under_g row_g info_g
 have F:u[p]?.getD undef=.pointer (some ⟨b,0,none⟩):=by simpa using z
 simp[results,h,F,asAddr,G]
 rfl
section
variable {ops:Array Oper} {rest:List Oper} {op:Oper} {a:Act} {w:World} {Q:Exit->Act->World->Prop}
theorem load_g (u:op.guard=none) (x:Operand) (z:op.op=.load 66 x) (b:Nat) (hx:a.eval x=.pointer (some ⟨b,0,none⟩)) (g:Gv) (hv:Vg w b g)
  (h:wpList Tryz.prog ops Q rest (a.put op.dst g.val) w):wpList Tryz.prog ops Q (op :: rest) a w:=
 wpList_load_mid u 66 x z b 0 hx _ _ hv.at_ under_g row_g info_g h
theorem store_g (z:op.guard=none) (x y:Operand) (F:op.op=.store 66 x y) (b:Nat) (hx:a.eval x=.pointer (some ⟨b,0,none⟩)) (g:Gv) (G:a.eval y=g.val) (u:w.there b 0 5)
  (h:∀ w',Vg w' b g->Fz (fun k=>k=b) w w'->wpList Tryz.prog ops Q rest (a.put op.dst undef) w'):wpList Tryz.prog ops Q (op :: rest) a w:=
 wpList_store_mid z 66 x y F b 0 g.cells.toArray hx G u info_g (gcells_one g) (h _ ⟨World.rangeAt_setCells_same w b 0 _ u,World.there_setCells u b 0 _⟩ (fz_setCells _ _ _ _))
end
theorem Vg.set4 {w:World} {b:Nat} {g:Gv} (h:Vg w b g) (t:ByteArray):Vg (w.setCell ⟨b,4,none⟩ (.string t)) b { g with st:=t }:=by
 have k:∀ o u,o≠4->w.cell? ⟨b,o,none⟩=some u->(w.setCell ⟨b,4,none⟩ (.string t)).cell? ⟨b,o,none⟩=some u:=fun o u I G=>(World.cell?_setCell_other _ _ _ _ (fun e=>by injection e with _ e _; omega)).trans G
 refine⟨fun j u z=>?_,fun j z=>⟨?_,by simpa using (h.th j z).2⟩⟩
 .rw[Nat.zero_add]
  match j,z with
  | 0,z=>exact k 0 u (by decide) (h.cell 0 u z)
  | 1,z=>exact k 1 u (by decide) (h.cell 1 u z)
  | 2,z=>exact k 2 u (by decide) (h.cell 2 u z)
  | 3,z=>exact k 3 u (by decide) (h.cell 3 u z)
  | 4,z=>injection z with z; subst z; exact World.cell?_setCell_same _ _ _ (h.cell 4 _ rfl)
 .rw[Nat.zero_add]
  by_cases e:j=4
  .subst e; rw[World.cell?_setCell_same _ _ _ (h.cell 4 _ rfl)]; rfl
  .have:=(h.th j z).1
   rw[Nat.zero_add] at this
   rw[World.cell?_setCell_other _ _ _ _ (fun F=>by injection F with _ F _; omega)]; exact this
theorem Vg.set3 {w:World} {b:Nat} {g:Gv} (h:Vg w b g) (t:Int):Vg (w.setCell ⟨b,3,none⟩ (.int .u64 t)) b { g with word:=t }:=by
 have k:∀ o u,o≠3->w.cell? ⟨b,o,none⟩=some u->(w.setCell ⟨b,3,none⟩ (.int .u64 t)).cell? ⟨b,o,none⟩=some u:=fun o u I G=>(World.cell?_setCell_other _ _ _ _ (fun e=>by injection e with _ e _; omega)).trans G
 refine⟨fun j u z=>?_,fun j z=>⟨?_,by simpa using (h.th j z).2⟩⟩
 .rw[Nat.zero_add]
  match j,z with
  | 0,z=>exact k 0 u (by decide) (h.cell 0 u z)
  | 1,z=>exact k 1 u (by decide) (h.cell 1 u z)
  | 2,z=>exact k 2 u (by decide) (h.cell 2 u z)
  | 3,z=>injection z with z; subst z; exact World.cell?_setCell_same _ _ _ (h.cell 3 _ rfl)
  | 4,z=>exact k 4 u (by decide) (h.cell 4 u z)
 .rw[Nat.zero_add]
  by_cases e:j=3
  .subst e; rw[World.cell?_setCell_same _ _ _ (h.cell 3 _ rfl)]; rfl
  .have:=(h.th j z).1
   rw[Nat.zero_add] at this
   rw[World.cell?_setCell_other _ _ _ _ (fun F=>by injection F with _ F _; omega)]; exact this
theorem to_any (g:Gv) (t:ByteArray) (w:World):Calls Tryz.prog 177 #[g.val,.string t] w fun e w'=>e=.returned ({ g with st:=t } : Gv).val/\Below w.heap.size w w':=by
 obtain⟨W,a5,h,J,u,S1⟩:=boxes_g g w
 have I:=Lh h
 have G:=Lh J
 have z:=Lh u
 have z4:=h.cell 4 _ rfl
 have f4:=th5_free h.th 4 (by decide)
 clear h J u
 go_enter Tryz.func177,Tryz.ntmps177
 go_upto_region 1 with (fail)
 clear a5
 go_upto_region 2 with (fail)
 have a2:=Lh (I.out.set4 t)
 have a1:Hid ((W.setCell ⟨w.heap.size,4,none⟩ (.string t)).there (w.heap.size+1) 0 5):=Lh (th5_blk G.out (heap_setCell_other _ _ (w.heap.size+1) _ (by simp)))
 have F:=Lh (z.out.setCell (p:=⟨w.heap.size,4,none⟩) (Nat.le_refl _) (.string t))
 generalize (W.setCell ⟨w.heap.size,4,none⟩ (.string t))=W2 at *
 clear z4 f4 I G z S1
 go_wp2_with (first
  | (refine load_g rfl _ rfl w.heap.size rfl { g with st:=t } a2.out ?_)
  | (refine store_g rfl _ _ rfl (w.heap.size+1) rfl { g with st:=t } rfl a1.out ?_; intro w9 Y a0; have a3:=Lh Y; have a4:=Lh a0; clear Y a0))
 exact bodyPost_ret (v:=Gv.val { g with st:=t }) (res_g _ _ (w.heap.size+1) _ Tryz.results177 rfl a3.out) rfl ⟨rfl,F.out.trans (a4.out.below F.out.size (fun k hk=>by omega))⟩
theorem gdone_any (g:Gv) (w:World):Calls Tryz.prog 123 #[g.val] w fun e w'=>e=.returned (.bool (g.st.toList == [100,111,110,101]))/\Below w.heap.size w w':=by
 obtain⟨G,h,z,u,I⟩:=box_g g w
 have h:w.alloc (.cells #[.int .i64 g.th,.int .i64 g.op,.int .u64 g.id,.int .u64 g.word,.string g.st] 66)=G:=h
 have F:=Lh u
 have z4:=z.cell 4 _ rfl
 clear z u
 go_enter Tryz.func123,Tryz.ntmps123
 go_upto_region 1 with (fail)
 clear h
 go_wp2_with fail
 go_ret
 exact⟨rfl,F.out⟩
theorem goffer_any (th op id word:Int) (w:World):Calls Tryz.prog 122 #[.int .i64 th,.int .i64 op,.int .u64 id,.int .u64 word] w fun e w'=>e=.returned (⟨th,op,id,word,sOffer⟩:Gv).val/\Below w.heap.size w w':=by
 obtain⟨W1,h,F,u,S1⟩:=box_g zg w
 have h:w.alloc (.cells #[.int .i64 0,.int .i64 0,.int .u64 0,.int .u64 0,.string ⟨#[]⟩] 66)=W1:=h
 have J:=Lh F.th
 have z:=Lh u
 clear F u
 go_enter Tryz.func122,Tryz.ntmps122
 go_upto_region 1 with (fail)
 clear h
 go_wp2_with (first
  | (refine store_g rfl _ _ rfl w.heap.size rfl ⟨th,op,id,word,sOffer⟩ rfl J.out ?_; intro w9 G I; have W:=Lh G; have Y:=Lh I; clear G I))
 exact bodyPost_ret (v:=Gv.val ⟨th,op,id,word,sOffer⟩) (res_g _ _ w.heap.size _ Tryz.results122 rfl W.out) rfl ⟨rfl,z.out.trans (Y.out.below z.out.size (fun k hk=>by omega))⟩
theorem Wv.var2 {base:Nat} {col:Nat->Nat} {w w':World} {x:Wp} {s:Ws} (h:Wv base col w x s) (I:Below w.heap.size w w'):∃ col',Wv base col' w' x s/\El w col col' /\ ∀ g,w.heap.size<=g->g < w'.heap.size->col' g=8:=by
 have a1:=h.base_le
 obtain⟨col',G⟩:∃ col':Nat->Nat,col'=fun g=>if g < w.heap.size then col g else if g < w'.heap.size then 8 else 0:=⟨_,rfl⟩
 have F:∀ g,g < w.heap.size->col' g=col g:=fun g u=>by rw[G]; exact if_pos u
 have J:∀ g,w.heap.size<=g->g < w'.heap.size->col' g=8:=fun g h1 h2=>by rw[G]; show (if g < w.heap.size then col g else if g < w'.heap.size then 8 else 0)=8; rw[if_neg (by omega),if_pos h2]
 have W:∀ g,w.heap.size<=g->w'.heap.size<=g->col' g=0:=fun g z h4=>by rw[G]; show (if g < w.heap.size then col g else if g < w'.heap.size then 8 else 0)=0; rw[if_neg (by omega),if_neg (by omega)]
 have a0:=h.lo
 obtain⟨p,q,Y,hi⟩:=h
 have hs:=I.size
 refine⟨col',⟨p,q,(Y.recol F (fun g u=>?_)).later I,fun g u=>?_⟩,F,J⟩
 .by_cases z:g < w.heap.size
  .exact a0 g (by rw[<- F g z]; exact u)
  .omega
 .by_cases z:g < w'.heap.size
  .exact z
  .exact absurd (W g (by omega) (by omega)) u
theorem fw_own {col:Nat->Nat} {w z F:World} {R:Nat} (h:Fw col w z) (u:Fz (fun k=>k=R) z F) (G:w.heap.size<=R):Fw col w F:=
 ⟨u.os.trans h.os,u.tape.trans h.tape,u.output.trans h.output,Nat.le_trans h.size u.size,fun k hk hc=>(u.block k (Nat.lt_of_lt_of_le hk h.size) (fun e=>by omega)).trans (h.block k hk hc)⟩
theorem give_end {base:Nat} {col u z:Nat->Nat} {x:Wp} {s:Ws} {w h F w8 G:World} (W:El w col u) (a0:Below w.heap.size w h) (a1:h.heap.size=w.heap.size+2) (h8:∀ g,w.heap.size<=g->g < h.heap.size->u g=8)
  (hw:Wv base z F x s) (hf:Fw u h F) (J:El h u z) (I:Below F.heap.size F w8) (Y:Fz (fun k=>k=w.heap.size+1) w8 G):∃ col',Wv base col' G x s/\Fw col w G/\El w col col':=by
 have e8:z (w.heap.size+1)=8:=(J _ (by omega)).trans (h8 _ (by omega) (by omega))
 refine⟨z,(hw.later I).aside Y (fun g _ e=>by subst e; exact e8),fw_own ((fw_two (Fz.of_below a0) W hf).trans (Fz.of_below I)) Y (by omega),fun g hg=>(J g (by omega)).trans (W g hg)⟩
theorem give_end3 {base:Nat} {col u I:Nat->Nat} {x:Wp} {s:Ws} {w h G w8 J:World} (a0:El w col u) (z:Below w.heap.size w h) (a3:h.heap.size=w.heap.size+2) (h8:∀ g,w.heap.size<=g->g < h.heap.size->u g=8)
  (hw:Wv base I G x s) (F:Fz (fun k=>(u k≠0/\u k≠8)\/k=w.heap.size) h G) (Y:El h u I) (W:Below G.heap.size G w8) (a1:Fz (fun k=>k=w.heap.size+1) w8 J):∃ col',Wv base col' J x s/\Fw col w J/\El w col col':=by
 have e8:I (w.heap.size+1)=8:=(Y _ (by omega)).trans (h8 _ (by omega) (by omega))
 have a2:Fw col w G:=⟨F.os.trans z.os,F.tape.trans z.tape,F.output.trans z.output,Nat.le_trans z.size F.size,fun k hk hc=>(F.block k (by omega) (fun e=>by
  rcases e with e | e
  .rw[a0 k hk] at e; exact hc e
  .omega)).trans (z.block k hk)⟩
 refine⟨I,(hw.later W).aside a1 (fun g _ e=>by subst e; exact e8),fw_own (a2.trans (Fz.of_below W)) a1 (by omega),fun g hg=>(Y g (by omega)).trans (a0 g hg)⟩
theorem Vg.fw {w w':World} {b:Nat} {g:Gv} {col:Nat->Nat} (h:Vg w b g) (hc:col b=8) (u:Fw col w w'):Vg w' b g:=h.blk (u.block b h.lt (fun e=>e.2 hc))
theorem th5_fw {w w':World} {b:Nat} {col:Nat->Nat} (h:w.there b 0 5) (hc:col b=8) (u:Fw col w w'):w'.there b 0 5:=th5_blk h (u.block b (th5_lt h) (fun e=>e.2 hc))
abbrev Does (f:FuncId) (w:World) (base:Nat) (col:Nat->Nat) (x:Wp) (q r:Gw):Prop:=
 Calls Tryz.prog f #[q.g.val,ptr x.pw] w fun e w'=>e=.returned r.g.val /\ ∃ col',Wv base col' w' x r.s/\Fw col w w'/\El w col col'
section
variable (w:World) {base:Nat} {col:Nat->Nat} {x:Wp} {q:Gw} {k:Nat}
theorem give_shrink (h:Wv base col w x q.s) (h0:0<=q.s.live) (hm:q.s.live<=1000000):Does 203 w base col x q (shrinkG q):=by
 obtain⟨g,s,N⟩:=q
 obtain⟨Y,ar,W,J,F,I⟩:=boxes_g g w
 obtain⟨u,a4,a2,z⟩:=h.var2 F
 have an:=Lh a4
 have aj:=Lh W
 have ag:=Lh J
 have a7:=Lh F
 have af:=Lh I
 have ad:=Lh a2
 have a6:=Lh z
 have a0:u w.heap.size=8:=z _ (Nat.le_refl _) (by omega)
 have a1:u (w.heap.size+1)=8:=z _ (by omega) (by omega)
 have a9:=Lh a0
 have aa:=Lh a1
 clear W J F I a4 a2 z a0 a1 h
 go_enter Tryz.func203,Tryz.ntmps203
 go_upto_region 1 with (fail)
 clear ar
 go_wp2_with fail
 refine (wshrink_any Y an.out h0 hm).mono ?_
 rintro e w2 ⟨rfl,h2,z2⟩
 have l2:El Y u u:=El.refl _ _
 have ao:=Lh h2
 have ac:=Lh z2
 have ae:=Lh l2
 have ak:=Lh (aj.out.fw a9.out z2)
 have ah:=Lh (th5_fw ag.out aa.out z2)
 clear h2 z2 l2
 go_wp2_with (first
  | (refine load_g rfl _ rfl w.heap.size rfl g ak.out ?_))
 refine (to_any g sDone _).mono ?_
 rintro e w8 ⟨rfl,G⟩
 have a8:=Lh G
 have ai:=Lh (th5_later ah.out G)
 clear G
 go_wp2_with (first
  | (refine store_g rfl _ _ rfl (w.heap.size+1) rfl { g with st:=sDone } rfl ai.out ?_; intro w9 a3 a5; have al:=Lh a3; have aq:=Lh a5; clear a3 a5))
 exact bodyPost_ret (v:=Gv.val { g with st:=sDone }) (res_g _ _ (w.heap.size+1) _ Tryz.results203 rfl al.out) rfl ⟨rfl,give_end ad.out a7.out af.out a6.out ao.out ac.out ae.out a8.out aq.out⟩
theorem give_again (h:Wv base col w x q.s) (hl:q.s.sl.length<=1000):Does 199 w base col x q (againG q):=by
 obtain⟨t,ht⟩:∃ t,(if q.s.closed=true\/0 < St.waitN q.s.sl then sBack else sDone)=t:=⟨_,rfl⟩
 have hr:againG q=⟨{ q.g with st:=t },q.s,q.N⟩:=by unfold againG; rw[ht]
 rw[hr]
 clear hr
 cases hcl:q.s.closed with
 | true=>
  rw[hcl,if_pos (.inl rfl)] at ht
  subst ht
  obtain⟨g,s,N⟩:=q
  obtain⟨u,aq,V1,T1,I,Y⟩:=boxes_g g w
  obtain⟨z,a4,a2,G⟩:=h.var2 I
  have W:=Lh a4
  have aj:=Lh V1
  have ag:=Lh T1
  have a7:=Lh I
  have af:=Lh Y
  have ad:=Lh a2
  have a6:=Lh G
  have a0:z w.heap.size=8:=G _ (Nat.le_refl _) (by omega)
  have a1:z (w.heap.size+1)=8:=G _ (by omega) (by omega)
  have a9:=Lh a0
  have aa:=Lh a1
  clear V1 T1 I Y a4 a2 G a0 a1 h
  go_enter Tryz.func199,Tryz.ntmps199
  go_upto_region 1 with (fail)
  clear aq
  go_wp2_with fail
  refine (wwant_closed u W.out hcl).mono ?_
  rintro e w2 ⟨rfl,F⟩
  have F:Below u.heap.size u w2:=F ▸ Below.refl _ _
  have h2:=W.out.later F
  have z2:Fw z u w2:=Fz.of_below F
  have l2:El u z z:=El.refl _ _
  clear F
  have an:=Lh h2
  have ac:=Lh z2
  have ae:=Lh l2
  have ak:=Lh (aj.out.fw a9.out z2)
  have ah:=Lh (th5_fw ag.out aa.out z2)
  clear h2 z2 l2
  go_wp2_with (first
   | (refine load_g rfl _ rfl w.heap.size rfl g ak.out ?_))
  refine (to_any g sBack _).mono ?_
  rintro e w8 ⟨rfl,J⟩
  have a8:=Lh J
  have ai:=Lh (th5_later ah.out J)
  clear J
  go_wp2_with (first
   | (refine store_g rfl _ _ rfl (w.heap.size+1) rfl { g with st:=sBack } rfl ai.out ?_; intro w9 a3 a5; have al:=Lh a3; have ao:=Lh a5; clear a3 a5))
  exact bodyPost_ret (v:=Gv.val { g with st:=sBack }) (res_g _ _ (w.heap.size+1) _ Tryz.results199 rfl al.out) rfl ⟨rfl,give_end ad.out a7.out af.out a6.out an.out ac.out ae.out a8.out ao.out⟩
 | false=>
  by_cases hwt:0 < St.waitN q.s.sl
  .rw[if_pos (.inr hwt)] at ht
   subst ht
   obtain⟨g,s,N⟩:=q
   obtain⟨u,aq,V1,T1,I,Y⟩:=boxes_g g w
   obtain⟨z,a4,a2,G⟩:=h.var2 I
   have W:=Lh a4
   have aj:=Lh V1
   have ag:=Lh T1
   have a7:=Lh I
   have af:=Lh Y
   have ad:=Lh a2
   have a6:=Lh G
   have a0:z w.heap.size=8:=G _ (Nat.le_refl _) (by omega)
   have a1:z (w.heap.size+1)=8:=G _ (by omega) (by omega)
   have a9:=Lh a0
   have aa:=Lh a1
   clear V1 T1 I Y a4 a2 G a0 a1 h
   go_enter Tryz.func199,Tryz.ntmps199
   go_upto_region 1 with (fail)
   clear aq
   have q1:decide (0 < St.waitN s.sl)=true:=decide_eq_true hwt
   have ar:Hid (Calls Tryz.prog 234 #[ptr x.pw] u fun e w'=>e=.returned (.bool true)/\Below u.heap.size u w'):=Lh (by have:=wwant_open u W.out hl hcl; rw[q1] at this; exact this)
   clear hcl hwt q1
   go_wp2_with fail
   refine (ar.out).mono ?_
   rintro e w2 ⟨rfl,F⟩
   have F:Below u.heap.size u w2:=F
   have h2:=W.out.later F
   have z2:Fw z u w2:=Fz.of_below F
   have l2:El u z z:=El.refl _ _
   clear F
   have an:=Lh h2
   have ac:=Lh z2
   have ae:=Lh l2
   have ak:=Lh (aj.out.fw a9.out z2)
   have ah:=Lh (th5_fw ag.out aa.out z2)
   clear h2 z2 l2
   go_wp2_with (first
    | (refine load_g rfl _ rfl w.heap.size rfl g ak.out ?_))
   refine (to_any g sBack _).mono ?_
   rintro e w8 ⟨rfl,J⟩
   have a8:=Lh J
   have ai:=Lh (th5_later ah.out J)
   clear J
   go_wp2_with (first
    | (refine store_g rfl _ _ rfl (w.heap.size+1) rfl { g with st:=sBack } rfl ai.out ?_; intro w9 a3 a5; have al:=Lh a3; have ao:=Lh a5; clear a3 a5))
   exact bodyPost_ret (v:=Gv.val { g with st:=sBack }) (res_g _ _ (w.heap.size+1) _ Tryz.results199 rfl al.out) rfl ⟨rfl,give_end ad.out a7.out af.out a6.out an.out ac.out ae.out a8.out ao.out⟩
  .rw[hcl,if_neg (by intro e; rcases e with e | e; cases e; exact hwt e)] at ht
   subst ht
   obtain⟨g,s,N⟩:=q
   obtain⟨u,aq,V1,T1,I,Y⟩:=boxes_g g w
   obtain⟨z,a4,a2,G⟩:=h.var2 I
   have W:=Lh a4
   have aj:=Lh V1
   have ag:=Lh T1
   have a7:=Lh I
   have af:=Lh Y
   have ad:=Lh a2
   have a6:=Lh G
   have a0:z w.heap.size=8:=G _ (Nat.le_refl _) (by omega)
   have a1:z (w.heap.size+1)=8:=G _ (by omega) (by omega)
   have a9:=Lh a0
   have aa:=Lh a1
   clear V1 T1 I Y a4 a2 G a0 a1 h
   go_enter Tryz.func199,Tryz.ntmps199
   go_upto_region 1 with (fail)
   clear aq
   have q1:decide (0 < St.waitN s.sl)=false:=decide_eq_false hwt
   have ar:Hid (Calls Tryz.prog 234 #[ptr x.pw] u fun e w'=>e=.returned (.bool false)/\Below u.heap.size u w'):=Lh (by have:=wwant_open u W.out hl hcl; rw[q1] at this; exact this)
   clear hcl hwt q1
   go_wp2_with fail
   refine (ar.out).mono ?_
   rintro e w2 ⟨rfl,F⟩
   have F:Below u.heap.size u w2:=F
   have h2:=W.out.later F
   have z2:Fw z u w2:=Fz.of_below F
   have l2:El u z z:=El.refl _ _
   clear F
   have an:=Lh h2
   have ac:=Lh z2
   have ae:=Lh l2
   have ak:=Lh (aj.out.fw a9.out z2)
   have ah:=Lh (th5_fw ag.out aa.out z2)
   clear h2 z2 l2
   go_wp2_with (first
    | (refine load_g rfl _ rfl w.heap.size rfl g ak.out ?_))
   refine (to_any g sDone _).mono ?_
   rintro e w8 ⟨rfl,J⟩
   have a8:=Lh J
   have ai:=Lh (th5_later ah.out J)
   clear J
   go_wp2_with (first
    | (refine store_g rfl _ _ rfl (w.heap.size+1) rfl { g with st:=sDone } rfl ai.out ?_; intro w9 a3 a5; have al:=Lh a3; have ao:=Lh a5; clear a3 a5))
   exact bodyPost_ret (v:=Gv.val { g with st:=sDone }) (res_g _ _ (w.heap.size+1) _ Tryz.results199 rfl al.out) rfl ⟨rfl,give_end ad.out a7.out af.out a6.out an.out ac.out ae.out a8.out ao.out⟩
theorem give_shut (h:Wv base col w x q.s) (hM:q.s.M=Le.mk q.N) (I:q.g.ok) (a7:U64 q.s.now) (hn:q.s.C.length < 1000) (hl:q.s.ev.length<=1000):Does 201 w base col x q (closeG q):=by
 by_cases hk:bK q.s.D q.g.id q.g.word 3=true
 .rw[show closeG q=⟨{ q.g with st:=sUnlist },remS q.s q.N q.g.id q.g.word q.g.th q.g.op,q.N.filter (· != q.g.id)⟩ from if_pos hk]
  obtain⟨g,s,N⟩:=q
  obtain⟨W1,av,u,Y,F,W⟩:=boxes_g g w
  obtain⟨a0,a5,a3,z⟩:=h.var2 F
  have aq:=Lh a5
  have al:=Lh u
  have ai:=Lh Y
  have a9:=Lh F
  have ah:=Lh W
  have af:=Lh a3
  have a8:=Lh z
  have a1:a0 w.heap.size=8:=z _ (Nat.le_refl _) (by omega)
  have a2:a0 (w.heap.size+1)=8:=z _ (by omega) (by omega)
  have ac:=Lh a1
  have ad:=Lh a2
  have z0:=u.cell 0 _ rfl
  have z1:=u.cell 1 _ rfl
  have z2:=u.cell 2 _ rfl
  have z3:=u.cell 3 _ rfl
  clear u Y F W a5 a3 z a1 a2 h
  go_enter Tryz.func201,Tryz.ntmps201
  go_upto_region 1 with (fail)
  clear av
  have J:=Lh (wrem_yes W1 N aq.out hM g.id g.word g.th g.op I.i a7 I.w hk hn hl)
  clear hk hM I a7 hn hl
  go_wp2_with fail
  refine J.out.mono ?_
  rintro e w2 ⟨rfl,aw,h2,z2,l2⟩
  clear J
  have ar:=Lh h2
  have ae:=Lh z2
  have ag:=Lh l2
  have an:=Lh (al.out.fw ac.out z2)
  have aj:=Lh (th5_fw ai.out ad.out z2)
  clear h2 z2 l2
  go_wp2_with (first
   | (refine load_g rfl _ rfl w.heap.size rfl g an.out ?_))
  refine (to_any g sUnlist _).mono ?_
  rintro e w8 ⟨rfl,G⟩
  have aa:=Lh G
  have ak:=Lh (th5_later aj.out G)
  clear G
  go_wp2_with (first
   | (refine store_g rfl _ _ rfl (w.heap.size+1) rfl { g with st:=sUnlist } rfl ak.out ?_; intro w9 a4 a6; have ao:=Lh a4; have au:=Lh a6; clear a4 a6))
  exact bodyPost_ret (v:=Gv.val { g with st:=sUnlist }) (res_g _ _ (w.heap.size+1) _ Tryz.results201 rfl ao.out) rfl ⟨rfl,give_end af.out a9.out ah.out a8.out ar.out ae.out ag.out aa.out au.out⟩
 .have hk:bK q.s.D q.g.id q.g.word 3=false:=by simpa using hk
  rw[show closeG q=⟨{ q.g with st:=sUnlist },q.s,q.N⟩ from if_neg (by rw[hk]; decide)]
  obtain⟨g,s,N⟩:=q
  obtain⟨W1,av,u,Y,F,W⟩:=boxes_g g w
  obtain⟨a0,a5,a3,z⟩:=h.var2 F
  have aq:=Lh a5
  have al:=Lh u
  have ai:=Lh Y
  have a9:=Lh F
  have ah:=Lh W
  have af:=Lh a3
  have a8:=Lh z
  have a1:a0 w.heap.size=8:=z _ (Nat.le_refl _) (by omega)
  have a2:a0 (w.heap.size+1)=8:=z _ (by omega) (by omega)
  have ac:=Lh a1
  have ad:=Lh a2
  have z0:=u.cell 0 _ rfl
  have z1:=u.cell 1 _ rfl
  have z2:=u.cell 2 _ rfl
  have z3:=u.cell 3 _ rfl
  clear u Y F W a5 a3 z a1 a2 h
  go_enter Tryz.func201,Tryz.ntmps201
  go_upto_region 1 with (fail)
  clear av
  have J:=Lh (wrem_no W1 N aq.out hM g.id g.word g.th g.op I.i a7 I.w hk)
  clear hk hM I a7 hn hl
  go_wp2_with fail
  refine J.out.mono ?_
  rintro e w2 ⟨rfl,aw,h2,z2,l2⟩
  clear J
  have ar:=Lh h2
  have ae:=Lh z2
  have ag:=Lh l2
  have an:=Lh (al.out.fw ac.out z2)
  have aj:=Lh (th5_fw ai.out ad.out z2)
  clear h2 z2 l2
  go_wp2_with (first
   | (refine load_g rfl _ rfl w.heap.size rfl g an.out ?_))
  refine (to_any g sUnlist _).mono ?_
  rintro e w8 ⟨rfl,G⟩
  have aa:=Lh G
  have ak:=Lh (th5_later aj.out G)
  clear G
  go_wp2_with (first
   | (refine store_g rfl _ _ rfl (w.heap.size+1) rfl { g with st:=sUnlist } rfl ak.out ?_; intro w9 a4 a6; have ao:=Lh a4; have au:=Lh a6; clear a4 a6))
  exact bodyPost_ret (v:=Gv.val { g with st:=sUnlist }) (res_g _ _ (w.heap.size+1) _ Tryz.results201 rfl ao.out) rfl ⟨rfl,give_end af.out a9.out ah.out a8.out ar.out ae.out ag.out aa.out au.out⟩
theorem give_unlist (h:Wv base col w x q.s) (a6:q.g.ok) (hl:q.s.S.length<=1000000):Does 202 w base col x q (unlistG q):=by
 unfold unlistG
 obtain⟨g,s,N⟩:=q
 obtain⟨F,aw,V1,T1,W,S1⟩:=boxes_g g w
 obtain⟨G,a8,a5,I⟩:=h.var2 W
 have a1:=Lh a8
 have Y:=Lh V1
 have ak:=Lh T1
 have ac:=Lh W
 have aj:=Lh S1
 have ah:=Lh a5
 have aa:=Lh I
 have a3:G w.heap.size=8:=I _ (Nat.le_refl _) (by omega)
 have a4:G (w.heap.size+1)=8:=I _ (by omega) (by omega)
 have a0:=Lh a3
 have ae:=Lh a4
 have HI:=Lh a6.i
 clear V1 T1 W S1 a8 a5 I a3 a4 h
 go_enter Tryz.func202,Tryz.ntmps202
 go_upto_region 1 with (fail)
 clear aw
 clear a6
 go_wp2_with fail
 have u:Hid (Wc F.drew x s/\Vg F.drew w.heap.size g):=Lh ⟨a1.out.cells.blk rfl,Y.out.blk rfl⟩
 have af:=Lh (a1.out.later (Below.refl _ _).drew)
 refine rgS 7 (fun w'=>Wc w' x s/\Vg w' w.heap.size g) (by kernel_rfl) (by kernel_rfl) ?_
 intro a2
 have z:=Lh a2
 clear a2
 refine rq 0 z.out u.out rfl ?_
 refine rq 1 z.out u.out rfl ?_
 refine rq 2 z.out u.out rfl ?_
 refine rq 3 z.out u.out rfl ?_ (hv:=fun w' hw=>by (have kc:=hw.1.c8; go_simp; exact rfl))
 refine rq 4 z.out u.out rfl ?_
 refine rq 5 z.out u.out rfl ?_ (hv:=fun w' hw=>by (have kz:=hw.2.cell 2 _ rfl; go_simp; exact rfl))
 refine rO 6 rfl (by kernel_rfl) rfl ?_
 unfold Oper.wp
 go_simp
 refine (wunlist _ af.out g.id HI.out hl).mono ?_
 rintro e w2 ⟨rfl,av,h2,z2,J⟩
 have z2:Fw G F w2:=(Fz.of_below (Below.refl _ _).drew).trans z2
 have J:El F G av:=J
 have hS:Wc w2 x s/\Vg w2 w.heap.size g:=⟨h2.cells.to rfl rfl rfl rfl rfl rfl rfl rfl rfl rfl rfl,Y.out.fw a0.out z2⟩
 refine⟨hS,?_⟩
 clear u
 have u:=Lh hS
 clear hS
 have ar:=Lh h2
 have ag:=Lh z2
 have ai:=Lh J
 have ao:=Lh (Y.out.fw a0.out z2)
 have al:=Lh (th5_fw ak.out ae.out z2)
 clear h2 z2 J
 refine rgD (by kernel_rfl) ?_
 go_wp2_with (first
  | (refine load_g rfl _ rfl w.heap.size rfl g ao.out ?_))
 refine (to_any g sShrink _).mono ?_
 rintro e w8 ⟨rfl,b8⟩
 have ad:=Lh b8
 have an:=Lh (th5_later al.out b8)
 clear b8
 go_wp2_with (first
  | (refine store_g rfl _ _ rfl (w.heap.size+1) rfl { g with st:=sShrink } rfl an.out ?_; intro w9 a7 a9; have aq:=Lh a7; have au:=Lh a9; clear a7 a9))
 exact bodyPost_ret (v:=Gv.val { g with st:=sShrink }) (res_g _ _ (w.heap.size+1) _ Tryz.results202 rfl aq.out) rfl ⟨rfl,give_end ah.out ac.out aj.out aa.out ar.out ag.out ai.out ad.out au.out⟩
theorem give_swap (h:Wv base col w x q.s) (a4:q.g.ok) (aq:U64 q.s.now) (st:Int) (tn:ByteArray):Calls Tryz.prog 232 #[q.g.val,ptr x.pw,.int .i64 st,.string tn] w fun e w'=>e=.returned (swapG q st tn).g.val /\ ∃ col',Wv base col' w' x (swapG q st tn).s/\Fw col w w'/\El w col col':=by
 unfold swapG
 cases hk:bK q.s.D q.g.id q.g.word st with
 | false=>
  obtain⟨vb,a5⟩:∃ vb,bV q.s.D q.g.id q.g.word st=vb:=⟨_,rfl⟩
  simp only[Bool.false_eq_true,if_false]
  have ay:=Lh hk
  have aE:=Lh a5
  clear hk a5
  obtain⟨g,s,N⟩:=q
  obtain⟨G,aH,V1,T1,B1,S1⟩:=boxes_g g w
  obtain⟨J,ag,ad,a0⟩:=h.var2 B1
  have a8:=Lh ag
  have W:=Lh V1
  have aB:=Lh T1
  have au:=Lh B1
  have ak:=Lh S1
  have az:=Lh ad
  have ar:=Lh a0
  have aa:J w.heap.size=8:=a0 _ (Nat.le_refl _) (by omega)
  have ac:J (w.heap.size+1)=8:=a0 _ (by omega) (by omega)
  have a2:=Lh aa
  have aw:=Lh ac
  have HI:=Lh a4.i
  have aF:=Lh a4.w
  have aA:=Lh aq
  clear V1 T1 B1 S1 ag ad a0 aa ac h
  go_enter Tryz.func232,Tryz.ntmps232
  go_upto_region 1 with (fail)
  clear aH
  clear a4 aq
  go_wp2_with fail
  have u:Hid (Wc G.drew x s/\Vg G.drew w.heap.size g):=Lh ⟨a8.out.cells.blk rfl,W.out.blk rfl⟩
  have a7:=Lh (a8.out.later (Below.refl _ _).drew)
  refine rgS 17 (fun w'=>Wc w' x s/\Vg w' w.heap.size g) (by kernel_rfl) (by kernel_rfl) ?_
  intro a9
  have z:=Lh a9
  clear a9
  refine rq 0 z.out u.out rfl ?_
  refine rq 1 z.out u.out rfl ?_
  refine rq 2 z.out u.out rfl ?_
  refine rq 3 z.out u.out rfl ?_ (hv:=fun w' hw=>by (have kc:=hw.1.c8; go_simp; exact rfl))
  refine rq 4 z.out u.out rfl ?_
  refine rq 5 z.out u.out rfl ?_ (hv:=fun w' hw=>by (have kz:=hw.2.cell 2 _ rfl; go_simp; exact rfl))
  refine rq 6 z.out u.out rfl ?_
  refine rq 7 z.out u.out rfl ?_ (hv:=fun w' hw=>by (have kz:=hw.2.cell 3 _ rfl; go_simp; exact rfl))
  refine rq 8 z.out u.out rfl ?_
  refine rq 9 z.out u.out rfl ?_
  refine rO 10 rfl (by kernel_rfl) rfl ?_
  unfold Oper.wp
  go_simp
  refine (wnow_any _ u.out.1).mono ?_
  rintro e w4 ⟨rfl,Y⟩
  have a1:=a7.out.later Y
  have ae:Vg w4 w.heap.size g:=W.out.later ((Below.refl _ _).drew.trans Y)
  have F:Wc w4 x s/\Vg w4 w.heap.size g:=⟨a1.cells,ae⟩
  refine⟨F,?_⟩
  clear u a7
  have u:=Lh F
  have ax:=Lh a1
  have a6:Hid (Below G.heap.size G w4):=Lh ((Below.refl _ _).drew.trans Y)
  clear F a1 ae Y
  refine rO 11 rfl (by kernel_rfl) rfl ?_
  unfold Oper.wp
  go_simp
  refine (wswap _ ax.out g.id g.word st s.now HI.out aF.out aA.out).mono ?_
  rintro e I ⟨rfl,ao,h2,z2,l2⟩
  rw[ay.out,aE.out]
  have z2:Fw J G I:=(Fz.of_below a6.out).trans z2
  have l2:El G J ao:=fun k hk=>l2 k (by have:=a6.out.size; omega)
  have F:Wc I x s/\Vg I w.heap.size g:=⟨h2.cells.to rfl rfl rfl rfl rfl rfl rfl rfl rfl rfl rfl,W.out.fw a2.out z2⟩
  refine⟨F,?_⟩
  clear u
  have u:=Lh F
  clear F
  have an:=Lh h2
  have ai:=Lh z2
  have aj:=Lh l2
  have a3:=Lh (W.out.fw a2.out z2)
  have al:=Lh (th5_fw aB.out aw.out z2)
  clear h2 z2 l2
  refine rq 12 z.out u.out rfl ?_
  refine rq 13 z.out u.out rfl ?_
  refine rq 14 z.out u.out rfl ?_
  refine rq 15 z.out u.out rfl ?_
  refine rq 16 z.out u.out rfl ?_
  refine rgD (by kernel_rfl) ?_
  go_wp2_with (first
   | (refine load_g rfl _ rfl w.heap.size rfl g a3.out ?_))
  refine (to_any g sDone _).mono ?_
  rintro e w8 ⟨rfl,b8⟩
  have av:=Lh b8
  have aC:=Lh (th5_later al.out b8)
  clear b8
  go_wp2_with (first
   | (refine store_g rfl _ _ rfl (w.heap.size+1) rfl { g with st:=sDone } rfl aC.out ?_; intro w9 af ah; have aD:=Lh af; have aG:=Lh ah; clear af ah))
  exact bodyPost_ret (v:=Gv.val { g with st:=sDone }) (res_g _ _ (w.heap.size+1) _ Tryz.results232 rfl aD.out) rfl ⟨rfl,give_end az.out au.out ak.out ar.out an.out ai.out aj.out av.out aG.out⟩
 | true=>
  obtain⟨vb,a5⟩:∃ vb,bV q.s.D q.g.id q.g.word st=vb:=⟨_,rfl⟩
  simp only[if_true,a5]
  have ay:=Lh hk
  have aE:=Lh a5
  clear hk a5
  obtain⟨g,s,N⟩:=q
  obtain⟨G,aH,V1,T1,B1,S1⟩:=boxes_g g w
  obtain⟨J,ag,ad,a0⟩:=h.var2 B1
  have a8:=Lh ag
  have W:=Lh V1
  have aB:=Lh T1
  have au:=Lh B1
  have ak:=Lh S1
  have az:=Lh ad
  have ar:=Lh a0
  have aa:J w.heap.size=8:=a0 _ (Nat.le_refl _) (by omega)
  have ac:J (w.heap.size+1)=8:=a0 _ (by omega) (by omega)
  have a2:=Lh aa
  have aw:=Lh ac
  have HI:=Lh a4.i
  have aF:=Lh a4.w
  have aA:=Lh aq
  clear V1 T1 B1 S1 ag ad a0 aa ac h
  go_enter Tryz.func232,Tryz.ntmps232
  go_upto_region 1 with (fail)
  clear aH
  clear a4 aq
  go_wp2_with fail
  have u:Hid (Wc G.drew x s/\Vg G.drew w.heap.size g):=Lh ⟨a8.out.cells.blk rfl,W.out.blk rfl⟩
  have a7:=Lh (a8.out.later (Below.refl _ _).drew)
  refine rgS 17 (fun w'=>Wc w' x s/\Vg w' w.heap.size g) (by kernel_rfl) (by kernel_rfl) ?_
  intro a9
  have z:=Lh a9
  clear a9
  refine rq 0 z.out u.out rfl ?_
  refine rq 1 z.out u.out rfl ?_
  refine rq 2 z.out u.out rfl ?_
  refine rq 3 z.out u.out rfl ?_ (hv:=fun w' hw=>by (have kc:=hw.1.c8; go_simp; exact rfl))
  refine rq 4 z.out u.out rfl ?_
  refine rq 5 z.out u.out rfl ?_ (hv:=fun w' hw=>by (have kz:=hw.2.cell 2 _ rfl; go_simp; exact rfl))
  refine rq 6 z.out u.out rfl ?_
  refine rq 7 z.out u.out rfl ?_ (hv:=fun w' hw=>by (have kz:=hw.2.cell 3 _ rfl; go_simp; exact rfl))
  refine rq 8 z.out u.out rfl ?_
  refine rq 9 z.out u.out rfl ?_
  refine rO 10 rfl (by kernel_rfl) rfl ?_
  unfold Oper.wp
  go_simp
  refine (wnow_any _ u.out.1).mono ?_
  rintro e w4 ⟨rfl,Y⟩
  have a1:=a7.out.later Y
  have ae:Vg w4 w.heap.size g:=W.out.later ((Below.refl _ _).drew.trans Y)
  have F:Wc w4 x s/\Vg w4 w.heap.size g:=⟨a1.cells,ae⟩
  refine⟨F,?_⟩
  clear u a7
  have u:=Lh F
  have ax:=Lh a1
  have a6:Hid (Below G.heap.size G w4):=Lh ((Below.refl _ _).drew.trans Y)
  clear F a1 ae Y
  refine rO 11 rfl (by kernel_rfl) rfl ?_
  unfold Oper.wp
  go_simp
  refine (wswap _ ax.out g.id g.word st s.now HI.out aF.out aA.out).mono ?_
  rintro e I ⟨rfl,ao,h2,z2,l2⟩
  rw[ay.out,aE.out]
  have z2:Fw J G I:=(Fz.of_below a6.out).trans z2
  have l2:El G J ao:=fun k hk=>l2 k (by have:=a6.out.size; omega)
  have F:Wc I x s/\Vg I w.heap.size g:=⟨h2.cells.to rfl rfl rfl rfl rfl rfl rfl rfl rfl rfl rfl,W.out.fw a2.out z2⟩
  refine⟨F,?_⟩
  clear u
  have u:=Lh F
  clear F
  have an:=Lh h2
  have ai:=Lh z2
  have aj:=Lh l2
  have a3:=Lh (W.out.fw a2.out z2)
  have al:=Lh (th5_fw aB.out aw.out z2)
  clear h2 z2 l2
  refine rq 12 z.out u.out rfl ?_
  refine rq 13 z.out u.out rfl ?_
  refine rq 14 z.out u.out rfl ?_
  refine rq 15 z.out u.out rfl ?_
  refine rq 16 z.out u.out rfl ?_
  refine rgD (by kernel_rfl) ?_
  have y3:=a3.out.cell 3 _ rfl
  have f3:=th5_free a3.out.th 3 (by decide)
  go_upto_region 5 with (fail)
  have aL:=Lh (a3.out.set3 vb)
  have aK:Hid ((I.setCell ⟨w.heap.size,3,none⟩ (.int .u64 vb)).there (w.heap.size+1) 0 5):=Lh (th5_blk al.out (heap_setCell_other _ _ (w.heap.size+1) _ (by simp)))
  have aI:Hid (Fz (fun k=>k=w.heap.size) I (I.setCell ⟨w.heap.size,3,none⟩ (.int .u64 vb))):=Lh (Fz.of_set (C:=fun k=>k=w.heap.size) (a:=⟨w.heap.size,3,none⟩) _ rfl)
  have e0:ao w.heap.size=8:=(aj.out _ (by have:=ak.out; omega)).trans a2.out
  have aM:=Lh (an.out.aside aI.out (fun k _ e=>by subst e; exact e0))
  have aJ:Hid (Fz (fun k=>(J k≠0/\J k≠8)\/k=w.heap.size) G (I.setCell ⟨w.heap.size,3,none⟩ (.int .u64 vb))):=Lh ((ai.out.mono (fun _ _ e=>.inl e)).trans (aI.out.mono (fun _ _ e=>.inr e)))
  generalize (I.setCell ⟨w.heap.size,3,none⟩ (.int .u64 vb))=w3 at *
  clear y3 f3 u a3 al an ai e0
  go_wp2_with (first
   | (refine load_g rfl _ rfl w.heap.size rfl { g with word:=vb } aL.out ?_))
  refine (to_any { g with word:=vb } tn _).mono ?_
  rintro e w8 ⟨rfl,b8⟩
  have av:=Lh b8
  have aC:=Lh (th5_later aK.out b8)
  clear b8
  go_wp2_with (first
   | (refine store_g rfl _ _ rfl (w.heap.size+1) rfl { g with word:=vb,st:=tn } rfl aC.out ?_; intro w9 af ah; have aD:=Lh af; have aG:=Lh ah; clear af ah))
  exact bodyPost_ret (v:=Gv.val { g with word:=vb,st:=tn }) (res_g _ _ (w.heap.size+1) _ Tryz.results232 rfl aD.out) rfl ⟨rfl,give_end3 az.out au.out ak.out ar.out aM.out aJ.out aj.out av.out aG.out⟩
theorem give_free (h:Wv base col w x q.s) (a4:q.g.ok) (a3:U64 q.s.now):Does 197 w base col x q (swapG q 0 sStash):=by
 have F:=Lh (fun (w:World) (col:Nat->Nat) (h:Wv base col w x q.s)=>give_swap w (q:=q) h a4 a3 0 sStash)
 obtain⟨r,hr⟩:∃ r,swapG q 0 sStash=r:=⟨_,rfl⟩
 unfold Does
 simp only[hr] at F ⊢
 clear hr
 obtain⟨g,s,N⟩:=q
 obtain⟨W1,ao,W,J,z,I⟩:=boxes_g g w
 obtain⟨Y,a6,a2,u⟩:=h.var2 z
 have ak:=Lh a6
 have G:=Lh W
 have ah:=Lh J
 have a9:=Lh z
 have ag:=Lh I
 have ae:=Lh a2
 have a8:=Lh u
 have a0:Y w.heap.size=8:=u _ (Nat.le_refl _) (by omega)
 have a1:Y (w.heap.size+1)=8:=u _ (by omega) (by omega)
 have aa:=Lh a0
 have ac:=Lh a1
 clear W J z I a6 a2 u a0 a1 h
 go_enter Tryz.func197,Tryz.ntmps197
 go_upto_region 1 with (fail)
 clear ao
 clear a4 a3
 go_wp2_with (first
  | (refine load_g rfl _ rfl w.heap.size rfl g G.out ?_))
 refine (F.out _ _ ak.out).mono ?_
 rintro e w2 ⟨rfl,ar,h2,z2,l2⟩
 have al:=Lh h2
 have ad:=Lh z2
 have af:=Lh l2
 have aq:=Lh (G.out.fw aa.out z2)
 have ai:=Lh (th5_fw ah.out ac.out z2)
 clear h2 z2 l2
 go_wp2_with (first
  | (refine store_g rfl _ _ rfl (w.heap.size+1) rfl r.g rfl ai.out ?_; intro w9 a5 a7; have aj:=Lh a5; have an:=Lh a7; clear a5 a7))
 exact bodyPost_ret (v:=r.g.val) (res_g _ _ (w.heap.size+1) _ Tryz.results197 rfl aj.out) rfl ⟨rfl,give_end ae.out a9.out ag.out a8.out al.out ad.out af.out (Below.refl _ _) an.out⟩
theorem give_back (h:Wv base col w x q.s) (a4:q.g.ok) (a3:U64 q.s.now):Does 200 w base col x q (swapG q 1 sOffer):=by
 have F:=Lh (fun (w:World) (col:Nat->Nat) (h:Wv base col w x q.s)=>give_swap w (q:=q) h a4 a3 1 sOffer)
 obtain⟨r,hr⟩:∃ r,swapG q 1 sOffer=r:=⟨_,rfl⟩
 unfold Does
 simp only[hr] at F ⊢
 clear hr
 obtain⟨g,s,N⟩:=q
 obtain⟨W1,ao,W,J,z,I⟩:=boxes_g g w
 obtain⟨Y,a6,a2,u⟩:=h.var2 z
 have ak:=Lh a6
 have G:=Lh W
 have ah:=Lh J
 have a9:=Lh z
 have ag:=Lh I
 have ae:=Lh a2
 have a8:=Lh u
 have a0:Y w.heap.size=8:=u _ (Nat.le_refl _) (by omega)
 have a1:Y (w.heap.size+1)=8:=u _ (by omega) (by omega)
 have aa:=Lh a0
 have ac:=Lh a1
 clear W J z I a6 a2 u a0 a1 h
 go_enter Tryz.func200,Tryz.ntmps200
 go_upto_region 1 with (fail)
 clear ao
 clear a4 a3
 go_wp2_with (first
  | (refine load_g rfl _ rfl w.heap.size rfl g G.out ?_))
 refine (F.out _ _ ak.out).mono ?_
 rintro e w2 ⟨rfl,ar,h2,z2,l2⟩
 have al:=Lh h2
 have ad:=Lh z2
 have af:=Lh l2
 have aq:=Lh (G.out.fw aa.out z2)
 have ai:=Lh (th5_fw ah.out ac.out z2)
 clear h2 z2 l2
 go_wp2_with (first
  | (refine store_g rfl _ _ rfl (w.heap.size+1) rfl r.g rfl ai.out ?_; intro w9 a5 a7; have aj:=Lh a5; have an:=Lh a7; clear a5 a7))
 exact bodyPost_ret (v:=r.g.val) (res_g _ _ (w.heap.size+1) _ Tryz.results200 rfl aj.out) rfl ⟨rfl,give_end ae.out a9.out ag.out a8.out al.out ad.out af.out (Below.refl _ _) an.out⟩
theorem give_stash (h:Wv base col w x q.s):Does 198 w base col x q (stashG q):=by
 unfold stashG
 obtain⟨g,s,N⟩:=q
 obtain⟨u,ay,V1,T1,B1,S1⟩:=boxes_g g w
 obtain⟨I,a9,a6,W⟩:=h.var2 B1
 have a0:=Lh a9
 have J:=Lh V1
 have an:=Lh T1
 have ad:=Lh B1
 have al:=Lh S1
 have aj:=Lh a6
 have ac:=Lh W
 have a4:I w.heap.size=8:=W _ (Nat.le_refl _) (by omega)
 have a5:I (w.heap.size+1)=8:=W _ (by omega) (by omega)
 have a2:=Lh a4
 have ag:=Lh a5
 clear V1 T1 B1 S1 a9 a6 W a4 a5 h
 go_enter Tryz.func198,Tryz.ntmps198
 go_upto_region 1 with (fail)
 clear ay
 go_wp2_with fail
 have z:Hid (Wc u.drew x s/\Vg u.drew w.heap.size g):=Lh ⟨a0.out.cells.blk rfl,J.out.blk rfl⟩
 have ah:=Lh (a0.out.later (Below.refl _ _).drew)
 refine rgS 10 (fun w'=>Wc w' x s/\Vg w' w.heap.size g) (by kernel_rfl) (by kernel_rfl) ?_
 intro a3
 have F:=Lh a3
 clear a3
 refine rq 0 F.out z.out rfl ?_
 refine rq 1 F.out z.out rfl ?_
 refine rq 2 F.out z.out rfl ?_
 refine rq 3 F.out z.out rfl ?_ (hv:=fun w' hw=>by (have kc:=hw.1.c9; go_simp; exact rfl))
 refine rq 4 F.out z.out rfl ?_
 refine rq 5 F.out z.out rfl ?_ (hv:=fun w' hw=>by (have kz:=hw.2.cell 0 _ rfl; go_simp; exact rfl))
 refine rq 6 F.out z.out rfl ?_
 refine rq 7 F.out z.out rfl ?_ (hv:=fun w' hw=>by (have kz:=hw.2.cell 2 _ rfl; go_simp; exact rfl))
 refine rO 8 rfl (by kernel_rfl) rfl ?_
 unfold Oper.wp
 go_simp
 have hr:=(rd_one (enc:=Value.int .u64) u g.id 25).drew
 have Y:Below u.heap.size u (u.alloc (.cells #[.int .u64 g.id] 25)).drew:=((Below.refl u.heap.size u).alloc (Nat.le_refl _) _).drew
 have a1:=a0.out.later Y
 have a7:(u.alloc (.cells #[.int .u64 g.id] 25)).drew.heap.size=u.heap.size+1:=by simp
 have G:Wc (u.alloc (.cells #[.int .u64 g.id] 25)).drew x s/\Vg (u.alloc (.cells #[.int .u64 g.id] 25)).drew w.heap.size g:=⟨a1.cells,J.out.later Y⟩
 refine⟨G,?_⟩
 rw[<- a7] at hr
 have HR:=Lh hr
 have ae:=Lh Y
 have aw:=Lh a1
 clear z ah hr Y a1 a7
 have z:=Lh G
 clear G
 generalize ((u.alloc (.cells #[.int .u64 g.id] 25)).drew)=w4 at *
 refine rO 9 rfl (by kernel_rfl) rfl ?_
 unfold Oper.wp
 go_simp
 refine (wlput w4 aw.out g.th _ 1 1 [g.id] HR.out (by decide)).mono ?_
 rintro e w2 ⟨rfl,h2,z2⟩
 have z2:Fw I u w2:=(Fz.of_below ae.out).trans z2
 have l2:El u I I:=El.refl _ _
 have G:Wc w2 x s/\Vg w2 w.heap.size g:=⟨h2.cells.to rfl rfl rfl rfl rfl rfl rfl rfl rfl rfl rfl,J.out.fw a2.out z2⟩
 refine⟨G,?_⟩
 clear z
 have z:=Lh G
 clear G
 have av:=Lh h2
 have ai:=Lh z2
 have ak:=Lh l2
 have ar:=Lh (J.out.fw a2.out z2)
 have ao:=Lh (th5_fw an.out ag.out z2)
 clear h2 z2 l2
 refine rgD (by kernel_rfl) ?_
 go_wp2_with (first
  | (refine load_g rfl _ rfl w.heap.size rfl g ar.out ?_))
 refine (to_any g sAgain _).mono ?_
 rintro e w8 ⟨rfl,b8⟩
 have af:=Lh b8
 have aq:=Lh (th5_later ao.out b8)
 clear b8
 go_wp2_with (first
  | (refine store_g rfl _ _ rfl (w.heap.size+1) rfl { g with st:=sAgain } rfl aq.out ?_; intro w9 a8 aa; have au:=Lh a8; have ax:=Lh aa; clear a8 aa))
 exact bodyPost_ret (v:=Gv.val { g with st:=sAgain }) (res_g _ _ (w.heap.size+1) _ Tryz.results198 rfl au.out) rfl ⟨rfl,give_end aj.out ad.out al.out ac.out av.out ai.out ak.out af.out ax.out⟩
theorem give_offer (h:Wv base col w x q.s) (hM:q.s.M=Le.mk q.N) (a4:q.g.ok):Does 196 w base col x q (offerG q):=by
 unfold offerG
 cases hcl:q.s.closed with
 | true=>
  rw[if_pos (.inl rfl)]
  obtain⟨g,s,N⟩:=q
  obtain⟨u,ao,V1,T1,Y,S1⟩:=boxes_g g w
  obtain⟨F,a6,a3,J⟩:=h.var2 Y
  have W:=Lh a6
  have a0:=Lh V1
  have aa:=Lh T1
  have af:=Lh Y
  have ai:=Lh S1
  have ah:=Lh a3
  have ae:=Lh J
  have a1:F w.heap.size=8:=J _ (Nat.le_refl _) (by omega)
  have a2:F (w.heap.size+1)=8:=J _ (by omega) (by omega)
  have av:=Lh a1
  have aw:=Lh a2
  have HI:=Lh a4.i
  clear V1 T1 Y S1 a6 a3 J a1 a2 h
  go_enter Tryz.func196,Tryz.ntmps196
  go_upto_region 1 with (fail)
  clear ao
  clear a4 hM
  have c15:=W.out.cells.c15
  rw[hcl] at c15
  have c11:=W.out.cells.c11
  have ar:∀ y:After u,y.1.cell? ⟨x.pw,15,none⟩=some (.bool true):=fun y=>y.cell c15
  have aq:∀ y:After u,y.1.cell? ⟨x.pw,11,none⟩=some (ptr x.bk.p):=fun y=>y.cell c11
  have au:∀ y:After u,y.1.cell? ⟨w.heap.size,2,none⟩=some (.int .u64 g.id):=fun y=>y.cell (a0.out.cell 2 _ rfl)
  clear c15 c11
  go_wp2_with fail
  refine rgA (by kernel_rfl) (by kernel_rfl) ?_
  repeat (go_big_quiet_step (first
   | (go_at_call 230; exact After.same (a9.out _))))
  refine wpQuiet_nil ?_
  rintro W2 ⟨⟨_,I⟩,rfl⟩
  have ac:=Lh (W.out.later I)
  have a8:Hid (Fw F u W2):=Lh (Fz.of_below I)
  have ax:Hid (El u F F):=Lh (El.refl _ _)
  have ak:=Lh (a0.out.later I)
  have ay:=Lh (th5_later aa.out I)
  clear I ar aq au
  clear hcl
  go_wp2_with (first
   | (refine load_g rfl _ rfl w.heap.size rfl g ak.out ?_))
  refine (to_any g sClose _).mono ?_
  rintro e w8 ⟨rfl,b8⟩
  have ag:=Lh b8
  have aj:=Lh (th5_later ay.out b8)
  clear b8
  go_wp2_with (first
   | (refine store_g rfl _ _ rfl (w.heap.size+1) rfl { g with st:=sClose } rfl aj.out ?_; intro w9 a5 a7; have al:=Lh a5; have an:=Lh a7; clear a5 a7))
  exact bodyPost_ret (v:=Gv.val { g with st:=sClose }) (res_g _ _ (w.heap.size+1) _ Tryz.results196 rfl al.out) rfl ⟨rfl,give_end ah.out af.out ai.out ae.out ac.out a8.out ax.out ag.out an.out⟩
 | false=>
  obtain⟨mb,ad⟩:∃ mb,decide (q.g.id∈q.N)=mb:=⟨_,rfl⟩
  cases mb with
  | true=>
   rw[if_pos (.inr (of_decide_eq_true ad))]
   obtain⟨g,s,N⟩:=q
   obtain⟨u,ao,V1,T1,Y,S1⟩:=boxes_g g w
   obtain⟨F,a6,a3,J⟩:=h.var2 Y
   have W:=Lh a6
   have a0:=Lh V1
   have aa:=Lh T1
   have af:=Lh Y
   have ai:=Lh S1
   have ah:=Lh a3
   have ae:=Lh J
   have a1:F w.heap.size=8:=J _ (Nat.le_refl _) (by omega)
   have a2:F (w.heap.size+1)=8:=J _ (by omega) (by omega)
   have av:=Lh a1
   have aw:=Lh a2
   have HI:=Lh a4.i
   have a9:Hid (∀ y:After u,Calls Tryz.prog 230 #[ptr x.bk.p,.int .u64 g.id] y.1 fun e w'=>e=.returned (.bool true)/\y.1=w'):=Lh (fun y=>by
    have hb:=(W.out.later y.2).book
    exact Le.marked_any y.1 x.bk s.leak s.L s.M s.T g.id hb a4.i true (by rw[show s.M=Le.mk N from hM,Le.mk_fnd]; exact ad))
   clear V1 T1 Y S1 a6 a3 J a1 a2 h
   go_enter Tryz.func196,Tryz.ntmps196
   go_upto_region 1 with (fail)
   clear ao
   clear a4 hM ad
   have c15:=W.out.cells.c15
   rw[hcl] at c15
   have c11:=W.out.cells.c11
   have ar:∀ y:After u,y.1.cell? ⟨x.pw,15,none⟩=some (.bool false):=fun y=>y.cell c15
   have aq:∀ y:After u,y.1.cell? ⟨x.pw,11,none⟩=some (ptr x.bk.p):=fun y=>y.cell c11
   have au:∀ y:After u,y.1.cell? ⟨w.heap.size,2,none⟩=some (.int .u64 g.id):=fun y=>y.cell (a0.out.cell 2 _ rfl)
   clear c15 c11
   go_wp2_with fail
   refine rgA (by kernel_rfl) (by kernel_rfl) ?_
   repeat (go_big_quiet_step (first
    | (go_at_call 230; exact After.same (a9.out _))))
   refine wpQuiet_nil ?_
   rintro W2 ⟨⟨_,I⟩,rfl⟩
   have ac:=Lh (W.out.later I)
   have a8:Hid (Fw F u W2):=Lh (Fz.of_below I)
   have ax:Hid (El u F F):=Lh (El.refl _ _)
   have ak:=Lh (a0.out.later I)
   have ay:=Lh (th5_later aa.out I)
   clear I ar aq au
   clear hcl a9
   go_wp2_with (first
    | (refine load_g rfl _ rfl w.heap.size rfl g ak.out ?_))
   refine (to_any g sClose _).mono ?_
   rintro e w8 ⟨rfl,b8⟩
   have ag:=Lh b8
   have aj:=Lh (th5_later ay.out b8)
   clear b8
   go_wp2_with (first
    | (refine store_g rfl _ _ rfl (w.heap.size+1) rfl { g with st:=sClose } rfl aj.out ?_; intro w9 a5 a7; have al:=Lh a5; have an:=Lh a7; clear a5 a7))
   exact bodyPost_ret (v:=Gv.val { g with st:=sClose }) (res_g _ _ (w.heap.size+1) _ Tryz.results196 rfl al.out) rfl ⟨rfl,give_end ah.out af.out ai.out ae.out ac.out a8.out ax.out ag.out an.out⟩
  | false=>
   rw[if_neg (by intro e; rcases e with e | e; cases e; exact of_decide_eq_false ad e)]
   obtain⟨ft,aJ⟩:∃ ft,(St.fillR q.s.sl q.g.id).2.1=ft:=⟨_,rfl⟩
   have aI:=Lh aJ
   clear aJ
   cases hfb:(St.fillR q.s.sl q.g.id).2.2 with
   | true=>
    have aC:=Lh hfb
    simp only[if_true]
    clear hfb
    obtain⟨g,s,N⟩:=q
    obtain⟨u,ao,V1,T1,Y,S1⟩:=boxes_g g w
    obtain⟨F,a6,a3,J⟩:=h.var2 Y
    have W:=Lh a6
    have a0:=Lh V1
    have aa:=Lh T1
    have af:=Lh Y
    have ai:=Lh S1
    have ah:=Lh a3
    have ae:=Lh J
    have a1:F w.heap.size=8:=J _ (Nat.le_refl _) (by omega)
    have a2:F (w.heap.size+1)=8:=J _ (by omega) (by omega)
    have av:=Lh a1
    have aw:=Lh a2
    have HI:=Lh a4.i
    have a9:Hid (∀ y:After u,Calls Tryz.prog 230 #[ptr x.bk.p,.int .u64 g.id] y.1 fun e w'=>e=.returned (.bool false)/\y.1=w'):=Lh (fun y=>by
     have hb:=(W.out.later y.2).book
     exact Le.marked_any y.1 x.bk s.leak s.L s.M s.T g.id hb a4.i false (by rw[show s.M=Le.mk N from hM,Le.mk_fnd]; exact ad))
    clear V1 T1 Y S1 a6 a3 J a1 a2 h
    go_enter Tryz.func196,Tryz.ntmps196
    go_upto_region 1 with (fail)
    clear ao
    clear a4 hM ad
    have c15:=W.out.cells.c15
    rw[hcl] at c15
    have c11:=W.out.cells.c11
    have ar:∀ y:After u,y.1.cell? ⟨x.pw,15,none⟩=some (.bool false):=fun y=>y.cell c15
    have aq:∀ y:After u,y.1.cell? ⟨x.pw,11,none⟩=some (ptr x.bk.p):=fun y=>y.cell c11
    have au:∀ y:After u,y.1.cell? ⟨w.heap.size,2,none⟩=some (.int .u64 g.id):=fun y=>y.cell (a0.out.cell 2 _ rfl)
    clear c15 c11
    go_wp2_with fail
    refine rgA (by kernel_rfl) (by kernel_rfl) ?_
    repeat (go_big_quiet_step (first
     | (go_at_call 230; exact After.same (a9.out _))))
    refine wpQuiet_nil ?_
    rintro W2 ⟨⟨_,I⟩,rfl⟩
    have ac:=Lh (W.out.later I)
    have a8:Hid (Fw F u W2):=Lh (Fz.of_below I)
    have ax:Hid (El u F F):=Lh (El.refl _ _)
    have ak:=Lh (a0.out.later I)
    have ay:=Lh (th5_later aa.out I)
    clear I ar aq au
    clear hcl a9
    go_wp2_with fail
    have z:Hid (Wc W2.drew x s/\Vg W2.drew w.heap.size g):=Lh ⟨ac.out.cells.blk rfl,ak.out.blk rfl⟩
    have aA:=Lh (ac.out.later (Below.refl _ _).drew)
    refine rgS 12 (fun w'=>Wc w' x s/\Vg w' w.heap.size g) (by kernel_rfl) (by kernel_rfl) ?_
    intro az
    have G:=Lh az
    clear az
    refine rq 0 G.out z.out rfl ?_
    refine rq 1 G.out z.out rfl ?_
    refine rq 2 G.out z.out rfl ?_
    refine rq 3 G.out z.out rfl ?_ (hv:=fun w' hw=>by (have kc:=hw.1.c10; go_simp; exact rfl))
    refine rq 4 G.out z.out rfl ?_
    refine rq 5 G.out z.out rfl ?_ (hv:=fun w' hw=>by (have kz:=hw.2.cell 2 _ rfl; go_simp; exact rfl))
    refine rO 6 rfl (by kernel_rfl) rfl ?_
    unfold Oper.wp
    go_simp
    refine (wfill _ aA.out g.id).mono ?_
    rintro e w3 ⟨rfl,aH,h3,z3,l3⟩
    rw[aC.out,aI.out]
    have z3:Fw F u w3:=a8.out.trans ((Fz.of_below (Below.refl _ _).drew).trans z3)
    have l3:El u F aH:=fun k hk=>l3 k (by have:=a8.out.size; show k < W2.heap.size; omega)
    have hS:Wc w3 x s/\Vg w3 w.heap.size g:=⟨h3.cells.to rfl rfl rfl rfl rfl rfl rfl rfl rfl rfl rfl,a0.out.fw av.out z3⟩
    refine⟨hS,?_⟩
    clear z
    have z:=Lh hS
    have aG:=Lh h3
    have aB:=Lh z3
    have aD:=Lh l3
    have aF:=Lh hS.2
    have aE:=Lh (th5_fw aa.out aw.out z3)
    clear hS h3 z3 l3
    refine rq 7 G.out z.out rfl ?_
    refine rq 8 G.out z.out rfl ?_
    refine rq 9 G.out z.out rfl ?_
    refine rq 10 G.out z.out rfl ?_
    refine rq 11 G.out z.out rfl ?_
    refine rgD (by kernel_rfl) ?_
    go_wp2_with (first
     | (refine load_g rfl _ rfl w.heap.size rfl g aF.out ?_))
    refine (to_any g sDone _).mono ?_
    rintro e w8 ⟨rfl,b8⟩
    have ag:=Lh b8
    have aj:=Lh (th5_later aE.out b8)
    clear b8
    go_wp2_with (first
     | (refine store_g rfl _ _ rfl (w.heap.size+1) rfl { g with st:=sDone } rfl aj.out ?_; intro w9 a5 a7; have al:=Lh a5; have an:=Lh a7; clear a5 a7))
    exact bodyPost_ret (v:=Gv.val { g with st:=sDone }) (res_g _ _ (w.heap.size+1) _ Tryz.results196 rfl al.out) rfl ⟨rfl,give_end ah.out af.out ai.out ae.out aG.out aB.out aD.out ag.out an.out⟩
   | false=>
    have aC:=Lh hfb
    simp only[Bool.false_eq_true,if_false]
    clear hfb
    obtain⟨g,s,N⟩:=q
    obtain⟨u,ao,V1,T1,Y,S1⟩:=boxes_g g w
    obtain⟨F,a6,a3,J⟩:=h.var2 Y
    have W:=Lh a6
    have a0:=Lh V1
    have aa:=Lh T1
    have af:=Lh Y
    have ai:=Lh S1
    have ah:=Lh a3
    have ae:=Lh J
    have a1:F w.heap.size=8:=J _ (Nat.le_refl _) (by omega)
    have a2:F (w.heap.size+1)=8:=J _ (by omega) (by omega)
    have av:=Lh a1
    have aw:=Lh a2
    have HI:=Lh a4.i
    have a9:Hid (∀ y:After u,Calls Tryz.prog 230 #[ptr x.bk.p,.int .u64 g.id] y.1 fun e w'=>e=.returned (.bool false)/\y.1=w'):=Lh (fun y=>by
     have hb:=(W.out.later y.2).book
     exact Le.marked_any y.1 x.bk s.leak s.L s.M s.T g.id hb a4.i false (by rw[show s.M=Le.mk N from hM,Le.mk_fnd]; exact ad))
    clear V1 T1 Y S1 a6 a3 J a1 a2 h
    go_enter Tryz.func196,Tryz.ntmps196
    go_upto_region 1 with (fail)
    clear ao
    clear a4 hM ad
    have c15:=W.out.cells.c15
    rw[hcl] at c15
    have c11:=W.out.cells.c11
    have ar:∀ y:After u,y.1.cell? ⟨x.pw,15,none⟩=some (.bool false):=fun y=>y.cell c15
    have aq:∀ y:After u,y.1.cell? ⟨x.pw,11,none⟩=some (ptr x.bk.p):=fun y=>y.cell c11
    have au:∀ y:After u,y.1.cell? ⟨w.heap.size,2,none⟩=some (.int .u64 g.id):=fun y=>y.cell (a0.out.cell 2 _ rfl)
    clear c15 c11
    go_wp2_with fail
    refine rgA (by kernel_rfl) (by kernel_rfl) ?_
    repeat (go_big_quiet_step (first
     | (go_at_call 230; exact After.same (a9.out _))))
    refine wpQuiet_nil ?_
    rintro W2 ⟨⟨_,I⟩,rfl⟩
    have ac:=Lh (W.out.later I)
    have a8:Hid (Fw F u W2):=Lh (Fz.of_below I)
    have ax:Hid (El u F F):=Lh (El.refl _ _)
    have ak:=Lh (a0.out.later I)
    have ay:=Lh (th5_later aa.out I)
    clear I ar aq au
    clear hcl a9
    go_wp2_with fail
    have z:Hid (Wc W2.drew x s/\Vg W2.drew w.heap.size g):=Lh ⟨ac.out.cells.blk rfl,ak.out.blk rfl⟩
    have aA:=Lh (ac.out.later (Below.refl _ _).drew)
    refine rgS 12 (fun w'=>Wc w' x s/\Vg w' w.heap.size g) (by kernel_rfl) (by kernel_rfl) ?_
    intro az
    have G:=Lh az
    clear az
    refine rq 0 G.out z.out rfl ?_
    refine rq 1 G.out z.out rfl ?_
    refine rq 2 G.out z.out rfl ?_
    refine rq 3 G.out z.out rfl ?_ (hv:=fun w' hw=>by (have kc:=hw.1.c10; go_simp; exact rfl))
    refine rq 4 G.out z.out rfl ?_
    refine rq 5 G.out z.out rfl ?_ (hv:=fun w' hw=>by (have kz:=hw.2.cell 2 _ rfl; go_simp; exact rfl))
    refine rO 6 rfl (by kernel_rfl) rfl ?_
    unfold Oper.wp
    go_simp
    refine (wfill _ aA.out g.id).mono ?_
    rintro e w3 ⟨rfl,aH,h3,z3,l3⟩
    rw[aC.out,aI.out]
    have z3:Fw F u w3:=a8.out.trans ((Fz.of_below (Below.refl _ _).drew).trans z3)
    have l3:El u F aH:=fun k hk=>l3 k (by have:=a8.out.size; show k < W2.heap.size; omega)
    have hS:Wc w3 x s/\Vg w3 w.heap.size g:=⟨h3.cells.to rfl rfl rfl rfl rfl rfl rfl rfl rfl rfl rfl,a0.out.fw av.out z3⟩
    refine⟨hS,?_⟩
    clear z
    have z:=Lh hS
    have aG:=Lh h3
    have aB:=Lh z3
    have aD:=Lh l3
    have aF:=Lh hS.2
    have aE:=Lh (th5_fw aa.out aw.out z3)
    clear hS h3 z3 l3
    refine rq 7 G.out z.out rfl ?_
    refine rq 8 G.out z.out rfl ?_
    refine rq 9 G.out z.out rfl ?_
    refine rq 10 G.out z.out rfl ?_
    refine rq 11 G.out z.out rfl ?_
    refine rgD (by kernel_rfl) ?_
    go_wp2_with (first
     | (refine load_g rfl _ rfl w.heap.size rfl g aF.out ?_))
    refine (to_any g sFree _).mono ?_
    rintro e w8 ⟨rfl,b8⟩
    have ag:=Lh b8
    have aj:=Lh (th5_later aE.out b8)
    clear b8
    go_wp2_with (first
     | (refine store_g rfl _ _ rfl (w.heap.size+1) rfl { g with st:=sFree } rfl aj.out ?_; intro w9 a5 a7; have al:=Lh a5; have an:=Lh a7; clear a5 a7))
    exact bodyPost_ret (v:=Gv.val { g with st:=sFree }) (res_g _ _ (w.heap.size+1) _ Tryz.results196 rfl al.out) rfl ⟨rfl,give_end ah.out af.out ai.out ae.out aG.out aB.out aD.out ag.out an.out⟩
def fnR (v:Value):Option (DataW Unit × List MemPlace):=match v with
 | .func (.func K) first cap=>if first.size=0/\cap.size=0 then some (.lit (.int .u64 ((K:Int)+1)),[]) else none
 | .nilFunc=>some (.lit (.int .u64 0),[])
 | _=>none
theorem fnR_inv {v:Value} {n:Nat} {ps:List MemPlace} (h:fnR v=some (.lit (.int .u64 ((n:Int)+1)),ps)):v=.func (.func n) #[] #[]:=by
 unfold fnR at h
 split at h
 .next K first cap=>
  split at h
  .next u=>
   simp only[Option.some.injEq,Prod.mk.injEq,DataW.lit.injEq,Lit.int.injEq,true_and] at h
   have e:K=n:=by
    have:=congrArg (fun z:Int=>z - 1) h.1
    simp at this
    exact Int.ofNat_inj.1 this
   subst e
   rw[Array.eq_empty_of_size_eq_zero u.1,Array.eq_empty_of_size_eq_zero u.2]
  .cases h
 .simp only[Option.some.injEq,Prod.mk.injEq,DataW.lit.injEq,Lit.int.injEq,true_and] at h
  exact absurd h.1 (Int.ne_of_lt (Int.lt_add_one_of_le (Int.natCast_nonneg n)))
 .cases h
theorem fnR_nil {v:Value} {ps:List MemPlace} (h:fnR v=some (.lit (.int .u64 0),ps)):v=.nilFunc:=by
 unfold fnR at h
 split at h
 .next K first cap=>
  split at h
  .simp only[Option.some.injEq,Prod.mk.injEq,DataW.lit.injEq,Lit.int.injEq,true_and] at h
   exact absurd h.1 (Int.ne_of_gt (Int.lt_add_one_of_le (Int.natCast_nonneg K)))
  .cases h
 .rfl
 .cases h
theorem inO {ops:Array Oper} {rest:List Oper} {o:Oper} {a:Act} {Q:Exit->Act->World->Prop} (w:World)
  (z:o.guard=none) (m x v:Operand) (t:TypeId) (I:o.op=Op.insert t m x v)
  (k e:TypeId) (K:Keyed Tryz.prog k) (Y:Tryz.prog.underlying t=some (.map k e)) (b n:Nat) (D:DataW Unit)
  (G:a.eval m=.map (some b)) (J:w.ownsMap Tryz.prog k fnR b n D) (hn:n < maxLen) (key val:Value) (kl:Lit) (hx:a.eval x=key) (hv:a.eval v=val) (F:keyOf Tryz.prog k key=some kl)
  (d:DataW Unit) (ps:List MemPlace) (a0:fnR val=some (d,ps))
  (h:∀ w',w'.ownsMap Tryz.prog k fnR b (n+1) (D.put kl d)->w.grownBy w' (some b)->wpList Tryz.prog ops Q rest (a.put o.dst undef) w') :
  wpList Tryz.prog ops Q (o :: rest) a w:=by
 refine wpList_plain z fun K' u=>?_
 obtain⟨w',W,r1,r2⟩:=J.update K Y hn F a0
 unfold Oper.wp
 simp[execOp,I,G,hx,hv,W,Result.andThen]
 exact u _ _ (h w' r1 r2)
def actD:DataW Unit:=(DataW.put (DataW.put (DataW.put (DataW.put (DataW.put (DataW.put (DataW.put (DataW.put (.map [] : DataW Unit) (.string [111,102,102,101,114]) (.lit (.int .u64 ((196:Nat)+1:Int)))) (.string [102,114,101,101]) (.lit (.int .u64 ((197:Nat)+1:Int)))) (.string [115,116,97,115,104]) (.lit (.int .u64 ((198:Nat)+1:Int)))) (.string [97,103,97,105,110]) (.lit (.int .u64 ((199:Nat)+1:Int)))) (.string [98,97,99,107]) (.lit (.int .u64 ((200:Nat)+1:Int)))) (.string [99,108,111,115,101]) (.lit (.int .u64 ((201:Nat)+1:Int)))) (.string [117,110,108,105,115,116]) (.lit (.int .u64 ((202:Nat)+1:Int)))) (.string [115,104,114,105,110,107]) (.lit (.int .u64 ((203:Nat)+1:Int))))
theorem lawS:Keyed Tryz.prog 9:=string_keyed Tryz.underlying9
theorem grL {w w' z:World} {r:Nat} (h:Below w.heap.size w w') (u:w'.grownBy z (some r)) (F:w.heap.size<=r):Below w.heap.size w z:=
 h.trans ⟨u.os,u.tape,u.output,u.size,fun k hk=>u.block k (Nat.lt_of_lt_of_le hk h.size) (fun e=>by injection e with e; omega)⟩
theorem acts_any (w:World):Calls Tryz.prog 176 #[] w fun e w'=>∃ m,e=.returned (.map (some m))/\(∃ n,w'.ownsMap Tryz.prog 9 fnR m n actD)/\Below w.heap.size w w':=by
 have au:=@run_makeMap Tryz.prog
 have hk:∀ s:ByteArray,s.size<=maxLen->keyOf Tryz.prog 9 (.string s)=some (.string s.data.toList):=fun s hs=>WideMaps.keyOf_string_mk Tryz.underlying9 hs
 go_enter Tryz.func176,Tryz.ntmps176
 have h:Hid (Below w.heap.size w (w.alloc (.map #[] 0))):=Lh ((Below.refl _ _).alloc (Nat.le_refl _) _)
 have Y:Hid ((w.alloc (.map #[] 0)).ownsMap Tryz.prog 9 fnR w.heap.size 0 (.map [] : DataW Unit)):=Lh (World.ownsMap_made w _ _ _)
 go_wp2_with (first
  | (refine inO (w.alloc (.map #[] 0)) rfl _ _ _ _ rfl 9 257 lawS Tryz.underlying258 w.heap.size 0 _ rfl Y.out (by decide) _ _ _ rfl rfl (hk _ (by decide)) (.lit (.int .u64 ((196:Nat)+1:Int))) [] rfl ?_; intro v1 ag a7; have a0:=Lh ag; have u:=Lh (grL h.out a7 (Nat.le_refl _)); clear ag a7 Y h)
  | (refine inO v1 rfl _ _ _ _ rfl 9 257 lawS Tryz.underlying258 w.heap.size 1 _ rfl a0.out (by decide) _ _ _ rfl rfl (hk _ (by decide)) (.lit (.int .u64 ((197:Nat)+1:Int))) [] rfl ?_; intro v2 ah a8; have a1:=Lh ah; have z:=Lh (grL u.out a8 (Nat.le_refl _)); clear ah a8 a0 u)
  | (refine inO v2 rfl _ _ _ _ rfl 9 257 lawS Tryz.underlying258 w.heap.size 2 _ rfl a1.out (by decide) _ _ _ rfl rfl (hk _ (by decide)) (.lit (.int .u64 ((198:Nat)+1:Int))) [] rfl ?_; intro v3 ai a9; have a2:=Lh ai; have F:=Lh (grL z.out a9 (Nat.le_refl _)); clear ai a9 a1 z)
  | (refine inO v3 rfl _ _ _ _ rfl 9 257 lawS Tryz.underlying258 w.heap.size 3 _ rfl a2.out (by decide) _ _ _ rfl rfl (hk _ (by decide)) (.lit (.int .u64 ((199:Nat)+1:Int))) [] rfl ?_; intro v4 aj aa; have a3:=Lh aj; have G:=Lh (grL F.out aa (Nat.le_refl _)); clear aj aa a2 F)
  | (refine inO v4 rfl _ _ _ _ rfl 9 257 lawS Tryz.underlying258 w.heap.size 4 _ rfl a3.out (by decide) _ _ _ rfl rfl (hk _ (by decide)) (.lit (.int .u64 ((200:Nat)+1:Int))) [] rfl ?_; intro v5 ak ac; have a4:=Lh ak; have I:=Lh (grL G.out ac (Nat.le_refl _)); clear ak ac a3 G)
  | (refine inO v5 rfl _ _ _ _ rfl 9 257 lawS Tryz.underlying258 w.heap.size 5 _ rfl a4.out (by decide) _ _ _ rfl rfl (hk _ (by decide)) (.lit (.int .u64 ((201:Nat)+1:Int))) [] rfl ?_; intro v6 al ad; have a5:=Lh al; have J:=Lh (grL I.out ad (Nat.le_refl _)); clear al ad a4 I)
  | (refine inO v6 rfl _ _ _ _ rfl 9 257 lawS Tryz.underlying258 w.heap.size 6 _ rfl a5.out (by decide) _ _ _ rfl rfl (hk _ (by decide)) (.lit (.int .u64 ((202:Nat)+1:Int))) [] rfl ?_; intro v7 an ae; have a6:=Lh an; have W:=Lh (grL J.out ae (Nat.le_refl _)); clear an ae a5 J)
  | (refine inO v7 rfl _ _ _ _ rfl 9 257 lawS Tryz.underlying258 w.heap.size 7 _ rfl a6.out (by decide) _ _ _ rfl rfl (hk _ (by decide)) (.lit (.int .u64 ((203:Nat)+1:Int))) [] rfl ?_; intro v8 ao af; have ar:=Lh ao; have aq:=Lh (grL W.out af (Nat.le_refl _)); clear ao af a6 W))
 go_wp2_with fail
 go_ret
 exact⟨_,rfl,⟨_,ar.out⟩,aq.out⟩
theorem eq_fn (w:World) (h:Fn) (first cap:Array Value):(binOp .eql 257 (.func h first cap) .nilFunc).run Tryz.prog w=.ok (.bool false) w:=by kernel_rfl
theorem eq_nil (w:World):(binOp .eql 257 .nilFunc .nilFunc).run Tryz.prog w=.ok (.bool true) w:=by kernel_rfl
theorem zero_fn (w:World):(zeroValue 257).run Tryz.prog w=.ok .nilFunc w:=by kernel_rfl
theorem give_act {r:Gw} (f:FuncId) (h:Wv base col w x q.s) (a6:actD.atKey (.string q.g.st.data.toList) (.lit (.int .u64 0))=.lit (.int .u64 ((f:Nat)+1:Int))) (ac:q.g.st.size<=maxLen)
  (hK:∀ w,(callFunc f #[q.g.val,ptr x.pw]).run Tryz.prog w=.ok (.enter f #[q.g.val,ptr x.pw]) w)
  (hD:∀ (W:World) (col:Nat->Nat),Wv base col W x q.s->Does f W base col x q r):Does 124 w base col x q r:=by
 have a3:=Lh hD
 clear hD
 unfold Does at a3 ⊢
 have aq:=Lh a6
 have HZ:=Lh ac
 obtain⟨g,s,N⟩:=q
 obtain⟨z,aD,V1,T1,Y,S1⟩:=boxes_g g w
 obtain⟨F,ae,a9,I⟩:=h.var2 Y
 have ay:=Lh ae
 have a4:=Lh V1
 have ar:=Lh T1
 have ah:=Lh Y
 have ao:=Lh S1
 have al:=Lh a9
 have ag:=Lh I
 have a7:F w.heap.size=8:=I _ (Nat.le_refl _) (by omega)
 have a8:F (w.heap.size+1)=8:=I _ (by omega) (by omega)
 have aF:=Lh a7
 have ai:=Lh a8
 clear V1 T1 Y S1 ae a9 I a7 a8 h
 go_enter Tryz.func124,Tryz.ntmps124
 go_upto_region 1 with (fail)
 clear aD
 clear a6 ac
 go_wp2_with fail
 have u:Hid (Vg z.drew w.heap.size g):=Lh (a4.out.blk rfl)
 refine rgS 5 (fun w'=>Vg w' w.heap.size g) (by kernel_rfl) (by kernel_rfl) ?_
 intro a5
 have a0:=Lh a5
 clear a5
 refine rq 1 a0.out u.out rfl ?_
 refine rq 2 a0.out u.out rfl ?_ (hv:=fun w' hw=>by (have kz:=hw.cell 4 _ rfl; go_simp; exact rfl))
 refine rO 0 rfl (by kernel_rfl) rfl ?_
 unfold Oper.wp
 go_simp
 refine (acts_any _).mono ?_
 rintro e J ⟨m,rfl,⟨n,aa⟩,b2⟩
 have a1:Below z.heap.size z J:=(Below.refl _ _).drew.trans b2
 have hS:Vg J w.heap.size g:=a4.out.later a1
 refine⟨hS,?_⟩
 clear u
 have u:=Lh hS
 obtain⟨fv,ps,aE,a2⟩:=aa.lookup lawS Tryz.underlying258 (zero_fn J) (show fnR .nilFunc=some (.lit (.int .u64 0),[]) from rfl) (WideMaps.keyOf_string_mk Tryz.underlying9 HZ.out)
 rw[aq.out] at a2
 obtain rfl:=fnR_inv a2
 have G:=Lh a1
 clear hS aa b2 a1 a2
 refine rO 3 rfl (by kernel_rfl) rfl ?_
 unfold Oper.wp
 go_simp
 refine⟨u.out,?_⟩
 clear aE
 refine rq 4 a0.out u.out rfl ?_
 refine rgD (by kernel_rfl) ?_
 have az:=Lh (ay.out.later G.out)
 have aw:=Lh u.out
 have au:=Lh (th5_later ar.out G.out)
 have aj:Hid (Fw F z J):=Lh (Fz.of_below G.out)
 have aG:Hid (El z F F):=Lh (El.refl _ _)
 clear u
 have aH:=eq_fn
 have aI:=eq_nil
 go_wp2_with (first
  | (refine load_g rfl _ rfl w.heap.size rfl g aw.out ?_))
 refine (a3.out _ _ az.out).mono ?_
 rintro e w3 ⟨rfl,aC,h3,z3,l3⟩
 have aA:=Lh h3
 have ak:=Lh (aj.out.trans z3)
 have an:Hid (El z F aC):=Lh (fun k hk=>l3 k (by have:=G.out.size; omega))
 have av:=Lh (th5_fw au.out ai.out z3)
 clear h3 z3 l3
 go_wp2_with (first
  | (refine store_g rfl _ _ rfl (w.heap.size+1) rfl r.g rfl av.out ?_; intro w9 ad af; have ax:=Lh ad; have aB:=Lh af; clear ad af))
 exact bodyPost_ret (v:=r.g.val) (res_g _ _ (w.heap.size+1) _ Tryz.results124 rfl ax.out) rfl ⟨rfl,give_end al.out ah.out ao.out ag.out aA.out ak.out an.out (Below.refl _ _) aB.out⟩
theorem give_none (h:Wv base col w x q.s) (a4:actD.atKey (.string q.g.st.data.toList) (.lit (.int .u64 0))=.lit (.int .u64 0)) (a9:q.g.st.size<=maxLen):Does 124 w base col x q ⟨{ q.g with st:=sDone },q.s,q.N⟩:=by
 have al:=Lh a4
 have HZ:=Lh a9
 obtain⟨g,s,N⟩:=q
 obtain⟨z,ay,V1,T1,J,S1⟩:=boxes_g g w
 obtain⟨F,ac,a7,G⟩:=h.var2 J
 have av:=Lh ac
 have a2:=Lh V1
 have an:=Lh T1
 have af:=Lh J
 have ak:=Lh S1
 have ai:=Lh a7
 have ae:=Lh G
 have a5:F w.heap.size=8:=G _ (Nat.le_refl _) (by omega)
 have a6:F (w.heap.size+1)=8:=G _ (by omega) (by omega)
 have aA:=Lh a5
 have aB:=Lh a6
 clear V1 T1 J S1 ac a7 G a5 a6 h
 go_enter Tryz.func124,Tryz.ntmps124
 go_upto_region 1 with (fail)
 clear ay
 clear a4 a9
 go_wp2_with fail
 have u:Hid (Vg z.drew w.heap.size g):=Lh (a2.out.blk rfl)
 refine rgS 5 (fun w'=>Vg w' w.heap.size g) (by kernel_rfl) (by kernel_rfl) ?_
 intro a3
 have Y:=Lh a3
 clear a3
 refine rq 1 Y.out u.out rfl ?_
 refine rq 2 Y.out u.out rfl ?_ (hv:=fun w' hw=>by (have kz:=hw.cell 4 _ rfl; go_simp; exact rfl))
 refine rO 0 rfl (by kernel_rfl) rfl ?_
 unfold Oper.wp
 go_simp
 refine (acts_any _).mono ?_
 rintro e I ⟨m,rfl,⟨n,a8⟩,b2⟩
 have a0:Below z.heap.size z I:=(Below.refl _ _).drew.trans b2
 have hS:Vg I w.heap.size g:=a2.out.later a0
 refine⟨hS,?_⟩
 clear u
 have u:=Lh hS
 obtain⟨fv,ps,az,a1⟩:=a8.lookup lawS Tryz.underlying258 (zero_fn I) (show fnR .nilFunc=some (.lit (.int .u64 0),[]) from rfl) (WideMaps.keyOf_string_mk Tryz.underlying9 HZ.out)
 rw[al.out] at a1
 obtain rfl:=fnR_nil a1
 have W:=Lh a0
 clear hS a8 b2 a0 a1
 refine rO 3 rfl (by kernel_rfl) rfl ?_
 unfold Oper.wp
 go_simp
 refine⟨u.out,?_⟩
 clear az
 refine rq 4 Y.out u.out rfl ?_
 refine rgD (by kernel_rfl) ?_
 have aw:=Lh (av.out.later W.out)
 have ar:=Lh u.out
 have ao:=Lh (th5_later an.out W.out)
 have ah:Hid (Fw F z I):=Lh (Fz.of_below W.out)
 have aj:Hid (El z F F):=Lh (El.refl _ _)
 clear u
 have aC:=eq_fn
 have aD:=eq_nil
 go_wp2_with (first
  | (refine load_g rfl _ rfl w.heap.size rfl g ar.out ?_))
 refine (to_any g sDone _).mono ?_
 rintro e w8 ⟨rfl,b8⟩
 have ag:=Lh b8
 have aq:=Lh (th5_later ao.out b8)
 clear b8
 go_wp2_with (first
  | (refine store_g rfl _ _ rfl (w.heap.size+1) rfl { g with st:=sDone } rfl aq.out ?_; intro w9 aa ad; have au:=Lh aa; have ax:=Lh ad; clear aa ad))
 exact bodyPost_ret (v:=Gv.val { g with st:=sDone }) (res_g _ _ (w.heap.size+1) _ Tryz.results124 rfl au.out) rfl ⟨rfl,give_end ai.out af.out ak.out ae.out aw.out ah.out aj.out ag.out ax.out⟩
theorem give_step (h:Wv base col w x q.s) (I:q.s.M=Le.mk q.N) (F:q.g.ok) (G:U64 q.s.now) (a1:q.s.sl.length<=1000) (Y:q.s.C.length < 1000) (a0:q.s.ev.length<=1000) (hS:q.s.S.length<=1000000) (J:0<=q.s.live/\q.s.live<=1000000)
  (a2:q.g.st=sOffer\/q.g.st=sFree\/q.g.st=sStash\/q.g.st=sAgain\/q.g.st=sBack\/q.g.st=sClose\/q.g.st=sUnlist\/q.g.st=sShrink\/q.g.st=sDone):Does 124 w base col x q (stepG q):=by
 rcases a2 with e | e | e | e | e | e | e | e | e
 .rw[stepG_offer e]
  exact give_act w 196 h (by rw[e]; kernel_rfl) (by rw[e]; decide) (enters_of Tryz.func196 (by kernel_rfl) rfl _) (fun W z u=>give_offer W u I F)
 .rw[stepG_free e]
  exact give_act w 197 h (by rw[e]; kernel_rfl) (by rw[e]; decide) (enters_of Tryz.func197 (by kernel_rfl) rfl _) (fun W z u=>give_free W u F G)
 .rw[stepG_stash e]
  exact give_act w 198 h (by rw[e]; kernel_rfl) (by rw[e]; decide) (enters_of Tryz.func198 (by kernel_rfl) rfl _) (fun W z u=>give_stash W u)
 .rw[stepG_again e]
  exact give_act w 199 h (by rw[e]; kernel_rfl) (by rw[e]; decide) (enters_of Tryz.func199 (by kernel_rfl) rfl _) (fun W z u=>give_again W u a1)
 .rw[stepG_back e]
  exact give_act w 200 h (by rw[e]; kernel_rfl) (by rw[e]; decide) (enters_of Tryz.func200 (by kernel_rfl) rfl _) (fun W z u=>give_back W u F G)
 .rw[stepG_close e]
  exact give_act w 201 h (by rw[e]; kernel_rfl) (by rw[e]; decide) (enters_of Tryz.func201 (by kernel_rfl) rfl _) (fun W z u=>give_shut W u I F G Y a0)
 .rw[stepG_unlist e]
  exact give_act w 202 h (by rw[e]; kernel_rfl) (by rw[e]; decide) (enters_of Tryz.func202 (by kernel_rfl) rfl _) (fun W z u=>give_unlist W u F hS)
 .rw[stepG_shrink e]
  exact give_act w 203 h (by rw[e]; kernel_rfl) (by rw[e]; decide) (enters_of Tryz.func203 (by kernel_rfl) rfl _) (fun W z u=>give_shrink W u J.1 J.2)
 .have:=give_none w h (by rw[e]; kernel_rfl) (by rw[e]; decide)
  unfold stepG
  rw[e,if_neg (by decide),if_neg (by decide),if_neg (by decide),if_neg (by decide),if_neg (by decide),if_neg (by decide),if_neg (by decide),if_neg (by decide)]
  exact this
end
structure Gi (q:Gw) (k:Nat):Prop where
 mk_:q.s.M=Le.mk q.N
 ok:q.g.ok
 nw:U64 q.s.now
 sl:q.s.sl.length<=900
 cl:q.s.C.length<=k
 el:q.s.ev.length<=k
 S:q.s.S.length<=900
 lv:0<=q.s.live/\q.s.live<=1000
 st:q.g.st=sOffer\/q.g.st=sFree\/q.g.st=sStash\/q.g.st=sAgain\/q.g.st=sBack\/q.g.st=sClose\/q.g.st=sUnlist\/q.g.st=sShrink\/q.g.st=sDone
theorem bV_ok {D:List (Int × Ex)} {id old st:Int} (h:bK D id old st=true) (u:U64 old):U64 (bV D id old st):=by
 unfold bK at h
 unfold bV
 cases hf:fnd D id with
 | none=>rw[hf] at h; cases h
 | some x=>
  rw[hf] at h
  have h:Wd.wSwapOk x.word old st=true:=h
  have e:x.word=old:=by
   unfold Wd.wSwapOk at h
   rw[Bool.and_eq_true,decide_eq_true_eq] at h
   exact h.1
  show U64 (Wd.wSwap x.word old st)
  rw[e]
  exact⟨Wd.wSwap_lo _ _ _ u.1,Wd.wSwap_hi _ _ _ u.2⟩
section
variable {q:Gw} {k:Nat}
theorem Gi.swap (h:Gi q k) (st:Int) (t:ByteArray) (u:t=sStash\/t=sOffer):Gi (swapG q st t) (k+1):=by
 have z:=h.cl
 have F:=h.el
 unfold swapG
 split
 .next hk=>
  refine⟨h.mk_,⟨h.ok.i,bV_ok hk h.ok.w⟩,h.nw,h.sl,by show q.s.C.length<=k+1; omega,by show q.s.ev.length<=k+1; omega,h.S,h.lv,?_⟩
  rcases u with rfl | rfl
  .exact .inr (.inr (.inl rfl))
  .exact .inl rfl
 .exact⟨h.mk_,⟨h.ok.i,h.ok.w⟩,h.nw,h.sl,by show q.s.C.length<=k+1; omega,by show q.s.ev.length<=k+1; omega,h.S,h.lv,.inr (.inr (.inr (.inr (.inr (.inr (.inr (.inr rfl)))))))⟩
theorem Gi.step (h:Gi q k):Gi (stepG q) (k+1):=by
 have F:=h.cl
 have G:=h.el
 have J:=h.lv
 have I:=St.fillR_len q.s.sl q.g.id
 rcases h.st with e | e | e | e | e | e | e | e | e
 .rw[stepG_offer e]
  unfold offerG
  split
  .exact⟨h.mk_,⟨h.ok.i,h.ok.w⟩,h.nw,h.sl,by show q.s.C.length<=k+1; omega,by show q.s.ev.length<=k+1; omega,h.S,h.lv,.inr (.inr (.inr (.inr (.inr (.inl rfl)))))⟩
  .split
   .exact⟨h.mk_,⟨h.ok.i,h.ok.w⟩,h.nw,by have:=h.sl; show (St.fillR q.s.sl q.g.id).1.length<=900; omega,by show q.s.C.length<=k+1; omega,by show q.s.ev.length<=k+1; omega,h.S,h.lv,.inr (.inr (.inr (.inr (.inr (.inr (.inr (.inr rfl)))))))⟩
   .exact⟨h.mk_,⟨h.ok.i,h.ok.w⟩,h.nw,by have:=h.sl; show (St.fillR q.s.sl q.g.id).1.length<=900; omega,by show q.s.C.length<=k+1; omega,by show q.s.ev.length<=k+1; omega,h.S,h.lv,.inr (.inl rfl)⟩
 .rw[stepG_free e]; exact h.swap 0 sStash (.inl rfl)
 .rw[stepG_stash e]
  exact⟨h.mk_,⟨h.ok.i,h.ok.w⟩,h.nw,h.sl,by show q.s.C.length<=k+1; omega,by show q.s.ev.length<=k+1; omega,h.S,h.lv,.inr (.inr (.inr (.inl rfl)))⟩
 .rw[stepG_again e]
  refine⟨h.mk_,⟨h.ok.i,h.ok.w⟩,h.nw,h.sl,by show q.s.C.length<=k+1; omega,by show q.s.ev.length<=k+1; omega,h.S,h.lv,?_⟩
  have key:(againG q).g.st=sBack\/(againG q).g.st=sDone:=by
   show (if q.s.closed=true\/0 < St.waitN q.s.sl then sBack else sDone)=sBack\/(if q.s.closed=true\/0 < St.waitN q.s.sl then sBack else sDone)=sDone
   split
   .exact .inl rfl
   .exact .inr rfl
  rcases key with u | u
  .exact .inr (.inr (.inr (.inr (.inl u))))
  .exact .inr (.inr (.inr (.inr (.inr (.inr (.inr (.inr u)))))))
 .rw[stepG_back e]; exact h.swap 1 sOffer (.inr rfl)
 .rw[stepG_close e]
  unfold closeG
  split
  .refine⟨rfl,⟨h.ok.i,h.ok.w⟩,h.nw,h.sl,?_,?_,h.S,h.lv,.inr (.inr (.inr (.inr (.inr (.inr (.inl rfl))))))⟩
   .show (clsC q.s.n q.s.C q.g.id).length<=k+1
    unfold clsC; split
    .rw[List.length_append]; simp; omega
    .omega
   .show (q.s.ev ++ [_]).length<=k+1
    rw[List.length_append]; simp; omega
  .exact⟨h.mk_,⟨h.ok.i,h.ok.w⟩,h.nw,h.sl,by show q.s.C.length<=k+1; omega,by show q.s.ev.length<=k+1; omega,h.S,h.lv,.inr (.inr (.inr (.inr (.inr (.inr (.inl rfl))))))⟩
 .rw[stepG_unlist e]
  refine⟨h.mk_,⟨h.ok.i,h.ok.w⟩,h.nw,h.sl,by show q.s.C.length<=k+1; omega,by show q.s.ev.length<=k+1; omega,?_,h.lv,.inr (.inr (.inr (.inr (.inr (.inr (.inr (.inl rfl)))))))⟩
  show (unlS q.s.D q.s.S q.g.id).length<=900
  have:=h.S
  unfold unlS; split
  .have z:(Sn.sWithout q.s.S q.g.id).length<=q.s.S.length:=List.length_filter_le _ _
   omega
  .exact this
 .rw[stepG_shrink e]
  refine⟨h.mk_,⟨h.ok.i,h.ok.w⟩,h.nw,h.sl,by show q.s.C.length<=k+1; omega,by show q.s.ev.length<=k+1; omega,h.S,?_,.inr (.inr (.inr (.inr (.inr (.inr (.inr (.inr rfl)))))))⟩
  show 0<=shrV q.s.live/\shrV q.s.live<=1000
  unfold shrV; split <;> omega
 .rw[stepG_done e]
  exact⟨h.mk_,⟨h.ok.i,h.ok.w⟩,h.nw,h.sl,by omega,by omega,h.S,h.lv,.inr (.inr (.inr (.inr (.inr (.inr (.inr (.inr e)))))))⟩
theorem Gi.it (h:Gi q 0):∀ k,Gi (itG k q) k
 | 0=>h
 | k+1=>(h.it k).step
end
theorem give_run (w:World) {base:Nat} {col:Nat->Nat} {x:Wp} {q:Gw} {k:Nat} (h:Wv base col w x q.s) (hi:Gi q k) (hk:k<=900):Does 124 w base col x q (stepG q):=
 give_step w h hi.mk_ hi.ok hi.nw (by have:=hi.sl; omega) (by have:=hi.cl; omega) (by have:=hi.el; omega) (by have:=hi.S; omega) ⟨hi.lv.1,by have:=hi.lv.2; omega⟩ hi.st
end Go.Proofs.YtoiklelghfckgaaGreatDoor.Wo
end
section
set_option maxHeartbeats 8000000
set_option linter.unusedVariables false
namespace Go.Proofs.YtoiklelghfckgaaGreatDoor.Wo
open Go Go.ChangeShapes Go.WideShapes Go.ChangeAt Go.RowKit Go.Deep Go.Maps Rw Hi Mt Ba
theorem Wv.var8 {base:Nat} {col:Nat->Nat} {w w':World} {x:Wp} {s:Ws} (h:Wv base col w x s) (J:Below w.heap.size w w'):∃ col',Wv base col' w' x s/\El w col col' /\ ∀ g,w.heap.size<=g->g < w'.heap.size->col' g=8:=by
 have a1:=h.base_le
 obtain⟨col',I⟩:∃ col':Nat->Nat,col'=fun g=>if g < w.heap.size then col g else if g < w'.heap.size then 8 else 0:=⟨_,rfl⟩
 have G:∀ g,g < w.heap.size->col' g=col g:=fun g F=>by rw[I]; exact if_pos F
 have W:∀ g,w.heap.size<=g->g < w'.heap.size->col' g=8:=fun g u z=>by rw[I]; show (if g < w.heap.size then col g else if g < w'.heap.size then 8 else 0)=8; rw[if_neg (by omega),if_pos z]
 have Y:∀ g,¬ g < w.heap.size -> ¬ g < w'.heap.size->col' g=0:=fun g u z=>by rw[I]; show (if g < w.heap.size then col g else if g < w'.heap.size then 8 else 0)=0; rw[if_neg u,if_neg z]
 obtain⟨r,q,h,hi⟩:=h
 have a0:∀ g,col' g≠0->base<=g:=fun g F=>by
  by_cases u:g < w.heap.size
  .rw[G g u] at F; exact h.lo g F
  .omega
 refine⟨col',⟨r,q,(h.recol G a0).later J,fun g F=>?_⟩,G,W⟩
 by_cases u:g < w.heap.size
 .have:=J.size; omega
 .by_cases z:g < w'.heap.size
  .exact z
  .exact absurd (Y g u z) F
structure Me (W0:World) (base:Nat) (col0:Nat->Nat) (x:Wp) (n b r:Nat) (w:World) (col:Nat->Nat) (s:Ws) (cs:List Value):Prop where
 wv:Wv base col w x s
 vb:Vb w b (n+1) cs
 tr:w.there r 0 (n+1)
 cb:col b=8
 cr:col r=8
 ne:b≠r
 nb:W0.heap.size<=b
 nr:W0.heap.size<=r
 el:El W0 col0 col
 fw:Fw col0 W0 w
abbrev Mpost (base:Nat) (col0:Nat->Nat) (x:Wp) (W0:World) (s:Ws) (v:Value) (e:Ending) (w':World):Prop:=
 e=.returned v /\ ∃ col',Wv base col' w' x s/\Fw col0 W0 w'/\El W0 col0 col'
section
variable {W0 w w':World} {base:Nat} {col0 col col':Nat->Nat} {x:Wp} {n b r:Nat} {s s':Ws} {cs cs':List Value}
theorem Me.start (h:Wv base col0 W0 x s) (z:Below W0.heap.size W0 w) (J:w.heap.size=W0.heap.size+2) (hv:Vb w W0.heap.size (n+1) cs) (I:w.there (W0.heap.size+1) 0 (n+1)) :
  ∃ col,Me W0 base col0 x n W0.heap.size (W0.heap.size+1) w col s cs:=by
 obtain⟨col,F,G,u⟩:=h.var8 z
 exact⟨col,F,hv,I,u _ (Nat.le_refl _) (by omega),u _ (by omega) (by omega),by omega,Nat.le_refl _,by omega,G,Fz.of_below z⟩
theorem Me.later (h:Me W0 base col0 x n b r w col s cs) (u:Below w.heap.size w w'):Me W0 base col0 x n b r w' col s cs:=
 ⟨h.wv.later u,h.vb.later u,tb_later h.tr u,h.cb,h.cr,h.ne,h.nb,h.nr,h.el,fw_two h.fw h.el (Fz.of_below u)⟩
theorem Me.call (h:Me W0 base col0 x n b r w col s cs) (F:Wv base col' w' x s') (z:Fw col w w') (u:El w col col'):Me W0 base col0 x n b r w' col' s' cs:=
 ⟨F,h.vb.blk (z.block b h.vb.lt (fun e=>e.2 h.cb)),tb_blk h.tr (z.block r (tb_lt h.tr) (fun e=>e.2 h.cr)),(u b h.vb.lt).trans h.cb,(u r (tb_lt h.tr)).trans h.cr,h.ne,h.nb,h.nr,h.el.trans u h.fw.size,fw_two h.fw h.el z⟩
theorem Me.call0 (h:Me W0 base col0 x n b r w col s cs) (u:Wv base col w' x s') (z:Fw col w w'):Me W0 base col0 x n b r w' col s' cs:=h.call u z (El.refl _ _)
theorem Me.put (h:Me W0 base col0 x n b r w col s cs) (hv:Vb w' b (n+1) cs') (u:Fz (fun k=>k=b) w w'):Me W0 base col0 x n b r w' col s cs':=
 ⟨h.wv.aside u (fun g _ e=>e ▸ h.cb),hv,tb_blk h.tr (u.block r (tb_lt h.tr) (fun e=>h.ne e.symm)),h.cb,h.cr,h.ne,h.nb,h.nr,h.el,
  ⟨u.os.trans h.fw.os,u.tape.trans h.fw.tape,u.output.trans h.fw.output,Nat.le_trans h.fw.size u.size,fun k hk hc=>(u.block k (Nat.lt_of_lt_of_le hk h.fw.size) (fun e=>by have:=h.nb; omega)).trans (h.fw.block k hk hc)⟩⟩
theorem Me.set (h:Me W0 base col0 x n b r w col s cs) (j:Nat) (z:j < n+1) (u:Value):Me W0 base col0 x n b r (w.setCell ⟨b,j,none⟩ u) col s (cs.set j u):=
 h.put (h.vb.set j (by rw[h.vb.len]; exact z) u) (Fz.of_set (C:=fun k=>k=b) (a:=⟨b,j,none⟩) u rfl)
theorem Me.free (h:Me W0 base col0 x n b r w col s cs) (j:Nat) (u:j < n+1):w.frozen? ⟨b,j,none⟩=false:=h.vb.free j u
theorem Me.ret (h:Me W0 base col0 x n b r w col s cs) (u:Fz (fun k=>k=r) w w'):∃ col',Wv base col' w' x s/\Fw col0 W0 w'/\El W0 col0 col':=
 ⟨col,h.wv.aside u (fun g _ e=>e ▸ h.cr),
  ⟨u.os.trans h.fw.os,u.tape.trans h.fw.tape,u.output.trans h.fw.output,Nat.le_trans h.fw.size u.size,fun k hk hc=>(u.block k (Nat.lt_of_lt_of_le hk h.fw.size) (fun e=>by have:=h.nr; omega)).trans (h.fw.block k hk hc)⟩,h.el⟩
end
structure Mp (W0:World) (n b r:Nat) (w:World) (cs:List Value):Prop where
 vb:Vb w b (n+1) cs
 tr:w.there r 0 (n+1)
 ne:b≠r
 nb:W0.heap.size<=b
 nr:W0.heap.size<=r
 bl:Below W0.heap.size W0 w
section
variable {W0 w w':World} {n b r:Nat} {cs cs':List Value}
theorem Mp.start (h:Below W0.heap.size W0 w) (z:w.heap.size=W0.heap.size+2) (hv:Vb w W0.heap.size (n+1) cs) (u:w.there (W0.heap.size+1) 0 (n+1)) :
  Mp W0 n W0.heap.size (W0.heap.size+1) w cs:=⟨hv,u,by omega,Nat.le_refl _,by omega,h⟩
theorem Mp.later (h:Mp W0 n b r w cs) (u:Below w.heap.size w w'):Mp W0 n b r w' cs:=
 ⟨h.vb.later u,tb_later h.tr u,h.ne,h.nb,h.nr,h.bl.trans (u.mono h.bl.size)⟩
theorem Mp.put (h:Mp W0 n b r w cs) (hv:Vb w' b (n+1) cs') (u:Fz (fun k=>k=b) w w'):Mp W0 n b r w' cs':=
 ⟨hv,tb_blk h.tr (u.block r (tb_lt h.tr) (fun e=>h.ne e.symm)),h.ne,h.nb,h.nr,h.bl.trans (u.below h.bl.size (fun k hk=>by have:=h.nb; omega))⟩
theorem Mp.set (h:Mp W0 n b r w cs) (j:Nat) (z:j < n+1) (u:Value):Mp W0 n b r (w.setCell ⟨b,j,none⟩ u) (cs.set j u):=
 h.put (h.vb.set j (by rw[h.vb.len]; exact z) u) (Fz.of_set (C:=fun k=>k=b) (a:=⟨b,j,none⟩) u rfl)
theorem Mp.free (h:Mp W0 n b r w cs) (j:Nat) (u:j < n+1):w.frozen? ⟨b,j,none⟩=false:=h.vb.free j u
theorem Mp.ret (h:Mp W0 n b r w cs) (u:Fz (fun k=>k=r) w w'):Below W0.heap.size W0 w':=
 h.bl.trans (u.below h.bl.size (fun k hk=>by have:=h.nr; omega))
end
structure Lr (base:Nat) (col:Nat->Nat) (w:World) (A:Option Addr) (n c:Nat) (S:List Int):Prop where
 rd:Rd (Value.int .u64) w w.heap.size A n c S
 c0:0 < n -> ∀ b o,A=some ⟨b,o,none⟩->col b=0/\base<=b
 nd:S.Nodup
 us:Sn.U64s S
section
variable {base:Nat} {col col':Nat->Nat} {w w':World} {A:Option Addr} {n c:Nat} {S:List Int} {x:Wp} {s:Ws}
theorem Lr.later (h:Lr base col w A n c S) (u:Below w.heap.size w w'):Lr base col w' A n c S:=⟨h.rd.later u,h.c0,h.nd,h.us⟩
theorem Lr.fz {E:Nat->Prop} (h:Lr base col w A n c S) (z:Fz E w w') (F:∀ g,E g->col g≠0):Lr base col w' A n c S:=
 ⟨rd_blk h.rd z.size (fun hn b o e=>by
  obtain⟨b',J,u,I,-⟩:=h.rd.at_ hn
  rw[e] at u; injection u with u; injection u with e1
  exact z.block b (by omega) (fun G=>F b G (h.c0 hn b o e).1)),h.c0,h.nd,h.us⟩
theorem Lr.el (h:Lr base col w A n c S) (z:El w col col'):Lr base col' w A n c S:=
 ⟨h.rd,fun hn b o e=>by
  obtain⟨b',G,u,F,-⟩:=h.rd.at_ hn
  rw[e] at u; injection u with u; injection u with e1
  exact⟨(z b (by omega)).trans (h.c0 hn b o e).1,(h.c0 hn b o e).2⟩,h.nd,h.us⟩
theorem Lr.fw (h:Lr base col w A n c S) (I:Fw col w w') (G:El w col col'):Lr base col' w' A n c S:=by
 have z:=h.fz I (fun g F=>F.1)
 refine⟨z.rd,fun hn b o e=>?_,z.nd,z.us⟩
 obtain⟨b',W,u,J,-⟩:=h.rd.at_ hn
 rw[e] at u; injection u with u; injection u with e2
 exact⟨(G b (by omega)).trans (h.c0 hn b o e).1,(h.c0 hn b o e).2⟩
theorem Lr.snap (h:Lr base col w A n c S):Sn.Snap w w.heap.size (.agg #[.slice A n c]) S:=⟨⟨A,n,c,rfl,h.rd⟩,h.nd,h.us⟩
def atB (S:List Int) (p:Int):Bool:=decide (0<=p/\p < S.length)
def atI (S:List Int) (p:Int):Int:=if 0<=p/\p < S.length then (S[p.toNat]?).getD 0 else 0
theorem sat_any (w:World) (h:Lr base col w A n c S) (p:Int) :
  Calls Tryz.prog 192 #[.agg #[.slice A n c],.int .i64 p] w fun e w'=>e=.returned (.tuple #[.int .u64 (atI S p),.bool (atB S p)])/\Below w.heap.size w w':=by
 by_cases hp:0<=p/\p < S.length
 .obtain⟨k,rfl⟩:∃ k:Nat,p=k:=⟨p.toNat,by omega⟩
  have hk:k < S.length:=by omega
  have e:=Sn.at_in _ S k S[k] w.heap.size w h.snap (Nat.le_refl _) (List.getElem?_eq_getElem hk)
  have u:atI S k=S[k]:=by
   unfold atI; rw[if_pos hp,Int.toNat_natCast,List.getElem?_eq_getElem hk]; rfl
  have z:atB S k=true:=by unfold atB; exact decide_eq_true hp
  rw[u,z]
  exact e
 .have e:=Sn.at_out _ S p w.heap.size w h.snap (by omega)
  have u:atI S p=0:=by unfold atI; rw[if_neg hp]
  have z:atB S p=false:=by unfold atB; exact decide_eq_false hp
  rw[u,z]
  exact e
theorem atI_u64 (h:Sn.U64s S) (p:Int):U64 (atI S p):=by
 unfold atI
 split
 .next u=>
  have hk:p.toNat < S.length:=by omega
  rw[List.getElem?_eq_getElem hk]
  exact h _ (List.getElem_mem hk)
 .exact⟨by decide,by decide⟩
theorem wlist_any (h:Wv base col w x s):Calls Tryz.prog 21 #[ptr x.pb] w fun e w'=>∃ A n c,e=.returned (.agg #[.slice A n c])/\Lr base col w' A n c s.S/\Below w.heap.size w w':=by
 have I:=h.bag
 obtain⟨L,u,J⟩:=I
 refine (list_any w x.pb x.ab L s.S u).mono ?_
 rintro e w' ⟨A,n,c,rfl,F,G,z⟩
 exact⟨A,n,c,rfl,⟨F.later z,G,u.nd,u.us⟩,z⟩
theorem Me.retL {W0:World} {col0:Nat->Nat} {m b r:Nat} {cs:List Value} (h:Me W0 base col0 x m b r w col s cs) (u:Fz (fun k=>k=r) w w') (z:Lr base col w A n c S) :
  ∃ col',Wv base col' w' x s/\Fw col0 W0 w'/\El W0 col0 col'/\Lr base col' w' A n c S:=
 ⟨col,h.wv.aside u (fun g _ e=>e ▸ h.cr),
  ⟨u.os.trans h.fw.os,u.tape.trans h.fw.tape,u.output.trans h.fw.output,Nat.le_trans h.fw.size u.size,fun k hk hc=>(u.block k (Nat.lt_of_lt_of_le hk h.fw.size) (fun e=>by have:=h.nr; omega)).trans (h.fw.block k hk hc)⟩,h.el,
  z.fz u (fun g e=>by rw[e,h.cr]; decide)⟩
end
abbrev Lpost (base:Nat) (col0:Nat->Nat) (x:Wp) (W0:World) (s:Ws) (S:List Int) (f:Option Addr->Nat->Nat->Value) (e:Ending) (w':World):Prop:=
 ∃ A n c,e=.returned (f A n c) /\ ∃ col',Wv base col' w' x s/\Fw col0 W0 w'/\El W0 col0 col'/\Lr base col' w' A n c S
end Go.Proofs.YtoiklelghfckgaaGreatDoor.Wo
namespace Go.Proofs.YtoiklelghfckgaaGreatDoor.Rw
open Go Go.ChangeShapes Go.WideShapes Go.ChangeAt Go.RowKit Go.Deep Hi Ba
theorem ra_sub {w:World} {g:Nat} {cs:List Value} (h:w.rangeAt g 0 cs) (o:Nat) (vs:List Value) (k:Nat) (hv:vs=(cs.drop o).take k):w.rangeAt g o vs:=fun j u z=>by
 have F:cs[o+j]? = some u:=by
  rw[hv,List.getElem?_take] at z
  split at z
  .rwa [List.getElem?_drop] at z
  .cases z
 have:=h (o+j) u F
 rwa [Nat.zero_add] at this
theorem th_sub {w:World} {g n:Nat} (h:w.there g 0 n) (o k:Nat) (hk:o+k<=n):w.there g o k:=fun j u=>by
 have:=h (o+j) (by omega)
 rwa [Nat.zero_add] at this
def setL:List Value->Nat->List Value->List Value
 | cs,_,[]=>cs
 | cs,o,v :: r=>setL (cs.set o v) (o+1) r
section
variable {T:TypeId} {n:Nat} (hT:RowT T n) {ops:Array Oper} {rest:List Oper} {op:Oper} {a:Act} {w:World} {Q:Exit->Act->World->Prop}
include hT
theorem load_s (u:op.guard=none) (x:Operand) (F:op.op=.load T x) (g o:Nat) (hx:a.eval x=.pointer (some ⟨g,o,none⟩)) (cs:List Value) (hv:w.rangeAt g o cs) (z:cs.length=n)
  (h:wpList Tryz.prog ops Q rest (a.put op.dst (.agg cs.toArray)) w):wpList Tryz.prog ops Q (op :: rest) a w:=
 wpList_load_mid u T x F g o hx _ _ hv hT.under hT.row (by rw[z]; exact hT.info) h
theorem store_s (z:op.guard=none) (x y:Operand) (G:op.op=.store T x y) (g o:Nat) (hx:a.eval x=.pointer (some ⟨g,o,none⟩)) (cs:List Value) (J:a.eval y=.agg cs.toArray) (I:w.there g o n) (F:cs.length=n) (u:cs.toArray.all (·.oneCell')=true)
  (h:∀ w',w'=w.setCells g o cs->wpList Tryz.prog ops Q rest (a.put op.dst undef) w'):wpList Tryz.prog ops Q (op :: rest) a w:=by
 subst F
 exact wpList_store_mid z T x y G g o cs.toArray hx J I hT.info u (h _ rfl)
end
end Go.Proofs.YtoiklelghfckgaaGreatDoor.Rw
namespace Go.Proofs.YtoiklelghfckgaaGreatDoor.Wo
open Go Go.ChangeShapes Go.WideShapes Go.ChangeAt Go.RowKit Go.Deep Go.Maps Rw Hi Mt Ba
theorem rt_give:RowT 66 5:=⟨by kernel_rfl,by kernel_rfl,by kernel_rfl⟩
section
variable {W0:World} {base:Nat} {col0 col:Nat->Nat} {x:Wp} {n b r:Nat} {s:Ws}
theorem Me.sets:∀ (vs:List Value) (o:Nat) (w:World) (cs:List Value),Me W0 base col0 x n b r w col s cs->o+vs.length<=n+1->Me W0 base col0 x n b r (w.setCells b o vs) col s (setL cs o vs)
 | [],_,_,_,h,_=>h
 | v :: q,o,w,cs,h,hl=>by
  rw[World.setCells,setL]
  simp only[List.length_cons] at hl
  exact Me.sets q (o+1) _ _ (h.set o (by omega) v) (by omega)
theorem Mp.sets:∀ (vs:List Value) (o:Nat) (w:World) (cs:List Value),Mp W0 n b r w cs->o+vs.length<=n+1->Mp W0 n b r (w.setCells b o vs) (setL cs o vs)
 | [],_,_,_,h,_=>h
 | v :: q,o,w,cs,h,hl=>by
  rw[World.setCells,setL]
  simp only[List.length_cons] at hl
  exact Mp.sets q (o+1) _ _ (h.set o (by omega) v) (by omega)
end
def dnB (g:Gv):Bool:=g.st.toList == [100,111,110,101]
theorem gdn_any (g:Gv) (w:World):Calls Tryz.prog 123 #[.agg g.cells.toArray] w fun e w'=>e=.returned (.bool (dnB g))/\Below w.heap.size w w':=gdone_any g w
theorem gagain_any (th op id word:Int) (w:World):Calls Tryz.prog 245 #[.int .i64 th,.int .i64 op,.int .u64 id,.int .u64 word] w fun e w'=>e=.returned (.agg (Gv.cells ⟨th,op,id,word,sAgain⟩).toArray)/\Below w.heap.size w w':=by
 obtain⟨W1,h,F,u,S1⟩:=box_b 66 [.int .i64 0,.int .i64 0,.int .u64 0,.int .u64 0,.string ⟨#[]⟩] w rfl
 have h:w.alloc (.cells #[.int .i64 0,.int .i64 0,.int .u64 0,.int .u64 0,.string ⟨#[]⟩] 66)=W1:=h
 have J:=Lh F.th
 have z:=Lh u
 clear F u
 go_enter Tryz.func245,Tryz.ntmps245
 go_upto_region 1 with (fail)
 clear h
 go_wp2_with (first
  | (refine stB rt_give rfl _ _ rfl w.heap.size rfl (Gv.cells ⟨th,op,id,word,sAgain⟩) rfl J.out rfl (by kernel_rfl) ?_; intro w9 G I; have W:=Lh G; have Y:=Lh I; clear G I))
 exact bodyPost_ret (v:=(.agg (Gv.cells ⟨th,op,id,word,sAgain⟩).toArray)) (res_b rt_give _ _ w.heap.size _ Tryz.results245 rfl W.out) rfl ⟨rfl,z.out.trans (Y.out.below z.out.size (fun k hk=>by omega))⟩
theorem gclose_any (th op id word:Int) (w:World):Calls Tryz.prog 172 #[.int .i64 th,.int .i64 op,.int .u64 id,.int .u64 word] w fun e w'=>e=.returned (.agg (Gv.cells ⟨th,op,id,word,sClose⟩).toArray)/\Below w.heap.size w w':=by
 obtain⟨W1,h,F,u,S1⟩:=box_b 66 [.int .i64 0,.int .i64 0,.int .u64 0,.int .u64 0,.string ⟨#[]⟩] w rfl
 have h:w.alloc (.cells #[.int .i64 0,.int .i64 0,.int .u64 0,.int .u64 0,.string ⟨#[]⟩] 66)=W1:=h
 have J:=Lh F.th
 have z:=Lh u
 clear F u
 go_enter Tryz.func172,Tryz.ntmps172
 go_upto_region 1 with (fail)
 clear h
 go_wp2_with (first
  | (refine stB rt_give rfl _ _ rfl w.heap.size rfl (Gv.cells ⟨th,op,id,word,sClose⟩) rfl J.out rfl (by kernel_rfl) ?_; intro w9 G I; have W:=Lh G; have Y:=Lh I; clear G I))
 exact bodyPost_ret (v:=(.agg (Gv.cells ⟨th,op,id,word,sClose⟩).toArray)) (res_b rt_give _ _ w.heap.size _ Tryz.results172 rfl W.out) rfl ⟨rfl,z.out.trans (Y.out.below z.out.size (fun k hk=>by omega))⟩
theorem goff_any (th op id word:Int) (w:World):Calls Tryz.prog 122 #[.int .i64 th,.int .i64 op,.int .u64 id,.int .u64 word] w fun e w'=>e=.returned (.agg (Gv.cells ⟨th,op,id,word,sOffer⟩).toArray)/\Below w.heap.size w w':=by
 obtain⟨W1,h,F,u,S1⟩:=box_b 66 [.int .i64 0,.int .i64 0,.int .u64 0,.int .u64 0,.string ⟨#[]⟩] w rfl
 have h:w.alloc (.cells #[.int .i64 0,.int .i64 0,.int .u64 0,.int .u64 0,.string ⟨#[]⟩] 66)=W1:=h
 have J:=Lh F.th
 have z:=Lh u
 clear F u
 go_enter Tryz.func122,Tryz.ntmps122
 go_upto_region 1 with (fail)
 clear h
 go_wp2_with (first
  | (refine stB rt_give rfl _ _ rfl w.heap.size rfl (Gv.cells ⟨th,op,id,word,sOffer⟩) rfl J.out rfl (by kernel_rfl) ?_; intro w9 G I; have W:=Lh G; have Y:=Lh I; clear G I))
 exact bodyPost_ret (v:=(.agg (Gv.cells ⟨th,op,id,word,sOffer⟩).toArray)) (res_b rt_give _ _ w.heap.size _ Tryz.results122 rfl W.out) rfl ⟨rfl,z.out.trans (Y.out.below z.out.size (fun k hk=>by omega))⟩
end Go.Proofs.YtoiklelghfckgaaGreatDoor.Wo
namespace Go.Proofs.YtoiklelghfckgaaGreatDoor.Wo
open Go.ChangeShapes Go.WideShapes Go.ChangeAt Go.RowKit Rw
theorem info_str:(Tryz.prog.info? 9).map (fun i=>(i.zero,i.size,i.bytes))=some (some (.string ⟨#[]⟩),1,16):=by kernel_rfl
theorem strequal_same (A A':Option Addr) (n c z:Nat) (xs:List ByteArray) (B B':Nat) (w:World) (h:Rd Value.string w B A n c xs) (F:Rd Value.string w B' A' n z xs) :
  Calls Tryz.prog 32 #[.slice A n c,.slice A' n z] w fun e w'=>e=.returned (.bool true) /\ ∃ q,w.drewN q=w':=by
 have hn:n<=9223372036854775807:=by have:=h.cap; have:=h.top; omega
 have G:=Lh h
 have I:=Lh F
 clear h F
 go_enter Tryz.func32,Tryz.ntmps32
 go_wp2
 go_loopw [5,13] (fun _ i wr=>∃ k q:Nat,k<=n/\i=.int .i64 k/\wr=w.drewN q) (fun _ i _=>n - (intOf i).toNat)
 case atStart=>exact⟨0,0,Nat.zero_le _,rfl,rfl⟩
 case round=>
  obtain⟨k,q,hk,rfl,rfl⟩:=hrel
  by_cases hlt:k < n
  .obtain⟨b,o,x,rfl,J,hx,Y⟩:=G.out.get hlt
   obtain⟨b',o',y,rfl,W,u,a0⟩:=I.out.get hlt
   obtain rfl:x=y:=by rw[hx] at u; injection u
   clear hx u
   go_wp2
   go_quiet (fail)
   go_wp2
   go_roundw
   case rel=>exact⟨k+1,_,by omega,by go_num,rfl⟩
   case measure=>simp[intOf]; omega
  .have a1:k=n:=by omega
   go_wp2
   go_ret
   exact⟨rfl,_,rfl⟩
end Go.Proofs.YtoiklelghfckgaaGreatDoor.Wo
end
section
set_option linter.unusedVariables false
namespace Go.Proofs.YtoiklelghfckgaaGreatDoor.Wo
open Go Go.ChangeShapes Go.WideShapes Go.ChangeAt Go.RowKit Go.Maps Rw Hi Mt Ba
open Cn (Cf cfE)
abbrev gStart:ByteArray:=⟨#[115,116,97,114,116]⟩
abbrev gNear:ByteArray:=⟨#[110,101,97,114]⟩
abbrev gSnap:ByteArray:=⟨#[115,110,97,112]⟩
abbrev gLoad:ByteArray:=⟨#[108,111,97,100]⟩
abbrev gSwap:ByteArray:=⟨#[115,119,97,112]⟩
abbrev gGrow:ByteArray:=⟨#[103,114,111,119]⟩
abbrev gOpen:ByteArray:=⟨#[111,112,101,110]⟩
abbrev gShrink:ByteArray:=⟨#[115,104,114,105,110,107]⟩
abbrev gPublish:ByteArray:=⟨#[112,117,98,108,105,115,104]⟩
abbrev gDrop:ByteArray:=⟨#[100,114,111,112]⟩
abbrev gUnlive:ByteArray:=⟨#[117,110,108,105,118,101]⟩
abbrev gPark:ByteArray:=⟨#[112,97,114,107]⟩
abbrev gWait:ByteArray:=⟨#[119,97,105,116]⟩
abbrev gLeave:ByteArray:=⟨#[108,101,97,118,101]⟩
abbrev gExtra:ByteArray:=⟨#[101,120,116,114,97]⟩
abbrev gDone:ByteArray:=⟨#[100,111,110,101]⟩
structure Gt where
 th:Int
 dl:Int
 st:ByteArray
 id:Int
 word:Int
 near:Bool
 A:Option Addr
 n:Nat
 c:Nat
 S:List Int
 place:Int
 parked:Bool
 wish:Int
 got:Int
 g:Gv
def Gt.cells (q:Gt):List Value:=[.int .i64 q.th,.int .u64 q.dl,.string q.st,.int .u64 q.id,.int .u64 q.word,.bool q.near,.slice q.A q.n q.c,.int .i64 q.place,.bool q.parked,.int .i64 q.wish,.int .u64 q.got,.int .i64 q.g.th,.int .i64 q.g.op,.int .u64 q.g.id,.int .u64 q.g.word,.string q.g.st]
abbrev Gt.val (q:Gt):Value:=.agg q.cells.toArray
abbrev Gt.to (q:Gt) (st:ByteArray):Gt:={ q with st:=st }
structure Mg where
 q:Gt
 s:Ws
 N:List Int
abbrev Mg.to (m:Mg) (st:ByteArray):Mg:={ m with q:=m.q.to st }
def ptS (s:Ws) (th op id e:Int):Ws:={ s with ev:=s.ev ++ [⟨s.step,th,1,op,id,e⟩] }
def lookM (q:Gt) (p:Int):Gt:=
 if 0<=p/\p < q.S.length then { q with place:=p,id:=(q.S[p.toNat]?).getD 0,st:=gLoad }
 else if q.parked=true then { q with place:=p,st:=gWait } else { q with place:=p,st:=gGrow }
def nextM (q:Gt):Gt:=if q.near=true then q.to gNear else lookM q (wrap64 (q.place+1))
def endsM (m:Mg) (e:Int):Mg:={ m with q:={ m.q with wish:=e,st:=gDone },s:=ptS m.s m.q.th 0 0 e }
def upM (m:Mg) (e:Int):Mg:=if m.q.parked=true then { m with q:={ m.q with wish:=e,st:=gLeave } } else endsM m e
def hasM (m:Mg) (id:Int):Mg:={ m with q:={ m.q with got:=id,st:=gDone },s:=ptS { m.s with L:=Le.bL m.s.L id m.q.th m.s.now,T:=Le.bT m.s.leak m.s.L m.s.T id m.q.th m.s.now } m.q.th 0 id 0 }
def ownM (m:Mg):Mg:=if m.q.parked=true then (hasM m m.q.id).to gLeave else hasM m m.q.id
def startM (m:Mg):Mg:=if m.s.closed=true then endsM m 6 else m.to gNear
def nearM (m:Mg):Mg:=
 if (Lc.takeR m.s.loc m.q.th).2.2=true then { m with q:={ m.q with id:=(Lc.takeR m.s.loc m.q.th).2.1,near:=true,st:=gLoad },s:={ m.s with loc:=(Lc.takeR m.s.loc m.q.th).1 } }
 else { m with q:=m.q.to gSnap,s:={ m.s with loc:=(Lc.takeR m.s.loc m.q.th).1 } }
def snapM (m:Mg) (A:Option Addr) (n c:Nat):Mg:={ m with q:=lookM { m.q with A:=A,n:=n,c:=c,S:=m.s.S,near:=false } 0 }
def loadM (m:Mg):Mg:=if (fnd m.s.D m.q.id).isSome=true/\bW m.s.D m.q.id % 4=0 then { m with q:={ m.q with word:=bW m.s.D m.q.id,st:=gSwap } } else { m with q:=nextM m.q }
def swapM (m:Mg):Mg:=
 let s':Ws:={ m.s with D:=up m.s.D m.q.id (exS m.q.word 1 m.s.now) }
 if bK m.s.D m.q.id m.q.word 1=true then ownM { m with q:={ m.q with word:=bV m.s.D m.q.id m.q.word 1 },s:=s' } else { m with q:=nextM m.q,s:=s' }
def growM (m:Mg):Mg:=
 let s':Ws:={ m.s with live:=grwV m.s.live m.s.conf.max }
 if m.s.live < m.s.conf.max then { m with q:=m.q.to gOpen,s:=s' } else if m.q.parked=true then { m with q:=m.q.to gWait,s:=s' } else { m with q:=m.q.to gPark,s:=s' }
def openM (m:Mg):Mg:=
 let s':Ws:={ m.s with O:=(Fc.nx m.s.O).2,n:=opnN m.s.O m.s.n }
 if (Fc.nx m.s.O).1=true then { m with q:={ m.q with id:=opnI m.s.O m.s.n,word:=1,st:=gPublish },s:={ s' with D:=entD s'.D (opnI m.s.O m.s.n) 1 s'.now } } else { m with q:=m.q.to gShrink,s:=s' }
def shrinkM (m:Mg):Mg:=upM { m with s:={ m.s with live:=shrV m.s.live } } 8
def publishM (m:Mg):Mg:=
 if m.s.closed=false/\(fnd m.s.D m.q.id).isSome=true then ownM { m with s:={ m.s with S:=pubS m.s.D m.s.S m.q.id } } else m.to gDrop
def dropM (m:Mg):Mg:=
 if bK m.s.D m.q.id m.q.word 3=true then { q:=m.q.to gUnlive,s:=remS m.s m.N m.q.id m.q.word m.q.th 0,N:=m.N.filter (· != m.q.id) } else m.to gUnlive
def unliveM (m:Mg):Mg:=upM { m with s:={ m.s with live:=shrV m.s.live } } 6
def parkM (m:Mg):Mg:={ m with q:={ m.q with parked:=true,st:=gSnap },s:={ m.s with sl:=St.parkL m.s.sl m.q.th m.q.dl } }
def slotI (L:List St.Sx) (t:Int):Int:=match L.findIdx? (St.hit t) with
 | none=>0
 | some k=>((L[k]?).getD (0,0,0)).2.2
def waitM (m:Mg):Mg:=
 if slotI m.s.sl m.q.th≠0 then m.to gLeave else if m.s.closed=true then upM m 6 else if m.q.dl<=m.s.now then upM m 7
 else if m.s.live < m.s.conf.max then m.to gGrow else m
def leaveM (m:Mg):Mg:=
 let i:=(St.takeR m.s.sl m.q.th).2.1
 let m':Mg:={ m with q:={ m.q with parked:=false },s:={ m.s with sl:=(St.takeR m.s.sl m.q.th).1 } }
 if i≠0/\m.q.got≠0 then { m' with q:={ m'.q with g:=⟨m.q.th,0,i,bW m.s.D i,sOffer⟩,st:=gExtra } }
 else if i≠0 then hasM m' i else if m.q.got≠0 then m'.to gDone else endsM m' m.q.wish
def extraM (m:Mg):Mg:=
 let r:=stepG ⟨m.q.g,m.s,m.N⟩
 { q:={ m.q with g:=r.g,st:=if dnB r.g=true then gDone else m.q.st },s:=r.s,N:=r.N }
def stepM (m:Mg) (A:Option Addr) (n c:Nat):Mg:=
 if m.q.st=gStart then startM m else if m.q.st=gNear then nearM m else if m.q.st=gSnap then snapM m A n c
 else if m.q.st=gLoad then loadM m else if m.q.st=gSwap then swapM m else if m.q.st=gGrow then growM m
 else if m.q.st=gOpen then openM m else if m.q.st=gShrink then shrinkM m else if m.q.st=gPublish then publishM m
 else if m.q.st=gDrop then dropM m else if m.q.st=gUnlive then unliveM m else if m.q.st=gPark then parkM m
 else if m.q.st=gWait then waitM m else if m.q.st=gLeave then leaveM m else if m.q.st=gExtra then extraM m else m
end Go.Proofs.YtoiklelghfckgaaGreatDoor.Wo
end
section
set_option maxRecDepth 100000
set_option maxHeartbeats 8000000
set_option linter.unusedVariables false
namespace Go.Proofs.YtoiklelghfckgaaGreatDoor.Wo
open Go Go.ChangeShapes Go.WideShapes Go.ChangeAt Go.RowKit Go.Deep Go.Maps Rw Hi Mt Ba
open Cn (Cf cfE)
theorem rt_gt:RowT 68 16:=⟨by kernel_rfl,by kernel_rfl,by kernel_rfl⟩
theorem boxes_gt (q:Gt) (w:World):∃ W,(w.alloc (.cells q.cells.toArray 68)).alloc (.cells #[.int .i64 0,.int .u64 0,.string ⟨#[]⟩,.int .u64 0,.int .u64 0,.bool false,.slice none 0 0,.int .i64 0,.bool false,.int .i64 0,.int .u64 0,.int .i64 0,.int .i64 0,.int .u64 0,.int .u64 0,.string ⟨#[]⟩] 68)=W /\
  Vb W w.heap.size 16 q.cells/\W.there (w.heap.size+1) 0 16/\Below w.heap.size w W/\W.heap.size=w.heap.size+2:=boxes_b 68 q.cells [.int .i64 0,.int .u64 0,.string ⟨#[]⟩,.int .u64 0,.int .u64 0,.bool false,.slice none 0 0,.int .i64 0,.bool false,.int .i64 0,.int .u64 0,.int .i64 0,.int .i64 0,.int .u64 0,.int .u64 0,.string ⟨#[]⟩] w rfl rfl
theorem box_gt (q:Gt) (w:World):∃ W,w.alloc (.cells q.cells.toArray 68)=W/\Vb W w.heap.size 16 q.cells/\Below w.heap.size w W/\W.heap.size=w.heap.size+1:=box_b 68 q.cells w rfl
def actD_gt:DataW Unit:=(DataW.put (DataW.put (DataW.put (DataW.put (DataW.put (DataW.put (DataW.put (DataW.put (DataW.put (DataW.put (DataW.put (DataW.put (DataW.put (DataW.put (DataW.put (.map [] : DataW Unit) (.string [115,116,97,114,116]) (.lit (.int .u64 ((89:Nat)+1:Int)))) (.string [110,101,97,114]) (.lit (.int .u64 ((90:Nat)+1:Int)))) (.string [115,110,97,112]) (.lit (.int .u64 ((91:Nat)+1:Int)))) (.string [108,111,97,100]) (.lit (.int .u64 ((92:Nat)+1:Int)))) (.string [115,119,97,112]) (.lit (.int .u64 ((93:Nat)+1:Int)))) (.string [103,114,111,119]) (.lit (.int .u64 ((94:Nat)+1:Int)))) (.string [111,112,101,110]) (.lit (.int .u64 ((95:Nat)+1:Int)))) (.string [115,104,114,105,110,107]) (.lit (.int .u64 ((96:Nat)+1:Int)))) (.string [112,117,98,108,105,115,104]) (.lit (.int .u64 ((97:Nat)+1:Int)))) (.string [100,114,111,112]) (.lit (.int .u64 ((98:Nat)+1:Int)))) (.string [117,110,108,105,118,101]) (.lit (.int .u64 ((99:Nat)+1:Int)))) (.string [112,97,114,107]) (.lit (.int .u64 ((100:Nat)+1:Int)))) (.string [119,97,105,116]) (.lit (.int .u64 ((101:Nat)+1:Int)))) (.string [108,101,97,118,101]) (.lit (.int .u64 ((102:Nat)+1:Int)))) (.string [101,120,116,114,97]) (.lit (.int .u64 ((103:Nat)+1:Int))))
theorem acts_gt (w:World):Calls Tryz.prog 40 #[] w fun e w'=>∃ m,e=.returned (.map (some m))/\(∃ n,w'.ownsMap Tryz.prog 9 fnR m n actD_gt)/\Below w.heap.size w w':=by
 have b0:=@run_makeMap Tryz.prog
 have hk:∀ s:ByteArray,s.size<=maxLen->keyOf Tryz.prog 9 (.string s)=some (.string s.data.toList):=fun s hs=>WideMaps.keyOf_string_mk Tryz.underlying9 hs
 go_enter Tryz.func40,Tryz.ntmps40
 have al:Hid (Below w.heap.size w (w.alloc (.map #[] 0))):=Lh ((Below.refl _ _).alloc (Nat.le_refl _) _)
 have aF:Hid ((w.alloc (.map #[] 0)).ownsMap Tryz.prog 9 fnR w.heap.size 0 (.map [] : DataW Unit)):=Lh (World.ownsMap_made w _ _ _)
 go_wp2_with (first
  | (refine inO (w.alloc (.map #[] 0)) rfl _ _ _ _ rfl 9 111 lawS Tryz.underlying112 w.heap.size 0 _ rfl aF.out (by decide) _ _ _ rfl rfl (hk _ (by decide)) (.lit (.int .u64 ((89:Nat)+1:Int))) [] rfl ?_; intro v1 a5 h; have aG:=Lh a5; have an:=Lh (grL al.out h (Nat.le_refl _)); clear a5 h)
  | (refine inO v1 rfl _ _ _ _ rfl 9 111 lawS Tryz.underlying112 w.heap.size 1 _ rfl aG.out (by decide) _ _ _ rfl rfl (hk _ (by decide)) (.lit (.int .u64 ((90:Nat)+1:Int))) [] rfl ?_; intro v2 ad Q; have aN:=Lh ad; have ax:=Lh (grL an.out Q (Nat.le_refl _)); clear ad Q)
  | (refine inO v2 rfl _ _ _ _ rfl 9 111 lawS Tryz.underlying112 w.heap.size 2 _ rfl aN.out (by decide) _ _ _ rfl rfl (hk _ (by decide)) (.lit (.int .u64 ((91:Nat)+1:Int))) [] rfl ?_; intro v3 ae W; have aO:=Lh ae; have ay:=Lh (grL ax.out W (Nat.le_refl _)); clear ae W)
  | (refine inO v3 rfl _ _ _ _ rfl 9 111 lawS Tryz.underlying112 w.heap.size 3 _ rfl aO.out (by decide) _ _ _ rfl rfl (hk _ (by decide)) (.lit (.int .u64 ((92:Nat)+1:Int))) [] rfl ?_; intro v4 af Y; have aP:=Lh af; have az:=Lh (grL ay.out Y (Nat.le_refl _)); clear af Y)
  | (refine inO v4 rfl _ _ _ _ rfl 9 111 lawS Tryz.underlying112 w.heap.size 4 _ rfl aP.out (by decide) _ _ _ rfl rfl (hk _ (by decide)) (.lit (.int .u64 ((93:Nat)+1:Int))) [] rfl ?_; intro v5 ag a0; have aQ:=Lh ag; have aA:=Lh (grL az.out a0 (Nat.le_refl _)); clear ag a0)
  | (refine inO v5 rfl _ _ _ _ rfl 9 111 lawS Tryz.underlying112 w.heap.size 5 _ rfl aQ.out (by decide) _ _ _ rfl rfl (hk _ (by decide)) (.lit (.int .u64 ((94:Nat)+1:Int))) [] rfl ?_; intro v6 ah a1; have aR:=Lh ah; have aB:=Lh (grL aA.out a1 (Nat.le_refl _)); clear ah a1)
  | (refine inO v6 rfl _ _ _ _ rfl 9 111 lawS Tryz.underlying112 w.heap.size 6 _ rfl aR.out (by decide) _ _ _ rfl rfl (hk _ (by decide)) (.lit (.int .u64 ((95:Nat)+1:Int))) [] rfl ?_; intro v7 ai a2; have aS:=Lh ai; have aC:=Lh (grL aB.out a2 (Nat.le_refl _)); clear ai a2)
  | (refine inO v7 rfl _ _ _ _ rfl 9 111 lawS Tryz.underlying112 w.heap.size 7 _ rfl aS.out (by decide) _ _ _ rfl rfl (hk _ (by decide)) (.lit (.int .u64 ((96:Nat)+1:Int))) [] rfl ?_; intro v8 aj a3; have aT:=Lh aj; have aD:=Lh (grL aC.out a3 (Nat.le_refl _)); clear aj a3)
  | (refine inO v8 rfl _ _ _ _ rfl 9 111 lawS Tryz.underlying112 w.heap.size 8 _ rfl aT.out (by decide) _ _ _ rfl rfl (hk _ (by decide)) (.lit (.int .u64 ((97:Nat)+1:Int))) [] rfl ?_; intro v9 ak a4; have aU:=Lh ak; have aE:=Lh (grL aD.out a4 (Nat.le_refl _)); clear ak a4)
  | (refine inO v9 rfl _ _ _ _ rfl 9 111 lawS Tryz.underlying112 w.heap.size 9 _ rfl aU.out (by decide) _ _ _ rfl rfl (hk _ (by decide)) (.lit (.int .u64 ((98:Nat)+1:Int))) [] rfl ?_; intro aV a6 u; have aH:=Lh a6; have ao:=Lh (grL aE.out u (Nat.le_refl _)); clear a6 u)
  | (refine inO aV rfl _ _ _ _ rfl 9 111 lawS Tryz.underlying112 w.heap.size 10 _ rfl aH.out (by decide) _ _ _ rfl rfl (hk _ (by decide)) (.lit (.int .u64 ((99:Nat)+1:Int))) [] rfl ?_; intro aW a7 z; have aI:=Lh a7; have aq:=Lh (grL ao.out z (Nat.le_refl _)); clear a7 z)
  | (refine inO aW rfl _ _ _ _ rfl 9 111 lawS Tryz.underlying112 w.heap.size 11 _ rfl aI.out (by decide) _ _ _ rfl rfl (hk _ (by decide)) (.lit (.int .u64 ((100:Nat)+1:Int))) [] rfl ?_; intro aX a8 F; have aJ:=Lh a8; have ar:=Lh (grL aq.out F (Nat.le_refl _)); clear a8 F)
  | (refine inO aX rfl _ _ _ _ rfl 9 111 lawS Tryz.underlying112 w.heap.size 12 _ rfl aJ.out (by decide) _ _ _ rfl rfl (hk _ (by decide)) (.lit (.int .u64 ((101:Nat)+1:Int))) [] rfl ?_; intro aY a9 G; have aK:=Lh a9; have au:=Lh (grL ar.out G (Nat.le_refl _)); clear a9 G)
  | (refine inO aY rfl _ _ _ _ rfl 9 111 lawS Tryz.underlying112 w.heap.size 13 _ rfl aK.out (by decide) _ _ _ rfl rfl (hk _ (by decide)) (.lit (.int .u64 ((102:Nat)+1:Int))) [] rfl ?_; intro aZ aa I; have aL:=Lh aa; have av:=Lh (grL au.out I (Nat.le_refl _)); clear aa I)
  | (refine inO aZ rfl _ _ _ _ rfl 9 111 lawS Tryz.underlying112 w.heap.size 14 _ rfl aL.out (by decide) _ _ _ rfl rfl (hk _ (by decide)) (.lit (.int .u64 ((103:Nat)+1:Int))) [] rfl ?_; intro b2 ac J; have aM:=Lh ac; have aw:=Lh (grL av.out J (Nat.le_refl _)); clear ac J))
 go_wp2_with fail
 go_ret
 exact⟨_,rfl,⟨_,aM.out⟩,aw.out⟩
theorem eq_fn_gt (w:World) (h:Fn) (first cap:Array Value):(binOp .eql 111 (.func h first cap) .nilFunc).run Tryz.prog w=.ok (.bool false) w:=by kernel_rfl
theorem eq_nil_gt (w:World):(binOp .eql 111 .nilFunc .nilFunc).run Tryz.prog w=.ok (.bool true) w:=by kernel_rfl
theorem zero_fn_gt (w:World):(zeroValue 111).run Tryz.prog w=.ok .nilFunc w:=by kernel_rfl
theorem gt_act (w:World) {base:Nat} {z:Nat->Nat} {x:Wp} {s s':Ws} (q r:Gt) (h:Wv base z w x s) (f:FuncId) (a1:actD_gt.atKey (.string q.st.data.toList) (.lit (.int .u64 0))=.lit (.int .u64 ((f:Nat)+1:Int))) (a3:q.st.size<=maxLen)
  (hK:∀ w,(callFunc f #[.agg q.cells.toArray,ptr x.pw]).run Tryz.prog w=.ok (.enter f #[.agg q.cells.toArray,ptr x.pw]) w)
  (hD:∀ (W:World) (z:Nat->Nat),Wv base z W x s->Calls Tryz.prog f #[.agg q.cells.toArray,ptr x.pw] W (Mpost base z x W s' r.val)) :
  Calls Tryz.prog 9 #[q.val,ptr x.pw] w (Mpost base z x w s' r.val):=by
 obtain⟨W1,aa,Y,Q,I,J⟩:=boxes_gt q w
 obtain⟨ad,m1⟩:=Me.start h I J Y Q
 have M:=Lh m1
 have a7:=Lh a1
 have HZ:=Lh a3
 have a6:=Lh hD
 clear hD
 clear m1 Y Q I J h a1 a3
 go_enter Tryz.func9,Tryz.ntmps9
 go_upto_region 1 with (fail)
 clear aa
 go_wp2_with fail
 have M:=Lh (M.out.later (Below.refl _ _).drew)
 have u:Hid (Vb W1.drew w.heap.size 16 q.cells):=Lh M.out.vb
 refine rgS 5 (fun w'=>Vb w' w.heap.size 16 q.cells) (by kernel_rfl) (by kernel_rfl) ?_
 intro a0
 have F:=Lh a0
 clear a0
 refine rq 1 F.out u.out rfl ?_
 refine rq 2 F.out u.out rfl ?_ (hv:=fun w' hw=>by (have kz:=hw.cell 2 _ rfl; go_simp; exact rfl))
 refine rO 0 rfl (by kernel_rfl) rfl ?_
 unfold Oper.wp
 go_simp
 refine (acts_gt _).mono ?_
 rintro e w2 ⟨m,rfl,⟨n,a2⟩,b2⟩
 have M:=Lh (M.out.later b2)
 refine⟨M.out.vb,?_⟩
 clear u
 have u:=Lh M.out.vb
 obtain⟨fv,ps,ac,G⟩:=a2.lookup lawS Tryz.underlying112 (zero_fn_gt w2) (show fnR .nilFunc=some (.lit (.int .u64 0),[]) from rfl) (WideMaps.keyOf_string_mk Tryz.underlying9 HZ.out)
 rw[a7.out] at G
 obtain rfl:=fnR_inv G
 clear a2 b2 G
 refine rO 3 rfl (by kernel_rfl) rfl ?_
 unfold Oper.wp
 go_simp
 refine⟨u.out,?_⟩
 clear ac
 refine rq 4 F.out u.out rfl ?_
 refine rgD (by kernel_rfl) ?_
 clear u
 have af:=eq_fn_gt
 have ag:=eq_nil_gt
 go_wp2_with (first
  | (refine ldB rt_gt rfl _ rfl w.heap.size rfl q.cells M.out.vb ?_))
 refine (a6.out _ _ M.out.wv).mono ?_
 rintro e w3 ⟨rfl,ae,h3,z3,l3⟩
 have M:=Lh (M.out.call h3 z3 l3)
 clear h3 z3 l3
 go_wp2_with (first
  | (refine stB rt_gt rfl _ _ rfl (w.heap.size+1) rfl r.cells rfl M.out.tr rfl (by kernel_rfl) ?_; intro w9 a4 a5; have a8:=Lh a4; have a9:=Lh a5; clear a4 a5))
 refine bodyPost_ret (v:=r.val) (res_b rt_gt _ _ (w.heap.size+1) _ Tryz.results9 rfl a8.out) rfl ?_
 exact⟨rfl,M.out.ret a9.out⟩
theorem gt_actL (w:World) {base:Nat} {z:Nat->Nat} {x:Wp} {s s':Ws} (q:Gt) (r:Option Addr->Nat->Nat->Gt) (h:Wv base z w x s) {S:List Int} (f:FuncId) (a1:actD_gt.atKey (.string q.st.data.toList) (.lit (.int .u64 0))=.lit (.int .u64 ((f:Nat)+1:Int))) (a3:q.st.size<=maxLen)
  (hK:∀ w,(callFunc f #[.agg q.cells.toArray,ptr x.pw]).run Tryz.prog w=.ok (.enter f #[.agg q.cells.toArray,ptr x.pw]) w)
  (hD:∀ (W:World) (z:Nat->Nat),Wv base z W x s->Calls Tryz.prog f #[.agg q.cells.toArray,ptr x.pw] W (Lpost base z x W s' S fun A n c=>(r A n c).val)) :
  Calls Tryz.prog 9 #[q.val,ptr x.pw] w (Lpost base z x w s' S fun A n c=>(r A n c).val):=by
 obtain⟨W1,aa,Y,Q,I,J⟩:=boxes_gt q w
 obtain⟨ad,m1⟩:=Me.start h I J Y Q
 have M:=Lh m1
 have a7:=Lh a1
 have HZ:=Lh a3
 have a6:=Lh hD
 clear hD
 clear m1 Y Q I J h a1 a3
 go_enter Tryz.func9,Tryz.ntmps9
 go_upto_region 1 with (fail)
 clear aa
 go_wp2_with fail
 have M:=Lh (M.out.later (Below.refl _ _).drew)
 have u:Hid (Vb W1.drew w.heap.size 16 q.cells):=Lh M.out.vb
 refine rgS 5 (fun w'=>Vb w' w.heap.size 16 q.cells) (by kernel_rfl) (by kernel_rfl) ?_
 intro a0
 have F:=Lh a0
 clear a0
 refine rq 1 F.out u.out rfl ?_
 refine rq 2 F.out u.out rfl ?_ (hv:=fun w' hw=>by (have kz:=hw.cell 2 _ rfl; go_simp; exact rfl))
 refine rO 0 rfl (by kernel_rfl) rfl ?_
 unfold Oper.wp
 go_simp
 refine (acts_gt _).mono ?_
 rintro e w2 ⟨m,rfl,⟨n,a2⟩,b2⟩
 have M:=Lh (M.out.later b2)
 refine⟨M.out.vb,?_⟩
 clear u
 have u:=Lh M.out.vb
 obtain⟨fv,ps,ac,G⟩:=a2.lookup lawS Tryz.underlying112 (zero_fn_gt w2) (show fnR .nilFunc=some (.lit (.int .u64 0),[]) from rfl) (WideMaps.keyOf_string_mk Tryz.underlying9 HZ.out)
 rw[a7.out] at G
 obtain rfl:=fnR_inv G
 clear a2 b2 G
 refine rO 3 rfl (by kernel_rfl) rfl ?_
 unfold Oper.wp
 go_simp
 refine⟨u.out,?_⟩
 clear ac
 refine rq 4 F.out u.out rfl ?_
 refine rgD (by kernel_rfl) ?_
 clear u
 have af:=eq_fn_gt
 have ag:=eq_nil_gt
 go_wp2_with (first
  | (refine ldB rt_gt rfl _ rfl w.heap.size rfl q.cells M.out.vb ?_))
 refine (a6.out _ _ M.out.wv).mono ?_
 rintro e w3 ⟨A,n,c,rfl,ae,h3,z3,l3,hL⟩
 have M:=Lh (M.out.call h3 z3 l3)
 have HL:=Lh hL
 clear h3 z3 l3 hL
 go_wp2_with (first
  | (refine stB rt_gt rfl _ _ rfl (w.heap.size+1) rfl (r A n c).cells rfl M.out.tr rfl (by kernel_rfl) ?_; intro w9 a4 a5; have a8:=Lh a4; have a9:=Lh a5; clear a4 a5))
 refine bodyPost_ret (v:=(r A n c).val) (res_b rt_gt _ _ (w.heap.size+1) _ Tryz.results9 rfl a8.out) rfl ?_
 exact⟨A,n,c,rfl,M.out.retL a9.out HL.out⟩
structure Hok (m:Mg):Prop where
 mk_:m.s.M=Le.mk m.N
 ev:m.s.ev.length<=1000
 ll:m.s.L.length<=1000
 tl:m.s.T.length<=1000
 lk:U64 m.s.leak
 nw:U64 m.s.now
theorem mto_any (q:Gt) (t:ByteArray) (w:World) :
  Calls Tryz.prog 152 #[q.val,.string t] w (fun e w'=>e=.returned (q.to t).val/\Below w.heap.size w w'):=by
 obtain⟨W,Y,F,z,h,u⟩:=boxes_gt q w
 have M:=Lh (Mp.start h u F z)
 clear F z h u
 go_enter Tryz.func152,Tryz.ntmps152
 go_upto_region 1 with (fail)
 clear Y
 have z2:=M.out.vb.cell 2 _ rfl
 have f2:=M.out.free 2 (by decide)
 go_upto_region 2 with (fail)
 have M:=Lh (M.out.set 2 (by decide) (.string t))
 clear z2 f2
 generalize (W.setCell ⟨w.heap.size,2,none⟩ (.string t))=w2 at *
 go_wp2_with (first
  | (refine ldB rt_gt rfl _ rfl w.heap.size rfl (Gt.cells (q.to t)) M.out.vb ?_)
  | (refine stB rt_gt rfl _ _ rfl (w.heap.size+1) rfl (Gt.cells (q.to t)) rfl M.out.tr rfl (by kernel_rfl) ?_; intro a0 G I; have J:=Lh G; have Q:=Lh I; clear G I))
 refine bodyPost_ret (v:=(q.to t).val) (res_b rt_gt _ _ (w.heap.size+1) _ Tryz.results152 rfl J.out) rfl ?_
 exact⟨rfl,M.out.ret Q.out⟩
theorem lookM_yes {q:Gt} {p:Int} (h:atB q.S p=true):lookM q p = { q with place:=p,id:=atI q.S p,st:=gLoad }:=by
 have h:=of_decide_eq_true h
 unfold lookM atI
 rw[if_pos h,if_pos h]
theorem lookM_no {q:Gt} {p:Int} (h:atB q.S p=false):lookM q p = { q with place:=p,st:=if q.parked=true then gWait else gGrow }:=by
 have h:=of_decide_eq_false h
 unfold lookM
 rw[if_neg h]
 split <;> rfl
theorem mlook_any (w:World) {base:Nat} {a1:Nat->Nat} (q:Gt) (p:Int) (hL:Lr base a1 w q.A q.n q.c q.S) :
  Calls Tryz.prog 154 #[q.val,.int .i64 p] w (fun e w'=>e=.returned (lookM q p).val/\Below w.heap.size w w'):=by
 have HL:=Lh hL
 clear hL
 obtain⟨r,z⟩:∃ r,lookM q p=r:=⟨_,rfl⟩
 have HR:=Lh z
 rw[z]
 clear z
 obtain⟨u,a2⟩:∃ u,atI q.S p=u:=⟨_,rfl⟩
 have a0:=Lh a2
 clear a2
 obtain⟨bk,a3⟩:∃ bk,atB q.S p=bk:=⟨_,rfl⟩
 have W:=Lh a3
 clear a3
 obtain⟨pk,a4⟩:∃ pk,q.parked=pk:=⟨_,rfl⟩
 have Y:=Lh a4
 clear a4
 have HC:Hid (∀ w',Lr base a1 w' q.A q.n q.c q.S->Calls Tryz.prog 192 #[.agg #[.slice q.A q.n q.c],.int .i64 p] w' fun e a7=>e=.returned (.tuple #[.int .u64 u,.bool bk])/\Below w'.heap.size w' a7):=Lh (fun w' h=>by have e:=sat_any w' h p; rw[a0.out,W.out] at e; exact e)
 obtain⟨W1,a6,V1,T1,B1,S1⟩:=boxes_gt q w
 have M:=Lh (Mp.start B1 S1 V1 T1)
 clear V1 T1 B1 S1
 go_enter Tryz.func154,Tryz.ntmps154
 go_upto_region 1 with (fail)
 clear a6
 have z7:=M.out.vb.cell 7 _ rfl
 have f7:=M.out.free 7 (by decide)
 go_upto_region 2 with (fail)
 have M:=Lh (M.out.set 7 (by decide) (.int .i64 p))
 clear z7 f7
 generalize (W1.setCell ⟨w.heap.size,7,none⟩ (.int .i64 p))=w2 at *
 have z6:=M.out.vb.cell 6 _ rfl
 go_wp2_with (first
  | (refine ldB rt_gt rfl _ rfl w.heap.size rfl (Gt.cells { q with place:=p }) M.out.vb ?_))
 refine (HC.out _ (HL.out.later M.out.bl)).mono ?_
 rintro e w3 ⟨rfl,b3⟩
 have M:=Lh (M.out.later b3)
 clear b3
 clear z6
 have z6:=M.out.vb.cell 6 _ rfl
 clear z6
 cases bk with
 | false=>
  cases pk with
  | false=>
   have z:r = { q with place:=p,st:=gGrow }:=by rw[<- HR.out]; rw[lookM_no W.out,Y.out]; rfl
   subst z
   have z8:w3.cell? ⟨w.heap.size,8,none⟩=some (.bool false):=(M.out.vb.cell 8 _ rfl).trans (congrArg (fun b=>some (Value.bool b)) Y.out)
   go_wp2_with (first
    | (refine ldB rt_gt rfl _ rfl w.heap.size rfl (Gt.cells { q with place:=p }) M.out.vb ?_))
   refine (mto_any { q with place:=p } gGrow _).mono ?_
   rintro e w4 ⟨rfl,Q⟩
   have M:=Lh (M.out.later Q)
   clear Q
   go_wp2_with (first
    | (refine ldB rt_gt rfl _ rfl w.heap.size rfl (Gt.cells { q with place:=p }) M.out.vb ?_)
    | (refine stB rt_gt rfl _ _ rfl (w.heap.size+1) rfl (Gt.cells { q with place:=p,st:=gGrow }) rfl M.out.tr rfl (by kernel_rfl) ?_; intro a5 F G; have I:=Lh F; have J:=Lh G; clear F G))
   refine bodyPost_ret (v:=Gt.val { q with place:=p,st:=gGrow }) (res_b rt_gt _ _ (w.heap.size+1) _ Tryz.results154 rfl I.out) rfl ?_
   exact⟨rfl,M.out.ret J.out⟩
  | true=>
   have z:r = { q with place:=p,st:=gWait }:=by rw[<- HR.out]; rw[lookM_no W.out,Y.out]; rfl
   subst z
   have z8:w3.cell? ⟨w.heap.size,8,none⟩=some (.bool true):=(M.out.vb.cell 8 _ rfl).trans (congrArg (fun b=>some (Value.bool b)) Y.out)
   go_wp2_with (first
    | (refine ldB rt_gt rfl _ rfl w.heap.size rfl (Gt.cells { q with place:=p }) M.out.vb ?_))
   refine (mto_any { q with place:=p } gWait _).mono ?_
   rintro e w4 ⟨rfl,Q⟩
   have M:=Lh (M.out.later Q)
   clear Q
   go_wp2_with (first
    | (refine ldB rt_gt rfl _ rfl w.heap.size rfl (Gt.cells { q with place:=p }) M.out.vb ?_)
    | (refine stB rt_gt rfl _ _ rfl (w.heap.size+1) rfl (Gt.cells { q with place:=p,st:=gWait }) rfl M.out.tr rfl (by kernel_rfl) ?_; intro a5 F G; have I:=Lh F; have J:=Lh G; clear F G))
   refine bodyPost_ret (v:=Gt.val { q with place:=p,st:=gWait }) (res_b rt_gt _ _ (w.heap.size+1) _ Tryz.results154 rfl I.out) rfl ?_
   exact⟨rfl,M.out.ret J.out⟩
 | true=>
  have z:r = { q with place:=p,id:=u,st:=gLoad }:=by rw[<- HR.out]; rw[lookM_yes W.out,a0.out]
  subst z
  have z3:=M.out.vb.cell 3 _ rfl
  have f3:=M.out.free 3 (by decide)
  go_upto_region 5 with (fail)
  have M:=Lh (M.out.set 3 (by decide) (.int .u64 u))
  clear z3 f3
  generalize (w3.setCell ⟨w.heap.size,3,none⟩ (.int .u64 u))=w4 at *
  go_wp2_with (first
   | (refine ldB rt_gt rfl _ rfl w.heap.size rfl (Gt.cells { q with place:=p,id:=u }) M.out.vb ?_))
  refine (mto_any { q with place:=p,id:=u } gLoad _).mono ?_
  rintro e w5 ⟨rfl,b5⟩
  have M:=Lh (M.out.later b5)
  clear b5
  go_wp2_with (first
   | (refine ldB rt_gt rfl _ rfl w.heap.size rfl (Gt.cells { q with place:=p,id:=u }) M.out.vb ?_)
   | (refine stB rt_gt rfl _ _ rfl (w.heap.size+1) rfl (Gt.cells { q with place:=p,id:=u,st:=gLoad }) rfl M.out.tr rfl (by kernel_rfl) ?_; intro a5 F G; have I:=Lh F; have J:=Lh G; clear F G))
  refine bodyPost_ret (v:=Gt.val { q with place:=p,id:=u,st:=gLoad }) (res_b rt_gt _ _ (w.heap.size+1) _ Tryz.results154 rfl I.out) rfl ?_
  exact⟨rfl,M.out.ret J.out⟩
theorem mends_any (w:World) {base:Nat} {Y:Nat->Nat} {x:Wp} (m:Mg) (h:Wv base Y w x m.s) (e:Int) (a6:m.s.ev.length<=1000) :
  Calls Tryz.prog 151 #[m.q.val,ptr x.pw,.int .i64 e] w (Mpost base Y x w (endsM m e).s (endsM m e).q.val):=by
 obtain⟨Q,a5,J,I,F,G⟩:=boxes_gt m.q w
 obtain⟨a7,m1⟩:=Me.start h F G J I
 have M:=Lh m1
 clear m1 h
 clear J I F G
 go_enter Tryz.func151,Tryz.ntmps151
 go_upto_region 1 with (fail)
 clear a5
 go_wp2_with fail
 have M:=Lh (M.out.later (Below.refl _ _).drew)
 have u:Hid (Vb Q.drew w.heap.size 16 (m.q.cells)/\Wc Q.drew x m.s):=Lh ⟨M.out.vb,M.out.wv.cells⟩
 refine rgS 7 (fun w'=>Vb w' w.heap.size 16 (m.q.cells)/\Wc w' x m.s) (by kernel_rfl) (by kernel_rfl) ?_
 intro a0
 have z:=Lh a0
 clear a0
 refine rq 0 z.out u.out rfl ?_
 refine rq 1 z.out u.out rfl ?_
 refine rq 2 z.out u.out rfl ?_
 go_simp
 refine rq 3 z.out u.out rfl ?_ (hv:=fun w' hw=>by (have c13:=hw.2.c13; go_simp; exact rfl))
 refine rq 4 z.out u.out rfl ?_
 refine rq 5 z.out u.out rfl ?_ (hv:=fun w' hw=>by (have z0:=hw.1.cell 0 _ rfl; go_simp; exact rfl))
 go_simp
 refine rq 6 z.out u.out rfl ?_
 refine rO 7 rfl (by kernel_rfl) rfl ?_
 unfold Oper.wp
 go_simp
 refine (wadd _ M.out.wv m.q.th 1 0 0 e a6).mono ?_
 rintro e w2 ⟨rfl,a8,h2,y2,l2⟩
 have M:=Lh (M.out.call h2 y2 l2)
 clear h2 y2 l2
 clear u
 refine rgD (by kernel_rfl) ?_
 have z9:=M.out.vb.cell 9 _ rfl
 have f9:=M.out.free 9 (by decide)
 go_upto_region 3 with (fail)
 have M:=Lh (M.out.set 9 (by decide) (.int .i64 e))
 clear z9 f9
 generalize (w2.setCell ⟨w.heap.size,9,none⟩ (.int .i64 e))=w3 at *
 go_wp2_with (first
  | (refine ldB rt_gt rfl _ rfl w.heap.size rfl (Gt.cells { m.q with wish:=e }) M.out.vb ?_))
 refine (mto_any { m.q with wish:=e } gDone _).mono ?_
 rintro e w4 ⟨rfl,W⟩
 have M:=Lh (M.out.later W)
 clear W
 go_wp2_with (first
  | (refine ldB rt_gt rfl _ rfl w.heap.size rfl (Gt.cells { m.q with wish:=e }) M.out.vb ?_)
  | (refine stB rt_gt rfl _ _ rfl (w.heap.size+1) rfl (Gt.cells (endsM m e).q) rfl M.out.tr rfl (by kernel_rfl) ?_; intro a9 a1 a2; have a3:=Lh a1; have a4:=Lh a2; clear a1 a2))
 refine bodyPost_ret (v:=(endsM m e).q.val) (res_b rt_gt _ _ (w.heap.size+1) _ Tryz.results151 rfl a3.out) rfl ?_
 exact⟨rfl,M.out.ret a4.out⟩
theorem mhas_any (w:World) {base:Nat} {Y:Nat->Nat} {x:Wp} (m:Mg) (h:Wv base Y w x m.s) (F:Hok m) (id:Int) (hid:U64 id) :
  Calls Tryz.prog 161 #[m.q.val,ptr x.pw,.int .u64 id] w (Mpost base Y x w (hasM m id).s (hasM m id).q.val):=by
 obtain⟨W1,a6,Q,J,G,I⟩:=boxes_gt m.q w
 obtain⟨a8,m1⟩:=Me.start h G I Q J
 have M:=Lh m1
 clear m1 h
 clear Q J G I
 go_enter Tryz.func161,Tryz.ntmps161
 go_upto_region 1 with (fail)
 clear a6
 have z0:=M.out.vb.cell 0 _ rfl
 go_wp2_with (first
  | (refine ldB rt_gt rfl _ rfl w.heap.size rfl (m.q.cells) M.out.vb ?_))
 refine (wlease_any _ (N:=m.N) M.out.wv F.mk_ id m.q.th hid F.nw F.lk F.ll F.tl).mono ?_
 rintro e w2 ⟨rfl,h2,y2⟩
 have M:=Lh (M.out.call0 h2 y2)
 clear h2 y2
 clear z0
 have z0:=M.out.vb.cell 0 _ rfl
 clear z0
 go_wp2_with fail
 have M:=Lh (M.out.later (Below.refl _ _).drew)
 have u:Hid (Vb w2.drew w.heap.size 16 (m.q.cells)/\Wc w2.drew x { m.s with L:=Le.bL m.s.L id m.q.th m.s.now,T:=Le.bT m.s.leak m.s.L m.s.T id m.q.th m.s.now }):=Lh ⟨M.out.vb,M.out.wv.cells⟩
 refine rgS 7 (fun w'=>Vb w' w.heap.size 16 (m.q.cells)/\Wc w' x { m.s with L:=Le.bL m.s.L id m.q.th m.s.now,T:=Le.bT m.s.leak m.s.L m.s.T id m.q.th m.s.now }) (by kernel_rfl) (by kernel_rfl) ?_
 intro a0
 have z:=Lh a0
 clear a0
 refine rq 0 z.out u.out rfl ?_
 refine rq 1 z.out u.out rfl ?_
 refine rq 2 z.out u.out rfl ?_
 go_simp
 refine rq 3 z.out u.out rfl ?_ (hv:=fun w' hw=>by (have c13:=hw.2.c13; go_simp; exact rfl))
 refine rq 4 z.out u.out rfl ?_
 refine rq 5 z.out u.out rfl ?_ (hv:=fun w' hw=>by (have z0:=hw.1.cell 0 _ rfl; go_simp; exact rfl))
 go_simp
 refine rq 6 z.out u.out rfl ?_
 refine rO 7 rfl (by kernel_rfl) rfl ?_
 unfold Oper.wp
 go_simp
 refine (wadd _ M.out.wv m.q.th 1 0 id 0 F.ev).mono ?_
 rintro e w3 ⟨rfl,a9,h3,y3,l3⟩
 have M:=Lh (M.out.call h3 y3 l3)
 clear h3 y3 l3
 clear u
 refine rgD (by kernel_rfl) ?_
 have a7:=M.out.vb.cell 10 _ rfl
 have a5:=M.out.free 10 (by decide)
 go_upto_region 4 with (fail)
 have M:=Lh (M.out.set 10 (by decide) (.int .u64 id))
 clear a7 a5
 generalize (w3.setCell ⟨w.heap.size,10,none⟩ (.int .u64 id))=w4 at *
 go_wp2_with (first
  | (refine ldB rt_gt rfl _ rfl w.heap.size rfl (Gt.cells { m.q with got:=id }) M.out.vb ?_))
 refine (mto_any { m.q with got:=id } gDone _).mono ?_
 rintro e w5 ⟨rfl,W⟩
 have M:=Lh (M.out.later W)
 clear W
 go_wp2_with (first
  | (refine ldB rt_gt rfl _ rfl w.heap.size rfl (Gt.cells { m.q with got:=id }) M.out.vb ?_)
  | (refine stB rt_gt rfl _ _ rfl (w.heap.size+1) rfl (Gt.cells (hasM m id).q) rfl M.out.tr rfl (by kernel_rfl) ?_; intro aa a1 a2; have a3:=Lh a1; have a4:=Lh a2; clear a1 a2))
 refine bodyPost_ret (v:=(hasM m id).q.val) (res_b rt_gt _ _ (w.heap.size+1) _ Tryz.results161 rfl a3.out) rfl ?_
 exact⟨rfl,M.out.ret a4.out⟩
theorem mown_any (w:World) {base:Nat} {a0:Nat->Nat} {x:Wp} (m:Mg) (h:Wv base a0 w x m.s) (ho:Hok m) (hid:U64 m.q.id) :
  Calls Tryz.prog 156 #[m.q.val,ptr x.pw] w (Mpost base a0 x w (ownM m).s (ownM m).q.val):=by
 obtain⟨r,u⟩:∃ r,ownM m=r:=⟨_,rfl⟩
 have W:=Lh u
 rw[u]
 clear u
 obtain⟨pk,a1⟩:∃ pk,m.q.parked=pk:=⟨_,rfl⟩
 have G:=Lh a1
 clear a1
 obtain⟨W1,a5,V1,T1,Q,Y⟩:=boxes_gt m.q w
 obtain⟨a7,m1⟩:=Me.start h Q Y V1 T1
 have M:=Lh m1
 clear m1 h
 clear V1 T1 Q Y
 go_enter Tryz.func156,Tryz.ntmps156
 go_upto_region 1 with (fail)
 clear a5
 have z3:=M.out.vb.cell 3 _ rfl
 go_wp2_with (first
  | (refine ldB rt_gt rfl _ rfl w.heap.size rfl (m.q.cells) M.out.vb ?_))
 refine (mhas_any _ m M.out.wv ho m.q.id hid).mono ?_
 rintro e w2 ⟨rfl,a8,h2,y2,l2⟩
 have M:=Lh (M.out.call h2 y2 l2)
 clear h2 y2 l2
 clear z3
 go_upto_region 2 with (first
  | (refine stB rt_gt rfl _ _ rfl w.heap.size rfl (Gt.cells (hasM m m.q.id).q) rfl M.out.vb.th rfl (by kernel_rfl) ?_; intro a4 a2 a3; have M:=Lh (M.out.put a2 a3); clear a2 a3)
  | (refine ldB rt_gt rfl _ rfl w.heap.size rfl (m.q.cells) M.out.vb ?_))
 cases pk with
 | false=>
  have u:r=hasM m m.q.id:=by rw[<- W.out]; unfold ownM; rw[G.out]; rfl
  subst u
  have z8:a4.cell? ⟨w.heap.size,8,none⟩=some (.bool false):=(M.out.vb.cell 8 _ rfl).trans (congrArg (fun b=>some (Value.bool b)) G.out)
  go_wp2_with (first
   | (refine ldB rt_gt rfl _ rfl w.heap.size rfl (Gt.cells (hasM m m.q.id).q) M.out.vb ?_)
   | (refine stB rt_gt rfl _ _ rfl (w.heap.size+1) rfl (Gt.cells (hasM m m.q.id).q) rfl M.out.tr rfl (by kernel_rfl) ?_; intro a6 z F; have I:=Lh z; have J:=Lh F; clear z F))
  refine bodyPost_ret (v:=(hasM m m.q.id).q.val) (res_b rt_gt _ _ (w.heap.size+1) _ Tryz.results156 rfl I.out) rfl ?_
  exact⟨rfl,M.out.ret J.out⟩
 | true=>
  have u:r=(hasM m m.q.id).to gLeave:=by rw[<- W.out]; unfold ownM; rw[G.out]; rfl
  subst u
  have z8:a4.cell? ⟨w.heap.size,8,none⟩=some (.bool true):=(M.out.vb.cell 8 _ rfl).trans (congrArg (fun b=>some (Value.bool b)) G.out)
  go_wp2_with (first
   | (refine ldB rt_gt rfl _ rfl w.heap.size rfl (Gt.cells (hasM m m.q.id).q) M.out.vb ?_))
  refine (mto_any (hasM m m.q.id).q gLeave _).mono ?_
  rintro e w3 ⟨rfl,b3⟩
  have M:=Lh (M.out.later b3)
  clear b3
  go_wp2_with (first
   | (refine ldB rt_gt rfl _ rfl w.heap.size rfl (Gt.cells (hasM m m.q.id).q) M.out.vb ?_)
   | (refine stB rt_gt rfl _ _ rfl (w.heap.size+1) rfl (Gt.cells ((hasM m m.q.id).q.to gLeave)) rfl M.out.tr rfl (by kernel_rfl) ?_; intro a6 z F; have I:=Lh z; have J:=Lh F; clear z F))
  refine bodyPost_ret (v:=((hasM m m.q.id).q.to gLeave).val) (res_b rt_gt _ _ (w.heap.size+1) _ Tryz.results156 rfl I.out) rfl ?_
  exact⟨rfl,M.out.ret J.out⟩
theorem mstart_any (w:World) {base:Nat} {a0:Nat->Nat} {x:Wp} (m:Mg) (h:Wv base a0 w x m.s) (a3:m.s.ev.length<=1000) :
  Calls Tryz.prog 89 #[m.q.val,ptr x.pw] w (Mpost base a0 x w (startM m).s (startM m).q.val):=by
 obtain⟨r,u⟩:∃ r,startM m=r:=⟨_,rfl⟩
 have W:=Lh u
 rw[u]
 clear u
 obtain⟨cl,a1⟩:∃ cl,m.s.closed=cl:=⟨_,rfl⟩
 have G:=Lh a1
 clear a1
 obtain⟨W1,a2,V1,T1,Q,Y⟩:=boxes_gt m.q w
 obtain⟨a5,m1⟩:=Me.start h Q Y V1 T1
 have M:=Lh m1
 clear m1 h
 clear V1 T1 Q Y
 go_enter Tryz.func89,Tryz.ntmps89
 go_upto_region 1 with (fail)
 clear a2
 cases cl with
 | false=>
  have u:r=m.to gNear:=by rw[<- W.out]; unfold startM; rw[G.out]; rfl
  subst u
  have c15:W1.cell? ⟨x.pw,15,none⟩=some (.bool false):=(M.out.wv.cells.c15).trans (congrArg (fun b=>some (Value.bool b)) G.out)
  go_wp2_with (first
   | (refine ldB rt_gt rfl _ rfl w.heap.size rfl (m.q.cells) M.out.vb ?_))
  refine (mto_any m.q gNear _).mono ?_
  rintro e w2 ⟨rfl,b2⟩
  have M:=Lh (M.out.later b2)
  clear b2
  go_wp2_with (first
   | (refine ldB rt_gt rfl _ rfl w.heap.size rfl (m.q.cells) M.out.vb ?_)
   | (refine stB rt_gt rfl _ _ rfl (w.heap.size+1) rfl (Gt.cells (m.q.to gNear)) rfl M.out.tr rfl (by kernel_rfl) ?_; intro a4 z F; have I:=Lh z; have J:=Lh F; clear z F))
  refine bodyPost_ret (v:=(m.q.to gNear).val) (res_b rt_gt _ _ (w.heap.size+1) _ Tryz.results89 rfl I.out) rfl ?_
  exact⟨rfl,M.out.ret J.out⟩
 | true=>
  have u:r=endsM m 6:=by rw[<- W.out]; unfold startM; rw[G.out]; rfl
  subst u
  have c15:W1.cell? ⟨x.pw,15,none⟩=some (.bool true):=(M.out.wv.cells.c15).trans (congrArg (fun b=>some (Value.bool b)) G.out)
  go_wp2_with (first
   | (refine ldB rt_gt rfl _ rfl w.heap.size rfl (m.q.cells) M.out.vb ?_))
  refine (mends_any _ m M.out.wv 6 a3).mono ?_
  rintro e w2 ⟨rfl,a6,h2,y2,l2⟩
  have M:=Lh (M.out.call h2 y2 l2)
  clear h2 y2 l2
  go_wp2_with (first
   | (refine ldB rt_gt rfl _ rfl w.heap.size rfl (m.q.cells) M.out.vb ?_)
   | (refine stB rt_gt rfl _ _ rfl (w.heap.size+1) rfl (Gt.cells (endsM m 6).q) rfl M.out.tr rfl (by kernel_rfl) ?_; intro a4 z F; have I:=Lh z; have J:=Lh F; clear z F))
  refine bodyPost_ret (v:=(endsM m 6).q.val) (res_b rt_gt _ _ (w.heap.size+1) _ Tryz.results89 rfl I.out) rfl ?_
  exact⟨rfl,M.out.ret J.out⟩
theorem mnear_any (w:World) {base:Nat} {G:Nat->Nat} {x:Wp} (m:Mg) (h:Wv base G w x m.s) :
  Calls Tryz.prog 90 #[m.q.val,ptr x.pw] w (Mpost base G x w (nearM m).s (nearM m).q.val):=by
 obtain⟨r,I⟩:∃ r,nearM m=r:=⟨_,rfl⟩
 have HR:=Lh I
 rw[I]
 clear I
 obtain⟨z,a3⟩:∃ z,(Lc.takeR m.s.loc m.q.th).2.1=z:=⟨_,rfl⟩
 have a1:=Lh a3
 clear a3
 obtain⟨bk,a4⟩:∃ bk,(Lc.takeR m.s.loc m.q.th).2.2=bk:=⟨_,rfl⟩
 have W:=Lh a4
 clear a4
 have HC:Hid (∀ w (G:Nat->Nat),Wv base G w x m.s->Calls Tryz.prog 153 #[ptr x.pl,.int .i64 m.q.th] w fun e w'=>e=.returned (.tuple #[.int .u64 z,.bool bk])/\Wv base G w' x { m.s with loc:=(Lc.takeR m.s.loc m.q.th).1 } /\ Fw G w w'):=Lh (fun w G h=>by have e:=wltake w h m.q.th; rw[a1.out,W.out] at e; exact e)
 obtain⟨W1,a5,V1,T1,B1,S1⟩:=boxes_gt m.q w
 obtain⟨a7,m1⟩:=Me.start h B1 S1 V1 T1
 have M:=Lh m1
 clear m1 h
 clear V1 T1 B1 S1
 go_enter Tryz.func90,Tryz.ntmps90
 go_upto_region 1 with (fail)
 clear a5
 go_wp2_with fail
 have M:=Lh (M.out.later (Below.refl _ _).drew)
 have F:Hid (Vb W1.drew w.heap.size 16 (m.q.cells)/\Wc W1.drew x m.s):=Lh ⟨M.out.vb,M.out.wv.cells⟩
 refine rgS 6 (fun w'=>Vb w' w.heap.size 16 (m.q.cells)/\Wc w' x m.s) (by kernel_rfl) (by kernel_rfl) ?_
 intro a2
 have u:=Lh a2
 clear a2
 refine rq 0 u.out F.out rfl ?_
 refine rq 1 u.out F.out rfl ?_
 refine rq 2 u.out F.out rfl ?_
 go_simp
 refine rq 3 u.out F.out rfl ?_ (hv:=fun w' hw=>by (have c9:=hw.2.c9; go_simp; exact rfl))
 refine rq 4 u.out F.out rfl ?_
 refine rq 5 u.out F.out rfl ?_ (hv:=fun w' hw=>by (have z0:=hw.1.cell 0 _ rfl; go_simp; exact rfl))
 go_simp
 refine rO 6 rfl (by kernel_rfl) rfl ?_
 unfold Oper.wp
 go_simp
 refine (HC.out _ _ M.out.wv).mono ?_
 rintro e w2 ⟨rfl,h2,y2⟩
 have M:=Lh (M.out.call0 h2 y2)
 clear h2 y2
 clear F
 refine rgP 7 u.out rfl (by kernel_rfl) (fun _ _ _ _ h=>h) (fun h=>absurd h (by decide)) rfl ?_
 apply Exists.intro
 refine⟨fun w'=>by (go_simp; exact rfl),?_⟩
 refine rgP 8 u.out rfl (by kernel_rfl) (fun _ _ _ _ h=>h) (fun h=>absurd h (by decide)) rfl ?_
 apply Exists.intro
 refine⟨fun w'=>by (go_simp; exact rfl),?_⟩
 refine rgP 9 u.out rfl (by kernel_rfl) (fun _ _ _ _ h=>h) (fun h=>absurd h (by decide)) rfl ?_
 apply Exists.intro
 refine⟨fun w'=>by (go_simp; exact rfl),?_⟩
 refine rgP 10 u.out rfl (by kernel_rfl) (fun _ _ _ _ h=>h) (fun h=>absurd h (by decide)) rfl ?_
 apply Exists.intro
 refine⟨fun w'=>by (go_simp; exact rfl),?_⟩
 refine rgP 11 u.out rfl (by kernel_rfl) (fun _ _ _ _ h=>h) (fun h=>absurd h (by decide)) rfl ?_
 apply Exists.intro
 refine⟨fun w'=>by (go_simp; exact rfl),?_⟩
 refine rgD (by kernel_rfl) ?_
 cases bk with
 | false=>
  have I:r = { m with q:=m.q.to gSnap,s:={ m.s with loc:=(Lc.takeR m.s.loc m.q.th).1 } }:=by rw[<- HR.out]; unfold nearM; rw[W.out]; rfl
  subst I
  go_wp2_with (first
   | (refine ldB rt_gt rfl _ rfl w.heap.size rfl (m.q.cells) M.out.vb ?_))
  refine (mto_any m.q gSnap _).mono ?_
  rintro e w3 ⟨rfl,b3⟩
  have M:=Lh (M.out.later b3)
  clear b3
  go_wp2_with (first
   | (refine ldB rt_gt rfl _ rfl w.heap.size rfl (m.q.cells) M.out.vb ?_)
   | (refine stB rt_gt rfl _ _ rfl (w.heap.size+1) rfl (Gt.cells (m.q.to gSnap)) rfl M.out.tr rfl (by kernel_rfl) ?_; intro a6 J Q; have Y:=Lh J; have a0:=Lh Q; clear J Q))
  refine bodyPost_ret (v:=(m.q.to gSnap).val) (res_b rt_gt _ _ (w.heap.size+1) _ Tryz.results90 rfl Y.out) rfl ?_
  exact⟨rfl,M.out.ret a0.out⟩
 | true=>
  have I:r = { m with q:={ m.q with id:=z,near:=true,st:=gLoad },s:={ m.s with loc:=(Lc.takeR m.s.loc m.q.th).1 } }:=by rw[<- HR.out]; unfold nearM; rw[W.out,a1.out]; rfl
  subst I
  have z3:=M.out.vb.cell 3 _ rfl
  have f3:=M.out.free 3 (by decide)
  have z5:=M.out.vb.cell 5 _ rfl
  have f5:=M.out.free 5 (by decide)
  go_upto_region 5 with (fail)
  have M:=Lh ((M.out.set 3 (by decide) (.int .u64 z)).set 5 (by decide) (.bool true))
  clear z3 f3 z5 f5
  generalize ((w2.setCell ⟨w.heap.size,3,none⟩ (.int .u64 z)).setCell ⟨w.heap.size,5,none⟩ (.bool true))=w3 at *
  go_wp2_with (first
   | (refine ldB rt_gt rfl _ rfl w.heap.size rfl (Gt.cells { m.q with id:=z,near:=true }) M.out.vb ?_))
  refine (mto_any { m.q with id:=z,near:=true } gLoad _).mono ?_
  rintro e w4 ⟨rfl,b4⟩
  have M:=Lh (M.out.later b4)
  clear b4
  go_wp2_with (first
   | (refine ldB rt_gt rfl _ rfl w.heap.size rfl (Gt.cells { m.q with id:=z,near:=true }) M.out.vb ?_)
   | (refine stB rt_gt rfl _ _ rfl (w.heap.size+1) rfl (Gt.cells { m.q with id:=z,near:=true,st:=gLoad }) rfl M.out.tr rfl (by kernel_rfl) ?_; intro a6 J Q; have Y:=Lh J; have a0:=Lh Q; clear J Q))
  refine bodyPost_ret (v:=Gt.val { m.q with id:=z,near:=true,st:=gLoad }) (res_b rt_gt _ _ (w.heap.size+1) _ Tryz.results90 rfl Y.out) rfl ?_
  exact⟨rfl,M.out.ret a0.out⟩
theorem Me.kcol {z w:World} {base:Nat} {F u:Nat->Nat} {x:Wp} {n b r:Nat} {s:Ws} {cs:List Value} (h:Me z base F x n b r w u s cs) {g:Nat} (e:g=b):u g≠0:=by rw[e,h.cb]; decide
theorem msnap_any (w:World) {base:Nat} {Y:Nat->Nat} {x:Wp} (m:Mg) (h:Wv base Y w x m.s) :
  Calls Tryz.prog 91 #[m.q.val,ptr x.pw] w (Lpost base Y x w m.s m.s.S fun A n c=>(snapM m A n c).q.val):=by
 obtain⟨W1,a5,Q,J,G,I⟩:=boxes_gt m.q w
 obtain⟨a6,m1⟩:=Me.start h G I Q J
 have M:=Lh m1
 clear m1 h
 clear Q J G I
 go_enter Tryz.func91,Tryz.ntmps91
 go_upto_region 1 with (fail)
 clear a5
 have c8:=M.out.wv.cells.c8
 go_wp2_with (first
  | (refine ldB rt_gt rfl _ rfl w.heap.size rfl (m.q.cells) M.out.vb ?_))
 refine (wlist_any M.out.wv).mono ?_
 rintro e w2 ⟨A,n,c,rfl,a0,W⟩
 have u:=Lh a0
 have M:=Lh (M.out.later W)
 clear W a0
 clear c8
 have z6:=M.out.vb.cell 6 _ rfl
 have f6:=M.out.free 6 (by decide)
 have z5:=M.out.vb.cell 5 _ rfl
 have f5:=M.out.free 5 (by decide)
 go_upto_region 2 with (fail)
 have z:=Lh M.out
 have u:=Lh ((u.out.fz (Fz.of_set (C:=fun k=>k=w.heap.size) (a:=⟨w.heap.size,6,none⟩) (.slice A n c) rfl) (fun g e=>z.out.kcol e)).fz (Fz.of_set (C:=fun k=>k=w.heap.size) (a:=⟨w.heap.size,5,none⟩) (.bool false) rfl) (fun g e=>z.out.kcol e))
 clear z
 have M:=Lh ((M.out.set 6 (by decide) (.slice A n c)).set 5 (by decide) (.bool false))
 clear z6 f6 z5 f5
 generalize ((w2.setCell ⟨w.heap.size,6,none⟩ (.slice A n c)).setCell ⟨w.heap.size,5,none⟩ (.bool false))=w3 at *
 go_wp2_with (first
  | (refine ldB rt_gt rfl _ rfl w.heap.size rfl (Gt.cells { m.q with A:=A,n:=n,c:=c,near:=false }) M.out.vb ?_))
 refine (mlook_any _ { m.q with A:=A,n:=n,c:=c,S:=m.s.S,near:=false } 0 u.out).mono ?_
 rintro e w4 ⟨rfl,F⟩
 have M:=Lh (M.out.later F)
 have u:=Lh (u.out.later F)
 clear F
 go_wp2_with (first
  | (refine ldB rt_gt rfl _ rfl w.heap.size rfl (Gt.cells { m.q with A:=A,n:=n,c:=c,near:=false }) M.out.vb ?_)
  | (refine stB rt_gt rfl _ _ rfl (w.heap.size+1) rfl (Gt.cells (lookM { m.q with A:=A,n:=n,c:=c,S:=m.s.S,near:=false } 0)) rfl M.out.tr rfl (by kernel_rfl) ?_; intro a7 a1 a2; have a3:=Lh a1; have a4:=Lh a2; clear a1 a2))
 refine bodyPost_ret (v:=(lookM { m.q with A:=A,n:=n,c:=c,S:=m.s.S,near:=false } 0).val) (res_b rt_gt _ _ (w.heap.size+1) _ Tryz.results91 rfl a3.out) rfl ?_
 exact⟨A,n,c,rfl,M.out.retL a4.out u.out⟩
theorem mgrow_any (w:World) {base:Nat} {I:Nat->Nat} {x:Wp} (m:Mg) (h:Wv base I w x m.s) (a4:0<=m.s.live) (a5:m.s.conf.max<=1000000) :
  Calls Tryz.prog 94 #[m.q.val,ptr x.pw] w (Mpost base I x w (growM m).s (growM m).q.val):=by
 obtain⟨r,u⟩:∃ r,growM m=r:=⟨_,rfl⟩
 have HR:=Lh u
 rw[u]
 clear u
 obtain⟨bk,a0⟩:∃ bk,decide (m.s.live < m.s.conf.max)=bk:=⟨_,rfl⟩
 have W:=Lh a0
 clear a0
 obtain⟨pk,a1⟩:∃ pk,m.q.parked=pk:=⟨_,rfl⟩
 have Y:=Lh a1
 clear a1
 have HC:Hid (∀ w (I:Nat->Nat),Wv base I w x m.s->Calls Tryz.prog 68 #[ptr x.pw] w fun e w'=>e=.returned (.bool bk)/\Wv base I w' x { m.s with live:=grwV m.s.live m.s.conf.max } /\ Fw I w w'):=Lh (fun w I h=>by have e:=wgrow_any w h a4 a5; rw[W.out] at e; exact e)
 obtain⟨W1,a3,V1,T1,B1,S1⟩:=boxes_gt m.q w
 obtain⟨a6,m1⟩:=Me.start h B1 S1 V1 T1
 have M:=Lh m1
 clear m1 h
 clear V1 T1 B1 S1
 go_enter Tryz.func94,Tryz.ntmps94
 go_upto_region 1 with (fail)
 clear a3
 go_wp2_with (first
  | (refine ldB rt_gt rfl _ rfl w.heap.size rfl (m.q.cells) M.out.vb ?_))
 refine (HC.out _ _ M.out.wv).mono ?_
 rintro e w2 ⟨rfl,h2,y2⟩
 have M:=Lh (M.out.call0 h2 y2)
 clear h2 y2
 cases bk with
 | false=>
  cases pk with
  | false=>
   have u:r = { m with q:=m.q.to gPark,s:={ m.s with live:=grwV m.s.live m.s.conf.max } }:=by rw[<- HR.out]; unfold growM; rw[Y.out]; exact if_neg (of_decide_eq_false W.out)
   subst u
   have z8:w2.cell? ⟨w.heap.size,8,none⟩=some (.bool false):=(M.out.vb.cell 8 _ rfl).trans (congrArg (fun b=>some (Value.bool b)) Y.out)
   go_wp2_with (first
    | (refine ldB rt_gt rfl _ rfl w.heap.size rfl (m.q.cells) M.out.vb ?_))
   refine (mto_any m.q gPark _).mono ?_
   rintro e w3 ⟨rfl,z⟩
   have M:=Lh (M.out.later z)
   clear z
   go_wp2_with (first
    | (refine ldB rt_gt rfl _ rfl w.heap.size rfl (m.q.cells) M.out.vb ?_)
    | (refine stB rt_gt rfl _ _ rfl (w.heap.size+1) rfl (Gt.cells (m.q.to gPark)) rfl M.out.tr rfl (by kernel_rfl) ?_; intro a2 F G; have J:=Lh F; have Q:=Lh G; clear F G))
   refine bodyPost_ret (v:=(m.q.to gPark).val) (res_b rt_gt _ _ (w.heap.size+1) _ Tryz.results94 rfl J.out) rfl ?_
   exact⟨rfl,M.out.ret Q.out⟩
  | true=>
   have u:r = { m with q:=m.q.to gWait,s:={ m.s with live:=grwV m.s.live m.s.conf.max } }:=by rw[<- HR.out]; unfold growM; rw[Y.out]; exact if_neg (of_decide_eq_false W.out)
   subst u
   have z8:w2.cell? ⟨w.heap.size,8,none⟩=some (.bool true):=(M.out.vb.cell 8 _ rfl).trans (congrArg (fun b=>some (Value.bool b)) Y.out)
   go_wp2_with (first
    | (refine ldB rt_gt rfl _ rfl w.heap.size rfl (m.q.cells) M.out.vb ?_))
   refine (mto_any m.q gWait _).mono ?_
   rintro e w3 ⟨rfl,z⟩
   have M:=Lh (M.out.later z)
   clear z
   go_wp2_with (first
    | (refine ldB rt_gt rfl _ rfl w.heap.size rfl (m.q.cells) M.out.vb ?_)
    | (refine stB rt_gt rfl _ _ rfl (w.heap.size+1) rfl (Gt.cells (m.q.to gWait)) rfl M.out.tr rfl (by kernel_rfl) ?_; intro a2 F G; have J:=Lh F; have Q:=Lh G; clear F G))
   refine bodyPost_ret (v:=(m.q.to gWait).val) (res_b rt_gt _ _ (w.heap.size+1) _ Tryz.results94 rfl J.out) rfl ?_
   exact⟨rfl,M.out.ret Q.out⟩
 | true=>
  have u:r = { m with q:=m.q.to gOpen,s:={ m.s with live:=grwV m.s.live m.s.conf.max } }:=by rw[<- HR.out]; unfold growM; exact if_pos (of_decide_eq_true W.out)
  subst u
  go_wp2_with (first
   | (refine ldB rt_gt rfl _ rfl w.heap.size rfl (m.q.cells) M.out.vb ?_))
  refine (mto_any m.q gOpen _).mono ?_
  rintro e w3 ⟨rfl,z⟩
  have M:=Lh (M.out.later z)
  clear z
  go_wp2_with (first
   | (refine ldB rt_gt rfl _ rfl w.heap.size rfl (m.q.cells) M.out.vb ?_)
   | (refine stB rt_gt rfl _ _ rfl (w.heap.size+1) rfl (Gt.cells (m.q.to gOpen)) rfl M.out.tr rfl (by kernel_rfl) ?_; intro a2 F G; have J:=Lh F; have Q:=Lh G; clear F G))
  refine bodyPost_ret (v:=(m.q.to gOpen).val) (res_b rt_gt _ _ (w.heap.size+1) _ Tryz.results94 rfl J.out) rfl ?_
  exact⟨rfl,M.out.ret Q.out⟩
theorem mopen_any (w:World) {base:Nat} {F:Nat->Nat} {x:Wp} (m:Mg) (h:Wv base F w x m.s) (hn:m.s.n < 18446744073709551615) (a9:U64 m.s.now) (a8:m.s.D.length < 1000000) :
  Calls Tryz.prog 95 #[m.q.val,ptr x.pw] w (Mpost base F x w (openM m).s (openM m).q.val):=by
 obtain⟨r,G⟩:∃ r,openM m=r:=⟨_,rfl⟩
 have HR:=Lh G
 rw[G]
 clear G
 have HU:Hid (U64 (opnI m.s.O m.s.n)):=Lh (by unfold opnI; split <;> constructor <;> omega)
 obtain⟨u,a5⟩:∃ u,opnI m.s.O m.s.n=u:=⟨_,rfl⟩
 have a0:=Lh a5
 clear a5
 rw[a0.out] at HU
 obtain⟨bk,a4⟩:∃ bk,(Fc.nx m.s.O).1=bk:=⟨_,rfl⟩
 have Y:=Lh a4
 clear a4
 have HC:Hid (∀ w (F:Nat->Nat),Wv base F w x m.s->Calls Tryz.prog 71 #[ptr x.pF] w fun e w'=>e=.returned (.tuple #[.int .u64 u,.bool bk])/\Wv base F w' x { m.s with O:=(Fc.nx m.s.O).2,n:=opnN m.s.O m.s.n } /\ Fw F w w'):=Lh (fun w F h=>by have e:=wopen w h hn; rw[Y.out,a0.out] at e; exact e)
 have a6:Hid (∀ w,Calls Tryz.prog 23 #[.int .i64 1,.int .u64 0] w fun e w'=>e=.returned (.int .u64 1)/\w=w'):=Lh (fun w=>Wd.of_any 1 0 w (by decide) (by decide))
 obtain⟨W1,a7,V1,T1,B1,S1⟩:=boxes_gt m.q w
 obtain⟨ac,m1⟩:=Me.start h B1 S1 V1 T1
 have M:=Lh m1
 clear m1 h
 clear V1 T1 B1 S1
 go_enter Tryz.func95,Tryz.ntmps95
 go_upto_region 1 with (fail)
 clear a7
 have c12:=M.out.wv.cells.c12
 go_wp2_with (first
  | (refine ldB rt_gt rfl _ rfl w.heap.size rfl (m.q.cells) M.out.vb ?_))
 refine (HC.out _ _ M.out.wv).mono ?_
 rintro e w2 ⟨rfl,h2,y2⟩
 have M:=Lh (M.out.call0 h2 y2)
 clear h2 y2
 clear c12
 have c12:=M.out.wv.cells.c12
 clear c12
 cases bk with
 | false=>
  have G:r = { m with q:=m.q.to gShrink,s:={ m.s with O:=(Fc.nx m.s.O).2,n:=opnN m.s.O m.s.n } }:=by rw[<- HR.out]; unfold openM; rw[Y.out]; rfl
  subst G
  go_wp2_with (first
   | (refine ldB rt_gt rfl _ rfl w.heap.size rfl (m.q.cells) M.out.vb ?_))
  refine (mto_any m.q gShrink _).mono ?_
  rintro e w3 ⟨rfl,J⟩
  have M:=Lh (M.out.later J)
  clear J
  go_wp2_with (first
   | (refine ldB rt_gt rfl _ rfl w.heap.size rfl (m.q.cells) M.out.vb ?_)
   | (refine stB rt_gt rfl _ _ rfl (w.heap.size+1) rfl (Gt.cells (m.q.to gShrink)) rfl M.out.tr rfl (by kernel_rfl) ?_; intro aa Q W; have a1:=Lh Q; have a2:=Lh W; clear Q W))
  refine bodyPost_ret (v:=(m.q.to gShrink).val) (res_b rt_gt _ _ (w.heap.size+1) _ Tryz.results95 rfl a1.out) rfl ?_
  exact⟨rfl,M.out.ret a2.out⟩
 | true=>
  have G:r = { m with q:={ m.q with id:=u,word:=1,st:=gPublish },s:={ m.s with O:=(Fc.nx m.s.O).2,n:=opnN m.s.O m.s.n,D:=entD m.s.D u 1 m.s.now } }:=by rw[<- HR.out]; unfold openM; rw[Y.out,a0.out]; rfl
  subst G
  go_wp2_with fail
  have M:=Lh (M.out.later (Below.refl _ _).drew)
  have z:Hid (Vb w2.drew w.heap.size 16 (m.q.cells)/\Wc w2.drew x { m.s with O:=(Fc.nx m.s.O).2,n:=opnN m.s.O m.s.n }):=Lh ⟨M.out.vb,M.out.wv.cells⟩
  refine rgS 7 (fun w'=>Vb w' w.heap.size 16 (m.q.cells)/\Wc w' x { m.s with O:=(Fc.nx m.s.O).2,n:=opnN m.s.O m.s.n }) (by kernel_rfl) (by kernel_rfl) ?_
  intro a3
  have I:=Lh a3
  clear a3
  refine rq 0 I.out z.out rfl ?_
  refine rq 1 I.out z.out rfl ?_
  refine rq 2 I.out z.out rfl ?_
  go_simp
  refine rq 3 I.out z.out rfl ?_ (hv:=fun w' hw=>by (have c8:=hw.2.c8; go_simp; exact rfl))
  refine rq 4 I.out z.out rfl ?_
  refine rq 5 I.out z.out rfl ?_
  go_simp
  refine rO 6 rfl (by kernel_rfl) rfl ?_
  unfold Oper.wp
  go_simp
  refine (wnow_any _ z.out.2).mono ?_
  rintro e w3 ⟨rfl,J⟩
  have M:=Lh (M.out.later J)
  clear J
  clear z
  have z:Hid (Vb w3 w.heap.size 16 (m.q.cells)/\Wc w3 x { m.s with O:=(Fc.nx m.s.O).2,n:=opnN m.s.O m.s.n }):=Lh ⟨M.out.vb,M.out.wv.cells⟩
  refine⟨z.out,?_⟩
  refine rO 7 rfl (by kernel_rfl) rfl ?_
  unfold Oper.wp
  go_simp
  refine (wenter _ M.out.wv u 1 m.s.now HU.out a9 a8).mono ?_
  rintro e w4 ⟨rfl,ad,h4,y4,l4⟩
  have M:=Lh (M.out.call h4 y4 l4)
  clear h4 y4 l4
  clear z
  refine rgD (by kernel_rfl) ?_
  go_wp2_with (first
   | (refine ldB rt_gt rfl _ rfl w.heap.size rfl (m.q.cells) M.out.vb ?_))
  refine (a6.out _).mono ?_
  rintro e w8 ⟨rfl,rfl⟩
  have z3:=M.out.vb.cell 3 _ rfl
  have f3:=M.out.free 3 (by decide)
  have z4:=M.out.vb.cell 4 _ rfl
  have f4:=M.out.free 4 (by decide)
  go_upto_region 6 with (fail)
  have M:=Lh ((M.out.set 3 (by decide) (.int .u64 u)).set 4 (by decide) (.int .u64 1))
  clear z3 f3 z4 f4
  generalize ((w4.setCell ⟨w.heap.size,3,none⟩ (.int .u64 u)).setCell ⟨w.heap.size,4,none⟩ (.int .u64 1))=w5 at *
  go_wp2_with (first
   | (refine ldB rt_gt rfl _ rfl w.heap.size rfl (Gt.cells { m.q with id:=u,word:=1 }) M.out.vb ?_))
  refine (mto_any { m.q with id:=u,word:=1 } gPublish _).mono ?_
  rintro e w6 ⟨rfl,b6⟩
  have M:=Lh (M.out.later b6)
  clear b6
  go_wp2_with (first
   | (refine ldB rt_gt rfl _ rfl w.heap.size rfl (Gt.cells { m.q with id:=u,word:=1 }) M.out.vb ?_)
   | (refine stB rt_gt rfl _ _ rfl (w.heap.size+1) rfl (Gt.cells { m.q with id:=u,word:=1,st:=gPublish }) rfl M.out.tr rfl (by kernel_rfl) ?_; intro aa Q W; have a1:=Lh Q; have a2:=Lh W; clear Q W))
  refine bodyPost_ret (v:=Gt.val { m.q with id:=u,word:=1,st:=gPublish }) (res_b rt_gt _ _ (w.heap.size+1) _ Tryz.results95 rfl a1.out) rfl ?_
  exact⟨rfl,M.out.ret a2.out⟩
theorem wpub_no {w:World} {base:Nat} {u:Nat->Nat} {x:Wp} {s:Ws} (h:Wv base u w x s) (id:Int) (hid:U64 id) (Q:s.S.length<=1000000) (hc:s.closed=true\/(fnd s.D id).isSome=false):Calls Tryz.prog 77 #[ptr x.pw,.int .u64 id] w fun e w'=>e=.returned (.bool false) /\ ∃ col',Wv base col' w' x s/\Fw u w w'/\El w u col':=by
 cases hcl:s.closed with
 | true=>
  refine (wpub_closed w h id hcl).mono ?_
  rintro e w' ⟨rfl,rfl⟩
  exact⟨rfl,u,h,Fz.refl _ _,El.refl _ _⟩
 | false=>
  have F:(fnd s.D id).isSome=false:=by
   rcases hc with hc | hc
   .rw[hcl] at hc; cases hc
   .exact hc
  refine (wpub_open w h id hid Q hcl).mono ?_
  rintro e w' ⟨rfl,col',z,I,J⟩
  refine⟨by unfold kn; rw[F]; rfl,col',?_,I,J⟩
  have G:pubS s.D s.S id=s.S:=by unfold pubS; rw[F]; rfl
  rw[G] at z
  exact z
theorem wpub_yes {w:World} {base:Nat} {u:Nat->Nat} {x:Wp} {s:Ws} (h:Wv base u w x s) (id:Int) (hid:U64 id) (F:s.S.length<=1000000) (hc:s.closed=false/\(fnd s.D id).isSome=true):Calls Tryz.prog 77 #[ptr x.pw,.int .u64 id] w fun e w'=>e=.returned (.bool true) /\ ∃ col',Wv base col' w' x { s with S:=pubS s.D s.S id } /\ Fw u w w'/\El w u col':=by
 refine (wpub_open w h id hid F hc.1).mono ?_
 rintro e w' ⟨rfl,z⟩
 exact⟨by unfold kn; rw[hc.2]; rfl,z⟩
theorem mpublish_any (w:World) {base:Nat} {a0:Nat->Nat} {x:Wp} (m:Mg) (h:Wv base a0 w x m.s) (F:Hok m) (hid:U64 m.q.id) (hS:m.s.S.length<=1000000) :
  Calls Tryz.prog 97 #[m.q.val,ptr x.pw] w (Mpost base a0 x w (publishM m).s (publishM m).q.val):=by
 obtain⟨r,z⟩:∃ r,publishM m=r:=⟨_,rfl⟩
 have HR:=Lh z
 rw[z]
 clear z
 obtain⟨W1,a4,V1,T1,B1,S1⟩:=boxes_gt m.q w
 obtain⟨a6,m1⟩:=Me.start h B1 S1 V1 T1
 have M:=Lh m1
 clear m1 h
 clear V1 T1 B1 S1
 go_enter Tryz.func97,Tryz.ntmps97
 go_upto_region 1 with (fail)
 clear a4
 by_cases hc:m.s.closed=false/\(fnd m.s.D m.q.id).isSome=true
 .have a1:=Lh hc
  have z:r=ownM { m with s:={ m.s with S:=pubS m.s.D m.s.S m.q.id } }:=by rw[<- HR.out]; unfold publishM; exact if_pos hc
  subst z
  clear hc
  have z3:=M.out.vb.cell 3 _ rfl
  go_wp2_with (first
   | (refine ldB rt_gt rfl _ rfl w.heap.size rfl (m.q.cells) M.out.vb ?_))
  refine (wpub_yes M.out.wv m.q.id hid hS a1.out).mono ?_
  rintro e w2 ⟨rfl,a3,u,Q,J⟩
  have M:=Lh (M.out.call u Q J)
  clear u Q J
  clear z3
  have z3:=M.out.vb.cell 3 _ rfl
  clear z3
  go_wp2_with (first
   | (refine ldB rt_gt rfl _ rfl w.heap.size rfl (m.q.cells) M.out.vb ?_))
  refine (mown_any _ { m with s:={ m.s with S:=pubS m.s.D m.s.S m.q.id } } M.out.wv ⟨F.mk_,F.ev,F.ll,F.tl,F.lk,F.nw⟩ hid).mono ?_
  rintro e w3 ⟨rfl,a7,h3,y3,l3⟩
  have M:=Lh (M.out.call h3 y3 l3)
  clear h3 y3 l3
  go_wp2_with (first
   | (refine ldB rt_gt rfl _ rfl w.heap.size rfl (m.q.cells) M.out.vb ?_)
   | (refine stB rt_gt rfl _ _ rfl (w.heap.size+1) rfl (Gt.cells (ownM { m with s:={ m.s with S:=pubS m.s.D m.s.S m.q.id } }).q) rfl M.out.tr rfl (by kernel_rfl) ?_; intro a5 G I; have W:=Lh G; have Y:=Lh I; clear G I))
  refine bodyPost_ret (v:=(ownM { m with s:={ m.s with S:=pubS m.s.D m.s.S m.q.id } }).q.val) (res_b rt_gt _ _ (w.heap.size+1) _ Tryz.results97 rfl W.out) rfl ?_
  exact⟨rfl,M.out.ret Y.out⟩
 .have a2:Hid (m.s.closed=true\/(fnd m.s.D m.q.id).isSome=false):=Lh (by cases h1:m.s.closed with | true=>exact .inl rfl | false=>cases u:(fnd m.s.D m.q.id).isSome with | false=>exact .inr rfl | true=>exact absurd ⟨h1,u⟩ hc)
  have z:r=m.to gDrop:=by rw[<- HR.out]; unfold publishM; exact if_neg hc
  subst z
  clear hc
  have z3:=M.out.vb.cell 3 _ rfl
  go_wp2_with (first
   | (refine ldB rt_gt rfl _ rfl w.heap.size rfl (m.q.cells) M.out.vb ?_))
  refine (wpub_no M.out.wv m.q.id hid hS a2.out).mono ?_
  rintro e w2 ⟨rfl,a3,u,Q,J⟩
  have M:=Lh (M.out.call u Q J)
  clear u Q J
  clear z3
  have z3:=M.out.vb.cell 3 _ rfl
  clear z3
  go_wp2_with (first
   | (refine ldB rt_gt rfl _ rfl w.heap.size rfl (m.q.cells) M.out.vb ?_))
  refine (mto_any m.q gDrop _).mono ?_
  rintro e w3 ⟨rfl,b3⟩
  have M:=Lh (M.out.later b3)
  clear b3
  go_wp2_with (first
   | (refine ldB rt_gt rfl _ rfl w.heap.size rfl (m.q.cells) M.out.vb ?_)
   | (refine stB rt_gt rfl _ _ rfl (w.heap.size+1) rfl (Gt.cells (m.q.to gDrop)) rfl M.out.tr rfl (by kernel_rfl) ?_; intro a5 G I; have W:=Lh G; have Y:=Lh I; clear G I))
  refine bodyPost_ret (v:=(m.q.to gDrop).val) (res_b rt_gt _ _ (w.heap.size+1) _ Tryz.results97 rfl W.out) rfl ?_
  exact⟨rfl,M.out.ret Y.out⟩
end Go.Proofs.YtoiklelghfckgaaGreatDoor.Wo
end
