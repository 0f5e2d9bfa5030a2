/- A part of the claim: the texts GiveMath Give GiveRun. -/
import Derived.Test.YtoiklelghfckgaaGreatDoorZGTwo
import Derived.Test.YtoiklelghfckgaaGreatDoorZBase1
import Derived.Deep.MidRow
import Derived.Maps.Own
import Derived.Maps.OwnSet
set_option maxRecDepth 100000
set_option linter.unusedVariables false
namespace Go.Proofs.YtoiklelghfckgaaGreatDoor.Wo
open Go Go.ChangeShapes Go.WideShapes Go.ChangeAt Go.RowKit Go.Maps Rw Hi Mt Ba
open Cn (Cf cfE)
abbrev sOffer:ByteArray:=⟨#[111,102,102,101,114]⟩
abbrev sFree:ByteArray:=⟨#[102,114,101,101]⟩
abbrev sStash:ByteArray:=⟨#[115,116,97,115,104]⟩
abbrev sAgain:ByteArray:=⟨#[97,103,97,105,110]⟩
abbrev sBack:ByteArray:=⟨#[98,97,99,107]⟩
abbrev sClose:ByteArray:=⟨#[99,108,111,115,101]⟩
abbrev sUnlist:ByteArray:=⟨#[117,110,108,105,115,116]⟩
abbrev sShrink:ByteArray:=⟨#[115,104,114,105,110,107]⟩
abbrev sDone:ByteArray:=⟨#[100,111,110,101]⟩
structure Gv where
 th:Int
 op:Int
 id:Int
 word:Int
 st:ByteArray
abbrev Gv.val (g:Gv):Value:=.agg #[.int .i64 g.th,.int .i64 g.op,.int .u64 g.id,.int .u64 g.word,.string g.st]
structure Gv.ok (g:Gv):Prop where
 i:U64 g.id
 w:U64 g.word
structure Gw where
 g:Gv
 s:Ws
 N:List Int
def swapG (q:Gw) (st:Int) (then_:ByteArray):Gw:=
 ⟨if bK q.s.D q.g.id q.g.word st=true then { q.g with word:=bV q.s.D q.g.id q.g.word st,st:=then_ } else { q.g with st:=sDone },{ q.s with D:=up q.s.D q.g.id (exS q.g.word st q.s.now) },q.N⟩
def offerG (q:Gw):Gw:=
 if q.s.closed=true∨q.g.id∈q.N then ⟨{ q.g with st:=sClose },q.s,q.N⟩
 else if (St.fillR q.s.sl q.g.id).2.2=true then ⟨{ q.g with st:=sDone },{ q.s with sl:=(St.fillR q.s.sl q.g.id).1 },q.N⟩
 else ⟨{ q.g with st:=sFree },{ q.s with sl:=(St.fillR q.s.sl q.g.id).1 },q.N⟩
def stashG (q:Gw):Gw:=⟨{ q.g with st:=sAgain },{ q.s with loc:=Lc.putR q.s.loc q.g.th [q.g.id] },q.N⟩
def againG (q:Gw):Gw:=⟨{ q.g with st:=if q.s.closed=true∨0 < St.waitN q.s.sl then sBack else sDone },q.s,q.N⟩
def closeG (q:Gw):Gw:=
 if bK q.s.D q.g.id q.g.word 3=true then ⟨{ q.g with st:=sUnlist },remS q.s q.N q.g.id q.g.word q.g.th q.g.op,q.N.filter (· != q.g.id)⟩ else ⟨{ q.g with st:=sUnlist },q.s,q.N⟩
def unlistG (q:Gw):Gw:=⟨{ q.g with st:=sShrink },{ q.s with S:=unlS q.s.D q.s.S q.g.id },q.N⟩
def shrinkG (q:Gw):Gw:=⟨{ q.g with st:=sDone },{ q.s with live:=shrV q.s.live },q.N⟩
def stepG (q:Gw):Gw:=
 if q.g.st=sOffer then offerG q
 else if q.g.st=sFree then swapG q 0 sStash
 else if q.g.st=sStash then stashG q
 else if q.g.st=sAgain then againG q
 else if q.g.st=sBack then swapG q 1 sOffer
 else if q.g.st=sClose then closeG q
 else if q.g.st=sUnlist then unlistG q
 else if q.g.st=sShrink then shrinkG q
 else ⟨{ q.g with st:=sDone },q.s,q.N⟩
def itG:Nat→Gw→Gw
 | 0,q=>q
 | n+1,q=>stepG (itG n q)
section
variable {q:Gw}
theorem stepG_offer (h:q.g.st=sOffer):stepG q=offerG q:=by unfold stepG; rw [if_pos h]
theorem stepG_free (h:q.g.st=sFree):stepG q=swapG q 0 sStash:=by unfold stepG; rw [h,if_neg (by decide),if_pos rfl]
theorem stepG_stash (h:q.g.st=sStash):stepG q=stashG q:=by unfold stepG; rw [h,if_neg (by decide),if_neg (by decide),if_pos rfl]
theorem stepG_again (h:q.g.st=sAgain):stepG q=againG q:=by unfold stepG; rw [h,if_neg (by decide),if_neg (by decide),if_neg (by decide),if_pos rfl]
theorem stepG_back (h:q.g.st=sBack):stepG q=swapG q 1 sOffer:=by unfold stepG; rw [h,if_neg (by decide),if_neg (by decide),if_neg (by decide),if_neg (by decide),if_pos rfl]
theorem stepG_close (h:q.g.st=sClose):stepG q=closeG q:=by unfold stepG; rw [h,if_neg (by decide),if_neg (by decide),if_neg (by decide),if_neg (by decide),if_neg (by decide),if_pos rfl]
theorem stepG_unlist (h:q.g.st=sUnlist):stepG q=unlistG q:=by unfold stepG; rw [h,if_neg (by decide),if_neg (by decide),if_neg (by decide),if_neg (by decide),if_neg (by decide),if_neg (by decide),if_pos rfl]
theorem stepG_shrink (h:q.g.st=sShrink):stepG q=shrinkG q:=by unfold stepG; rw [h,if_neg (by decide),if_neg (by decide),if_neg (by decide),if_neg (by decide),if_neg (by decide),if_neg (by decide),if_neg (by decide),if_pos rfl]
theorem stepG_done (h:q.g.st=sDone):stepG q=q:=by
 unfold stepG
 rw [h,if_neg (by decide),if_neg (by decide),if_neg (by decide),if_neg (by decide),if_neg (by decide),if_neg (by decide),if_neg (by decide),if_neg (by decide)]
 obtain ⟨⟨th,op,id,word,st⟩,s,N⟩:=q
 cases h
 rfl
end
structure Gd (s:Ws) (n:Nat):Prop where
 D:s.D=(List.range n).map fun j:Nat=>((j:Int)+1,(⟨Wd.wOf 1 0,0,0,0⟩:Ex))
 S:s.S=(List.range n).map fun j:Nat=>(j:Int)+1
 live:s.live=n
 n_:s.n=n
 C:s.C=[]
 now:s.now=0
 O:s.O=[]
 mx:s.conf.max=8
 el:s.ev=[]
section
variable {s:Ws} {n:Nat}
theorem Gd.keys (h:Gd s n):s.D.map Prod.fst=(List.range n).map fun j:Nat=>(j:Int)+1:=by
 rw [h.D,List.map_map]; rfl
theorem Gd.ris (h:Gd s n):Ris s.D:=by
 rw [h.D]
 show List.Pairwise _ _
 rw [List.pairwise_map]
 exact List.pairwise_lt_range.imp (fun u=>by show (_:Int) < _; simp only; omega)
theorem Gd.no (h:Gd s n):((n:Int)+1) ∉ s.D.map Prod.fst:=by
 rw [h.keys]
 intro z
 obtain ⟨j,u,e⟩:=List.mem_map.1 z
 have:=List.mem_range.1 u
 omega
theorem Gd.mem (h:Gd s n) {id:Int} (u:1≤id) (z:id≤n):id∈s.S:=by
 rw [h.S]
 exact List.mem_map.2 ⟨(id - 1).toNat,List.mem_range.2 (by omega),by omega⟩
def oneMore (s:Ws) (st:Int) (i:Nat):Ws:=playS (playS (playS s ⟨1,0,0,0,0⟩) ⟨3,0,0,0,st⟩) ⟨4,(i:Int)+1,0,0,0⟩
theorem Gd.more (h:Gd s n) (hc:s.closed=false) (hn:n < 8):Gd (oneMore s 1 n) (n+1):=by
 have F:playS s ⟨1,0,0,0,0⟩ = { s with live:=(n:Int)+1 }:=by
  unfold playS
  rw [if_neg (by decide),if_pos (by decide)]
  unfold grwV
  rw [h.mx,h.live,if_pos (by omega)]
 have z:entD s.D ((n:Int)+1) 1 s.now=(List.range (n+1)).map fun j:Nat=>((j:Int)+1,(⟨Wd.wOf 1 0,0,0,0⟩:Ex)):=by
  have e:eE s.D ((n:Int)+1) 1=0:=by
   unfold eE
   rw [if_neg (by omega),fnd_none h.no]
   rfl
  unfold entD
  rw [if_pos e,h.now,List.range_succ,List.map_append,← h.D]
  refine ris_perm (h.ris.ins _) ?_ (((ins_perm h.ris h.no _).symm).trans ?_)
  ·rw [h.D,← List.map_append,← List.range_succ]
   show List.Pairwise _ _
   rw [List.pairwise_map]
   exact List.pairwise_lt_range.imp (fun a0=>by show (_:Int) < _; simp only; omega)
  ·exact (List.perm_append_singleton _ _).symm
 have G:playS { s with live:=(n:Int)+1 } ⟨3,0,0,0,1⟩ = { s with live:=(n:Int)+1,n:=n+1,D:=entD s.D ((n:Int)+1) 1 s.now }:=by
  unfold playS
  rw [if_neg (by decide),if_neg (by decide),if_neg (by decide),if_pos (by decide)]
  have u:Fc.nx s.O=(true,[]):=by rw [h.O]; rfl
  have W:opnI s.O s.n=(n:Int)+1:=by unfold opnI; rw [u,h.n_]; rfl
  have en:opnN s.O s.n=n+1:=by unfold opnN; rw [u,h.n_]; rfl
  simp only [W,en,u]
  rw [← h.O]
 have I:pubS (entD s.D ((n:Int)+1) 1 s.now) s.S ((n:Int)+1)=(List.range (n+1)).map fun j:Nat=>(j:Int)+1:=by
  unfold pubS
  rw [if_pos]
  ·unfold Sn.sWith
   rw [if_neg]
   ·rw [h.S,List.range_succ,List.map_append]; rfl
   ·rw [h.S]
    intro hm
    obtain ⟨j,Y,e⟩:=List.mem_map.1 hm
    have:=List.mem_range.1 Y
    omega
  ·rw [z,fnd_is]
   refine decide_eq_true ?_
   rw [List.map_map]
   exact List.mem_map.2 ⟨n,List.mem_range.2 (by omega),rfl⟩
 unfold oneMore
 rw [F,G]
 unfold playS
 have J:(⟨4,(n:Int)+1,0,0,0⟩:Ay).do_ % 8=4:=show (4:Int) % 8=4 by decide
 rw [J,if_neg (by decide),if_neg (by decide),if_neg (by decide),if_neg (by decide),if_pos rfl,if_neg (by show ¬ s.closed=true; rw [hc]; decide)]
 exact ⟨z,I,by show (n:Int)+1=((n+1:Nat):Int); omega,rfl,h.C,h.now,h.O,h.mx,h.el⟩
end
section
variable {s:Ws} {n:Nat} {N:List Int} {id:Int}
abbrev g0 (id:Int):Gv:=⟨0,1,id,Wd.wOf 1 0,sOffer⟩
end
end Go.Proofs.YtoiklelghfckgaaGreatDoor.Wo
namespace Go.Proofs.YtoiklelghfckgaaGreatDoor.Wo
open Go Go.ChangeShapes Go.WideShapes Go.ChangeAt Go.RowKit Go.Deep Go.Maps Rw Hi Mt Ba
open Cn (Cf cfE)
def Gv.cells (g:Gv):List Value:=[.int .i64 g.th,.int .i64 g.op,.int .u64 g.id,.int .u64 g.word,.string g.st]
theorem gcells_one (g:Gv):g.cells.toArray.all (·.oneCell')=true:=by kernel_rfl
structure Vg (w:World) (b:Nat) (g:Gv):Prop where
 at_:w.rangeAt b 0 g.cells
 th:w.there b 0 5
theorem under_g:Tryz.prog.underlying 66=some (Tryz.prog.underlying 66).get!:=by kernel_rfl
theorem row_g:((Tryz.prog.underlying 66).get!).isRow=true:=by kernel_rfl
theorem info_g:(Tryz.prog.info? 66).map (·.size)=some 5:=by kernel_rfl
section
variable {w w':World} {b:Nat} {g:Gv}
theorem Vg.cell (h:Vg w b g) (j:Nat) (u:Value) (z:g.cells[j]? = some u):w.cell? ⟨b,j,none⟩=some u:=by
 have:=h.at_ j u z
 rwa [Nat.zero_add] at this
theorem th5_free (h:w.there b 0 5) (j:Nat) (u:j < 5):w.frozen? ⟨b,j,none⟩=false:=by
 have:=(h j u).2
 rwa [Nat.zero_add] at this
theorem th5_blk (h:w.there b 0 5) (u:w'.heap[b]? = w.heap[b]?):w'.there b 0 5:=fun j z=>⟨by rw [World.cell?_of_block u]; exact (h j z).1,by rw [World.frozen?_of_block u]; exact (h j z).2⟩
theorem th5_lt (h:w.there b 0 5):b < w.heap.size:=by
 obtain ⟨u,z⟩:=Option.isSome_iff_exists.1 (h 0 (by decide)).1
 exact Lw.lt_heap z
theorem Vg.blk (h:Vg w b g) (z:w'.heap[b]? = w.heap[b]?):Vg w' b g:=⟨fun j u F=>(World.cell?_of_block z).trans (h.at_ j u F),th5_blk h.th z⟩
theorem Vg.lt (h:Vg w b g):b < w.heap.size:=th5_lt h.th
theorem Vg.later (h:Vg w b g) (u:Below w.heap.size w w'):Vg w' b g:=h.blk (u.block _ h.lt)
theorem th5_later (h:w.there b 0 5) (u:Below w.heap.size w w'):w'.there b 0 5:=th5_blk h (u.block _ (th5_lt h))
end
theorem box_g (g:Gv) (w:World):∃ W,w.alloc (.cells g.cells.toArray 66)=W∧Vg W w.heap.size g∧Below w.heap.size w W∧W.heap.size=w.heap.size+1:=by
 have h:(w.alloc (.cells g.cells.toArray 66)).heap[w.heap.size]? = some (.cells g.cells.toArray 66):=heap_alloc_last _ _
 refine ⟨_,rfl,⟨fun j u z=>?_,fun j z=>⟨?_,?_⟩⟩,(Below.refl _ _).alloc (Nat.le_refl _) _,by simp⟩
 ·rw [cell_of_row _ _ _ _ _ _ h]; simpa using z
 ·rw [cell_of_row _ _ _ _ _ _ h]; simp [Gv.cells]; omega
 ·unfold World.frozen?; simp only [h]; rfl
abbrev zg:Gv:=⟨0,0,0,0,⟨#[]⟩⟩
theorem boxes_g (g:Gv) (w:World):∃ W,(w.alloc (.cells #[.int .i64 g.th,.int .i64 g.op,.int .u64 g.id,.int .u64 g.word,.string g.st] 66)).alloc (.cells #[.int .i64 0,.int .i64 0,.int .u64 0,.int .u64 0,.string ⟨#[]⟩] 66)=W ∧
  Vg W w.heap.size g∧W.there (w.heap.size+1) 0 5∧Below w.heap.size w W∧W.heap.size=w.heap.size+2:=by
 obtain ⟨u,h,J,b1,Y⟩:=box_g g w
 have h:w.alloc (.cells #[.int .i64 g.th,.int .i64 g.op,.int .u64 g.id,.int .u64 g.word,.string g.st] 66)=u:=h
 rw [h]
 obtain ⟨G,I,F,z,s2⟩:=box_g zg u
 rw [Y] at F
 exact ⟨G,I,J.later z,F.th,b1.trans (z.mono b1.size),by omega⟩
theorem res_g {fn:Func} {p:Tmp} (u:Array Value) (w:World) (b:Nat) (g:Gv) (h:fn.results=#[.cell p 66]) (z:u.getD p undef=.pointer (some ⟨b,0,none⟩)) (hv:Vg w b g):(results fn u).run Tryz.prog w=.ok g.val w:=by
 have G:=run_loadVar_mid (P:=Tryz.prog) w b 0 66 _ _ hv.at_ under_g row_g info_g
 have F:u[p]?.getD undef=.pointer (some ⟨b,0,none⟩):=by simpa using z
 simp [results,h,F,asAddr,G]
 rfl
section
variable {ops:Array Oper} {rest:List Oper} {op:Oper} {a:Act} {w:World} {Q:Exit→Act→World→Prop}
theorem load_g (u:op.guard=none) (x:Operand) (z:op.op=.load 66 x) (b:Nat) (hx:a.eval x=.pointer (some ⟨b,0,none⟩)) (g:Gv) (hv:Vg w b g)
  (h:wpList Tryz.prog ops Q rest (a.put op.dst g.val) w):wpList Tryz.prog ops Q (op :: rest) a w:=
 wpList_load_mid u 66 x z b 0 hx _ _ hv.at_ under_g row_g info_g h
theorem store_g (z:op.guard=none) (x y:Operand) (F:op.op=.store 66 x y) (b:Nat) (hx:a.eval x=.pointer (some ⟨b,0,none⟩)) (g:Gv) (G:a.eval y=g.val) (u:w.there b 0 5)
  (h:∀ w',Vg w' b g→Fz (fun k=>k=b) w w'→wpList Tryz.prog ops Q rest (a.put op.dst undef) w'):wpList Tryz.prog ops Q (op :: rest) a w:=
 wpList_store_mid z 66 x y F b 0 g.cells.toArray hx G u info_g (gcells_one g) (h _ ⟨World.rangeAt_setCells_same w b 0 _ u,World.there_setCells u b 0 _⟩ (fz_setCells _ _ _ _))
end
theorem Vg.set4 {w:World} {b:Nat} {g:Gv} (h:Vg w b g) (t:ByteArray):Vg (w.setCell ⟨b,4,none⟩ (.string t)) b { g with st:=t }:=by
 have k:∀ o u,o≠4→w.cell? ⟨b,o,none⟩=some u→(w.setCell ⟨b,4,none⟩ (.string t)).cell? ⟨b,o,none⟩=some u:=fun o u I G=>(World.cell?_setCell_other _ _ _ _ (fun e=>by injection e with _ e _; omega)).trans G
 refine ⟨fun j u z=>?_,fun j z=>⟨?_,by simpa using (h.th j z).2⟩⟩
 ·rw [Nat.zero_add]
  match j,z with
  | 0,z=>exact k 0 u (by decide) (h.cell 0 u z)
  | 1,z=>exact k 1 u (by decide) (h.cell 1 u z)
  | 2,z=>exact k 2 u (by decide) (h.cell 2 u z)
  | 3,z=>exact k 3 u (by decide) (h.cell 3 u z)
  | 4,z=>injection z with z; subst z; exact World.cell?_setCell_same _ _ _ (h.cell 4 _ rfl)
 ·rw [Nat.zero_add]
  by_cases e:j=4
  ·subst e; rw [World.cell?_setCell_same _ _ _ (h.cell 4 _ rfl)]; rfl
  ·have:=(h.th j z).1
   rw [Nat.zero_add] at this
   rw [World.cell?_setCell_other _ _ _ _ (fun F=>by injection F with _ F _; omega)]; exact this
theorem Vg.set3 {w:World} {b:Nat} {g:Gv} (h:Vg w b g) (t:Int):Vg (w.setCell ⟨b,3,none⟩ (.int .u64 t)) b { g with word:=t }:=by
 have k:∀ o u,o≠3→w.cell? ⟨b,o,none⟩=some u→(w.setCell ⟨b,3,none⟩ (.int .u64 t)).cell? ⟨b,o,none⟩=some u:=fun o u I G=>(World.cell?_setCell_other _ _ _ _ (fun e=>by injection e with _ e _; omega)).trans G
 refine ⟨fun j u z=>?_,fun j z=>⟨?_,by simpa using (h.th j z).2⟩⟩
 ·rw [Nat.zero_add]
  match j,z with
  | 0,z=>exact k 0 u (by decide) (h.cell 0 u z)
  | 1,z=>exact k 1 u (by decide) (h.cell 1 u z)
  | 2,z=>exact k 2 u (by decide) (h.cell 2 u z)
  | 3,z=>injection z with z; subst z; exact World.cell?_setCell_same _ _ _ (h.cell 3 _ rfl)
  | 4,z=>exact k 4 u (by decide) (h.cell 4 u z)
 ·rw [Nat.zero_add]
  by_cases e:j=3
  ·subst e; rw [World.cell?_setCell_same _ _ _ (h.cell 3 _ rfl)]; rfl
  ·have:=(h.th j z).1
   rw [Nat.zero_add] at this
   rw [World.cell?_setCell_other _ _ _ _ (fun F=>by injection F with _ F _; omega)]; exact this
theorem to_any (g:Gv) (t:ByteArray) (w:World):Calls Tryz.prog 177 #[g.val,.string t] w fun e w'=>e=.returned ({ g with st:=t } : Gv).val∧Below w.heap.size w w':=by
 obtain ⟨W,a5,h,J,u,S1⟩:=boxes_g g w
 have I:=Lh h
 have G:=Lh J
 have z:=Lh u
 have z4:=h.cell 4 _ rfl
 have f4:=th5_free h.th 4 (by decide)
 clear h J u
 go_enter Tryz.func177,Tryz.ntmps177
 go_upto_region 1 with (fail)
 clear a5
 go_upto_region 2 with (fail)
 have a2:=Lh (I.out.set4 t)
 have a1:Hid ((W.setCell ⟨w.heap.size,4,none⟩ (.string t)).there (w.heap.size+1) 0 5):=Lh (th5_blk G.out (heap_setCell_other _ _ (w.heap.size+1) _ (by simp)))
 have F:=Lh (z.out.setCell (p:=⟨w.heap.size,4,none⟩) (Nat.le_refl _) (.string t))
 generalize (W.setCell ⟨w.heap.size,4,none⟩ (.string t))=W2 at *
 clear z4 f4 I G z S1
 go_wp2_with (first
  | (refine load_g rfl _ rfl w.heap.size rfl { g with st:=t } a2.out ?_)
  | (refine store_g rfl _ _ rfl (w.heap.size+1) rfl { g with st:=t } rfl a1.out ?_; intro w9 Y a0; have a3:=Lh Y; have a4:=Lh a0; clear Y a0))
 exact bodyPost_ret (v:=Gv.val { g with st:=t }) (res_g _ _ (w.heap.size+1) _ Tryz.results177 rfl a3.out) rfl ⟨rfl,F.out.trans (a4.out.below F.out.size (fun k hk=>by omega))⟩
theorem gdone_any (g:Gv) (w:World):Calls Tryz.prog 123 #[g.val] w fun e w'=>e=.returned (.bool (g.st.toList == [100,111,110,101]))∧Below w.heap.size w w':=by
 obtain ⟨G,h,z,u,I⟩:=box_g g w
 have h:w.alloc (.cells #[.int .i64 g.th,.int .i64 g.op,.int .u64 g.id,.int .u64 g.word,.string g.st] 66)=G:=h
 have F:=Lh u
 have z4:=z.cell 4 _ rfl
 clear z u
 go_enter Tryz.func123,Tryz.ntmps123
 go_upto_region 1 with (fail)
 clear h
 go_wp2_with fail
 go_ret
 exact ⟨rfl,F.out⟩
theorem goffer_any (th op id word:Int) (w:World):Calls Tryz.prog 122 #[.int .i64 th,.int .i64 op,.int .u64 id,.int .u64 word] w fun e w'=>e=.returned (⟨th,op,id,word,sOffer⟩:Gv).val∧Below w.heap.size w w':=by
 obtain ⟨W1,h,F,u,S1⟩:=box_g zg w
 have h:w.alloc (.cells #[.int .i64 0,.int .i64 0,.int .u64 0,.int .u64 0,.string ⟨#[]⟩] 66)=W1:=h
 have J:=Lh F.th
 have z:=Lh u
 clear F u
 go_enter Tryz.func122,Tryz.ntmps122
 go_upto_region 1 with (fail)
 clear h
 go_wp2_with (first
  | (refine store_g rfl _ _ rfl w.heap.size rfl ⟨th,op,id,word,sOffer⟩ rfl J.out ?_; intro w9 G I; have W:=Lh G; have Y:=Lh I; clear G I))
 exact bodyPost_ret (v:=Gv.val ⟨th,op,id,word,sOffer⟩) (res_g _ _ w.heap.size _ Tryz.results122 rfl W.out) rfl ⟨rfl,z.out.trans (Y.out.below z.out.size (fun k hk=>by omega))⟩
theorem Wv.var2 {base:Nat} {col:Nat→Nat} {w w':World} {x:Wp} {s:Ws} (h:Wv base col w x s) (I:Below w.heap.size w w'):∃ col',Wv base col' w' x s∧El w col col' ∧ ∀ g,w.heap.size≤g→g < w'.heap.size→col' g=8:=by
 have a1:=h.base_le
 obtain ⟨col',G⟩:∃ col':Nat→Nat,col'=fun g=>if g < w.heap.size then col g else if g < w'.heap.size then 8 else 0:=⟨_,rfl⟩
 have F:∀ g,g < w.heap.size→col' g=col g:=fun g u=>by rw [G]; exact if_pos u
 have J:∀ g,w.heap.size≤g→g < w'.heap.size→col' g=8:=fun g h1 h2=>by rw [G]; show (if g < w.heap.size then col g else if g < w'.heap.size then 8 else 0)=8; rw [if_neg (by omega),if_pos h2]
 have W:∀ g,w.heap.size≤g→w'.heap.size≤g→col' g=0:=fun g z h4=>by rw [G]; show (if g < w.heap.size then col g else if g < w'.heap.size then 8 else 0)=0; rw [if_neg (by omega),if_neg (by omega)]
 have a0:=h.lo
 obtain ⟨p,q,Y,hi⟩:=h
 have hs:=I.size
 refine ⟨col',⟨p,q,(Y.recol F (fun g u=>?_)).later I,fun g u=>?_⟩,F,J⟩
 ·by_cases z:g < w.heap.size
  ·exact a0 g (by rw [← F g z]; exact u)
  ·omega
 ·by_cases z:g < w'.heap.size
  ·exact z
  ·exact absurd (W g (by omega) (by omega)) u
theorem fw_own {col:Nat→Nat} {w z F:World} {R:Nat} (h:Fw col w z) (u:Fz (fun k=>k=R) z F) (G:w.heap.size≤R):Fw col w F:=
 ⟨u.os.trans h.os,u.tape.trans h.tape,u.output.trans h.output,Nat.le_trans h.size u.size,fun k hk hc=>(u.block k (Nat.lt_of_lt_of_le hk h.size) (fun e=>by omega)).trans (h.block k hk hc)⟩
theorem give_end {base:Nat} {col u z:Nat→Nat} {x:Wp} {s:Ws} {w h F w8 G:World} (W:El w col u) (a0:Below w.heap.size w h) (a1:h.heap.size=w.heap.size+2) (h8:∀ g,w.heap.size≤g→g < h.heap.size→u g=8)
  (hw:Wv base z F x s) (hf:Fw u h F) (J:El h u z) (I:Below F.heap.size F w8) (Y:Fz (fun k=>k=w.heap.size+1) w8 G):∃ col',Wv base col' G x s∧Fw col w G∧El w col col':=by
 have e8:z (w.heap.size+1)=8:=(J _ (by omega)).trans (h8 _ (by omega) (by omega))
 refine ⟨z,(hw.later I).aside Y (fun g _ e=>by subst e; exact e8),fw_own ((fw_two (Fz.of_below a0) W hf).trans (Fz.of_below I)) Y (by omega),fun g hg=>(J g (by omega)).trans (W g hg)⟩
theorem give_end3 {base:Nat} {col u I:Nat→Nat} {x:Wp} {s:Ws} {w h G w8 J:World} (a0:El w col u) (z:Below w.heap.size w h) (a3:h.heap.size=w.heap.size+2) (h8:∀ g,w.heap.size≤g→g < h.heap.size→u g=8)
  (hw:Wv base I G x s) (F:Fz (fun k=>(u k≠0∧u k≠8)∨k=w.heap.size) h G) (Y:El h u I) (W:Below G.heap.size G w8) (a1:Fz (fun k=>k=w.heap.size+1) w8 J):∃ col',Wv base col' J x s∧Fw col w J∧El w col col':=by
 have e8:I (w.heap.size+1)=8:=(Y _ (by omega)).trans (h8 _ (by omega) (by omega))
 have a2:Fw col w G:=⟨F.os.trans z.os,F.tape.trans z.tape,F.output.trans z.output,Nat.le_trans z.size F.size,fun k hk hc=>(F.block k (by omega) (fun e=>by
  rcases e with e | e
  ·rw [a0 k hk] at e; exact hc e
  ·omega)).trans (z.block k hk)⟩
 refine ⟨I,(hw.later W).aside a1 (fun g _ e=>by subst e; exact e8),fw_own (a2.trans (Fz.of_below W)) a1 (by omega),fun g hg=>(Y g (by omega)).trans (a0 g hg)⟩
theorem Vg.fw {w w':World} {b:Nat} {g:Gv} {col:Nat→Nat} (h:Vg w b g) (hc:col b=8) (u:Fw col w w'):Vg w' b g:=h.blk (u.block b h.lt (fun e=>e.2 hc))
theorem th5_fw {w w':World} {b:Nat} {col:Nat→Nat} (h:w.there b 0 5) (hc:col b=8) (u:Fw col w w'):w'.there b 0 5:=th5_blk h (u.block b (th5_lt h) (fun e=>e.2 hc))
abbrev Does (f:FuncId) (w:World) (base:Nat) (col:Nat→Nat) (x:Wp) (q r:Gw):Prop:=
 Calls Tryz.prog f #[q.g.val,ptr x.pw] w fun e w'=>e=.returned r.g.val ∧ ∃ col',Wv base col' w' x r.s∧Fw col w w'∧El w col col'
section
variable (w:World) {base:Nat} {col:Nat→Nat} {x:Wp} {q:Gw} {k:Nat}
theorem give_shrink (h:Wv base col w x q.s) (h0:0≤q.s.live) (hm:q.s.live≤1000000):Does 203 w base col x q (shrinkG q):=by
 obtain ⟨g,s,N⟩:=q
 obtain ⟨Y,ar,W,J,F,I⟩:=boxes_g g w
 obtain ⟨u,a4,a2,z⟩:=h.var2 F
 have an:=Lh a4
 have aj:=Lh W
 have ag:=Lh J
 have a7:=Lh F
 have af:=Lh I
 have ad:=Lh a2
 have a6:=Lh z
 have a0:u w.heap.size=8:=z _ (Nat.le_refl _) (by omega)
 have a1:u (w.heap.size+1)=8:=z _ (by omega) (by omega)
 have a9:=Lh a0
 have aa:=Lh a1
 clear W J F I a4 a2 z a0 a1 h
 go_enter Tryz.func203,Tryz.ntmps203
 go_upto_region 1 with (fail)
 clear ar
 go_wp2_with fail
 refine (wshrink_any Y an.out h0 hm).mono ?_
 rintro e w2 ⟨rfl,h2,z2⟩
 have l2:El Y u u:=El.refl _ _
 have ao:=Lh h2
 have ac:=Lh z2
 have ae:=Lh l2
 have ak:=Lh (aj.out.fw a9.out z2)
 have ah:=Lh (th5_fw ag.out aa.out z2)
 clear h2 z2 l2
 go_wp2_with (first
  | (refine load_g rfl _ rfl w.heap.size rfl g ak.out ?_))
 refine (to_any g sDone _).mono ?_
 rintro e w8 ⟨rfl,G⟩
 have a8:=Lh G
 have ai:=Lh (th5_later ah.out G)
 clear G
 go_wp2_with (first
  | (refine store_g rfl _ _ rfl (w.heap.size+1) rfl { g with st:=sDone } rfl ai.out ?_; intro w9 a3 a5; have al:=Lh a3; have aq:=Lh a5; clear a3 a5))
 exact bodyPost_ret (v:=Gv.val { g with st:=sDone }) (res_g _ _ (w.heap.size+1) _ Tryz.results203 rfl al.out) rfl ⟨rfl,give_end ad.out a7.out af.out a6.out ao.out ac.out ae.out a8.out aq.out⟩
theorem give_again (h:Wv base col w x q.s) (hl:q.s.sl.length≤1000):Does 199 w base col x q (againG q):=by
 obtain ⟨t,ht⟩:∃ t,(if q.s.closed=true∨0 < St.waitN q.s.sl then sBack else sDone)=t:=⟨_,rfl⟩
 have hr:againG q=⟨{ q.g with st:=t },q.s,q.N⟩:=by unfold againG; rw [ht]
 rw [hr]
 clear hr
 cases hcl:q.s.closed with
 | true=>
  rw [hcl,if_pos (.inl rfl)] at ht
  subst ht
  obtain ⟨g,s,N⟩:=q
  obtain ⟨u,aq,V1,T1,I,Y⟩:=boxes_g g w
  obtain ⟨z,a4,a2,G⟩:=h.var2 I
  have W:=Lh a4
  have aj:=Lh V1
  have ag:=Lh T1
  have a7:=Lh I
  have af:=Lh Y
  have ad:=Lh a2
  have a6:=Lh G
  have a0:z w.heap.size=8:=G _ (Nat.le_refl _) (by omega)
  have a1:z (w.heap.size+1)=8:=G _ (by omega) (by omega)
  have a9:=Lh a0
  have aa:=Lh a1
  clear V1 T1 I Y a4 a2 G a0 a1 h
  go_enter Tryz.func199,Tryz.ntmps199
  go_upto_region 1 with (fail)
  clear aq
  go_wp2_with fail
  refine (wwant_closed u W.out hcl).mono ?_
  rintro e w2 ⟨rfl,F⟩
  have F:Below u.heap.size u w2:=F ▸ Below.refl _ _
  have h2:=W.out.later F
  have z2:Fw z u w2:=Fz.of_below F
  have l2:El u z z:=El.refl _ _
  clear F
  have an:=Lh h2
  have ac:=Lh z2
  have ae:=Lh l2
  have ak:=Lh (aj.out.fw a9.out z2)
  have ah:=Lh (th5_fw ag.out aa.out z2)
  clear h2 z2 l2
  go_wp2_with (first
   | (refine load_g rfl _ rfl w.heap.size rfl g ak.out ?_))
  refine (to_any g sBack _).mono ?_
  rintro e w8 ⟨rfl,J⟩
  have a8:=Lh J
  have ai:=Lh (th5_later ah.out J)
  clear J
  go_wp2_with (first
   | (refine store_g rfl _ _ rfl (w.heap.size+1) rfl { g with st:=sBack } rfl ai.out ?_; intro w9 a3 a5; have al:=Lh a3; have ao:=Lh a5; clear a3 a5))
  exact bodyPost_ret (v:=Gv.val { g with st:=sBack }) (res_g _ _ (w.heap.size+1) _ Tryz.results199 rfl al.out) rfl ⟨rfl,give_end ad.out a7.out af.out a6.out an.out ac.out ae.out a8.out ao.out⟩
 | false=>
  by_cases hwt:0 < St.waitN q.s.sl
  ·rw [if_pos (.inr hwt)] at ht
   subst ht
   obtain ⟨g,s,N⟩:=q
   obtain ⟨u,aq,V1,T1,I,Y⟩:=boxes_g g w
   obtain ⟨z,a4,a2,G⟩:=h.var2 I
   have W:=Lh a4
   have aj:=Lh V1
   have ag:=Lh T1
   have a7:=Lh I
   have af:=Lh Y
   have ad:=Lh a2
   have a6:=Lh G
   have a0:z w.heap.size=8:=G _ (Nat.le_refl _) (by omega)
   have a1:z (w.heap.size+1)=8:=G _ (by omega) (by omega)
   have a9:=Lh a0
   have aa:=Lh a1
   clear V1 T1 I Y a4 a2 G a0 a1 h
   go_enter Tryz.func199,Tryz.ntmps199
   go_upto_region 1 with (fail)
   clear aq
   have q1:decide (0 < St.waitN s.sl)=true:=decide_eq_true hwt
   have ar:Hid (Calls Tryz.prog 234 #[ptr x.pw] u fun e w'=>e=.returned (.bool true)∧Below u.heap.size u w'):=Lh (by have:=wwant_open u W.out hl hcl; rw [q1] at this; exact this)
   clear hcl hwt q1
   go_wp2_with fail
   refine (ar.out).mono ?_
   rintro e w2 ⟨rfl,F⟩
   have F:Below u.heap.size u w2:=F
   have h2:=W.out.later F
   have z2:Fw z u w2:=Fz.of_below F
   have l2:El u z z:=El.refl _ _
   clear F
   have an:=Lh h2
   have ac:=Lh z2
   have ae:=Lh l2
   have ak:=Lh (aj.out.fw a9.out z2)
   have ah:=Lh (th5_fw ag.out aa.out z2)
   clear h2 z2 l2
   go_wp2_with (first
    | (refine load_g rfl _ rfl w.heap.size rfl g ak.out ?_))
   refine (to_any g sBack _).mono ?_
   rintro e w8 ⟨rfl,J⟩
   have a8:=Lh J
   have ai:=Lh (th5_later ah.out J)
   clear J
   go_wp2_with (first
    | (refine store_g rfl _ _ rfl (w.heap.size+1) rfl { g with st:=sBack } rfl ai.out ?_; intro w9 a3 a5; have al:=Lh a3; have ao:=Lh a5; clear a3 a5))
   exact bodyPost_ret (v:=Gv.val { g with st:=sBack }) (res_g _ _ (w.heap.size+1) _ Tryz.results199 rfl al.out) rfl ⟨rfl,give_end ad.out a7.out af.out a6.out an.out ac.out ae.out a8.out ao.out⟩
  ·rw [hcl,if_neg (by intro e; rcases e with e | e; cases e; exact hwt e)] at ht
   subst ht
   obtain ⟨g,s,N⟩:=q
   obtain ⟨u,aq,V1,T1,I,Y⟩:=boxes_g g w
   obtain ⟨z,a4,a2,G⟩:=h.var2 I
   have W:=Lh a4
   have aj:=Lh V1
   have ag:=Lh T1
   have a7:=Lh I
   have af:=Lh Y
   have ad:=Lh a2
   have a6:=Lh G
   have a0:z w.heap.size=8:=G _ (Nat.le_refl _) (by omega)
   have a1:z (w.heap.size+1)=8:=G _ (by omega) (by omega)
   have a9:=Lh a0
   have aa:=Lh a1
   clear V1 T1 I Y a4 a2 G a0 a1 h
   go_enter Tryz.func199,Tryz.ntmps199
   go_upto_region 1 with (fail)
   clear aq
   have q1:decide (0 < St.waitN s.sl)=false:=decide_eq_false hwt
   have ar:Hid (Calls Tryz.prog 234 #[ptr x.pw] u fun e w'=>e=.returned (.bool false)∧Below u.heap.size u w'):=Lh (by have:=wwant_open u W.out hl hcl; rw [q1] at this; exact this)
   clear hcl hwt q1
   go_wp2_with fail
   refine (ar.out).mono ?_
   rintro e w2 ⟨rfl,F⟩
   have F:Below u.heap.size u w2:=F
   have h2:=W.out.later F
   have z2:Fw z u w2:=Fz.of_below F
   have l2:El u z z:=El.refl _ _
   clear F
   have an:=Lh h2
   have ac:=Lh z2
   have ae:=Lh l2
   have ak:=Lh (aj.out.fw a9.out z2)
   have ah:=Lh (th5_fw ag.out aa.out z2)
   clear h2 z2 l2
   go_wp2_with (first
    | (refine load_g rfl _ rfl w.heap.size rfl g ak.out ?_))
   refine (to_any g sDone _).mono ?_
   rintro e w8 ⟨rfl,J⟩
   have a8:=Lh J
   have ai:=Lh (th5_later ah.out J)
   clear J
   go_wp2_with (first
    | (refine store_g rfl _ _ rfl (w.heap.size+1) rfl { g with st:=sDone } rfl ai.out ?_; intro w9 a3 a5; have al:=Lh a3; have ao:=Lh a5; clear a3 a5))
   exact bodyPost_ret (v:=Gv.val { g with st:=sDone }) (res_g _ _ (w.heap.size+1) _ Tryz.results199 rfl al.out) rfl ⟨rfl,give_end ad.out a7.out af.out a6.out an.out ac.out ae.out a8.out ao.out⟩
theorem give_shut (h:Wv base col w x q.s) (hM:q.s.M=Le.mk q.N) (hok:q.g.ok) (a6:U64 q.s.now) (hn:q.s.C.length < 1000) (hl:q.s.ev.length≤1000):Does 201 w base col x q (closeG q):=by
 by_cases hk:bK q.s.D q.g.id q.g.word 3=true
 ·rw [show closeG q=⟨{ q.g with st:=sUnlist },remS q.s q.N q.g.id q.g.word q.g.th q.g.op,q.N.filter (· != q.g.id)⟩ from if_pos hk]
  obtain ⟨g,s,N⟩:=q
  obtain ⟨W1,au,u,W,F,J⟩:=boxes_g g w
  obtain ⟨Y,a4,a2,z⟩:=h.var2 F
  have ao:=Lh a4
  have ak:=Lh u
  have ah:=Lh W
  have a8:=Lh F
  have ag:=Lh J
  have ae:=Lh a2
  have a7:=Lh z
  have a0:Y w.heap.size=8:=z _ (Nat.le_refl _) (by omega)
  have a1:Y (w.heap.size+1)=8:=z _ (by omega) (by omega)
  have aa:=Lh a0
  have ac:=Lh a1
  have z0:=u.cell 0 _ rfl
  have z1:=u.cell 1 _ rfl
  have z2:=u.cell 2 _ rfl
  have z3:=u.cell 3 _ rfl
  clear u W F J a4 a2 z a0 a1 h
  go_enter Tryz.func201,Tryz.ntmps201
  go_upto_region 1 with (fail)
  clear au
  have I:=Lh (wrem_yes W1 N ao.out hM g.id g.word g.th g.op hok.i a6 hok.w hk hn hl)
  clear hk hM hok a6 hn hl
  go_wp2_with fail
  refine I.out.mono ?_
  rintro e w2 ⟨rfl,av,h2,z2,l2⟩
  clear I
  have aq:=Lh h2
  have ad:=Lh z2
  have af:=Lh l2
  have al:=Lh (ak.out.fw aa.out z2)
  have ai:=Lh (th5_fw ah.out ac.out z2)
  clear h2 z2 l2
  go_wp2_with (first
   | (refine load_g rfl _ rfl w.heap.size rfl g al.out ?_))
  refine (to_any g sUnlist _).mono ?_
  rintro e w8 ⟨rfl,G⟩
  have a9:=Lh G
  have aj:=Lh (th5_later ai.out G)
  clear G
  go_wp2_with (first
   | (refine store_g rfl _ _ rfl (w.heap.size+1) rfl { g with st:=sUnlist } rfl aj.out ?_; intro w9 a3 a5; have an:=Lh a3; have ar:=Lh a5; clear a3 a5))
  exact bodyPost_ret (v:=Gv.val { g with st:=sUnlist }) (res_g _ _ (w.heap.size+1) _ Tryz.results201 rfl an.out) rfl ⟨rfl,give_end ae.out a8.out ag.out a7.out aq.out ad.out af.out a9.out ar.out⟩
 ·have hk:bK q.s.D q.g.id q.g.word 3=false:=by simpa using hk
  rw [show closeG q=⟨{ q.g with st:=sUnlist },q.s,q.N⟩ from if_neg (by rw [hk]; decide)]
  obtain ⟨g,s,N⟩:=q
  obtain ⟨W1,au,u,W,F,J⟩:=boxes_g g w
  obtain ⟨Y,a4,a2,z⟩:=h.var2 F
  have ao:=Lh a4
  have ak:=Lh u
  have ah:=Lh W
  have a8:=Lh F
  have ag:=Lh J
  have ae:=Lh a2
  have a7:=Lh z
  have a0:Y w.heap.size=8:=z _ (Nat.le_refl _) (by omega)
  have a1:Y (w.heap.size+1)=8:=z _ (by omega) (by omega)
  have aa:=Lh a0
  have ac:=Lh a1
  have z0:=u.cell 0 _ rfl
  have z1:=u.cell 1 _ rfl
  have z2:=u.cell 2 _ rfl
  have z3:=u.cell 3 _ rfl
  clear u W F J a4 a2 z a0 a1 h
  go_enter Tryz.func201,Tryz.ntmps201
  go_upto_region 1 with (fail)
  clear au
  have I:=Lh (wrem_no W1 N ao.out hM g.id g.word g.th g.op hok.i a6 hok.w hk)
  clear hk hM hok a6 hn hl
  go_wp2_with fail
  refine I.out.mono ?_
  rintro e w2 ⟨rfl,av,h2,z2,l2⟩
  clear I
  have aq:=Lh h2
  have ad:=Lh z2
  have af:=Lh l2
  have al:=Lh (ak.out.fw aa.out z2)
  have ai:=Lh (th5_fw ah.out ac.out z2)
  clear h2 z2 l2
  go_wp2_with (first
   | (refine load_g rfl _ rfl w.heap.size rfl g al.out ?_))
  refine (to_any g sUnlist _).mono ?_
  rintro e w8 ⟨rfl,G⟩
  have a9:=Lh G
  have aj:=Lh (th5_later ai.out G)
  clear G
  go_wp2_with (first
   | (refine store_g rfl _ _ rfl (w.heap.size+1) rfl { g with st:=sUnlist } rfl aj.out ?_; intro w9 a3 a5; have an:=Lh a3; have ar:=Lh a5; clear a3 a5))
  exact bodyPost_ret (v:=Gv.val { g with st:=sUnlist }) (res_g _ _ (w.heap.size+1) _ Tryz.results201 rfl an.out) rfl ⟨rfl,give_end ae.out a8.out ag.out a7.out aq.out ad.out af.out a9.out ar.out⟩
theorem give_unlist (h:Wv base col w x q.s) (hok:q.g.ok) (hl:q.s.S.length≤1000000):Does 202 w base col x q (unlistG q):=by
 unfold unlistG
 obtain ⟨g,s,N⟩:=q
 obtain ⟨F,av,V1,T1,W,S1⟩:=boxes_g g w
 obtain ⟨G,a7,a5,I⟩:=h.var2 W
 have a1:=Lh a7
 have Y:=Lh V1
 have aj:=Lh T1
 have aa:=Lh W
 have ai:=Lh S1
 have ag:=Lh a5
 have a9:=Lh I
 have a3:G w.heap.size=8:=I _ (Nat.le_refl _) (by omega)
 have a4:G (w.heap.size+1)=8:=I _ (by omega) (by omega)
 have a0:=Lh a3
 have ad:=Lh a4
 have HI:=Lh hok.i
 clear V1 T1 W S1 a7 a5 I a3 a4 h
 go_enter Tryz.func202,Tryz.ntmps202
 go_upto_region 1 with (fail)
 clear av
 clear hok
 go_wp2_with fail
 have u:Hid (Wc F.drew x s∧Vg F.drew w.heap.size g):=Lh ⟨a1.out.cells.blk rfl,Y.out.blk rfl⟩
 have ae:=Lh (a1.out.later (Below.refl _ _).drew)
 refine reg_start 7 (fun w'=>Wc w' x s∧Vg w' w.heap.size g) (by kernel_rfl) (by kernel_rfl) ?_
 intro a2
 have z:=Lh a2
 clear a2
 refine rq 0 z.out u.out rfl ?_
 refine rq 1 z.out u.out rfl ?_
 refine rq 2 z.out u.out rfl ?_
 refine rq 3 z.out u.out rfl ?_ (hv:=fun w' hw=>by (have kc:=hw.1.c8; go_simp; exact rfl))
 refine rq 4 z.out u.out rfl ?_
 refine rq 5 z.out u.out rfl ?_ (hv:=fun w' hw=>by (have kz:=hw.2.cell 2 _ rfl; go_simp; exact rfl))
 refine reg_only 6 rfl (by kernel_rfl) rfl ?_
 unfold Oper.wp
 go_simp
 refine (wunlist _ ae.out g.id HI.out hl).mono ?_
 rintro e w2 ⟨rfl,au,h2,z2,J⟩
 have z2:Fw G F w2:=(Fz.of_below (Below.refl _ _).drew).trans z2
 have J:El F G au:=J
 have hS:Wc w2 x s∧Vg w2 w.heap.size g:=⟨h2.cells.to rfl rfl rfl rfl rfl rfl rfl rfl rfl rfl rfl,Y.out.fw a0.out z2⟩
 refine ⟨hS,?_⟩
 clear u
 have u:=Lh hS
 clear hS
 have aq:=Lh h2
 have af:=Lh z2
 have ah:=Lh J
 have an:=Lh (Y.out.fw a0.out z2)
 have ak:=Lh (th5_fw aj.out ad.out z2)
 clear h2 z2 J
 refine reg_done (by kernel_rfl) ?_
 go_wp2_with (first
  | (refine load_g rfl _ rfl w.heap.size rfl g an.out ?_))
 refine (to_any g sShrink _).mono ?_
 rintro e w8 ⟨rfl,b8⟩
 have ac:=Lh b8
 have al:=Lh (th5_later ak.out b8)
 clear b8
 go_wp2_with (first
  | (refine store_g rfl _ _ rfl (w.heap.size+1) rfl { g with st:=sShrink } rfl al.out ?_; intro w9 a6 a8; have ao:=Lh a6; have ar:=Lh a8; clear a6 a8))
 exact bodyPost_ret (v:=Gv.val { g with st:=sShrink }) (res_g _ _ (w.heap.size+1) _ Tryz.results202 rfl ao.out) rfl ⟨rfl,give_end ag.out aa.out ai.out a9.out aq.out af.out ah.out ac.out ar.out⟩
theorem give_swap (h:Wv base col w x q.s) (hok:q.g.ok) (ao:U64 q.s.now) (st:Int) (tn:ByteArray):Calls Tryz.prog 232 #[q.g.val,ptr x.pw,.int .i64 st,.string tn] w fun e w'=>e=.returned (swapG q st tn).g.val ∧ ∃ col',Wv base col' w' x (swapG q st tn).s∧Fw col w w'∧El w col col':=by
 unfold swapG
 cases hk:bK q.s.D q.g.id q.g.word st with
 | false=>
  obtain ⟨vb,a4⟩:∃ vb,bV q.s.D q.g.id q.g.word st=vb:=⟨_,rfl⟩
  simp only [Bool.false_eq_true,if_false]
  have ax:=Lh hk
  have aD:=Lh a4
  clear hk a4
  obtain ⟨g,s,N⟩:=q
  obtain ⟨G,aG,V1,T1,B1,S1⟩:=boxes_g g w
  obtain ⟨J,af,ac,a0⟩:=h.var2 B1
  have a7:=Lh af
  have W:=Lh V1
  have aA:=Lh T1
  have ar:=Lh B1
  have aj:=Lh S1
  have ay:=Lh ac
  have aq:=Lh a0
  have a9:J w.heap.size=8:=a0 _ (Nat.le_refl _) (by omega)
  have aa:J (w.heap.size+1)=8:=a0 _ (by omega) (by omega)
  have a2:=Lh a9
  have av:=Lh aa
  have HI:=Lh hok.i
  have aE:=Lh hok.w
  have az:=Lh ao
  clear V1 T1 B1 S1 af ac a0 a9 aa h
  go_enter Tryz.func232,Tryz.ntmps232
  go_upto_region 1 with (fail)
  clear aG
  clear hok ao
  go_wp2_with fail
  have u:Hid (Wc G.drew x s∧Vg G.drew w.heap.size g):=Lh ⟨a7.out.cells.blk rfl,W.out.blk rfl⟩
  have a6:=Lh (a7.out.later (Below.refl _ _).drew)
  refine reg_start 17 (fun w'=>Wc w' x s∧Vg w' w.heap.size g) (by kernel_rfl) (by kernel_rfl) ?_
  intro a8
  have z:=Lh a8
  clear a8
  refine rq 0 z.out u.out rfl ?_
  refine rq 1 z.out u.out rfl ?_
  refine rq 2 z.out u.out rfl ?_
  refine rq 3 z.out u.out rfl ?_ (hv:=fun w' hw=>by (have kc:=hw.1.c8; go_simp; exact rfl))
  refine rq 4 z.out u.out rfl ?_
  refine rq 5 z.out u.out rfl ?_ (hv:=fun w' hw=>by (have kz:=hw.2.cell 2 _ rfl; go_simp; exact rfl))
  refine rq 6 z.out u.out rfl ?_
  refine rq 7 z.out u.out rfl ?_ (hv:=fun w' hw=>by (have kz:=hw.2.cell 3 _ rfl; go_simp; exact rfl))
  refine rq 8 z.out u.out rfl ?_
  refine rq 9 z.out u.out rfl ?_
  refine reg_only 10 rfl (by kernel_rfl) rfl ?_
  unfold Oper.wp
  go_simp
  refine (wnow_any _ u.out.1).mono ?_
  rintro e w4 ⟨rfl,Y⟩
  have a1:=a6.out.later Y
  have ad:Vg w4 w.heap.size g:=W.out.later ((Below.refl _ _).drew.trans Y)
  have F:Wc w4 x s∧Vg w4 w.heap.size g:=⟨a1.cells,ad⟩
  refine ⟨F,?_⟩
  clear u a6
  have u:=Lh F
  have aw:=Lh a1
  have a5:Hid (Below G.heap.size G w4):=Lh ((Below.refl _ _).drew.trans Y)
  clear F a1 ad Y
  refine reg_only 11 rfl (by kernel_rfl) rfl ?_
  unfold Oper.wp
  go_simp
  refine (wswap _ aw.out g.id g.word st s.now HI.out aE.out az.out).mono ?_
  rintro e I ⟨rfl,an,h2,z2,l2⟩
  rw [ax.out,aD.out]
  have z2:Fw J G I:=(Fz.of_below a5.out).trans z2
  have l2:El G J an:=fun k hk=>l2 k (by have:=a5.out.size; omega)
  have F:Wc I x s∧Vg I w.heap.size g:=⟨h2.cells.to rfl rfl rfl rfl rfl rfl rfl rfl rfl rfl rfl,W.out.fw a2.out z2⟩
  refine ⟨F,?_⟩
  clear u
  have u:=Lh F
  clear F
  have al:=Lh h2
  have ah:=Lh z2
  have ai:=Lh l2
  have a3:=Lh (W.out.fw a2.out z2)
  have ak:=Lh (th5_fw aA.out av.out z2)
  clear h2 z2 l2
  refine rq 12 z.out u.out rfl ?_
  refine rq 13 z.out u.out rfl ?_
  refine rq 14 z.out u.out rfl ?_
  refine rq 15 z.out u.out rfl ?_
  refine rq 16 z.out u.out rfl ?_
  refine reg_done (by kernel_rfl) ?_
  go_wp2_with (first
   | (refine load_g rfl _ rfl w.heap.size rfl g a3.out ?_))
  refine (to_any g sDone _).mono ?_
  rintro e w8 ⟨rfl,b8⟩
  have au:=Lh b8
  have aB:=Lh (th5_later ak.out b8)
  clear b8
  go_wp2_with (first
   | (refine store_g rfl _ _ rfl (w.heap.size+1) rfl { g with st:=sDone } rfl aB.out ?_; intro w9 ae ag; have aC:=Lh ae; have aF:=Lh ag; clear ae ag))
  exact bodyPost_ret (v:=Gv.val { g with st:=sDone }) (res_g _ _ (w.heap.size+1) _ Tryz.results232 rfl aC.out) rfl ⟨rfl,give_end ay.out ar.out aj.out aq.out al.out ah.out ai.out au.out aF.out⟩
 | true=>
  obtain ⟨vb,a4⟩:∃ vb,bV q.s.D q.g.id q.g.word st=vb:=⟨_,rfl⟩
  simp only [if_true,a4]
  have ax:=Lh hk
  have aD:=Lh a4
  clear hk a4
  obtain ⟨g,s,N⟩:=q
  obtain ⟨G,aG,V1,T1,B1,S1⟩:=boxes_g g w
  obtain ⟨J,af,ac,a0⟩:=h.var2 B1
  have a7:=Lh af
  have W:=Lh V1
  have aA:=Lh T1
  have ar:=Lh B1
  have aj:=Lh S1
  have ay:=Lh ac
  have aq:=Lh a0
  have a9:J w.heap.size=8:=a0 _ (Nat.le_refl _) (by omega)
  have aa:J (w.heap.size+1)=8:=a0 _ (by omega) (by omega)
  have a2:=Lh a9
  have av:=Lh aa
  have HI:=Lh hok.i
  have aE:=Lh hok.w
  have az:=Lh ao
  clear V1 T1 B1 S1 af ac a0 a9 aa h
  go_enter Tryz.func232,Tryz.ntmps232
  go_upto_region 1 with (fail)
  clear aG
  clear hok ao
  go_wp2_with fail
  have u:Hid (Wc G.drew x s∧Vg G.drew w.heap.size g):=Lh ⟨a7.out.cells.blk rfl,W.out.blk rfl⟩
  have a6:=Lh (a7.out.later (Below.refl _ _).drew)
  refine reg_start 17 (fun w'=>Wc w' x s∧Vg w' w.heap.size g) (by kernel_rfl) (by kernel_rfl) ?_
  intro a8
  have z:=Lh a8
  clear a8
  refine rq 0 z.out u.out rfl ?_
  refine rq 1 z.out u.out rfl ?_
  refine rq 2 z.out u.out rfl ?_
  refine rq 3 z.out u.out rfl ?_ (hv:=fun w' hw=>by (have kc:=hw.1.c8; go_simp; exact rfl))
  refine rq 4 z.out u.out rfl ?_
  refine rq 5 z.out u.out rfl ?_ (hv:=fun w' hw=>by (have kz:=hw.2.cell 2 _ rfl; go_simp; exact rfl))
  refine rq 6 z.out u.out rfl ?_
  refine rq 7 z.out u.out rfl ?_ (hv:=fun w' hw=>by (have kz:=hw.2.cell 3 _ rfl; go_simp; exact rfl))
  refine rq 8 z.out u.out rfl ?_
  refine rq 9 z.out u.out rfl ?_
  refine reg_only 10 rfl (by kernel_rfl) rfl ?_
  unfold Oper.wp
  go_simp
  refine (wnow_any _ u.out.1).mono ?_
  rintro e w4 ⟨rfl,Y⟩
  have a1:=a6.out.later Y
  have ad:Vg w4 w.heap.size g:=W.out.later ((Below.refl _ _).drew.trans Y)
  have F:Wc w4 x s∧Vg w4 w.heap.size g:=⟨a1.cells,ad⟩
  refine ⟨F,?_⟩
  clear u a6
  have u:=Lh F
  have aw:=Lh a1
  have a5:Hid (Below G.heap.size G w4):=Lh ((Below.refl _ _).drew.trans Y)
  clear F a1 ad Y
  refine reg_only 11 rfl (by kernel_rfl) rfl ?_
  unfold Oper.wp
  go_simp
  refine (wswap _ aw.out g.id g.word st s.now HI.out aE.out az.out).mono ?_
  rintro e I ⟨rfl,an,h2,z2,l2⟩
  rw [ax.out,aD.out]
  have z2:Fw J G I:=(Fz.of_below a5.out).trans z2
  have l2:El G J an:=fun k hk=>l2 k (by have:=a5.out.size; omega)
  have F:Wc I x s∧Vg I w.heap.size g:=⟨h2.cells.to rfl rfl rfl rfl rfl rfl rfl rfl rfl rfl rfl,W.out.fw a2.out z2⟩
  refine ⟨F,?_⟩
  clear u
  have u:=Lh F
  clear F
  have al:=Lh h2
  have ah:=Lh z2
  have ai:=Lh l2
  have a3:=Lh (W.out.fw a2.out z2)
  have ak:=Lh (th5_fw aA.out av.out z2)
  clear h2 z2 l2
  refine rq 12 z.out u.out rfl ?_
  refine rq 13 z.out u.out rfl ?_
  refine rq 14 z.out u.out rfl ?_
  refine rq 15 z.out u.out rfl ?_
  refine rq 16 z.out u.out rfl ?_
  refine reg_done (by kernel_rfl) ?_
  have y3:=a3.out.cell 3 _ rfl
  have f3:=th5_free a3.out.th 3 (by decide)
  go_upto_region 5 with (fail)
  have aK:=Lh (a3.out.set3 vb)
  have aJ:Hid ((I.setCell ⟨w.heap.size,3,none⟩ (.int .u64 vb)).there (w.heap.size+1) 0 5):=Lh (th5_blk ak.out (heap_setCell_other _ _ (w.heap.size+1) _ (by simp)))
  have aH:Hid (Fz (fun k=>k=w.heap.size) I (I.setCell ⟨w.heap.size,3,none⟩ (.int .u64 vb))):=Lh (Fz.of_set (C:=fun k=>k=w.heap.size) (a:=⟨w.heap.size,3,none⟩) _ rfl)
  have e0:an w.heap.size=8:=(ai.out _ (by have:=aj.out; omega)).trans a2.out
  have aL:=Lh (al.out.aside aH.out (fun k _ e=>by subst e; exact e0))
  have aI:Hid (Fz (fun k=>(J k≠0∧J k≠8)∨k=w.heap.size) G (I.setCell ⟨w.heap.size,3,none⟩ (.int .u64 vb))):=Lh ((ah.out.mono (fun _ _ e=>.inl e)).trans (aH.out.mono (fun _ _ e=>.inr e)))
  generalize (I.setCell ⟨w.heap.size,3,none⟩ (.int .u64 vb))=w3 at *
  clear y3 f3 u a3 ak al ah e0
  go_wp2_with (first
   | (refine load_g rfl _ rfl w.heap.size rfl { g with word:=vb } aK.out ?_))
  refine (to_any { g with word:=vb } tn _).mono ?_
  rintro e w8 ⟨rfl,b8⟩
  have au:=Lh b8
  have aB:=Lh (th5_later aJ.out b8)
  clear b8
  go_wp2_with (first
   | (refine store_g rfl _ _ rfl (w.heap.size+1) rfl { g with word:=vb,st:=tn } rfl aB.out ?_; intro w9 ae ag; have aC:=Lh ae; have aF:=Lh ag; clear ae ag))
  exact bodyPost_ret (v:=Gv.val { g with word:=vb,st:=tn }) (res_g _ _ (w.heap.size+1) _ Tryz.results232 rfl aC.out) rfl ⟨rfl,give_end3 ay.out ar.out aj.out aq.out aL.out aI.out ai.out au.out aF.out⟩
theorem give_free (h:Wv base col w x q.s) (hok:q.g.ok) (a3:U64 q.s.now):Does 197 w base col x q (swapG q 0 sStash):=by
 have F:=Lh (fun (w:World) (col:Nat→Nat) (h:Wv base col w x q.s)=>give_swap w (q:=q) h hok a3 0 sStash)
 obtain ⟨r,hr⟩:∃ r,swapG q 0 sStash=r:=⟨_,rfl⟩
 unfold Does
 simp only [hr] at F ⊢
 clear hr
 obtain ⟨g,s,N⟩:=q
 obtain ⟨W1,an,W,J,z,I⟩:=boxes_g g w
 obtain ⟨Y,a5,a2,u⟩:=h.var2 z
 have aj:=Lh a5
 have G:=Lh W
 have ag:=Lh J
 have a8:=Lh z
 have af:=Lh I
 have ad:=Lh a2
 have a7:=Lh u
 have a0:Y w.heap.size=8:=u _ (Nat.le_refl _) (by omega)
 have a1:Y (w.heap.size+1)=8:=u _ (by omega) (by omega)
 have a9:=Lh a0
 have aa:=Lh a1
 clear W J z I a5 a2 u a0 a1 h
 go_enter Tryz.func197,Tryz.ntmps197
 go_upto_region 1 with (fail)
 clear an
 clear hok a3
 go_wp2_with (first
  | (refine load_g rfl _ rfl w.heap.size rfl g G.out ?_))
 refine (F.out _ _ aj.out).mono ?_
 rintro e w2 ⟨rfl,aq,h2,z2,l2⟩
 have ak:=Lh h2
 have ac:=Lh z2
 have ae:=Lh l2
 have ao:=Lh (G.out.fw a9.out z2)
 have ah:=Lh (th5_fw ag.out aa.out z2)
 clear h2 z2 l2
 go_wp2_with (first
  | (refine store_g rfl _ _ rfl (w.heap.size+1) rfl r.g rfl ah.out ?_; intro w9 a4 a6; have ai:=Lh a4; have al:=Lh a6; clear a4 a6))
 exact bodyPost_ret (v:=r.g.val) (res_g _ _ (w.heap.size+1) _ Tryz.results197 rfl ai.out) rfl ⟨rfl,give_end ad.out a8.out af.out a7.out ak.out ac.out ae.out (Below.refl _ _) al.out⟩
theorem give_back (h:Wv base col w x q.s) (hok:q.g.ok) (a3:U64 q.s.now):Does 200 w base col x q (swapG q 1 sOffer):=by
 have F:=Lh (fun (w:World) (col:Nat→Nat) (h:Wv base col w x q.s)=>give_swap w (q:=q) h hok a3 1 sOffer)
 obtain ⟨r,hr⟩:∃ r,swapG q 1 sOffer=r:=⟨_,rfl⟩
 unfold Does
 simp only [hr] at F ⊢
 clear hr
 obtain ⟨g,s,N⟩:=q
 obtain ⟨W1,an,W,J,z,I⟩:=boxes_g g w
 obtain ⟨Y,a5,a2,u⟩:=h.var2 z
 have aj:=Lh a5
 have G:=Lh W
 have ag:=Lh J
 have a8:=Lh z
 have af:=Lh I
 have ad:=Lh a2
 have a7:=Lh u
 have a0:Y w.heap.size=8:=u _ (Nat.le_refl _) (by omega)
 have a1:Y (w.heap.size+1)=8:=u _ (by omega) (by omega)
 have a9:=Lh a0
 have aa:=Lh a1
 clear W J z I a5 a2 u a0 a1 h
 go_enter Tryz.func200,Tryz.ntmps200
 go_upto_region 1 with (fail)
 clear an
 clear hok a3
 go_wp2_with (first
  | (refine load_g rfl _ rfl w.heap.size rfl g G.out ?_))
 refine (F.out _ _ aj.out).mono ?_
 rintro e w2 ⟨rfl,aq,h2,z2,l2⟩
 have ak:=Lh h2
 have ac:=Lh z2
 have ae:=Lh l2
 have ao:=Lh (G.out.fw a9.out z2)
 have ah:=Lh (th5_fw ag.out aa.out z2)
 clear h2 z2 l2
 go_wp2_with (first
  | (refine store_g rfl _ _ rfl (w.heap.size+1) rfl r.g rfl ah.out ?_; intro w9 a4 a6; have ai:=Lh a4; have al:=Lh a6; clear a4 a6))
 exact bodyPost_ret (v:=r.g.val) (res_g _ _ (w.heap.size+1) _ Tryz.results200 rfl ai.out) rfl ⟨rfl,give_end ad.out a8.out af.out a7.out ak.out ac.out ae.out (Below.refl _ _) al.out⟩
theorem give_stash (h:Wv base col w x q.s):Does 198 w base col x q (stashG q):=by
 unfold stashG
 obtain ⟨g,s,N⟩:=q
 obtain ⟨u,ay,V1,T1,B1,S1⟩:=boxes_g g w
 obtain ⟨I,a9,a6,W⟩:=h.var2 B1
 have a0:=Lh a9
 have J:=Lh V1
 have an:=Lh T1
 have ad:=Lh B1
 have al:=Lh S1
 have aj:=Lh a6
 have ac:=Lh W
 have a4:I w.heap.size=8:=W _ (Nat.le_refl _) (by omega)
 have a5:I (w.heap.size+1)=8:=W _ (by omega) (by omega)
 have a2:=Lh a4
 have ag:=Lh a5
 clear V1 T1 B1 S1 a9 a6 W a4 a5 h
 go_enter Tryz.func198,Tryz.ntmps198
 go_upto_region 1 with (fail)
 clear ay
 go_wp2_with fail
 have z:Hid (Wc u.drew x s∧Vg u.drew w.heap.size g):=Lh ⟨a0.out.cells.blk rfl,J.out.blk rfl⟩
 have ah:=Lh (a0.out.later (Below.refl _ _).drew)
 refine reg_start 10 (fun w'=>Wc w' x s∧Vg w' w.heap.size g) (by kernel_rfl) (by kernel_rfl) ?_
 intro a3
 have F:=Lh a3
 clear a3
 refine rq 0 F.out z.out rfl ?_
 refine rq 1 F.out z.out rfl ?_
 refine rq 2 F.out z.out rfl ?_
 refine rq 3 F.out z.out rfl ?_ (hv:=fun w' hw=>by (have kc:=hw.1.c9; go_simp; exact rfl))
 refine rq 4 F.out z.out rfl ?_
 refine rq 5 F.out z.out rfl ?_ (hv:=fun w' hw=>by (have kz:=hw.2.cell 0 _ rfl; go_simp; exact rfl))
 refine rq 6 F.out z.out rfl ?_
 refine rq 7 F.out z.out rfl ?_ (hv:=fun w' hw=>by (have kz:=hw.2.cell 2 _ rfl; go_simp; exact rfl))
 refine reg_only 8 rfl (by kernel_rfl) rfl ?_
 unfold Oper.wp
 go_simp
 have hr:=(rd_one (enc:=Value.int .u64) u g.id 25).drew
 have Y:Below u.heap.size u (u.alloc (.cells #[.int .u64 g.id] 25)).drew:=((Below.refl u.heap.size u).alloc (Nat.le_refl _) _).drew
 have a1:=a0.out.later Y
 have a7:(u.alloc (.cells #[.int .u64 g.id] 25)).drew.heap.size=u.heap.size+1:=by simp
 have G:Wc (u.alloc (.cells #[.int .u64 g.id] 25)).drew x s∧Vg (u.alloc (.cells #[.int .u64 g.id] 25)).drew w.heap.size g:=⟨a1.cells,J.out.later Y⟩
 refine ⟨G,?_⟩
 rw [← a7] at hr
 have HR:=Lh hr
 have ae:=Lh Y
 have aw:=Lh a1
 clear z ah hr Y a1 a7
 have z:=Lh G
 clear G
 generalize ((u.alloc (.cells #[.int .u64 g.id] 25)).drew)=w4 at *
 refine reg_only 9 rfl (by kernel_rfl) rfl ?_
 unfold Oper.wp
 go_simp
 refine (wlput w4 aw.out g.th _ 1 1 [g.id] HR.out (by decide)).mono ?_
 rintro e w2 ⟨rfl,h2,z2⟩
 have z2:Fw I u w2:=(Fz.of_below ae.out).trans z2
 have l2:El u I I:=El.refl _ _
 have G:Wc w2 x s∧Vg w2 w.heap.size g:=⟨h2.cells.to rfl rfl rfl rfl rfl rfl rfl rfl rfl rfl rfl,J.out.fw a2.out z2⟩
 refine ⟨G,?_⟩
 clear z
 have z:=Lh G
 clear G
 have av:=Lh h2
 have ai:=Lh z2
 have ak:=Lh l2
 have ar:=Lh (J.out.fw a2.out z2)
 have ao:=Lh (th5_fw an.out ag.out z2)
 clear h2 z2 l2
 refine reg_done (by kernel_rfl) ?_
 go_wp2_with (first
  | (refine load_g rfl _ rfl w.heap.size rfl g ar.out ?_))
 refine (to_any g sAgain _).mono ?_
 rintro e w8 ⟨rfl,b8⟩
 have af:=Lh b8
 have aq:=Lh (th5_later ao.out b8)
 clear b8
 go_wp2_with (first
  | (refine store_g rfl _ _ rfl (w.heap.size+1) rfl { g with st:=sAgain } rfl aq.out ?_; intro w9 a8 aa; have au:=Lh a8; have ax:=Lh aa; clear a8 aa))
 exact bodyPost_ret (v:=Gv.val { g with st:=sAgain }) (res_g _ _ (w.heap.size+1) _ Tryz.results198 rfl au.out) rfl ⟨rfl,give_end aj.out ad.out al.out ac.out av.out ai.out ak.out af.out ax.out⟩
theorem give_offer (h:Wv base col w x q.s) (hM:q.s.M=Le.mk q.N) (hok:q.g.ok):Does 196 w base col x q (offerG q):=by
 unfold offerG
 cases hcl:q.s.closed with
 | true=>
  rw [if_pos (.inl rfl)]
  obtain ⟨g,s,N⟩:=q
  obtain ⟨u,an,V1,T1,Y,S1⟩:=boxes_g g w
  obtain ⟨F,a5,a3,J⟩:=h.var2 Y
  have W:=Lh a5
  have a0:=Lh V1
  have a9:=Lh T1
  have ae:=Lh Y
  have ah:=Lh S1
  have ag:=Lh a3
  have ad:=Lh J
  have a1:F w.heap.size=8:=J _ (Nat.le_refl _) (by omega)
  have a2:F (w.heap.size+1)=8:=J _ (by omega) (by omega)
  have au:=Lh a1
  have av:=Lh a2
  have HI:=Lh hok.i
  clear V1 T1 Y S1 a5 a3 J a1 a2 h
  go_enter Tryz.func196,Tryz.ntmps196
  go_upto_region 1 with (fail)
  clear an
  clear hok hM
  have c15:=W.out.cells.c15
  rw [hcl] at c15
  have c11:=W.out.cells.c11
  have aq:∀ y:After u,y.1.cell? ⟨x.pw,15,none⟩=some (.bool true):=fun y=>y.cell c15
  have ao:∀ y:After u,y.1.cell? ⟨x.pw,11,none⟩=some (ptr x.bk.p):=fun y=>y.cell c11
  have ar:∀ y:After u,y.1.cell? ⟨w.heap.size,2,none⟩=some (.int .u64 g.id):=fun y=>y.cell (a0.out.cell 2 _ rfl)
  clear c15 c11
  go_wp2_with fail
  refine region_after (by kernel_rfl) (by kernel_rfl) ?_
  repeat (go_big_quiet_step (first
   | (go_at_call 230; exact After.same (a8.out _))))
  refine wpQuiet_nil ?_
  rintro W2 ⟨⟨_,I⟩,rfl⟩
  have aa:=Lh (W.out.later I)
  have a7:Hid (Fw F u W2):=Lh (Fz.of_below I)
  have aw:Hid (El u F F):=Lh (El.refl _ _)
  have aj:=Lh (a0.out.later I)
  have ax:=Lh (th5_later a9.out I)
  clear I aq ao ar
  clear hcl
  go_wp2_with (first
   | (refine load_g rfl _ rfl w.heap.size rfl g aj.out ?_))
  refine (to_any g sClose _).mono ?_
  rintro e w8 ⟨rfl,b8⟩
  have af:=Lh b8
  have ai:=Lh (th5_later ax.out b8)
  clear b8
  go_wp2_with (first
   | (refine store_g rfl _ _ rfl (w.heap.size+1) rfl { g with st:=sClose } rfl ai.out ?_; intro w9 a4 a6; have ak:=Lh a4; have al:=Lh a6; clear a4 a6))
  exact bodyPost_ret (v:=Gv.val { g with st:=sClose }) (res_g _ _ (w.heap.size+1) _ Tryz.results196 rfl ak.out) rfl ⟨rfl,give_end ag.out ae.out ah.out ad.out aa.out a7.out aw.out af.out al.out⟩
 | false=>
  obtain ⟨mb,ac⟩:∃ mb,decide (q.g.id∈q.N)=mb:=⟨_,rfl⟩
  cases mb with
  | true=>
   rw [if_pos (.inr (of_decide_eq_true ac))]
   obtain ⟨g,s,N⟩:=q
   obtain ⟨u,an,V1,T1,Y,S1⟩:=boxes_g g w
   obtain ⟨F,a5,a3,J⟩:=h.var2 Y
   have W:=Lh a5
   have a0:=Lh V1
   have a9:=Lh T1
   have ae:=Lh Y
   have ah:=Lh S1
   have ag:=Lh a3
   have ad:=Lh J
   have a1:F w.heap.size=8:=J _ (Nat.le_refl _) (by omega)
   have a2:F (w.heap.size+1)=8:=J _ (by omega) (by omega)
   have au:=Lh a1
   have av:=Lh a2
   have HI:=Lh hok.i
   have a8:Hid (∀ y:After u,Calls Tryz.prog 230 #[ptr x.bk.p,.int .u64 g.id] y.1 fun e w'=>e=.returned (.bool true)∧y.1=w'):=Lh (fun y=>by
    have hb:=(W.out.later y.2).book
    exact Le.marked_any y.1 x.bk s.leak s.L s.M s.T g.id hb hok.i true (by rw [show s.M=Le.mk N from hM,Le.mk_fnd]; exact ac))
   clear V1 T1 Y S1 a5 a3 J a1 a2 h
   go_enter Tryz.func196,Tryz.ntmps196
   go_upto_region 1 with (fail)
   clear an
   clear hok hM ac
   have c15:=W.out.cells.c15
   rw [hcl] at c15
   have c11:=W.out.cells.c11
   have aq:∀ y:After u,y.1.cell? ⟨x.pw,15,none⟩=some (.bool false):=fun y=>y.cell c15
   have ao:∀ y:After u,y.1.cell? ⟨x.pw,11,none⟩=some (ptr x.bk.p):=fun y=>y.cell c11
   have ar:∀ y:After u,y.1.cell? ⟨w.heap.size,2,none⟩=some (.int .u64 g.id):=fun y=>y.cell (a0.out.cell 2 _ rfl)
   clear c15 c11
   go_wp2_with fail
   refine region_after (by kernel_rfl) (by kernel_rfl) ?_
   repeat (go_big_quiet_step (first
    | (go_at_call 230; exact After.same (a8.out _))))
   refine wpQuiet_nil ?_
   rintro W2 ⟨⟨_,I⟩,rfl⟩
   have aa:=Lh (W.out.later I)
   have a7:Hid (Fw F u W2):=Lh (Fz.of_below I)
   have aw:Hid (El u F F):=Lh (El.refl _ _)
   have aj:=Lh (a0.out.later I)
   have ax:=Lh (th5_later a9.out I)
   clear I aq ao ar
   clear hcl a8
   go_wp2_with (first
    | (refine load_g rfl _ rfl w.heap.size rfl g aj.out ?_))
   refine (to_any g sClose _).mono ?_
   rintro e w8 ⟨rfl,b8⟩
   have af:=Lh b8
   have ai:=Lh (th5_later ax.out b8)
   clear b8
   go_wp2_with (first
    | (refine store_g rfl _ _ rfl (w.heap.size+1) rfl { g with st:=sClose } rfl ai.out ?_; intro w9 a4 a6; have ak:=Lh a4; have al:=Lh a6; clear a4 a6))
   exact bodyPost_ret (v:=Gv.val { g with st:=sClose }) (res_g _ _ (w.heap.size+1) _ Tryz.results196 rfl ak.out) rfl ⟨rfl,give_end ag.out ae.out ah.out ad.out aa.out a7.out aw.out af.out al.out⟩
  | false=>
   rw [if_neg (by intro e; rcases e with e | e; cases e; exact of_decide_eq_false ac e)]
   obtain ⟨ft,aI⟩:∃ ft,(St.fillR q.s.sl q.g.id).2.1=ft:=⟨_,rfl⟩
   have aH:=Lh aI
   clear aI
   cases hfb:(St.fillR q.s.sl q.g.id).2.2 with
   | true=>
    have aB:=Lh hfb
    simp only [if_true]
    clear hfb
    obtain ⟨g,s,N⟩:=q
    obtain ⟨u,an,V1,T1,Y,S1⟩:=boxes_g g w
    obtain ⟨F,a5,a3,J⟩:=h.var2 Y
    have W:=Lh a5
    have a0:=Lh V1
    have a9:=Lh T1
    have ae:=Lh Y
    have ah:=Lh S1
    have ag:=Lh a3
    have ad:=Lh J
    have a1:F w.heap.size=8:=J _ (Nat.le_refl _) (by omega)
    have a2:F (w.heap.size+1)=8:=J _ (by omega) (by omega)
    have au:=Lh a1
    have av:=Lh a2
    have HI:=Lh hok.i
    have a8:Hid (∀ y:After u,Calls Tryz.prog 230 #[ptr x.bk.p,.int .u64 g.id] y.1 fun e w'=>e=.returned (.bool false)∧y.1=w'):=Lh (fun y=>by
     have hb:=(W.out.later y.2).book
     exact Le.marked_any y.1 x.bk s.leak s.L s.M s.T g.id hb hok.i false (by rw [show s.M=Le.mk N from hM,Le.mk_fnd]; exact ac))
    clear V1 T1 Y S1 a5 a3 J a1 a2 h
    go_enter Tryz.func196,Tryz.ntmps196
    go_upto_region 1 with (fail)
    clear an
    clear hok hM ac
    have c15:=W.out.cells.c15
    rw [hcl] at c15
    have c11:=W.out.cells.c11
    have aq:∀ y:After u,y.1.cell? ⟨x.pw,15,none⟩=some (.bool false):=fun y=>y.cell c15
    have ao:∀ y:After u,y.1.cell? ⟨x.pw,11,none⟩=some (ptr x.bk.p):=fun y=>y.cell c11
    have ar:∀ y:After u,y.1.cell? ⟨w.heap.size,2,none⟩=some (.int .u64 g.id):=fun y=>y.cell (a0.out.cell 2 _ rfl)
    clear c15 c11
    go_wp2_with fail
    refine region_after (by kernel_rfl) (by kernel_rfl) ?_
    repeat (go_big_quiet_step (first
     | (go_at_call 230; exact After.same (a8.out _))))
    refine wpQuiet_nil ?_
    rintro W2 ⟨⟨_,I⟩,rfl⟩
    have aa:=Lh (W.out.later I)
    have a7:Hid (Fw F u W2):=Lh (Fz.of_below I)
    have aw:Hid (El u F F):=Lh (El.refl _ _)
    have aj:=Lh (a0.out.later I)
    have ax:=Lh (th5_later a9.out I)
    clear I aq ao ar
    clear hcl a8
    go_wp2_with fail
    have z:Hid (Wc W2.drew x s∧Vg W2.drew w.heap.size g):=Lh ⟨aa.out.cells.blk rfl,aj.out.blk rfl⟩
    have az:=Lh (aa.out.later (Below.refl _ _).drew)
    refine reg_start 12 (fun w'=>Wc w' x s∧Vg w' w.heap.size g) (by kernel_rfl) (by kernel_rfl) ?_
    intro ay
    have G:=Lh ay
    clear ay
    refine rq 0 G.out z.out rfl ?_
    refine rq 1 G.out z.out rfl ?_
    refine rq 2 G.out z.out rfl ?_
    refine rq 3 G.out z.out rfl ?_ (hv:=fun w' hw=>by (have kc:=hw.1.c10; go_simp; exact rfl))
    refine rq 4 G.out z.out rfl ?_
    refine rq 5 G.out z.out rfl ?_ (hv:=fun w' hw=>by (have kz:=hw.2.cell 2 _ rfl; go_simp; exact rfl))
    refine reg_only 6 rfl (by kernel_rfl) rfl ?_
    unfold Oper.wp
    go_simp
    refine (wfill _ az.out g.id).mono ?_
    rintro e w3 ⟨rfl,aG,h3,z3,l3⟩
    rw [aB.out,aH.out]
    have z3:Fw F u w3:=a7.out.trans ((Fz.of_below (Below.refl _ _).drew).trans z3)
    have l3:El u F aG:=fun k hk=>l3 k (by have:=a7.out.size; show k < W2.heap.size; omega)
    have hS:Wc w3 x s∧Vg w3 w.heap.size g:=⟨h3.cells.to rfl rfl rfl rfl rfl rfl rfl rfl rfl rfl rfl,a0.out.fw au.out z3⟩
    refine ⟨hS,?_⟩
    clear z
    have z:=Lh hS
    have aF:=Lh h3
    have aA:=Lh z3
    have aC:=Lh l3
    have aE:=Lh hS.2
    have aD:=Lh (th5_fw a9.out av.out z3)
    clear hS h3 z3 l3
    refine rq 7 G.out z.out rfl ?_
    refine rq 8 G.out z.out rfl ?_
    refine rq 9 G.out z.out rfl ?_
    refine rq 10 G.out z.out rfl ?_
    refine rq 11 G.out z.out rfl ?_
    refine reg_done (by kernel_rfl) ?_
    go_wp2_with (first
     | (refine load_g rfl _ rfl w.heap.size rfl g aE.out ?_))
    refine (to_any g sDone _).mono ?_
    rintro e w8 ⟨rfl,b8⟩
    have af:=Lh b8
    have ai:=Lh (th5_later aD.out b8)
    clear b8
    go_wp2_with (first
     | (refine store_g rfl _ _ rfl (w.heap.size+1) rfl { g with st:=sDone } rfl ai.out ?_; intro w9 a4 a6; have ak:=Lh a4; have al:=Lh a6; clear a4 a6))
    exact bodyPost_ret (v:=Gv.val { g with st:=sDone }) (res_g _ _ (w.heap.size+1) _ Tryz.results196 rfl ak.out) rfl ⟨rfl,give_end ag.out ae.out ah.out ad.out aF.out aA.out aC.out af.out al.out⟩
   | false=>
    have aB:=Lh hfb
    simp only [Bool.false_eq_true,if_false]
    clear hfb
    obtain ⟨g,s,N⟩:=q
    obtain ⟨u,an,V1,T1,Y,S1⟩:=boxes_g g w
    obtain ⟨F,a5,a3,J⟩:=h.var2 Y
    have W:=Lh a5
    have a0:=Lh V1
    have a9:=Lh T1
    have ae:=Lh Y
    have ah:=Lh S1
    have ag:=Lh a3
    have ad:=Lh J
    have a1:F w.heap.size=8:=J _ (Nat.le_refl _) (by omega)
    have a2:F (w.heap.size+1)=8:=J _ (by omega) (by omega)
    have au:=Lh a1
    have av:=Lh a2
    have HI:=Lh hok.i
    have a8:Hid (∀ y:After u,Calls Tryz.prog 230 #[ptr x.bk.p,.int .u64 g.id] y.1 fun e w'=>e=.returned (.bool false)∧y.1=w'):=Lh (fun y=>by
     have hb:=(W.out.later y.2).book
     exact Le.marked_any y.1 x.bk s.leak s.L s.M s.T g.id hb hok.i false (by rw [show s.M=Le.mk N from hM,Le.mk_fnd]; exact ac))
    clear V1 T1 Y S1 a5 a3 J a1 a2 h
    go_enter Tryz.func196,Tryz.ntmps196
    go_upto_region 1 with (fail)
    clear an
    clear hok hM ac
    have c15:=W.out.cells.c15
    rw [hcl] at c15
    have c11:=W.out.cells.c11
    have aq:∀ y:After u,y.1.cell? ⟨x.pw,15,none⟩=some (.bool false):=fun y=>y.cell c15
    have ao:∀ y:After u,y.1.cell? ⟨x.pw,11,none⟩=some (ptr x.bk.p):=fun y=>y.cell c11
    have ar:∀ y:After u,y.1.cell? ⟨w.heap.size,2,none⟩=some (.int .u64 g.id):=fun y=>y.cell (a0.out.cell 2 _ rfl)
    clear c15 c11
    go_wp2_with fail
    refine region_after (by kernel_rfl) (by kernel_rfl) ?_
    repeat (go_big_quiet_step (first
     | (go_at_call 230; exact After.same (a8.out _))))
    refine wpQuiet_nil ?_
    rintro W2 ⟨⟨_,I⟩,rfl⟩
    have aa:=Lh (W.out.later I)
    have a7:Hid (Fw F u W2):=Lh (Fz.of_below I)
    have aw:Hid (El u F F):=Lh (El.refl _ _)
    have aj:=Lh (a0.out.later I)
    have ax:=Lh (th5_later a9.out I)
    clear I aq ao ar
    clear hcl a8
    go_wp2_with fail
    have z:Hid (Wc W2.drew x s∧Vg W2.drew w.heap.size g):=Lh ⟨aa.out.cells.blk rfl,aj.out.blk rfl⟩
    have az:=Lh (aa.out.later (Below.refl _ _).drew)
    refine reg_start 12 (fun w'=>Wc w' x s∧Vg w' w.heap.size g) (by kernel_rfl) (by kernel_rfl) ?_
    intro ay
    have G:=Lh ay
    clear ay
    refine rq 0 G.out z.out rfl ?_
    refine rq 1 G.out z.out rfl ?_
    refine rq 2 G.out z.out rfl ?_
    refine rq 3 G.out z.out rfl ?_ (hv:=fun w' hw=>by (have kc:=hw.1.c10; go_simp; exact rfl))
    refine rq 4 G.out z.out rfl ?_
    refine rq 5 G.out z.out rfl ?_ (hv:=fun w' hw=>by (have kz:=hw.2.cell 2 _ rfl; go_simp; exact rfl))
    refine reg_only 6 rfl (by kernel_rfl) rfl ?_
    unfold Oper.wp
    go_simp
    refine (wfill _ az.out g.id).mono ?_
    rintro e w3 ⟨rfl,aG,h3,z3,l3⟩
    rw [aB.out,aH.out]
    have z3:Fw F u w3:=a7.out.trans ((Fz.of_below (Below.refl _ _).drew).trans z3)
    have l3:El u F aG:=fun k hk=>l3 k (by have:=a7.out.size; show k < W2.heap.size; omega)
    have hS:Wc w3 x s∧Vg w3 w.heap.size g:=⟨h3.cells.to rfl rfl rfl rfl rfl rfl rfl rfl rfl rfl rfl,a0.out.fw au.out z3⟩
    refine ⟨hS,?_⟩
    clear z
    have z:=Lh hS
    have aF:=Lh h3
    have aA:=Lh z3
    have aC:=Lh l3
    have aE:=Lh hS.2
    have aD:=Lh (th5_fw a9.out av.out z3)
    clear hS h3 z3 l3
    refine rq 7 G.out z.out rfl ?_
    refine rq 8 G.out z.out rfl ?_
    refine rq 9 G.out z.out rfl ?_
    refine rq 10 G.out z.out rfl ?_
    refine rq 11 G.out z.out rfl ?_
    refine reg_done (by kernel_rfl) ?_
    go_wp2_with (first
     | (refine load_g rfl _ rfl w.heap.size rfl g aE.out ?_))
    refine (to_any g sFree _).mono ?_
    rintro e w8 ⟨rfl,b8⟩
    have af:=Lh b8
    have ai:=Lh (th5_later aD.out b8)
    clear b8
    go_wp2_with (first
     | (refine store_g rfl _ _ rfl (w.heap.size+1) rfl { g with st:=sFree } rfl ai.out ?_; intro w9 a4 a6; have ak:=Lh a4; have al:=Lh a6; clear a4 a6))
    exact bodyPost_ret (v:=Gv.val { g with st:=sFree }) (res_g _ _ (w.heap.size+1) _ Tryz.results196 rfl ak.out) rfl ⟨rfl,give_end ag.out ae.out ah.out ad.out aF.out aA.out aC.out af.out al.out⟩
def fnR (v:Value):Option (DataW Unit × List MemPlace):=match v with
 | .func (.func K) first cap=>if first.size=0∧cap.size=0 then some (.lit (.int .u64 ((K:Int)+1)),[]) else none
 | .nilFunc=>some (.lit (.int .u64 0),[])
 | _=>none
theorem fnR_inv {v:Value} {n:Nat} {ps:List MemPlace} (h:fnR v=some (.lit (.int .u64 ((n:Int)+1)),ps)):v=.func (.func n) #[] #[]:=by
 unfold fnR at h
 split at h
 ·next K first cap=>
  split at h
  ·next u=>
   simp only [Option.some.injEq,Prod.mk.injEq,DataW.lit.injEq,Lit.int.injEq,true_and] at h
   have e:K=n:=by
    have:=congrArg (fun z:Int=>z - 1) h.1
    simp at this
    exact Int.ofNat_inj.1 this
   subst e
   rw [Array.eq_empty_of_size_eq_zero u.1,Array.eq_empty_of_size_eq_zero u.2]
  ·cases h
 ·simp only [Option.some.injEq,Prod.mk.injEq,DataW.lit.injEq,Lit.int.injEq,true_and] at h
  exact absurd h.1 (Int.ne_of_lt (Int.lt_add_one_of_le (Int.natCast_nonneg n)))
 ·cases h
theorem fnR_nil {v:Value} {ps:List MemPlace} (h:fnR v=some (.lit (.int .u64 0),ps)):v=.nilFunc:=by
 unfold fnR at h
 split at h
 ·next K first cap=>
  split at h
  ·simp only [Option.some.injEq,Prod.mk.injEq,DataW.lit.injEq,Lit.int.injEq,true_and] at h
   exact absurd h.1 (Int.ne_of_gt (Int.lt_add_one_of_le (Int.natCast_nonneg K)))
  ·cases h
 ·rfl
 ·cases h
theorem insert_own {ops:Array Oper} {rest:List Oper} {o:Oper} {a:Act} {Q:Exit→Act→World→Prop} (w:World)
  (z:o.guard=none) (m x v:Operand) (t:TypeId) (I:o.op=Op.insert t m x v)
  (k e:TypeId) (K:Keyed Tryz.prog k) (Y:Tryz.prog.underlying t=some (.map k e)) (b n:Nat) (D:DataW Unit)
  (G:a.eval m=.map (some b)) (J:w.ownsMap Tryz.prog k fnR b n D) (hn:n < maxLen) (key val:Value) (kl:Lit) (hx:a.eval x=key) (hv:a.eval v=val) (F:keyOf Tryz.prog k key=some kl)
  (d:DataW Unit) (ps:List MemPlace) (a0:fnR val=some (d,ps))
  (h:∀ w',w'.ownsMap Tryz.prog k fnR b (n+1) (D.put kl d)→w.grownBy w' (some b)→wpList Tryz.prog ops Q rest (a.put o.dst undef) w') :
  wpList Tryz.prog ops Q (o :: rest) a w:=by
 refine wpList_plain z fun K' u=>?_
 obtain ⟨w',W,r1,r2⟩:=J.update K Y hn F a0
 unfold Oper.wp
 simp [execOp,I,G,hx,hv,W,Result.andThen]
 exact u _ _ (h w' r1 r2)
def actD:DataW Unit:=(DataW.put (DataW.put (DataW.put (DataW.put (DataW.put (DataW.put (DataW.put (DataW.put (.map [] : DataW Unit) (.string [111,102,102,101,114]) (.lit (.int .u64 ((196:Nat)+1:Int)))) (.string [102,114,101,101]) (.lit (.int .u64 ((197:Nat)+1:Int)))) (.string [115,116,97,115,104]) (.lit (.int .u64 ((198:Nat)+1:Int)))) (.string [97,103,97,105,110]) (.lit (.int .u64 ((199:Nat)+1:Int)))) (.string [98,97,99,107]) (.lit (.int .u64 ((200:Nat)+1:Int)))) (.string [99,108,111,115,101]) (.lit (.int .u64 ((201:Nat)+1:Int)))) (.string [117,110,108,105,115,116]) (.lit (.int .u64 ((202:Nat)+1:Int)))) (.string [115,104,114,105,110,107]) (.lit (.int .u64 ((203:Nat)+1:Int))))
theorem lawS:Keyed Tryz.prog 9:=string_keyed Tryz.underlying9
theorem grown_low {w w' z:World} {r:Nat} (h:Below w.heap.size w w') (u:w'.grownBy z (some r)) (F:w.heap.size≤r):Below w.heap.size w z:=
 h.trans ⟨u.os,u.tape,u.output,u.size,fun k hk=>u.block k (Nat.lt_of_lt_of_le hk h.size) (fun e=>by injection e with e; omega)⟩
theorem acts_any (w:World):Calls Tryz.prog 176 #[] w fun e w'=>∃ m,e=.returned (.map (some m))∧(∃ n,w'.ownsMap Tryz.prog 9 fnR m n actD)∧Below w.heap.size w w':=by
 have au:=@run_makeMap Tryz.prog
 have hk:∀ s:ByteArray,s.size≤maxLen→keyOf Tryz.prog 9 (.string s)=some (.string s.data.toList):=fun s hs=>WideMaps.keyOf_string_mk Tryz.underlying9 hs
 go_enter Tryz.func176,Tryz.ntmps176
 have h:Hid (Below w.heap.size w (w.alloc (.map #[] 0))):=Lh ((Below.refl _ _).alloc (Nat.le_refl _) _)
 have Y:Hid ((w.alloc (.map #[] 0)).ownsMap Tryz.prog 9 fnR w.heap.size 0 (.map [] : DataW Unit)):=Lh (World.ownsMap_made w _ _ _)
 go_wp2_with (first
  | (refine insert_own (w.alloc (.map #[] 0)) rfl _ _ _ _ rfl 9 257 lawS Tryz.underlying258 w.heap.size 0 _ rfl Y.out (by decide) _ _ _ rfl rfl (hk _ (by decide)) (.lit (.int .u64 ((196:Nat)+1:Int))) [] rfl ?_; intro v1 ag a7; have a0:=Lh ag; have u:=Lh (grown_low h.out a7 (Nat.le_refl _)); clear ag a7 Y h)
  | (refine insert_own v1 rfl _ _ _ _ rfl 9 257 lawS Tryz.underlying258 w.heap.size 1 _ rfl a0.out (by decide) _ _ _ rfl rfl (hk _ (by decide)) (.lit (.int .u64 ((197:Nat)+1:Int))) [] rfl ?_; intro v2 ah a8; have a1:=Lh ah; have z:=Lh (grown_low u.out a8 (Nat.le_refl _)); clear ah a8 a0 u)
  | (refine insert_own v2 rfl _ _ _ _ rfl 9 257 lawS Tryz.underlying258 w.heap.size 2 _ rfl a1.out (by decide) _ _ _ rfl rfl (hk _ (by decide)) (.lit (.int .u64 ((198:Nat)+1:Int))) [] rfl ?_; intro v3 ai a9; have a2:=Lh ai; have F:=Lh (grown_low z.out a9 (Nat.le_refl _)); clear ai a9 a1 z)
  | (refine insert_own v3 rfl _ _ _ _ rfl 9 257 lawS Tryz.underlying258 w.heap.size 3 _ rfl a2.out (by decide) _ _ _ rfl rfl (hk _ (by decide)) (.lit (.int .u64 ((199:Nat)+1:Int))) [] rfl ?_; intro v4 aj aa; have a3:=Lh aj; have G:=Lh (grown_low F.out aa (Nat.le_refl _)); clear aj aa a2 F)
  | (refine insert_own v4 rfl _ _ _ _ rfl 9 257 lawS Tryz.underlying258 w.heap.size 4 _ rfl a3.out (by decide) _ _ _ rfl rfl (hk _ (by decide)) (.lit (.int .u64 ((200:Nat)+1:Int))) [] rfl ?_; intro v5 ak ac; have a4:=Lh ak; have I:=Lh (grown_low G.out ac (Nat.le_refl _)); clear ak ac a3 G)
  | (refine insert_own v5 rfl _ _ _ _ rfl 9 257 lawS Tryz.underlying258 w.heap.size 5 _ rfl a4.out (by decide) _ _ _ rfl rfl (hk _ (by decide)) (.lit (.int .u64 ((201:Nat)+1:Int))) [] rfl ?_; intro v6 al ad; have a5:=Lh al; have J:=Lh (grown_low I.out ad (Nat.le_refl _)); clear al ad a4 I)
  | (refine insert_own v6 rfl _ _ _ _ rfl 9 257 lawS Tryz.underlying258 w.heap.size 6 _ rfl a5.out (by decide) _ _ _ rfl rfl (hk _ (by decide)) (.lit (.int .u64 ((202:Nat)+1:Int))) [] rfl ?_; intro v7 an ae; have a6:=Lh an; have W:=Lh (grown_low J.out ae (Nat.le_refl _)); clear an ae a5 J)
  | (refine insert_own v7 rfl _ _ _ _ rfl 9 257 lawS Tryz.underlying258 w.heap.size 7 _ rfl a6.out (by decide) _ _ _ rfl rfl (hk _ (by decide)) (.lit (.int .u64 ((203:Nat)+1:Int))) [] rfl ?_; intro v8 ao af; have ar:=Lh ao; have aq:=Lh (grown_low W.out af (Nat.le_refl _)); clear ao af a6 W))
 go_wp2_with fail
 go_ret
 exact ⟨_,rfl,⟨_,ar.out⟩,aq.out⟩
theorem eq_fn (w:World) (h:Fn) (first cap:Array Value):(binOp .eql 257 (.func h first cap) .nilFunc).run Tryz.prog w=.ok (.bool false) w:=by kernel_rfl
theorem eq_nil (w:World):(binOp .eql 257 .nilFunc .nilFunc).run Tryz.prog w=.ok (.bool true) w:=by kernel_rfl
theorem zero_fn (w:World):(zeroValue 257).run Tryz.prog w=.ok .nilFunc w:=by kernel_rfl
theorem give_act {r:Gw} (f:FuncId) (h:Wv base col w x q.s) (a6:actD.atKey (.string q.g.st.data.toList) (.lit (.int .u64 0))=.lit (.int .u64 ((f:Nat)+1:Int))) (ac:q.g.st.size≤maxLen)
  (hK:∀ w,(callFunc f #[q.g.val,ptr x.pw]).run Tryz.prog w=.ok (.enter f #[q.g.val,ptr x.pw]) w)
  (hD:∀ (W:World) (col:Nat→Nat),Wv base col W x q.s→Does f W base col x q r):Does 124 w base col x q r:=by
 have a3:=Lh hD
 clear hD
 unfold Does at a3 ⊢
 have aq:=Lh a6
 have HZ:=Lh ac
 obtain ⟨g,s,N⟩:=q
 obtain ⟨z,aD,V1,T1,Y,S1⟩:=boxes_g g w
 obtain ⟨F,ae,a9,I⟩:=h.var2 Y
 have ay:=Lh ae
 have a4:=Lh V1
 have ar:=Lh T1
 have ah:=Lh Y
 have ao:=Lh S1
 have al:=Lh a9
 have ag:=Lh I
 have a7:F w.heap.size=8:=I _ (Nat.le_refl _) (by omega)
 have a8:F (w.heap.size+1)=8:=I _ (by omega) (by omega)
 have aF:=Lh a7
 have ai:=Lh a8
 clear V1 T1 Y S1 ae a9 I a7 a8 h
 go_enter Tryz.func124,Tryz.ntmps124
 go_upto_region 1 with (fail)
 clear aD
 clear a6 ac
 go_wp2_with fail
 have u:Hid (Vg z.drew w.heap.size g):=Lh (a4.out.blk rfl)
 refine reg_start 5 (fun w'=>Vg w' w.heap.size g) (by kernel_rfl) (by kernel_rfl) ?_
 intro a5
 have a0:=Lh a5
 clear a5
 refine rq 1 a0.out u.out rfl ?_
 refine rq 2 a0.out u.out rfl ?_ (hv:=fun w' hw=>by (have kz:=hw.cell 4 _ rfl; go_simp; exact rfl))
 refine reg_only 0 rfl (by kernel_rfl) rfl ?_
 unfold Oper.wp
 go_simp
 refine (acts_any _).mono ?_
 rintro e J ⟨m,rfl,⟨n,aa⟩,b2⟩
 have a1:Below z.heap.size z J:=(Below.refl _ _).drew.trans b2
 have hS:Vg J w.heap.size g:=a4.out.later a1
 refine ⟨hS,?_⟩
 clear u
 have u:=Lh hS
 obtain ⟨fv,ps,aE,a2⟩:=aa.lookup lawS Tryz.underlying258 (zero_fn J) (show fnR .nilFunc=some (.lit (.int .u64 0),[]) from rfl) (WideMaps.keyOf_string_mk Tryz.underlying9 HZ.out)
 rw [aq.out] at a2
 obtain rfl:=fnR_inv a2
 have G:=Lh a1
 clear hS aa b2 a1 a2
 refine reg_only 3 rfl (by kernel_rfl) rfl ?_
 unfold Oper.wp
 go_simp
 refine ⟨u.out,?_⟩
 clear aE
 refine rq 4 a0.out u.out rfl ?_
 refine reg_done (by kernel_rfl) ?_
 have az:=Lh (ay.out.later G.out)
 have aw:=Lh u.out
 have au:=Lh (th5_later ar.out G.out)
 have aj:Hid (Fw F z J):=Lh (Fz.of_below G.out)
 have aG:Hid (El z F F):=Lh (El.refl _ _)
 clear u
 have aH:=eq_fn
 have aI:=eq_nil
 go_wp2_with (first
  | (refine load_g rfl _ rfl w.heap.size rfl g aw.out ?_))
 refine (a3.out _ _ az.out).mono ?_
 rintro e w3 ⟨rfl,aC,h3,z3,l3⟩
 have aA:=Lh h3
 have ak:=Lh (aj.out.trans z3)
 have an:Hid (El z F aC):=Lh (fun k hk=>l3 k (by have:=G.out.size; omega))
 have av:=Lh (th5_fw au.out ai.out z3)
 clear h3 z3 l3
 go_wp2_with (first
  | (refine store_g rfl _ _ rfl (w.heap.size+1) rfl r.g rfl av.out ?_; intro w9 ad af; have ax:=Lh ad; have aB:=Lh af; clear ad af))
 exact bodyPost_ret (v:=r.g.val) (res_g _ _ (w.heap.size+1) _ Tryz.results124 rfl ax.out) rfl ⟨rfl,give_end al.out ah.out ao.out ag.out aA.out ak.out an.out (Below.refl _ _) aB.out⟩
theorem give_none (h:Wv base col w x q.s) (a4:actD.atKey (.string q.g.st.data.toList) (.lit (.int .u64 0))=.lit (.int .u64 0)) (a9:q.g.st.size≤maxLen):Does 124 w base col x q ⟨{ q.g with st:=sDone },q.s,q.N⟩:=by
 have al:=Lh a4
 have HZ:=Lh a9
 obtain ⟨g,s,N⟩:=q
 obtain ⟨z,ay,V1,T1,J,S1⟩:=boxes_g g w
 obtain ⟨F,ac,a7,G⟩:=h.var2 J
 have av:=Lh ac
 have a2:=Lh V1
 have an:=Lh T1
 have af:=Lh J
 have ak:=Lh S1
 have ai:=Lh a7
 have ae:=Lh G
 have a5:F w.heap.size=8:=G _ (Nat.le_refl _) (by omega)
 have a6:F (w.heap.size+1)=8:=G _ (by omega) (by omega)
 have aA:=Lh a5
 have aB:=Lh a6
 clear V1 T1 J S1 ac a7 G a5 a6 h
 go_enter Tryz.func124,Tryz.ntmps124
 go_upto_region 1 with (fail)
 clear ay
 clear a4 a9
 go_wp2_with fail
 have u:Hid (Vg z.drew w.heap.size g):=Lh (a2.out.blk rfl)
 refine reg_start 5 (fun w'=>Vg w' w.heap.size g) (by kernel_rfl) (by kernel_rfl) ?_
 intro a3
 have Y:=Lh a3
 clear a3
 refine rq 1 Y.out u.out rfl ?_
 refine rq 2 Y.out u.out rfl ?_ (hv:=fun w' hw=>by (have kz:=hw.cell 4 _ rfl; go_simp; exact rfl))
 refine reg_only 0 rfl (by kernel_rfl) rfl ?_
 unfold Oper.wp
 go_simp
 refine (acts_any _).mono ?_
 rintro e I ⟨m,rfl,⟨n,a8⟩,b2⟩
 have a0:Below z.heap.size z I:=(Below.refl _ _).drew.trans b2
 have hS:Vg I w.heap.size g:=a2.out.later a0
 refine ⟨hS,?_⟩
 clear u
 have u:=Lh hS
 obtain ⟨fv,ps,az,a1⟩:=a8.lookup lawS Tryz.underlying258 (zero_fn I) (show fnR .nilFunc=some (.lit (.int .u64 0),[]) from rfl) (WideMaps.keyOf_string_mk Tryz.underlying9 HZ.out)
 rw [al.out] at a1
 obtain rfl:=fnR_nil a1
 have W:=Lh a0
 clear hS a8 b2 a0 a1
 refine reg_only 3 rfl (by kernel_rfl) rfl ?_
 unfold Oper.wp
 go_simp
 refine ⟨u.out,?_⟩
 clear az
 refine rq 4 Y.out u.out rfl ?_
 refine reg_done (by kernel_rfl) ?_
 have aw:=Lh (av.out.later W.out)
 have ar:=Lh u.out
 have ao:=Lh (th5_later an.out W.out)
 have ah:Hid (Fw F z I):=Lh (Fz.of_below W.out)
 have aj:Hid (El z F F):=Lh (El.refl _ _)
 clear u
 have aC:=eq_fn
 have aD:=eq_nil
 go_wp2_with (first
  | (refine load_g rfl _ rfl w.heap.size rfl g ar.out ?_))
 refine (to_any g sDone _).mono ?_
 rintro e w8 ⟨rfl,b8⟩
 have ag:=Lh b8
 have aq:=Lh (th5_later ao.out b8)
 clear b8
 go_wp2_with (first
  | (refine store_g rfl _ _ rfl (w.heap.size+1) rfl { g with st:=sDone } rfl aq.out ?_; intro w9 aa ad; have au:=Lh aa; have ax:=Lh ad; clear aa ad))
 exact bodyPost_ret (v:=Gv.val { g with st:=sDone }) (res_g _ _ (w.heap.size+1) _ Tryz.results124 rfl au.out) rfl ⟨rfl,give_end ai.out af.out ak.out ae.out aw.out ah.out aj.out ag.out ax.out⟩
theorem give_step (h:Wv base col w x q.s) (G:q.s.M=Le.mk q.N) (hok:q.g.ok) (F:U64 q.s.now) (a1:q.s.sl.length≤1000) (J:q.s.C.length < 1000) (a0:q.s.ev.length≤1000) (Y:q.s.S.length≤1000000) (I:0≤q.s.live∧q.s.live≤1000000)
  (a2:q.g.st=sOffer∨q.g.st=sFree∨q.g.st=sStash∨q.g.st=sAgain∨q.g.st=sBack∨q.g.st=sClose∨q.g.st=sUnlist∨q.g.st=sShrink∨q.g.st=sDone):Does 124 w base col x q (stepG q):=by
 rcases a2 with e | e | e | e | e | e | e | e | e
 ·rw [stepG_offer e]
  exact give_act w 196 h (by rw [e]; kernel_rfl) (by rw [e]; decide) (enters_of Tryz.func196 (by kernel_rfl) rfl _) (fun W z u=>give_offer W u G hok)
 ·rw [stepG_free e]
  exact give_act w 197 h (by rw [e]; kernel_rfl) (by rw [e]; decide) (enters_of Tryz.func197 (by kernel_rfl) rfl _) (fun W z u=>give_free W u hok F)
 ·rw [stepG_stash e]
  exact give_act w 198 h (by rw [e]; kernel_rfl) (by rw [e]; decide) (enters_of Tryz.func198 (by kernel_rfl) rfl _) (fun W z u=>give_stash W u)
 ·rw [stepG_again e]
  exact give_act w 199 h (by rw [e]; kernel_rfl) (by rw [e]; decide) (enters_of Tryz.func199 (by kernel_rfl) rfl _) (fun W z u=>give_again W u a1)
 ·rw [stepG_back e]
  exact give_act w 200 h (by rw [e]; kernel_rfl) (by rw [e]; decide) (enters_of Tryz.func200 (by kernel_rfl) rfl _) (fun W z u=>give_back W u hok F)
 ·rw [stepG_close e]
  exact give_act w 201 h (by rw [e]; kernel_rfl) (by rw [e]; decide) (enters_of Tryz.func201 (by kernel_rfl) rfl _) (fun W z u=>give_shut W u G hok F J a0)
 ·rw [stepG_unlist e]
  exact give_act w 202 h (by rw [e]; kernel_rfl) (by rw [e]; decide) (enters_of Tryz.func202 (by kernel_rfl) rfl _) (fun W z u=>give_unlist W u hok Y)
 ·rw [stepG_shrink e]
  exact give_act w 203 h (by rw [e]; kernel_rfl) (by rw [e]; decide) (enters_of Tryz.func203 (by kernel_rfl) rfl _) (fun W z u=>give_shrink W u I.1 I.2)
 ·have:=give_none w h (by rw [e]; kernel_rfl) (by rw [e]; decide)
  unfold stepG
  rw [e,if_neg (by decide),if_neg (by decide),if_neg (by decide),if_neg (by decide),if_neg (by decide),if_neg (by decide),if_neg (by decide),if_neg (by decide)]
  exact this
end
structure Gi (q:Gw) (k:Nat):Prop where
 mk_:q.s.M=Le.mk q.N
 ok:q.g.ok
 nw:U64 q.s.now
 sl:q.s.sl.length≤900
 cl:q.s.C.length≤k
 el:q.s.ev.length≤k
 S:q.s.S.length≤900
 lv:0≤q.s.live∧q.s.live≤1000
 st:q.g.st=sOffer∨q.g.st=sFree∨q.g.st=sStash∨q.g.st=sAgain∨q.g.st=sBack∨q.g.st=sClose∨q.g.st=sUnlist∨q.g.st=sShrink∨q.g.st=sDone
theorem bV_ok {D:List (Int × Ex)} {id old st:Int} (h:bK D id old st=true) (u:U64 old):U64 (bV D id old st):=by
 unfold bK at h
 unfold bV
 cases hf:fnd D id with
 | none=>rw [hf] at h; cases h
 | some x=>
  rw [hf] at h
  have h:Wd.wSwapOk x.word old st=true:=h
  have e:x.word=old:=by
   unfold Wd.wSwapOk at h
   rw [Bool.and_eq_true,decide_eq_true_eq] at h
   exact h.1
  show U64 (Wd.wSwap x.word old st)
  rw [e]
  exact ⟨Wd.wSwap_lo _ _ _ u.1,Wd.wSwap_hi _ _ _ u.2⟩
section
variable {q:Gw} {k:Nat}
theorem Gi.swap (h:Gi q k) (st:Int) (t:ByteArray) (u:t=sStash∨t=sOffer):Gi (swapG q st t) (k+1):=by
 have z:=h.cl
 have F:=h.el
 unfold swapG
 split
 ·next hk=>
  refine ⟨h.mk_,⟨h.ok.i,bV_ok hk h.ok.w⟩,h.nw,h.sl,by show q.s.C.length≤k+1; omega,by show q.s.ev.length≤k+1; omega,h.S,h.lv,?_⟩
  rcases u with rfl | rfl
  ·exact .inr (.inr (.inl rfl))
  ·exact .inl rfl
 ·exact ⟨h.mk_,⟨h.ok.i,h.ok.w⟩,h.nw,h.sl,by show q.s.C.length≤k+1; omega,by show q.s.ev.length≤k+1; omega,h.S,h.lv,.inr (.inr (.inr (.inr (.inr (.inr (.inr (.inr rfl)))))))⟩
theorem Gi.step (h:Gi q k):Gi (stepG q) (k+1):=by
 have F:=h.cl
 have G:=h.el
 have J:=h.lv
 have I:=St.fillR_len q.s.sl q.g.id
 rcases h.st with e | e | e | e | e | e | e | e | e
 ·rw [stepG_offer e]
  unfold offerG
  split
  ·exact ⟨h.mk_,⟨h.ok.i,h.ok.w⟩,h.nw,h.sl,by show q.s.C.length≤k+1; omega,by show q.s.ev.length≤k+1; omega,h.S,h.lv,.inr (.inr (.inr (.inr (.inr (.inl rfl)))))⟩
  ·split
   ·exact ⟨h.mk_,⟨h.ok.i,h.ok.w⟩,h.nw,by have:=h.sl; show (St.fillR q.s.sl q.g.id).1.length≤900; omega,by show q.s.C.length≤k+1; omega,by show q.s.ev.length≤k+1; omega,h.S,h.lv,.inr (.inr (.inr (.inr (.inr (.inr (.inr (.inr rfl)))))))⟩
   ·exact ⟨h.mk_,⟨h.ok.i,h.ok.w⟩,h.nw,by have:=h.sl; show (St.fillR q.s.sl q.g.id).1.length≤900; omega,by show q.s.C.length≤k+1; omega,by show q.s.ev.length≤k+1; omega,h.S,h.lv,.inr (.inl rfl)⟩
 ·rw [stepG_free e]; exact h.swap 0 sStash (.inl rfl)
 ·rw [stepG_stash e]
  exact ⟨h.mk_,⟨h.ok.i,h.ok.w⟩,h.nw,h.sl,by show q.s.C.length≤k+1; omega,by show q.s.ev.length≤k+1; omega,h.S,h.lv,.inr (.inr (.inr (.inl rfl)))⟩
 ·rw [stepG_again e]
  refine ⟨h.mk_,⟨h.ok.i,h.ok.w⟩,h.nw,h.sl,by show q.s.C.length≤k+1; omega,by show q.s.ev.length≤k+1; omega,h.S,h.lv,?_⟩
  have key:(againG q).g.st=sBack∨(againG q).g.st=sDone:=by
   show (if q.s.closed=true∨0 < St.waitN q.s.sl then sBack else sDone)=sBack∨(if q.s.closed=true∨0 < St.waitN q.s.sl then sBack else sDone)=sDone
   split
   ·exact .inl rfl
   ·exact .inr rfl
  rcases key with u | u
  ·exact .inr (.inr (.inr (.inr (.inl u))))
  ·exact .inr (.inr (.inr (.inr (.inr (.inr (.inr (.inr u)))))))
 ·rw [stepG_back e]; exact h.swap 1 sOffer (.inr rfl)
 ·rw [stepG_close e]
  unfold closeG
  split
  ·refine ⟨rfl,⟨h.ok.i,h.ok.w⟩,h.nw,h.sl,?_,?_,h.S,h.lv,.inr (.inr (.inr (.inr (.inr (.inr (.inl rfl))))))⟩
   ·show (clsC q.s.n q.s.C q.g.id).length≤k+1
    unfold clsC; split
    ·rw [List.length_append]; simp; omega
    ·omega
   ·show (q.s.ev ++ [_]).length≤k+1
    rw [List.length_append]; simp; omega
  ·exact ⟨h.mk_,⟨h.ok.i,h.ok.w⟩,h.nw,h.sl,by show q.s.C.length≤k+1; omega,by show q.s.ev.length≤k+1; omega,h.S,h.lv,.inr (.inr (.inr (.inr (.inr (.inr (.inl rfl))))))⟩
 ·rw [stepG_unlist e]
  refine ⟨h.mk_,⟨h.ok.i,h.ok.w⟩,h.nw,h.sl,by show q.s.C.length≤k+1; omega,by show q.s.ev.length≤k+1; omega,?_,h.lv,.inr (.inr (.inr (.inr (.inr (.inr (.inr (.inl rfl)))))))⟩
  show (unlS q.s.D q.s.S q.g.id).length≤900
  have:=h.S
  unfold unlS; split
  ·have z:(Sn.sWithout q.s.S q.g.id).length≤q.s.S.length:=List.length_filter_le _ _
   omega
  ·exact this
 ·rw [stepG_shrink e]
  refine ⟨h.mk_,⟨h.ok.i,h.ok.w⟩,h.nw,h.sl,by show q.s.C.length≤k+1; omega,by show q.s.ev.length≤k+1; omega,h.S,?_,.inr (.inr (.inr (.inr (.inr (.inr (.inr (.inr rfl)))))))⟩
  show 0≤shrV q.s.live∧shrV q.s.live≤1000
  unfold shrV; split <;> omega
 ·rw [stepG_done e]
  exact ⟨h.mk_,⟨h.ok.i,h.ok.w⟩,h.nw,h.sl,by omega,by omega,h.S,h.lv,.inr (.inr (.inr (.inr (.inr (.inr (.inr (.inr e)))))))⟩
theorem Gi.it (h:Gi q 0):∀ k,Gi (itG k q) k
 | 0=>h
 | k+1=>(h.it k).step
end
theorem give_run (w:World) {base:Nat} {col:Nat→Nat} {x:Wp} {q:Gw} {k:Nat} (h:Wv base col w x q.s) (hi:Gi q k) (hk:k≤900):Does 124 w base col x q (stepG q):=
 give_step w h hi.mk_ hi.ok hi.nw (by have:=hi.sl; omega) (by have:=hi.cl; omega) (by have:=hi.el; omega) (by have:=hi.S; omega) ⟨hi.lv.1,by have:=hi.lv.2; omega⟩ hi.st
end Go.Proofs.YtoiklelghfckgaaGreatDoor.Wo
