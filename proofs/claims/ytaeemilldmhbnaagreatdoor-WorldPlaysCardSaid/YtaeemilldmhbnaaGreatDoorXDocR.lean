/- A part of the claim: the texts DocR. -/
import Derived.Test.YtaeemilldmhbnaaGreatDoorXDocNew
import Derived.Test.YtaeemilldmhbnaaGreatDoorXGSlots
import Derived.Test.YtaeemilldmhbnaaGreatDoorXGTwo
set_option maxRecDepth 100000
set_option maxHeartbeats 8000000
set_option linter.unusedVariables false
namespace Go.Proofs.YtaeemilldmhbnaaGreatDoor.Wo
open Go Go.ChangeShapes Go.WideShapes Go.ChangeAt Go.RowKit Go.Deep Go.Maps Rw Hi Mt Ba
open Cn (Cf cfE)
section
variable {K:Nat→Prop} (w:World) (v:Dv) (s:Ws) (N:List Int)
theorem dwanted_any (h:Dw K w v s N) (hl:s.sl.length≤1000) :
  Calls Tryz.prog 19 #[v.val s] w fun e w'=>e=.returned (.bool (s.closed || decide (0 < St.waitN s.sl)))∧Below w.heap.size w w':=by
 obtain ⟨W1,a3,G,z,S1⟩:=box_w (v.cells s) w rfl
 have W:=Lh (h.later z)
 have F:=Lh z
 have a1:=G.cell 22 _ rfl
 have a2:=G.cell 11 _ rfl
 obtain ⟨m,J⟩:∃ m,St.waitN s.sl=m:=⟨_,rfl⟩
 have u:=St.rwaiting_any v.sA v.sn v.sc _ s.sl W1 W.out.sl (Nat.le_refl _)
 rw [J] at u
 rw [J]
 have u:=Lh u
 obtain ⟨cl,I⟩:∃ cl,s.closed=cl:=⟨_,rfl⟩
 rw [I] at a1
 rw [I]
 clear G z h J I W
 cases cl with
 | true=>
  go_enter Tryz.func19,Tryz.ntmps19
  go_wp2_with fail
  go_ret
  exact ⟨rfl,F.out⟩
 | false=>
  go_enter Tryz.func19,Tryz.ntmps19
  go_wp2_with fail
  refine u.out.mono ?_
  rintro e w2 ⟨rfl,Y⟩
  have a0:=Lh (F.out.trans (Y.mono F.out.size))
  clear Y u
  go_wp2_with fail
  go_ret
  exact ⟨by simp,a0.out⟩
theorem drem_no (h:Dw K w v s N) (a2:∀ g,w.heap.size≤g→K g) (id old th op:Int) (hid:U64 id) (ak:Nd s.D) (hn:s.D.length≤1000) (hu:∀ q∈s.D,U64 q.2.word) (ho:U64 old) (hk:bK s.D id old 3=false) :
  Calls Tryz.prog 63 #[v.val s,.int .u64 id,.int .u64 old,.int .i64 th,.int .i64 op] w fun e w'=>e=.returned (.tuple #[v.val s,.bool false])∧Dw K w' v s N∧Below w.heap.size w w':=by
 have aa:=Lh h
 obtain ⟨W1,aj,V1,T1,G,S1⟩:=boxes_w (v.cells s) w rfl
 obtain ⟨d1,k1⟩:=start_w h a2 G S1
 have ac:=Lh d1
 have ao:=Lh k1
 have W:=Lh V1
 have a1:=Lh T1
 have I:=Lh G
 obtain ⟨bv,a3⟩:∃ bv,bV s.D id old 3=bv:=⟨_,rfl⟩
 have z:=dswap_any W1 v s N d1 k1 id old 3 ak hn hu ho (by decide)
 rw [hk,a3] at z
 have z:=Lh z
 have HU:=Lh hid
 clear V1 T1 G d1 k1 h a2 a3 hk hu hid
 go_enter Tryz.func63,Tryz.ntmps63
 go_upto_region 1 with (fail)
 clear aj
 go_wp2_with (first | (refine load_w rfl _ rfl w.heap.size rfl v s W.out ?_))
 refine z.out.mono ?_
 rintro e u ⟨v2,rfl,a4,F⟩
 have an:=Lh a4
 have af:=Lh (W.out.later F)
 have ad:=Lh (th_later a1.out F)
 have Y:=Lh (I.out.trans (F.mono I.out.size))
 have al:=F.size
 have aq:Hid (w.heap.size+2≤u.heap.size∧W1.heap.size≤u.heap.size):=Lh (by omega)
 clear a4 F ac W a1 I z al S1
 go_upto_region 2 with (first | (refine store_w rfl _ _ rfl u.heap.size rfl v2 { s with D:=up s.D id (exS old 3 s.now) } rfl (th_zero u) ?_; intro w3 a5 a7; have ar:=Lh a5; have J:Hid (Below u.heap.size u w3):=Lh (((Below.refl _ u).alloc (Nat.le_refl _) _).trans (a7.below (by simp) (fun k hk=>by omega))); clear a5 a7))
 have ag:=Lh (af.out.later J.out)
 have ae:=Lh (th_later ad.out J.out)
 have a9:=Lh (Y.out.trans (J.out.mono Y.out.size))
 go_wp2_with (first
  | (refine load_w rfl _ rfl w.heap.size rfl v s ag.out ?_)
  | (refine store_w rfl _ _ rfl (w.heap.size+1) rfl v s rfl ae.out ?_; intro w9 a6 a8; have ah:=Lh a6; have ai:=Lh a8; clear a6 a8))
 have a0:Hid (Below w.heap.size w w9):=Lh (fz_low (fz1 ai.out (.inr rfl)) a9.out)
 exact bodyPost_ret (v:=.tuple #[v.val s,.bool false]) (res_w2 _ _ (w.heap.size+1) _ _ Tryz.results63 rfl ah.out) rfl ⟨rfl,aa.out.later a0.out,a0.out⟩
theorem drem_yes (h:Dw K w v s N) (bc:∀ g,w.heap.size≤g→K g) (id old th op:Int) (hid:U64 id) (bO:Nd s.D) (hn:s.D.length≤1000) (hu:∀ q∈s.D,U64 q.2.word) (ho:U64 old) (bP:s.n≤1000) (hN:N.length≤1000) (bR:s.ev.length≤1000) (hk:bK s.D id old 3=true) :
  Calls Tryz.prog 63 #[v.val s,.int .u64 id,.int .u64 old,.int .i64 th,.int .i64 op] w fun e w'=>∃ v':Dv,e=.returned (.tuple #[v'.val (remS s N id old th op),.bool true])∧Dw K w' v' (remS s N id old th op) (N.filter (· != id))∧Below w.heap.size w w':=by
 obtain ⟨W1,bN,V1,T1,B1,S1⟩:=boxes_w (v.cells s) w rfl
 obtain ⟨d1,k1⟩:=start_w h bc B1 S1
 have bq:=Lh d1
 have aX:=Lh k1
 have aA:=Lh V1
 have aY:=Lh T1
 have ag:=Lh B1
 obtain ⟨bv,bd⟩:∃ bv,bV s.D id old 3=bv:=⟨_,rfl⟩
 have a8:=dswap_any W1 v s N d1 k1 id old 3 bO hn hu ho (by decide)
 rw [hk,bd] at a8
 have a8:=Lh a8
 have HU:=Lh hid
 clear V1 T1 B1 d1 k1 h bc bd hk hu hid
 go_enter Tryz.func63,Tryz.ntmps63
 go_upto_region 1 with (fail)
 clear bN
 go_wp2_with (first | (refine load_w rfl _ rfl w.heap.size rfl v s aA.out ?_))
 refine a8.out.mono ?_
 rintro e w2 ⟨u,rfl,be,b2⟩
 have aN:=Lh be
 have bz:=Lh (aA.out.later b2)
 have aZ:=Lh (th_later aY.out b2)
 have ah:=Lh (ag.out.trans (b2.mono ag.out.size))
 have bQ:=b2.size
 have aw:Hid (w.heap.size+2≤w2.heap.size∧W1.heap.size≤w2.heap.size):=Lh (by omega)
 clear be b2 bq aA aY ag a8 bQ S1
 go_upto_region 2 with (first | (refine store_w rfl _ _ rfl w2.heap.size rfl u { s with D:=up s.D id (exS old 3 s.now) } rfl (th_zero w2) ?_; intro w3 bj bo; have a1:=Lh bj; have a7:Hid (Below w2.heap.size w2 w3):=Lh (((Below.refl _ w2).alloc (Nat.le_refl _) _).trans (bo.below (by simp) (fun k hk=>by omega))); clear bj bo))
 obtain ⟨z,aM⟩:∃ r,w2.heap.size=r:=⟨_,rfl⟩
 have ai:=Lh (ah.out.trans (a7.out.mono ah.out.size))
 have b0:=Lh (th_later aZ.out a7.out)
 have ar:Hid (Dw (fun g=>Ks K w g∧g≠z) w3 u { s with D:=up s.D id (exS old 3 s.now) } N):=Lh ((aN.out.mono (fun g hg hk=>⟨hk,by omega⟩)).later a7.out)
 have au:Hid (∀ g,w3.heap.size≤g→(fun g=>Ks K w g∧g≠z) g):=Lh (fun g hg=>⟨aX.out g (by have:=aw.out; have:=a7.out.size; have:=a1.out.lt; omega),by have:=a1.out.lt; omega⟩)
 have a4:Hid (w.heap.size+2≤z):=Lh (by have:=aw.out; omega)
 rw [aM] at a1
 rw [aM]
 clear aM bz aZ ah a7 aN aX aw
 have aF:=a1.out.cell 16 _ rfl
 have aG:=a1.out.cell 17 _ rfl
 have aH:=a1.out.cell 18 _ rfl
 go_wp2_with fail
 refine (Fk.rclose_any (K:=(fun g=>Ks K w g∧g≠z)) (u.fact s.n) s.n s.O s.P s.C id w3 ar.out.fact bP HU.out au.out).mono ?_
 rintro e J ⟨vf,rfl,aK,b4⟩
 obtain ⟨F,G,c1,A2,n2,c2,A3,c3,S9,rfl,-⟩:=aK.form
 have aS:=Lh aK
 have b8:=Lh (a1.out.later b4)
 have b3:=Lh (th_later b0.out b4)
 have aq:Hid (Below w.heap.size w J):=Lh (ai.out.trans (b4.mono ai.out.size))
 have aO:=Lh (ar.out.later b4)
 have aT:Hid (∀ g,J.heap.size≤g→(fun g=>Ks K w g∧g≠z) g):=Lh (fun g hg=>au.out g (by have:=b4.size; omega))
 obtain ⟨kc,bh⟩:∃ kc,Fc.kn s.n s.C id 10=kc:=⟨_,rfl⟩
 rw [bh]
 clear aK b4 aF aG aH a1 b0 ai ar au bh
 go_upto_region 5 with (fail)
 have a3:Below J.heap.size J (J.alloc (.cells #[.slice F G c1,.slice A2 n2 c2,.slice A3 s.n c3] 48)):=(Below.refl _ _).alloc (Nat.le_refl _) _
 have a2:=Lh (b8.out.later a3)
 have ax:=Lh (th_later b3.out a3)
 have aj:Hid (Below w.heap.size w (J.alloc (.cells #[.slice F G c1,.slice A2 n2 c2,.slice A3 s.n c3] 48))):=Lh (aq.out.trans (a3.mono aq.out.size))
 have aP:Hid (Dw (fun g=>Ks K w g∧g≠z) (J.alloc (.cells #[.slice F G c1,.slice A2 n2 c2,.slice A3 s.n c3] 48)) { u with fA:=F,fn:=G,fc:=c1,pA:=A2,pn:=n2,pc:=c2,cA:=A3,cc:=c3 } { s with D:=up s.D id (exS old 3 s.now),C:=clsC s.n s.C id } N):=Lh (by
  have I:=aO.out.later a3
  exact ⟨I.bag,I.loc,I.sl,I.sk,I.book,aS.out.below a3,I.hist,I.hk,I.l8⟩)
 have y0:(J.alloc (.cells #[.slice F G c1,.slice A2 n2 c2,.slice A3 s.n c3] 48)).cell? ⟨J.heap.size,0,none⟩=some (.slice F G c1):=by go_simp
 have y1:(J.alloc (.cells #[.slice F G c1,.slice A2 n2 c2,.slice A3 s.n c3] 48)).cell? ⟨J.heap.size,1,none⟩=some (.slice A2 n2 c2):=by go_simp
 have y2:(J.alloc (.cells #[.slice F G c1,.slice A2 n2 c2,.slice A3 s.n c3] 48)).cell? ⟨J.heap.size,2,none⟩=some (.slice A3 s.n c3):=by go_simp
 have aU:Hid (∀ g,(J.alloc (.cells #[.slice F G c1,.slice A2 n2 c2,.slice A3 s.n c3] 48)).heap.size≤g→(fun g=>Ks K w g∧g≠z) g):=Lh (fun g hg=>aT.out g (by have:=a3.size; omega))
 clear a3 b8 b3 aq aO aS aT
 generalize (J.alloc (.cells #[.slice F G c1,.slice A2 n2 c2,.slice A3 s.n c3] 48))=W5 at *
 generalize J.heap.size=x4 at *
 have aF:=a2.out.cell 16 _ rfl
 have bG:=a2.out.free 16 (by decide)
 have aG:=a2.out.cell 17 _ rfl
 have bH:=a2.out.free 17 (by decide)
 have aH:=a2.out.cell 18 _ rfl
 have bI:=a2.out.free 18 (by decide)
 go_upto_region 6 with (fail)
 have a5:Hid (Vw (((W5.setCell ⟨z,16,none⟩ (.slice F G c1)).setCell ⟨z,17,none⟩ (.slice A2 n2 c2)).setCell ⟨z,18,none⟩ (.slice A3 s.n c3)) z (Dv.cells { u with fA:=F,fn:=G,fc:=c1,pA:=A2,pn:=n2,pc:=c2,cA:=A3,cc:=c3 } { s with D:=up s.D id (exS old 3 s.now),C:=clsC s.n s.C id })):=Lh (((a2.out.set 16 (by simp [cells_len]) (.slice F G c1)).set 17 (by simp [cells_len]) (.slice A2 n2 c2)).set 18 (by simp [cells_len]) (.slice A3 s.n c3))
 have a9:Hid (Fz (fun k=>k=z) W5 (((W5.setCell ⟨z,16,none⟩ (.slice F G c1)).setCell ⟨z,17,none⟩ (.slice A2 n2 c2)).setCell ⟨z,18,none⟩ (.slice A3 s.n c3))):=Lh ((((Fz.refl _ W5:Fz (fun k=>k=z) W5 W5).trans (Fz.of_set (a:=⟨z,16,none⟩) (.slice F G c1) rfl)).trans (Fz.of_set (a:=⟨z,17,none⟩) (.slice A2 n2 c2) rfl)).trans (Fz.of_set (a:=⟨z,18,none⟩) (.slice A3 s.n c3) rfl))
 generalize (((W5.setCell ⟨z,16,none⟩ (.slice F G c1)).setCell ⟨z,17,none⟩ (.slice A2 n2 c2)).setCell ⟨z,18,none⟩ (.slice A3 s.n c3))=W6 at *
 clear a2 aF bG aG bH aH bI y0 y1 y2
 have ac:Hid (Dw (fun g=>Ks K w g∧g≠z) W6 { u with fA:=F,fn:=G,fc:=c1,pA:=A2,pn:=n2,pc:=c2,cA:=A3,cc:=c3 } { s with D:=up s.D id (exS old 3 s.now),C:=clsC s.n s.C id } N):=Lh (aP.out.fz a9.out (fun g _ hk e=>hk.2 e))
 have b5:=Lh (th_blk ax.out (a9.out.block _ (th_lt ax.out) (fun e=>by have:=a4.out; omega)))
 have ak:Hid (Below w.heap.size w W6):=Lh (aj.out.trans (a9.out.below aj.out.size (fun k hk=>by have:=a4.out; omega)))
 have av:Hid (∀ g,W6.heap.size≤g→(fun g=>Ks K w g∧g≠z) g):=Lh (fun g hg=>aU.out g (by have:=a9.out.size; omega))
 clear aP ax aj aU a9
 have aB:=a5.out.cell 12 _ rfl
 have aC:=a5.out.cell 13 _ rfl
 have aD:=a5.out.cell 14 _ rfl
 have aE:=a5.out.cell 15 _ rfl
 go_wp2_with fail
 refine (Le.rforget_any (K:=(fun g=>Ks K w g∧g≠z)) s.leak u.k.A u.k.A2 u.k.A3 u.k.n u.k.c u.k.n2 u.k.c2 u.k.n3 u.k.c3 s.L N s.T W6 id ac.out.book av.out (by have q:=ac.out.book.m.len; have q:N.length=u.k.n2:=q; omega)).mono ?_
 rintro e w7 ⟨W,c7,rfl,bg,-,b7⟩
 have a0:=Lh (a5.out.later b7)
 have ay:=Lh (th_later b5.out b7)
 have al:=Lh (ak.out.trans (b7.mono ak.out.size))
 have aQ:Hid (Dw (fun g=>Ks K w g∧g≠z) w7 { u with fA:=F,fn:=G,fc:=c1,pA:=A2,pn:=n2,pc:=c2,cA:=A3,cc:=c3,k:=⟨u.k.A,u.k.n,u.k.c,W,(N.filter (· != id)).length,c7,u.k.A3,u.k.n3,u.k.c3⟩ } { s with D:=up s.D id (exS old 3 s.now),C:=clsC s.n s.C id,M:=Le.mk (N.filter (· != id)) } (N.filter (· != id))):=Lh (by
  have I:=ac.out.later b7
  exact ⟨I.bag,I.loc,I.sl,I.sk,bg,I.fact,I.hist,I.hk,I.l8⟩)
 have aV:Hid (∀ g,w7.heap.size≤g→(fun g=>Ks K w g∧g≠z) g):=Lh (fun g hg=>av.out g (by have:=b7.size; omega))
 clear bg b7 aB aC aD aE a5 b5 ak ac av
 have aB:=a0.out.cell 12 _ rfl
 have bA:=a0.out.free 12 (by decide)
 have aC:=a0.out.cell 13 _ rfl
 have bB:=a0.out.free 13 (by decide)
 have aD:=a0.out.cell 14 _ rfl
 have bC:=a0.out.free 14 (by decide)
 have aE:=a0.out.cell 15 _ rfl
 have bD:=a0.out.free 15 (by decide)
 go_upto_region 7 with (fail)
 have ae:Hid (Vw ((((w7.setCell ⟨z,12,none⟩ (.int .u64 s.leak)).setCell ⟨z,13,none⟩ (.slice u.k.A u.k.n u.k.c)).setCell ⟨z,14,none⟩ (.slice W (N.filter (· != id)).length c7)).setCell ⟨z,15,none⟩ (.slice u.k.A3 u.k.n3 u.k.c3)) z (Dv.cells { u with fA:=F,fn:=G,fc:=c1,pA:=A2,pn:=n2,pc:=c2,cA:=A3,cc:=c3,k:=⟨u.k.A,u.k.n,u.k.c,W,(N.filter (· != id)).length,c7,u.k.A3,u.k.n3,u.k.c3⟩ } { s with D:=up s.D id (exS old 3 s.now),C:=clsC s.n s.C id,M:=Le.mk (N.filter (· != id)) })):=Lh ((((a0.out.set 12 (by simp [cells_len]) (.int .u64 s.leak)).set 13 (by simp [cells_len]) (.slice u.k.A u.k.n u.k.c)).set 14 (by simp [cells_len]) (.slice W (N.filter (· != id)).length c7)).set 15 (by simp [cells_len]) (.slice u.k.A3 u.k.n3 u.k.c3))
 have aa:Hid (Fz (fun k=>k=z) w7 ((((w7.setCell ⟨z,12,none⟩ (.int .u64 s.leak)).setCell ⟨z,13,none⟩ (.slice u.k.A u.k.n u.k.c)).setCell ⟨z,14,none⟩ (.slice W (N.filter (· != id)).length c7)).setCell ⟨z,15,none⟩ (.slice u.k.A3 u.k.n3 u.k.c3))):=Lh (((((Fz.refl _ w7:Fz (fun k=>k=z) w7 w7).trans (Fz.of_set (a:=⟨z,12,none⟩) (.int .u64 s.leak) rfl)).trans (Fz.of_set (a:=⟨z,13,none⟩) (.slice u.k.A u.k.n u.k.c) rfl)).trans (Fz.of_set (a:=⟨z,14,none⟩) (.slice W (N.filter (· != id)).length c7) rfl)).trans (Fz.of_set (a:=⟨z,15,none⟩) (.slice u.k.A3 u.k.n3 u.k.c3) rfl))
 generalize ((((w7.setCell ⟨z,12,none⟩ (.int .u64 s.leak)).setCell ⟨z,13,none⟩ (.slice u.k.A u.k.n u.k.c)).setCell ⟨z,14,none⟩ (.slice W (N.filter (· != id)).length c7)).setCell ⟨z,15,none⟩ (.slice u.k.A3 u.k.n3 u.k.c3))=W8 at *
 clear a0 aB bA aC bB aD bC aE bD
 have ad:Hid (Dw (fun g=>Ks K w g∧g≠z) W8 { u with fA:=F,fn:=G,fc:=c1,pA:=A2,pn:=n2,pc:=c2,cA:=A3,cc:=c3,k:=⟨u.k.A,u.k.n,u.k.c,W,(N.filter (· != id)).length,c7,u.k.A3,u.k.n3,u.k.c3⟩ } { s with D:=up s.D id (exS old 3 s.now),C:=clsC s.n s.C id,M:=Le.mk (N.filter (· != id)) } (N.filter (· != id))):=Lh (aQ.out.fz aa.out (fun g _ hk e=>hk.2 e))
 have b6:=Lh (th_blk ay.out (aa.out.block _ (th_lt ay.out) (fun e=>by have:=a4.out; omega)))
 have an:Hid (Below w.heap.size w W8):=Lh (al.out.trans (aa.out.below al.out.size (fun k hk=>by have:=a4.out; omega)))
 have aW:Hid (∀ g,W8.heap.size≤g→(fun g=>Ks K w g∧g≠z) g):=Lh (fun g hg=>aV.out g (by have:=aa.out.size; omega))
 clear aQ ay al aV aa
 have aI:=ae.out.cell 19 _ rfl
 have aJ:=ae.out.cell 20 _ rfl
 go_wp2_with fail
 refine (Hi.radd_any u.hA u.hn u.hc s.ev s.step th 3 op id 0 W8 ad.out.hist (by have:=ad.out.hist.len; have:s.ev.length=u.hn:=this; omega)).mono ?_
 rintro e w9 ⟨Y,c8,rfl,aL,b9⟩
 have a6:=Lh (ae.out.later b9)
 have az:=Lh (th_later b6.out b9)
 have ao:=Lh (an.out.trans (b9.mono an.out.size))
 have aR:Hid (Dw (fun g=>Ks K w g∧g≠z) w9 { u with fA:=F,fn:=G,fc:=c1,pA:=A2,pn:=n2,pc:=c2,cA:=A3,cc:=c3,k:=⟨u.k.A,u.k.n,u.k.c,W,(N.filter (· != id)).length,c7,u.k.A3,u.k.n3,u.k.c3⟩,hA:=Y,hn:=u.hn+1,hc:=c8 } (remS s N id old th op) (N.filter (· != id))):=Lh (by
  have I:=ad.out.later b9
  refine ⟨I.bag,I.loc,I.sl,I.sk,I.book,I.fact,Rs.own_rs Hi.encE_len ?_ aL,Kn.own aL aW.out,I.l8⟩
  have:=I.hist.len
  have:s.ev.length=u.hn:=this
  show (s.ev ++ [_]).length=u.hn+1
  simp [this])
 clear aL b9 aI aJ ae b6 an ad aW
 have aI:=a6.out.cell 19 _ rfl
 have bJ:=a6.out.free 19 (by decide)
 have aJ:=a6.out.cell 20 _ rfl
 have bM:=a6.out.free 20 (by decide)
 go_upto_region 8 with (fail)
 have bu:Hid (Vw ((w9.setCell ⟨z,19,none⟩ (.int .u64 s.step)).setCell ⟨z,20,none⟩ (.slice Y (u.hn+1) c8)) z (Dv.cells { u with fA:=F,fn:=G,fc:=c1,pA:=A2,pn:=n2,pc:=c2,cA:=A3,cc:=c3,k:=⟨u.k.A,u.k.n,u.k.c,W,(N.filter (· != id)).length,c7,u.k.A3,u.k.n3,u.k.c3⟩,hA:=Y,hn:=u.hn+1,hc:=c8 } (remS s N id old th op))):=Lh ((a6.out.set 19 (by simp [cells_len]) (.int .u64 s.step)).set 20 (by simp [cells_len]) (.slice Y (u.hn+1) c8))
 have af:Hid (Fz (fun k=>k=z) w9 ((w9.setCell ⟨z,19,none⟩ (.int .u64 s.step)).setCell ⟨z,20,none⟩ (.slice Y (u.hn+1) c8))):=Lh (((Fz.refl _ w9:Fz (fun k=>k=z) w9 w9).trans (Fz.of_set (a:=⟨z,19,none⟩) (.int .u64 s.step) rfl)).trans (Fz.of_set (a:=⟨z,20,none⟩) (.slice Y (u.hn+1) c8) rfl))
 generalize ((w9.setCell ⟨z,19,none⟩ (.int .u64 s.step)).setCell ⟨z,20,none⟩ (.slice Y (u.hn+1) c8))=bb at *
 clear a6 aI bJ aJ bM
 have br:Hid (Dw (fun g=>Ks K w g∧g≠z) bb { u with fA:=F,fn:=G,fc:=c1,pA:=A2,pn:=n2,pc:=c2,cA:=A3,cc:=c3,k:=⟨u.k.A,u.k.n,u.k.c,W,(N.filter (· != id)).length,c7,u.k.A3,u.k.n3,u.k.c3⟩,hA:=Y,hn:=u.hn+1,hc:=c8 } (remS s N id old th op) (N.filter (· != id))):=Lh (aR.out.fz af.out (fun g _ hk e=>hk.2 e))
 have bt:=Lh (th_blk az.out (af.out.block _ (th_lt az.out) (fun e=>by have:=a4.out; omega)))
 have bp:Hid (Below w.heap.size w bb):=Lh (ao.out.trans (af.out.below ao.out.size (fun k hk=>by have:=a4.out; omega)))
 clear aR az ao af
 go_wp2_with (first
  | (refine load_w rfl _ rfl z rfl { u with fA:=F,fn:=G,fc:=c1,pA:=A2,pn:=n2,pc:=c2,cA:=A3,cc:=c3,k:=⟨u.k.A,u.k.n,u.k.c,W,(N.filter (· != id)).length,c7,u.k.A3,u.k.n3,u.k.c3⟩,hA:=Y,hn:=u.hn+1,hc:=c8 } (remS s N id old th op) bu.out ?_)
  | (refine store_w rfl _ _ rfl (w.heap.size+1) rfl { u with fA:=F,fn:=G,fc:=c1,pA:=A2,pn:=n2,pc:=c2,cA:=A3,cc:=c3,k:=⟨u.k.A,u.k.n,u.k.c,W,(N.filter (· != id)).length,c7,u.k.A3,u.k.n3,u.k.c3⟩,hA:=Y,hn:=u.hn+1,hc:=c8 } (remS s N id old th op) rfl bt.out ?_; intro bS bi bn; have bw:=Lh bi; have ba:=Lh bn; clear bi bn))
 exact bodyPost_ret (v:=.tuple #[Dv.val { u with fA:=F,fn:=G,fc:=c1,pA:=A2,pn:=n2,pc:=c2,cA:=A3,cc:=c3,k:=⟨u.k.A,u.k.n,u.k.c,W,(N.filter (· != id)).length,c7,u.k.A3,u.k.n3,u.k.c3⟩,hA:=Y,hn:=u.hn+1,hc:=c8 } (remS s N id old th op),.bool true]) (res_w2 _ _ (w.heap.size+1) _ _ Tryz.results63 rfl bw.out) rfl ⟨{ u with fA:=F,fn:=G,fc:=c1,pA:=A2,pn:=n2,pc:=c2,cA:=A3,cc:=c3,k:=⟨u.k.A,u.k.n,u.k.c,W,(N.filter (· != id)).length,c7,u.k.A3,u.k.n3,u.k.c3⟩,hA:=Y,hn:=u.hn+1,hc:=c8 },rfl,end_w (br.out.mono (fun g _ hk=>hk.1)) (fz1 ba.out (.inr rfl)),fz_low (fz1 ba.out (.inr rfl)) bp.out⟩
end
end Go.Proofs.YtaeemilldmhbnaaGreatDoor.Wo
