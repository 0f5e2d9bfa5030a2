/- A part of the claim: the texts DocR. -/
import Derived.Test.YtaeemilldmhbnaaGreatDoorZDocNew
import Derived.Test.YtaeemilldmhbnaaGreatDoorZGSlots
import Derived.Test.YtaeemilldmhbnaaGreatDoorZGTwo
set_option maxRecDepth 100000
set_option maxHeartbeats 8000000
set_option linter.unusedVariables false
namespace Go.Proofs.YtaeemilldmhbnaaGreatDoor.Wo
open Go Go.ChangeShapes Go.WideShapes Go.ChangeAt Go.RowKit Go.Deep Go.Maps Rw Hi Mt Ba
open Cn (Cf cfE)
theorem new1_kn {K:Nat→Prop} {w w':World} {A A':Option Addr} {n z c F:Nat} {xs ys:List St.Sx} (h:Rs St.enc3 3 w w.heap.size A n c xs) (Y:Rs St.enc3 3 w' w'.heap.size A' z F ys) (hn:St.New1 w w' (.slice A n c) (.slice A' z F)) (hk:Kn K n A) (Q:0 < z→0 < n) (a0:∀ g,w.heap.size≤g→K g):Kn K z A':=by
 intro G a e
 obtain ⟨b',o',I,a1⟩:=rs_at Y G
 have W:(Value.slice A' z F).ownBlock=some b':=own_at I
 rw [I] at e; injection e with e; subst e
 rcases hn with u | u
 ·obtain ⟨b,o,J,_⟩:=rs_at h (Q G)
  have ho:(Value.slice A n c).ownBlock=some b:=own_at J
  rw [W,ho] at u
  injection u with u
  subst u
  have q:=hk (Q G) _ J
  exact q
 ·exact a0 _ (u b' W).1
theorem rfillK_any (w:World) {K:Nat→Prop} (Q:∀ g,w.heap.size≤g→K g) (A:Option Addr) (n c:Nat) (l:List St.Sx) (i:Int) (hk:Kn K n A) (h:Rs St.enc3 3 w w.heap.size A n c l) (hn:n≤1000) :
  Calls Tryz.prog 99 #[.slice A n c,.int .u64 i] w fun e w'=>∃ A' u z,e=.returned (.tuple #[.slice A' u z,.int .i64 (St.fillR l i).2.1,.bool (St.fillR l i).2.2])∧Rs St.enc3 3 w' w'.heap.size A' u z (St.fillR l i).1∧Kn K u A'∧Below w.heap.size w w':=
 (St.rfillU A n c l i w h hn).mono fun e w' ⟨A',u,z,G,F,I,J⟩=>⟨A',u,z,G,F,new1_kn h F I hk (fun hp=>by have W:=F.len; have Y:=h.len; have:=St.fillR_len l i; omega) Q,J⟩
section
variable {K:Nat→Prop} (w:World) (v:Dv) (s:Ws) (N:List Int)
theorem dwanted_any (h:Dw K w v s N) (hl:s.sl.length≤1000) :
  Calls Tryz.prog 19 #[v.val s] w fun e w'=>e=.returned (.bool (s.closed || decide (0 < St.waitN s.sl)))∧Below w.heap.size w w':=by
 obtain ⟨W1,a2,G,z,S1⟩:=box_w (v.cells s) w rfl
 have Q:=Lh (h.later z)
 have F:=Lh z
 have a0:=G.cell 22 _ rfl
 have a1:=G.cell 11 _ rfl
 obtain ⟨m,J⟩:∃ m,St.waitN s.sl=m:=⟨_,rfl⟩
 have u:=St.rwaiting_any v.sA v.sn v.sc _ s.sl W1 Q.out.sl (Nat.le_refl _)
 rw [J] at u
 rw [J]
 have u:=Lh u
 obtain ⟨cl,I⟩:∃ cl,s.closed=cl:=⟨_,rfl⟩
 rw [I] at a0
 rw [I]
 clear G z h J I Q
 cases cl with
 | true=>
  go_enter Tryz.func19,Tryz.ntmps19
  go_wp2_with fail
  go_ret
  exact ⟨rfl,F.out⟩
 | false=>
  go_enter Tryz.func19,Tryz.ntmps19
  go_wp2_with fail
  refine u.out.mono ?_
  rintro e w2 ⟨rfl,W⟩
  have Y:=Lh (F.out.trans (W.mono F.out.size))
  clear W u
  go_wp2_with fail
  go_ret
  exact ⟨by simp,Y.out⟩
theorem drem_no (h:Dw K w v s N) (a2:∀ g,w.heap.size≤g→K g) (id old th op:Int) (hid:U64 id) (ak:Nd s.D) (hn:s.D.length≤1000) (hu:∀ q∈s.D,U64 q.2.word) (ho:U64 old) (hk:bK s.D id old 3=false) :
  Calls Tryz.prog 63 #[v.val s,.int .u64 id,.int .u64 old,.int .i64 th,.int .i64 op] w fun e w'=>e=.returned (.tuple #[v.val s,.bool false])∧Dw K w' v s N∧Below w.heap.size w w':=by
 have aa:=Lh h
 obtain ⟨W1,aj,V1,T1,G,S1⟩:=boxes_w (v.cells s) w rfl
 obtain ⟨W,k1⟩:=start_w h a2 G S1
 have ac:=Lh W
 have ao:=Lh k1
 have Q:=Lh V1
 have a1:=Lh T1
 have I:=Lh G
 obtain ⟨bv,a3⟩:∃ bv,bV s.D id old 3=bv:=⟨_,rfl⟩
 have z:=dswap_any W1 v s N W k1 id old 3 ak hn hu ho (by decide)
 rw [hk,a3] at z
 have z:=Lh z
 have HU:=Lh hid
 clear V1 T1 G W k1 h a2 a3 hk hu hid
 go_enter Tryz.func63,Tryz.ntmps63
 go_upto_region 1 with (fail)
 clear aj
 go_wp2_with (first | (refine load_w rfl _ rfl w.heap.size rfl v s Q.out ?_))
 refine z.out.mono ?_
 rintro e u ⟨v2,rfl,a4,F⟩
 have an:=Lh a4
 have af:=Lh (Q.out.later F)
 have ad:=Lh (th_later a1.out F)
 have Y:=Lh (I.out.trans (F.mono I.out.size))
 have al:=F.size
 have aq:Hid (w.heap.size+2≤u.heap.size∧W1.heap.size≤u.heap.size):=Lh (by omega)
 clear a4 F ac Q a1 I z al S1
 go_upto_region 2 with (first | (refine store_w rfl _ _ rfl u.heap.size rfl v2 { s with D:=up s.D id (exS old 3 s.now) } rfl (th_zero u) ?_; intro w3 a5 a7; have ar:=Lh a5; have J:Hid (Below u.heap.size u w3):=Lh (((Below.refl _ u).alloc (Nat.le_refl _) _).trans (a7.below (by simp) (fun k hk=>by omega))); clear a5 a7))
 have ag:=Lh (af.out.later J.out)
 have ae:=Lh (th_later ad.out J.out)
 have a9:=Lh (Y.out.trans (J.out.mono Y.out.size))
 go_wp2_with (first
  | (refine load_w rfl _ rfl w.heap.size rfl v s ag.out ?_)
  | (refine store_w rfl _ _ rfl (w.heap.size+1) rfl v s rfl ae.out ?_; intro w9 a6 a8; have ah:=Lh a6; have ai:=Lh a8; clear a6 a8))
 have a0:Hid (Below w.heap.size w w9):=Lh (fz_low (fz1 ai.out (.inr rfl)) a9.out)
 exact bodyPost_ret (v:=.tuple #[v.val s,.bool false]) (res_w2 _ _ (w.heap.size+1) _ _ Tryz.results63 rfl ah.out) rfl ⟨rfl,aa.out.later a0.out,a0.out⟩
theorem drem_yes (h:Dw K w v s N) (bb:∀ g,w.heap.size≤g→K g) (id old th op:Int) (hid:U64 id) (bO:Nd s.D) (hn:s.D.length≤1000) (hu:∀ q∈s.D,U64 q.2.word) (ho:U64 old) (bP:s.n≤1000) (hN:N.length≤1000) (bR:s.ev.length≤1000) (hk:bK s.D id old 3=true) :
  Calls Tryz.prog 63 #[v.val s,.int .u64 id,.int .u64 old,.int .i64 th,.int .i64 op] w fun e w'=>∃ v':Dv,e=.returned (.tuple #[v'.val (remS s N id old th op),.bool true])∧Dw K w' v' (remS s N id old th op) (N.filter (· != id))∧Below w.heap.size w w':=by
 obtain ⟨W1,bN,V1,T1,B1,S1⟩:=boxes_w (v.cells s) w rfl
 obtain ⟨d1,k1⟩:=start_w h bb B1 S1
 have bq:=Lh d1
 have aW:=Lh k1
 have az:=Lh V1
 have aX:=Lh T1
 have af:=Lh B1
 obtain ⟨bv,bc⟩:∃ bv,bV s.D id old 3=bv:=⟨_,rfl⟩
 have a7:=dswap_any W1 v s N d1 k1 id old 3 bO hn hu ho (by decide)
 rw [hk,bc] at a7
 have a7:=Lh a7
 have HU:=Lh hid
 clear V1 T1 B1 d1 k1 h bb bc hk hu hid
 go_enter Tryz.func63,Tryz.ntmps63
 go_upto_region 1 with (fail)
 clear bN
 go_wp2_with (first | (refine load_w rfl _ rfl w.heap.size rfl v s az.out ?_))
 refine a7.out.mono ?_
 rintro e w2 ⟨v2,rfl,be,b2⟩
 have aM:=Lh be
 have bz:=Lh (az.out.later b2)
 have aY:=Lh (th_later aX.out b2)
 have ag:=Lh (af.out.trans (b2.mono af.out.size))
 have bQ:=b2.size
 have av:Hid (w.heap.size+2≤w2.heap.size∧W1.heap.size≤w2.heap.size):=Lh (by omega)
 clear be b2 bq az aX af a7 bQ S1
 go_upto_region 2 with (first | (refine store_w rfl _ _ rfl w2.heap.size rfl v2 { s with D:=up s.D id (exS old 3 s.now) } rfl (th_zero w2) ?_; intro w3 bj bo; have a0:=Lh bj; have a6:Hid (Below w2.heap.size w2 w3):=Lh (((Below.refl _ w2).alloc (Nat.le_refl _) _).trans (bo.below (by simp) (fun k hk=>by omega))); clear bj bo))
 obtain ⟨u,aL⟩:∃ r,w2.heap.size=r:=⟨_,rfl⟩
 have ah:=Lh (ag.out.trans (a6.out.mono ag.out.size))
 have aZ:=Lh (th_later aY.out a6.out)
 have aq:Hid (Dw (fun g=>Ks K w g∧g≠u) w3 v2 { s with D:=up s.D id (exS old 3 s.now) } N):=Lh ((aM.out.mono (fun g hg hk=>⟨hk,by omega⟩)).later a6.out)
 have ar:Hid (∀ g,w3.heap.size≤g→(fun g=>Ks K w g∧g≠u) g):=Lh (fun g hg=>⟨aW.out g (by have:=av.out; have:=a6.out.size; have:=a0.out.lt; omega),by have:=a0.out.lt; omega⟩)
 have a3:Hid (w.heap.size+2≤u):=Lh (by have:=av.out; omega)
 rw [aL] at a0
 rw [aL]
 clear aL bz aY ag a6 aM aW av
 have aE:=a0.out.cell 16 _ rfl
 have aF:=a0.out.cell 17 _ rfl
 have aG:=a0.out.cell 18 _ rfl
 go_wp2_with fail
 refine (Fk.rclose_any (K:=(fun g=>Ks K w g∧g≠u)) (v2.fact s.n) s.n s.O s.P s.C id w3 aq.out.fact bP HU.out ar.out).mono ?_
 rintro e I ⟨vf,rfl,aJ,b4⟩
 obtain ⟨z,F,c1,A2,n2,c2,A3,c3,S9,rfl,-⟩:=aJ.form
 have aR:=Lh aJ
 have b6:=Lh (a0.out.later b4)
 have b0:=Lh (th_later aZ.out b4)
 have ao:Hid (Below w.heap.size w I):=Lh (ah.out.trans (b4.mono ah.out.size))
 have aN:=Lh (aq.out.later b4)
 have aS:Hid (∀ g,I.heap.size≤g→(fun g=>Ks K w g∧g≠u) g):=Lh (fun g hg=>ar.out g (by have:=b4.size; omega))
 obtain ⟨kc,bh⟩:∃ kc,Fc.kn s.n s.C id 10=kc:=⟨_,rfl⟩
 rw [bh]
 clear aJ b4 aE aF aG a0 aZ ah aq ar bh
 go_upto_region 5 with (fail)
 have a2:Below I.heap.size I (I.alloc (.cells #[.slice z F c1,.slice A2 n2 c2,.slice A3 s.n c3] 48)):=(Below.refl _ _).alloc (Nat.le_refl _) _
 have a1:=Lh (b6.out.later a2)
 have aw:=Lh (th_later b0.out a2)
 have ai:Hid (Below w.heap.size w (I.alloc (.cells #[.slice z F c1,.slice A2 n2 c2,.slice A3 s.n c3] 48))):=Lh (ao.out.trans (a2.mono ao.out.size))
 have aO:Hid (Dw (fun g=>Ks K w g∧g≠u) (I.alloc (.cells #[.slice z F c1,.slice A2 n2 c2,.slice A3 s.n c3] 48)) { v2 with fA:=z,fn:=F,fc:=c1,pA:=A2,pn:=n2,pc:=c2,cA:=A3,cc:=c3 } { s with D:=up s.D id (exS old 3 s.now),C:=clsC s.n s.C id } N):=Lh (by
  have G:=aN.out.later a2
  exact ⟨G.bag,G.loc,G.sl,G.sk,G.book,aR.out.below a2,G.hist,G.hk,G.l8⟩)
 have y0:(I.alloc (.cells #[.slice z F c1,.slice A2 n2 c2,.slice A3 s.n c3] 48)).cell? ⟨I.heap.size,0,none⟩=some (.slice z F c1):=by go_simp
 have y1:(I.alloc (.cells #[.slice z F c1,.slice A2 n2 c2,.slice A3 s.n c3] 48)).cell? ⟨I.heap.size,1,none⟩=some (.slice A2 n2 c2):=by go_simp
 have y2:(I.alloc (.cells #[.slice z F c1,.slice A2 n2 c2,.slice A3 s.n c3] 48)).cell? ⟨I.heap.size,2,none⟩=some (.slice A3 s.n c3):=by go_simp
 have aT:Hid (∀ g,(I.alloc (.cells #[.slice z F c1,.slice A2 n2 c2,.slice A3 s.n c3] 48)).heap.size≤g→(fun g=>Ks K w g∧g≠u) g):=Lh (fun g hg=>aS.out g (by have:=a2.size; omega))
 clear a2 b6 b0 ao aN aR aS
 generalize (I.alloc (.cells #[.slice z F c1,.slice A2 n2 c2,.slice A3 s.n c3] 48))=W5 at *
 generalize I.heap.size=x4 at *
 have aE:=a1.out.cell 16 _ rfl
 have bG:=a1.out.free 16 (by decide)
 have aF:=a1.out.cell 17 _ rfl
 have bH:=a1.out.free 17 (by decide)
 have aG:=a1.out.cell 18 _ rfl
 have bI:=a1.out.free 18 (by decide)
 go_upto_region 6 with (fail)
 have a4:Hid (Vw (((W5.setCell ⟨u,16,none⟩ (.slice z F c1)).setCell ⟨u,17,none⟩ (.slice A2 n2 c2)).setCell ⟨u,18,none⟩ (.slice A3 s.n c3)) u (Dv.cells { v2 with fA:=z,fn:=F,fc:=c1,pA:=A2,pn:=n2,pc:=c2,cA:=A3,cc:=c3 } { s with D:=up s.D id (exS old 3 s.now),C:=clsC s.n s.C id })):=Lh (((a1.out.set 16 (by simp [cells_len]) (.slice z F c1)).set 17 (by simp [cells_len]) (.slice A2 n2 c2)).set 18 (by simp [cells_len]) (.slice A3 s.n c3))
 have a8:Hid (Fz (fun k=>k=u) W5 (((W5.setCell ⟨u,16,none⟩ (.slice z F c1)).setCell ⟨u,17,none⟩ (.slice A2 n2 c2)).setCell ⟨u,18,none⟩ (.slice A3 s.n c3))):=Lh ((((Fz.refl _ W5:Fz (fun k=>k=u) W5 W5).trans (Fz.of_set (a:=⟨u,16,none⟩) (.slice z F c1) rfl)).trans (Fz.of_set (a:=⟨u,17,none⟩) (.slice A2 n2 c2) rfl)).trans (Fz.of_set (a:=⟨u,18,none⟩) (.slice A3 s.n c3) rfl))
 generalize (((W5.setCell ⟨u,16,none⟩ (.slice z F c1)).setCell ⟨u,17,none⟩ (.slice A2 n2 c2)).setCell ⟨u,18,none⟩ (.slice A3 s.n c3))=W6 at *
 clear a1 aE bG aF bH aG bI y0 y1 y2
 have aa:Hid (Dw (fun g=>Ks K w g∧g≠u) W6 { v2 with fA:=z,fn:=F,fc:=c1,pA:=A2,pn:=n2,pc:=c2,cA:=A3,cc:=c3 } { s with D:=up s.D id (exS old 3 s.now),C:=clsC s.n s.C id } N):=Lh (aO.out.fz a8.out (fun g _ hk e=>hk.2 e))
 have b3:=Lh (th_blk aw.out (a8.out.block _ (th_lt aw.out) (fun e=>by have:=a3.out; omega)))
 have aj:Hid (Below w.heap.size w W6):=Lh (ai.out.trans (a8.out.below ai.out.size (fun k hk=>by have:=a3.out; omega)))
 have au:Hid (∀ g,W6.heap.size≤g→(fun g=>Ks K w g∧g≠u) g):=Lh (fun g hg=>aT.out g (by have:=a8.out.size; omega))
 clear aO aw ai aT a8
 have aA:=a4.out.cell 12 _ rfl
 have aB:=a4.out.cell 13 _ rfl
 have aC:=a4.out.cell 14 _ rfl
 have aD:=a4.out.cell 15 _ rfl
 go_wp2_with fail
 refine (Le.rforget_any (K:=(fun g=>Ks K w g∧g≠u)) s.leak v2.k.A v2.k.A2 v2.k.A3 v2.k.n v2.k.c v2.k.n2 v2.k.c2 v2.k.n3 v2.k.c3 s.L N s.T W6 id aa.out.book au.out (by have q:=aa.out.book.m.len; have q:N.length=v2.k.n2:=q; omega)).mono ?_
 rintro e Y ⟨J,c7,rfl,bg,-,b7⟩
 have W:=Lh (a4.out.later b7)
 have ax:=Lh (th_later b3.out b7)
 have ak:=Lh (aj.out.trans (b7.mono aj.out.size))
 have aP:Hid (Dw (fun g=>Ks K w g∧g≠u) Y { v2 with fA:=z,fn:=F,fc:=c1,pA:=A2,pn:=n2,pc:=c2,cA:=A3,cc:=c3,k:=⟨v2.k.A,v2.k.n,v2.k.c,J,(N.filter (· != id)).length,c7,v2.k.A3,v2.k.n3,v2.k.c3⟩ } { s with D:=up s.D id (exS old 3 s.now),C:=clsC s.n s.C id,M:=Le.mk (N.filter (· != id)) } (N.filter (· != id))):=Lh (by
  have G:=aa.out.later b7
  exact ⟨G.bag,G.loc,G.sl,G.sk,bg,G.fact,G.hist,G.hk,G.l8⟩)
 have aU:Hid (∀ g,Y.heap.size≤g→(fun g=>Ks K w g∧g≠u) g):=Lh (fun g hg=>au.out g (by have:=b7.size; omega))
 clear bg b7 aA aB aC aD a4 b3 aj aa au
 have aA:=W.out.cell 12 _ rfl
 have bA:=W.out.free 12 (by decide)
 have aB:=W.out.cell 13 _ rfl
 have bB:=W.out.free 13 (by decide)
 have aC:=W.out.cell 14 _ rfl
 have bC:=W.out.free 14 (by decide)
 have aD:=W.out.cell 15 _ rfl
 have bD:=W.out.free 15 (by decide)
 go_upto_region 7 with (fail)
 have ad:Hid (Vw ((((Y.setCell ⟨u,12,none⟩ (.int .u64 s.leak)).setCell ⟨u,13,none⟩ (.slice v2.k.A v2.k.n v2.k.c)).setCell ⟨u,14,none⟩ (.slice J (N.filter (· != id)).length c7)).setCell ⟨u,15,none⟩ (.slice v2.k.A3 v2.k.n3 v2.k.c3)) u (Dv.cells { v2 with fA:=z,fn:=F,fc:=c1,pA:=A2,pn:=n2,pc:=c2,cA:=A3,cc:=c3,k:=⟨v2.k.A,v2.k.n,v2.k.c,J,(N.filter (· != id)).length,c7,v2.k.A3,v2.k.n3,v2.k.c3⟩ } { s with D:=up s.D id (exS old 3 s.now),C:=clsC s.n s.C id,M:=Le.mk (N.filter (· != id)) })):=Lh ((((W.out.set 12 (by simp [cells_len]) (.int .u64 s.leak)).set 13 (by simp [cells_len]) (.slice v2.k.A v2.k.n v2.k.c)).set 14 (by simp [cells_len]) (.slice J (N.filter (· != id)).length c7)).set 15 (by simp [cells_len]) (.slice v2.k.A3 v2.k.n3 v2.k.c3))
 have a9:Hid (Fz (fun k=>k=u) Y ((((Y.setCell ⟨u,12,none⟩ (.int .u64 s.leak)).setCell ⟨u,13,none⟩ (.slice v2.k.A v2.k.n v2.k.c)).setCell ⟨u,14,none⟩ (.slice J (N.filter (· != id)).length c7)).setCell ⟨u,15,none⟩ (.slice v2.k.A3 v2.k.n3 v2.k.c3))):=Lh (((((Fz.refl _ Y:Fz (fun k=>k=u) Y Y).trans (Fz.of_set (a:=⟨u,12,none⟩) (.int .u64 s.leak) rfl)).trans (Fz.of_set (a:=⟨u,13,none⟩) (.slice v2.k.A v2.k.n v2.k.c) rfl)).trans (Fz.of_set (a:=⟨u,14,none⟩) (.slice J (N.filter (· != id)).length c7) rfl)).trans (Fz.of_set (a:=⟨u,15,none⟩) (.slice v2.k.A3 v2.k.n3 v2.k.c3) rfl))
 generalize ((((Y.setCell ⟨u,12,none⟩ (.int .u64 s.leak)).setCell ⟨u,13,none⟩ (.slice v2.k.A v2.k.n v2.k.c)).setCell ⟨u,14,none⟩ (.slice J (N.filter (· != id)).length c7)).setCell ⟨u,15,none⟩ (.slice v2.k.A3 v2.k.n3 v2.k.c3))=W8 at *
 clear W aA bA aB bB aC bC aD bD
 have ac:Hid (Dw (fun g=>Ks K w g∧g≠u) W8 { v2 with fA:=z,fn:=F,fc:=c1,pA:=A2,pn:=n2,pc:=c2,cA:=A3,cc:=c3,k:=⟨v2.k.A,v2.k.n,v2.k.c,J,(N.filter (· != id)).length,c7,v2.k.A3,v2.k.n3,v2.k.c3⟩ } { s with D:=up s.D id (exS old 3 s.now),C:=clsC s.n s.C id,M:=Le.mk (N.filter (· != id)) } (N.filter (· != id))):=Lh (aP.out.fz a9.out (fun g _ hk e=>hk.2 e))
 have b5:=Lh (th_blk ax.out (a9.out.block _ (th_lt ax.out) (fun e=>by have:=a3.out; omega)))
 have al:Hid (Below w.heap.size w W8):=Lh (ak.out.trans (a9.out.below ak.out.size (fun k hk=>by have:=a3.out; omega)))
 have aV:Hid (∀ g,W8.heap.size≤g→(fun g=>Ks K w g∧g≠u) g):=Lh (fun g hg=>aU.out g (by have:=a9.out.size; omega))
 clear aP ax ak aU a9
 have aH:=ad.out.cell 19 _ rfl
 have aI:=ad.out.cell 20 _ rfl
 go_wp2_with fail
 refine (Hi.radd_any v2.hA v2.hn v2.hc s.ev s.step th 3 op id 0 W8 ac.out.hist (by have:=ac.out.hist.len; have:s.ev.length=v2.hn:=this; omega)).mono ?_
 rintro e w9 ⟨Q,c8,rfl,aK,b9⟩
 have a5:=Lh (ad.out.later b9)
 have ay:=Lh (th_later b5.out b9)
 have an:=Lh (al.out.trans (b9.mono al.out.size))
 have aQ:Hid (Dw (fun g=>Ks K w g∧g≠u) w9 { v2 with fA:=z,fn:=F,fc:=c1,pA:=A2,pn:=n2,pc:=c2,cA:=A3,cc:=c3,k:=⟨v2.k.A,v2.k.n,v2.k.c,J,(N.filter (· != id)).length,c7,v2.k.A3,v2.k.n3,v2.k.c3⟩,hA:=Q,hn:=v2.hn+1,hc:=c8 } (remS s N id old th op) (N.filter (· != id))):=Lh (by
  have G:=ac.out.later b9
  refine ⟨G.bag,G.loc,G.sl,G.sk,G.book,G.fact,Rs.own_rs Hi.encE_len ?_ aK,Kn.own aK aV.out,G.l8⟩
  have:=G.hist.len
  have:s.ev.length=v2.hn:=this
  show (s.ev ++ [_]).length=v2.hn+1
  simp [this])
 clear aK b9 aH aI ad b5 al ac aV
 have aH:=a5.out.cell 19 _ rfl
 have bJ:=a5.out.free 19 (by decide)
 have aI:=a5.out.cell 20 _ rfl
 have bM:=a5.out.free 20 (by decide)
 go_upto_region 8 with (fail)
 have bu:Hid (Vw ((w9.setCell ⟨u,19,none⟩ (.int .u64 s.step)).setCell ⟨u,20,none⟩ (.slice Q (v2.hn+1) c8)) u (Dv.cells { v2 with fA:=z,fn:=F,fc:=c1,pA:=A2,pn:=n2,pc:=c2,cA:=A3,cc:=c3,k:=⟨v2.k.A,v2.k.n,v2.k.c,J,(N.filter (· != id)).length,c7,v2.k.A3,v2.k.n3,v2.k.c3⟩,hA:=Q,hn:=v2.hn+1,hc:=c8 } (remS s N id old th op))):=Lh ((a5.out.set 19 (by simp [cells_len]) (.int .u64 s.step)).set 20 (by simp [cells_len]) (.slice Q (v2.hn+1) c8))
 have ae:Hid (Fz (fun k=>k=u) w9 ((w9.setCell ⟨u,19,none⟩ (.int .u64 s.step)).setCell ⟨u,20,none⟩ (.slice Q (v2.hn+1) c8))):=Lh (((Fz.refl _ w9:Fz (fun k=>k=u) w9 w9).trans (Fz.of_set (a:=⟨u,19,none⟩) (.int .u64 s.step) rfl)).trans (Fz.of_set (a:=⟨u,20,none⟩) (.slice Q (v2.hn+1) c8) rfl))
 generalize ((w9.setCell ⟨u,19,none⟩ (.int .u64 s.step)).setCell ⟨u,20,none⟩ (.slice Q (v2.hn+1) c8))=ba at *
 clear a5 aH bJ aI bM
 have br:Hid (Dw (fun g=>Ks K w g∧g≠u) ba { v2 with fA:=z,fn:=F,fc:=c1,pA:=A2,pn:=n2,pc:=c2,cA:=A3,cc:=c3,k:=⟨v2.k.A,v2.k.n,v2.k.c,J,(N.filter (· != id)).length,c7,v2.k.A3,v2.k.n3,v2.k.c3⟩,hA:=Q,hn:=v2.hn+1,hc:=c8 } (remS s N id old th op) (N.filter (· != id))):=Lh (aQ.out.fz ae.out (fun g _ hk e=>hk.2 e))
 have bt:=Lh (th_blk ay.out (ae.out.block _ (th_lt ay.out) (fun e=>by have:=a3.out; omega)))
 have bp:Hid (Below w.heap.size w ba):=Lh (an.out.trans (ae.out.below an.out.size (fun k hk=>by have:=a3.out; omega)))
 clear aQ ay an ae
 go_wp2_with (first
  | (refine load_w rfl _ rfl u rfl { v2 with fA:=z,fn:=F,fc:=c1,pA:=A2,pn:=n2,pc:=c2,cA:=A3,cc:=c3,k:=⟨v2.k.A,v2.k.n,v2.k.c,J,(N.filter (· != id)).length,c7,v2.k.A3,v2.k.n3,v2.k.c3⟩,hA:=Q,hn:=v2.hn+1,hc:=c8 } (remS s N id old th op) bu.out ?_)
  | (refine store_w rfl _ _ rfl (w.heap.size+1) rfl { v2 with fA:=z,fn:=F,fc:=c1,pA:=A2,pn:=n2,pc:=c2,cA:=A3,cc:=c3,k:=⟨v2.k.A,v2.k.n,v2.k.c,J,(N.filter (· != id)).length,c7,v2.k.A3,v2.k.n3,v2.k.c3⟩,hA:=Q,hn:=v2.hn+1,hc:=c8 } (remS s N id old th op) rfl bt.out ?_; intro bS bi bn; have bw:=Lh bi; have b8:=Lh bn; clear bi bn))
 exact bodyPost_ret (v:=.tuple #[Dv.val { v2 with fA:=z,fn:=F,fc:=c1,pA:=A2,pn:=n2,pc:=c2,cA:=A3,cc:=c3,k:=⟨v2.k.A,v2.k.n,v2.k.c,J,(N.filter (· != id)).length,c7,v2.k.A3,v2.k.n3,v2.k.c3⟩,hA:=Q,hn:=v2.hn+1,hc:=c8 } (remS s N id old th op),.bool true]) (res_w2 _ _ (w.heap.size+1) _ _ Tryz.results63 rfl bw.out) rfl ⟨{ v2 with fA:=z,fn:=F,fc:=c1,pA:=A2,pn:=n2,pc:=c2,cA:=A3,cc:=c3,k:=⟨v2.k.A,v2.k.n,v2.k.c,J,(N.filter (· != id)).length,c7,v2.k.A3,v2.k.n3,v2.k.c3⟩,hA:=Q,hn:=v2.hn+1,hc:=c8 },rfl,end_w (br.out.mono (fun g _ hk=>hk.1)) (fz1 b8.out (.inr rfl)),fz_low (fz1 b8.out (.inr rfl)) bp.out⟩
end
end Go.Proofs.YtaeemilldmhbnaaGreatDoor.Wo
