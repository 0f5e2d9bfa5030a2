/- A part of the claim: the texts WPlaysWalk. -/
import Derived.Test.YtaeemilldmhbnaaGreatDoorXGPlayK
import Derived.Test.YtaeemilldmhbnaaGreatDoorXDocNew
import Derived.Test.YtaeemilldmhbnaaGreatDoorXGMisc
import Derived.Test.YtaeemilldmhbnaaGreatDoorXRawOpen
import Derived.Test.YtaeemilldmhbnaaGreatDoorXBase1
import Derived.Test.YtaeemilldmhbnaaGreatDoorXBase5
import Derived.Deep.CutRange
import Derived.Deep.CutBlock
set_option maxRecDepth 100000
set_option maxHeartbeats 40000000
set_option linter.unusedVariables false
namespace Go.Proofs.YtaeemilldmhbnaaGreatDoor.Wo
open Go Go.ChangeShapes Go.WideShapes Go.ChangeAt Go.RowKit Go.Deep Go.Maps Rw Hi Mt Ba
open Cn (Cf cfE)
def zvD:Dv:=⟨⟨none,0,0,none,0,0⟩,none,0,0,[],none,0,0,⟨none,0,0,none,0,0,none,0,0⟩,none,0,0,none,0,0,none,0,none,0,0⟩
def zsD:Ws:=⟨⟨0,0,0,0,0,0,0⟩,0,[],[],fun _=>[],[],0,[],[],[],[],[],0,[],0,[],0,false⟩
theorem dnew_no (c:Cf) (hc:c.ok) (N:cfE c≠0) (Ao Ap:Option Addr) (no co np cp:Nat) (w:World) :
  Calls Tryz.prog 8 #[c.v,.slice Ao no co,.slice Ap np cp] w fun e w'=>e=.returned (.tuple #[zvD.val zsD,.int .i64 (cfE c)])∧Below w.heap.size w w':=by
 obtain ⟨W1,a4,J,I,u,S1⟩:=boxes_n c w
 have a3:=Lh J
 have z:=Lh u
 have a1:=Lh I
 have q0:(cfE c != 0)=true:=by simpa using N
 have HC:=Lh (Cn.rcheck13_any c hc W1)
 generalize cfE c=ec at *
 clear N hc J u I
 go_enter Tryz.func8,Tryz.ntmps8
 go_upto_region 1 with (fail)
 clear a4
 go_wp2_with (first | (refine load_rc rfl _ rfl w.heap.size rfl c a3.out ?_))
 refine HC.out.mono ?_
 rintro e w2 ⟨rfl,h⟩
 have F:=Lh (z.out.trans (h.mono z.out.size))
 have a2:=Lh (th_later a1.out h)
 clear h
 go_wp2_with (first
  | (refine store_w rfl _ _ rfl (w.heap.size+1) rfl zvD zsD rfl a2.out ?_; intro w3 W Y; have G:=Lh W; have a0:=Lh (F.out.trans (Y.below F.out.size (fun k hk=>by omega))); clear W Y)
  | (refine load_w rfl _ rfl (w.heap.size+1) rfl zvD zsD G.out ?_))
 exact bodyPost_ret (v:=.tuple #[Dv.val zvD zsD,.int .i64 ec]) (res_w2 _ _ (w.heap.size+1) _ _ Tryz.results8 rfl G.out) rfl ⟨rfl,a0.out⟩
theorem plays_any (c:Cf) (ai:c.ok) (Ao:Option Addr) (no co:Nat) (O:List Bool) (Ap:Option Addr) (np cp:Nat) (P:List Bool) (A0:Option Addr) (n c0:Nat) (xs:List Ay) (W:World) (hT:Tb.Tabs W) (hO:Rd Value.bool W W.heap.size Ao no co O) (hP:Rd Value.bool W W.heap.size Ap np cp P) (hr:Rs encY 5 W W.heap.size A0 n c0 xs) (bt:∀ x∈xs,x.ok) (hn:n≤80) (bq:no≤60) (br:np≤60) :
  Calls Tryz.prog 3 #[c.raw,.slice Ao no co,.slice Ap np cp,.slice A0 n c0] W fun e w'=>e=.returned (.bool true)∧Below W.heap.size W w':=by
 have HT:=Lh hT
 have HR:=Lh hr
 have HO:=Lh hO
 have HP:=Lh hP
 have bD:=Lh bt
 have a5:=Lh ai
 have q1:decide ((80:Int) < (n:Int))=false:=decide_eq_false (by omega)
 have bR:decide (80 < n)=false:=decide_eq_false (by omega)
 have q2:decide ((60:Int) < (no:Int))=false:=decide_eq_false (by omega)
 have bS:decide (60 < no)=false:=decide_eq_false (by omega)
 have q3:decide ((60:Int) < (np:Int))=false:=decide_eq_false (by omega)
 have bU:decide (60 < np)=false:=decide_eq_false (by omega)
 clear hT hr bt hO hP ai
 have bd:Below W.heap.size W (W.alloc (.cells #[.int .i64 c.max,.int .i64 c.min,.int .u64 c.idle,.int .u64 c.life,.int .u64 c.keep,.int .u64 c.leak,.int .u64 c.var] 24)):=(Below.refl _ _).alloc (Nat.le_refl _) _
 have r0:(W.alloc (.cells #[.int .i64 c.max,.int .i64 c.min,.int .u64 c.idle,.int .u64 c.life,.int .u64 c.keep,.int .u64 c.leak,.int .u64 c.var] 24)).cell? ⟨W.heap.size,0,none⟩=some (.int .i64 c.max):=by go_simp
 have r1:(W.alloc (.cells #[.int .i64 c.max,.int .i64 c.min,.int .u64 c.idle,.int .u64 c.life,.int .u64 c.keep,.int .u64 c.leak,.int .u64 c.var] 24)).cell? ⟨W.heap.size,1,none⟩=some (.int .i64 c.min):=by go_simp
 have r2:(W.alloc (.cells #[.int .i64 c.max,.int .i64 c.min,.int .u64 c.idle,.int .u64 c.life,.int .u64 c.keep,.int .u64 c.leak,.int .u64 c.var] 24)).cell? ⟨W.heap.size,2,none⟩=some (.int .u64 c.idle):=by go_simp
 have r3:(W.alloc (.cells #[.int .i64 c.max,.int .i64 c.min,.int .u64 c.idle,.int .u64 c.life,.int .u64 c.keep,.int .u64 c.leak,.int .u64 c.var] 24)).cell? ⟨W.heap.size,3,none⟩=some (.int .u64 c.life):=by go_simp
 have r4:(W.alloc (.cells #[.int .i64 c.max,.int .i64 c.min,.int .u64 c.idle,.int .u64 c.life,.int .u64 c.keep,.int .u64 c.leak,.int .u64 c.var] 24)).cell? ⟨W.heap.size,4,none⟩=some (.int .u64 c.keep):=by go_simp
 have r5:(W.alloc (.cells #[.int .i64 c.max,.int .i64 c.min,.int .u64 c.idle,.int .u64 c.life,.int .u64 c.keep,.int .u64 c.leak,.int .u64 c.var] 24)).cell? ⟨W.heap.size,5,none⟩=some (.int .u64 c.leak):=by go_simp
 have r6:(W.alloc (.cells #[.int .i64 c.max,.int .i64 c.min,.int .u64 c.idle,.int .u64 c.life,.int .u64 c.keep,.int .u64 c.leak,.int .u64 c.var] 24)).cell? ⟨W.heap.size,6,none⟩=some (.int .u64 c.var):=by go_simp
 have bv:(W.alloc (.cells #[.int .i64 c.max,.int .i64 c.min,.int .u64 c.idle,.int .u64 c.life,.int .u64 c.keep,.int .u64 c.leak,.int .u64 c.var] 24)).heap.size=W.heap.size+1:=by simp
 have a9:=Lh bd
 have bH:=Lh bv
 clear bd bv
 go_enter Tryz.func3,Tryz.ntmps3
 go_upto_region 1 with (fail)
 generalize (W.alloc (.cells #[.int .i64 c.max,.int .i64 c.min,.int .u64 c.idle,.int .u64 c.life,.int .u64 c.keep,.int .u64 c.leak,.int .u64 c.var] 24))=W0 at *
 have a6:W.heap.size < W0.heap.size:=Lw.lt_heap r0
 go_wp2_with fail
 refine (awake16_any W0 (HT.out.below a9.out)).mono ?_
 rintro e w1 ⟨rfl,b1⟩
 have G:=Lh b1
 have u0:=(b1.cell (p:=⟨W.heap.size,0,none⟩) a6).trans r0
 have u1:=(b1.cell (p:=⟨W.heap.size,1,none⟩) a6).trans r1
 have u2:=(b1.cell (p:=⟨W.heap.size,2,none⟩) a6).trans r2
 have u3:=(b1.cell (p:=⟨W.heap.size,3,none⟩) a6).trans r3
 have u4:=(b1.cell (p:=⟨W.heap.size,4,none⟩) a6).trans r4
 have u5:=(b1.cell (p:=⟨W.heap.size,5,none⟩) a6).trans r5
 have u6:=(b1.cell (p:=⟨W.heap.size,6,none⟩) a6).trans r6
 clear b1 r0 r1 r2 r3 r4 r5 r6
 go_wp2_with fail
 refine (Cn.make_any c a5.out w1).mono ?_
 rintro e w2 ⟨rfl,b2⟩
 have ar:=Lh b2
 clear b2 u0 u1 u2 u3 u4 u5 u6
 go_upto_region 6 with (first
  | (refine store_c rfl _ _ rfl w2.heap.size rfl c rfl (th_conf w2) ?_; intro w3 bu ac; have a8:=Lh bu; have aJ:Hid (Below w2.heap.size w2 w3):=Lh (((Below.refl _ _).alloc (Nat.le_refl _) _).trans (ac.below (by simp) (fun k hk=>by omega))); clear bu ac))
 obtain ⟨cb,aD⟩:∃ cb,w2.heap.size=cb:=⟨_,rfl⟩
 rw [aD] at a8
 rw [aD]
 have a1:Hid (Below W.heap.size W w3):=Lh (by
  exact (a9.out.trans (G.out.mono a9.out.size)).trans ((ar.out.mono (Nat.le_trans a9.out.size G.out.size)).trans (aJ.out.mono (Nat.le_trans (Nat.le_trans a9.out.size G.out.size) ar.out.size))))
 clear aD a9 G ar aJ bH a6
 by_cases he:cfE c=0
 ·have HN:=Lh (new_ok c a5.out he Ao Ap no co W.heap.size np cp W.heap.size O P w3 (HO.out.below a1.out) (HP.out.below a1.out) a1.out.size a1.out.size (by omega) (by omega))
  have bp:=Cn.cfE_zero he
  have ag:=Lh bp
  have HE:=Lh he
  clear he bp
  go_wp2_with (refine load_c rfl _ rfl cb rfl c a8.out ?_)
  refine HN.out.mono ?_
  rintro e w4 ⟨x,bP,rfl,h4,b4⟩
  clear HN
  obtain ⟨col,aH⟩:=h4.v
  have aw:Hid (∀ g,col g≠0→W.heap.size≤g):=Lh (fun g hg=>Nat.le_trans a1.out.size (aH.lo g hg))
  have au:Hid (∀ g,g < W.heap.size→Kc 0 col g):=Lh (fun g hg=>⟨Classical.byContradiction fun e=>by have:=aw.out g e; omega,Nat.zero_le _⟩)
  have aA:=Lh aH.base0
  have ah:=Lh (range_later a8.out b4)
  have a2:Hid (Below W.heap.size W w4):=Lh (a1.out.trans (b4.mono a1.out.size))
  clear h4 aH b4 a1 a8
  have ae:=Lh (dnew_any (K:=Kc 0 col) (w:=w4) c a5.out HE.out aA.out.new0 Ao Ap no co np cp O P ⟨(HO.out.later a2.out),fun hn g o e=>au.out g (by obtain ⟨b,o',e',hb,_⟩:=HO.out.at_ hn; rw [e] at e'; injection e' with e'; injection e' with e1; omega)⟩ ⟨(HP.out.later a2.out),fun hn g o e=>au.out g (by obtain ⟨b,o',e',hb,_⟩:=HP.out.at_ hn; rw [e] at e'; injection e' with e'; injection e' with e1; omega)⟩)
  go_wp2_with (refine load_c rfl _ rfl cb rfl c ah.out ?_)
  refine ae.out.mono ?_
  rintro e I ⟨v,rfl,bj,b5⟩
  have aK:=Lh bj
  have a4:=Lh b5
  clear bj b5 ae
  go_upto_region 8 with (first
   | (refine store_w rfl _ _ rfl I.heap.size rfl v (newS c O P) rfl (th_zero I) ?_; intro w6 ao aj; have az:=Lh ao; have aa:Hid (Below I.heap.size I w6):=Lh (((Below.refl _ I).alloc (Nat.le_refl _) _).trans (aj.below (by simp) (fun k hk=>by omega))); clear ao aj))
  obtain ⟨J,aF⟩:∃ J,I.heap.size=J:=⟨_,rfl⟩
  have be:Below w4.heap.size w4 w6:=a4.out.trans (aa.out.mono a4.out.size)
  obtain ⟨aC,h6,l6,c6,n6⟩:=(aA.out.later a4.out).var aa.out J (by omega) (by have:=az.out.lt; omega)
  have S0:Hid (Lp W w6 aC x v J c (newS c O P) 0):=Lh
   ⟨⟨h6,(aK.out.mono (fun g hg e=>⟨(l6 g hg).trans e.1,e.2⟩)).later aa.out,aF ▸ az.out,c6⟩,
    ⟨rfl,⟨ag.out.1,ag.out.2.1⟩,⟨Int.le_refl _,by have:=ag.out.1; show (0:Int)≤c.max; omega⟩,⟨by show (0:Int)≤0; omega,by show (0:Int)≤_; omega⟩,a5.out.leak,Nat.le_refl _,Nat.le_refl _,Nat.le_refl _,Nat.le_refl _,Nat.le_refl _,Nat.le_refl _,Nat.le_refl _,List.Pairwise.nil,List.Pairwise.nil,fun i hi=>by cases hi⟩,
    rfl,rfl,by show O.length≤60; rw [HO.out.len]; exact bq,by show P.length≤60; rw [HP.out.len]; exact br,rfl,fun g hg=>by
     by_cases e:g < I.heap.size
     ·rw [l6 g e] at hg; exact aw.out g hg
     ·have:=a2.out.size; have:=a4.out.size; omega,a2.out.trans (be.mono a2.out.size)⟩
  have bC:Hid (Cn.okC c):=Lh ⟨a5.out,ag.out.2.2.2.2.2⟩
  rw [aF]
  clear h6 l6 c6 n6 aF be a2 a4 aa az aK aA ah aw au HE bq br ag a5 HO HP
  go_wp2_with fail
  go_loopw [10,62] (fun p i wr=>∃ (k:Nat) (col:Nat→Nat) (x:Wp) (v:Dv) (s:Ws),k≤n∧p=ptr x.pw∧i=.int .i64 k∧Hid (Lp W wr col x v J c s k)) (fun _ i _=>n - (intOf i).toNat)
  case atStart=>exact ⟨0,aC,x,v,_,Nat.zero_le _,rfl,rfl,S0⟩
  case round=>
   clear S0
   obtain ⟨k,col,x,v,s,hk,rfl,rfl,Y⟩:=hrel
   by_cases hkn:k < n
   ·obtain ⟨b,o,y,rfl,hb,hy,c1,c2,c3,c4,c5⟩:=actY_at HR.out hkn
    have HY:=Lh (bD.out y (List.mem_of_getElem? hy))
    have d0:=(Y.out.bl.cell (p:=⟨b,o+k * 5,none⟩) hb).trans c1
    have d1:=(Y.out.bl.cell (p:=⟨b,o+k * 5+1,none⟩) hb).trans c2
    have d2:=(Y.out.bl.cell (p:=⟨b,o+k * 5+2,none⟩) hb).trans c3
    have d3:=(Y.out.bl.cell (p:=⟨b,o+k * 5+3,none⟩) hb).trans c4
    have d4:=(Y.out.bl.cell (p:=⟨b,o+k * 5+4,none⟩) hb).trans c5
    have bQ:k < c0:=by have:=HR.out.cap; omega
    clear c1 c2 c3 c4 c5 hb hy
    have bg:Below wr.heap.size wr (wr.alloc (.cells #[.int .u8 y.do_,.int .u64 y.id,.int .u64 y.n,.int .i64 y.th,.int .i64 y.st] 57)):=(Below.refl _ _).alloc (Nat.le_refl _) _
    have G:=Lh (Y.out.later bg)
    have a3:=Lh (Yc.new wr y)
    have a0:Hid (col wr.heap.size=0∧wr.heap.size≠J):=Lh ⟨Classical.byContradiction fun e=>by have:=Y.out.tw.wv.hi _ e; omega,fun e=>by have:=Y.out.tw.vw.lt; omega⟩
    clear Y bg
    go_upto_region 15 with (fail)
    obtain ⟨wz,aq⟩:∃ wz,(wr.alloc (.cells #[.int .u8 y.do_,.int .u64 y.id,.int .u64 y.n,.int .i64 y.th,.int .i64 y.st] 57))=wz:=⟨_,rfl⟩
    obtain ⟨q,hq⟩:∃ q,wr.heap.size=q:=⟨_,rfl⟩
    rw [aq] at G
    rw [aq,hq] at a3
    rw [hq] at a0
    rw [aq,hq]
    clear aq hq d0 d1 d2 d3 d4
    obtain ⟨z0,z1,z2,z3,z4⟩:=a3.out
    go_upto_if 68 with (fail)
    go_cut [10,16,62] from 62 to 114 (fun bM bX bN wx=>∃ (col':Nat→Nat) (x':Wp),bM=ptr x'.pw∧bN=.int .i64 k∧Hid (Lp W wx col' x' v J c s k)∧Hid (Yc wx q y)∧Hid (col' q=0∧q≠J))
    case first=>
     by_cases h128:128≤y.do_
     ·have aI:decide ((128:Int)≤y.do_)=true:=decide_eq_true h128
      rw [aI]
      clear h128 z0 z1 z2 z3 z4
      go_wp2_with fail
      refine (wclone_any _ G.out.tw.wv (by have:=G.out.pl.dl; omega) (by rw [G.out.sl]; simp) (by have:=G.out.ol; omega) (by have:=G.out.pp; omega) (by have:=G.out.pl.el; omega)).mono ?_
      rintro e w2 ⟨x2,bb,rfl,bo,bi,b2⟩
      have aM:=Lh bo
      have av:=Lh bi
      have ak:=Lh b2
      have aS:Hid (Wv 0 col w2 x s):=Lh (G.out.tw.wv.later b2)
      clear bo bi b2
      go_wp2_with fail
      refine (wtick_any w2 aS.out 9 G.out.pl.nw (by decide)).mono ?_
      rintro e w3 ⟨rfl,h3,z3⟩
      have aT:=Lh h3
      have b9:=Lh z3
      clear h3 z3 aS
      go_wp2_with fail
      refine (wgrow_any w3 aT.out G.out.pl.lv.1 (by have:=G.out.pl.mx.2; show s.conf.max≤1000000; omega)).mono ?_
      rintro e w4 ⟨rfl,h4,z4⟩
      have ax:=Lh h4
      have ba:=Lh (b9.out.trans z4)
      clear h4 z4 aT b9
      have c12:=ax.out.cells.c12
      go_wp2_with fail
      refine (wopen w4 ax.out (by have:=G.out.pl.nl; show s.n < 18446744073709551615; omega)).mono ?_
      rintro e I ⟨rfl,h5,z5⟩
      have ay:=Lh h5
      have aB:=Lh (ba.out.trans z5)
      clear h5 z5 ax ba c12
      have c10:=ay.out.cells.c10
      go_wp2_with fail
      refine (wpark I ay.out 1 1 (by show s.sl.length≤1000; rw [G.out.sl]; simp)).mono ?_
      rintro e w6 ⟨rfl,aC,h6,z6,l6⟩
      have z:=Lh (G.out.clone aM.out av.out ak.out (aB.out.trans z6))
      have bJ:Hid (Yc w6 q y):=Lh ((a3.out.later ak.out).blk ((aB.out.trans z6).block q (a3.out.later ak.out).lt (fun e=>e.1 a0.out.1)))
      have bG:Hid (bb q=0∧q≠J):=Lh ⟨by rw [av.out q a3.out.lt]; unfold dead; exact if_pos a0.out.1,a0.out.2⟩
      clear h6 z6 l6 ay aB aM av ak c10
      go_wp2_with fail
      go_meet
      case rel=>exact ⟨bb,x2,rfl,rfl,z,bJ,bG⟩
     ·have aI:decide ((128:Int)≤y.do_)=false:=decide_eq_false h128
      rw [aI]
      clear h128
      go_wp2_with fail
      go_meet
      case rel=>exact ⟨col,x,rfl,rfl,G,a3,a0⟩
    case rest=>
     clear G a3 a0 z0 z1 z2 z3 z4
     obtain ⟨col,x,rfl,rfl,Y,a3,a0⟩:=hcut
     generalize wc=wx at *
     go_wp2_with fail
     have ad:=Lh (Y.out.later (Below.refl _ _).drew)
     have u:Hid (Yc wx.drew q y):=Lh (a3.out.later (Below.refl _ _).drew)
     have aV:=Lh (play2_any wx.drew ad.out.tw ad.out.pl (by omega) HY.out ad.out.cl)
     refine reg_start 28 (fun w'=>Yc w' q y) (by kernel_rfl) (by kernel_rfl) ?_
     intro bc
     have F:=Lh bc
     clear bc
     refine rq 0 F.out u.out rfl ?_ (hv:=fun w' hw=>by (obtain ⟨z0,z1,z2,z3,z4⟩:=hw; go_simp; exact rfl))
     refine rq 1 F.out u.out rfl ?_
     refine reg_only 2 rfl (by kernel_rfl) rfl ?_
     unfold Oper.wp
     go_simp
     refine aV.out.mono ?_
     rintro e w3 ⟨rfl,an,v3,bA,ac,aG⟩
     have z:=Lh (ad.out.act (by omega) HY.out bA ac aG)
     have b3:Hid (Yc w3 q y):=Lh (u.out.blk (ac.block q u.out.lt (fun e=>by
      rcases e with e | e
      ·exact e.1 a0.out.1
      ·exact a0.out.2 e)))
     refine ⟨b3.out,?_⟩
     have bO:Hid (an q=0∧q≠J):=Lh ⟨(aG q u.out.lt).trans a0.out.1,a0.out.2⟩
     clear bA ac aG u a3 Y ad a0 aV
     obtain ⟨N,bz⟩:∃ N,(actW (s,[]) y).1=N:=⟨_,rfl⟩
     rw [bz] at z
     clear bz
     have u:Hid (Yc w3 q y∧Vw w3 J (v3.cells N)):=Lh ⟨b3.out,z.out.tw.vw⟩
     refine wpAnyT.weaken (S':=fun w'=>Yc w' q y∧Vw w' J (v3.cells N)) (fun _ h=>h.1) _ _ _ _ ?_
     refine rq 3 F.out u.out rfl ?_
     refine rq 4 F.out u.out rfl ?_
     go_simp
     refine reg_load 5 F.out rfl (by kernel_rfl) (by decide) (fun _ _ _ _ h=>h) u.out (wanted_yes (g:=4) (p:=false) (d:=90) rfl (by kernel_rfl) (by simp)) ?_
     apply Exists.intro
     refine ⟨fun w' hw=>by (go_simp; exact rfl),?_⟩
     refine reg_load 6 F.out rfl (by kernel_rfl) (by decide) (fun _ _ _ _ h=>h) u.out (wanted_yes (g:=4) (p:=false) (d:=90) rfl (by kernel_rfl) (at_ne (by decide) (by simp))) ?_
     apply Exists.intro
     refine ⟨fun w' hw=>exec_load_w _ _ _ rfl rfl hw.2,?_⟩
     refine reg_only 7 rfl (by kernel_rfl) (wanted_yes (g:=4) (p:=false) (d:=90) rfl (by kernel_rfl) (at_ne (by decide) (at_ne (by decide) (by simp)))) ?_
     unfold Oper.wp
     go_simp
     refine (told16_any _ z.out.tw.wv z.out.tw.dw z.out.pl.mk_ z.out.pl.sd (by have:=z.out.pl.dl; omega) (by have:=z.out.pl.sl; omega) (by rw [z.out.sl]; simp) (by have:=z.out.pl.el; omega) (by have:=z.out.pl.ll; omega) (by simp) (by have:=z.out.pl.tl; omega) (by have:=z.out.pl.nl; omega)).mono ?_
     rintro e w4 ⟨rfl,b4⟩
     have aN:=Lh (z.out.later b4)
     have aW:Hid (Yc w4 q y∧Vw w4 J (v3.cells N)):=Lh ⟨u.out.1.later b4,u.out.2.later b4⟩
     clear b4 z u
     have z:=aN
     have u:=aW
     clear aN aW
     refine ⟨u.out,?_⟩
     refine reg_load 8 F.out rfl (by kernel_rfl) (by decide) (fun _ _ _ _ h=>h) u.out (wanted_yes (g:=4) (p:=false) (d:=90) rfl (by kernel_rfl) (by simp)) ?_
     apply Exists.intro
     refine ⟨fun w' hw=>by (go_simp; exact rfl),?_⟩
     refine rq 9 F.out u.out rfl ?_
     refine rq 10 F.out u.out rfl ?_
     go_simp
     refine reg_load 11 F.out rfl (by kernel_rfl) (by decide) (fun _ _ _ _ h=>h) u.out (wanted_yes (g:=10) (p:=false) (d:=96) rfl (by kernel_rfl) (by simp)) ?_
     apply Exists.intro
     refine ⟨fun w' hw=>by (go_simp; exact rfl),?_⟩
     refine reg_load 12 F.out rfl (by kernel_rfl) (by decide) (fun _ _ _ _ h=>h) u.out (wanted_yes (g:=10) (p:=false) (d:=96) rfl (by kernel_rfl) (at_ne (by decide) (by simp))) ?_
     apply Exists.intro
     refine ⟨fun w' hw=>by (go_simp; exact rfl),?_⟩
     refine reg_load 13 F.out rfl (by kernel_rfl) (by decide) (fun _ _ _ _ h=>h) u.out (wanted_yes (g:=10) (p:=false) (d:=96) rfl (by kernel_rfl) (at_ne (by decide) (at_ne (by decide) (by simp)))) ?_
     apply Exists.intro
     refine ⟨fun w' hw=>by (have z1:=hw.1.z1; go_simp; exact rfl),?_⟩
     refine reg_load 15 F.out rfl (by kernel_rfl) (by decide) (fun _ _ _ _ h=>h) u.out (wanted_yes (g:=10) (p:=false) (d:=96) rfl (by kernel_rfl) (at_ne (by decide) (at_ne (by decide) (at_ne (by decide) (by simp))))) ?_
     apply Exists.intro
     refine ⟨fun w' hw=>exec_load_w _ _ _ rfl rfl hw.2,?_⟩
     refine reg_load 16 F.out rfl (by kernel_rfl) (by decide) (fun _ _ _ _ h=>h) u.out (wanted_yes (g:=10) (p:=false) (d:=96) rfl (by kernel_rfl) (at_ne (by decide) (at_ne (by decide) (at_ne (by decide) (at_ne (by decide) (by simp)))))) ?_
     apply Exists.intro
     refine ⟨fun w' hw=>by (go_simp; exact rfl),?_⟩
     go_simp
     refine reg_load 17 F.out rfl (by kernel_rfl) (by decide) (fun _ _ _ _ h=>h) u.out (wanted_yes (g:=10) (p:=false) (d:=96) rfl (by kernel_rfl) (by simp)) ?_
     apply Exists.intro
     refine ⟨fun w' hw=>by (have z1:=hw.1.z1; go_simp; exact rfl),?_⟩
     go_simp
     have ai:=z.out.cf
     have aU:Hid (Cn.okC N.conf):=Lh (by rw [ai]; exact bC.out)
     have bI:=Lh z.out.tw.wv.bag.ui
     clear ai
     obtain ⟨dw,bn⟩:∃ dw,dueW N y.id=dw:=⟨_,rfl⟩
     have aL:=Lh bn
     clear bn
     refine reg_only 14 rfl (by kernel_rfl) (wanted_yes (g:=10) (p:=false) (d:=96) rfl (by kernel_rfl) (by simp)) ?_
     unfold Oper.wp
     go_simp
     have a7:=Lh (wdue_any _ z.out.tw.wv aU.out z.out.pl.nw y.id HY.out.i)
     rw [aL.out] at a7
     refine a7.out.mono ?_
     rintro e I ⟨rfl,b5⟩
     clear a7
     have aO:=Lh (z.out.later b5)
     have aX:Hid (Yc I q y∧Vw I J (v3.cells N)):=Lh ⟨u.out.1.later b5,u.out.2.later b5⟩
     clear b5 z u
     have z:=aO
     have u:=aX
     clear aO aX
     refine ⟨u.out,?_⟩
     refine reg_only 18 rfl (by kernel_rfl) (wanted_yes (g:=10) (p:=false) (d:=96) rfl (by kernel_rfl) (by simp)) ?_
     unfold Oper.wp
     go_simp
     have a7:=Lh (ddue_any _ _ z.out.tw.dw aU.out z.out.pl.nw y.id HY.out.i (by have:=z.out.pl.dl; omega) (fun p hp=>(bI.out p hp).2.2))
     rw [aL.out] at a7
     refine a7.out.mono ?_
     rintro e w6 ⟨rfl,b6⟩
     clear a7
     have aP:=Lh (z.out.later b6)
     have aY:Hid (Yc w6 q y∧Vw w6 J (v3.cells N)):=Lh ⟨u.out.1.later b6,u.out.2.later b6⟩
     clear b6 z u
     have z:=aP
     have u:=aY
     clear aP aY
     refine ⟨u.out,?_⟩
     have e0:(dw != dw)=false:=by simp
     refine reg_load 19 F.out rfl (by kernel_rfl) (by decide) (fun _ _ _ _ h=>h) u.out (wanted_yes (g:=10) (p:=false) (d:=96) rfl (by kernel_rfl) (by simp)) ?_
     apply Exists.intro
     refine ⟨fun w' hw=>by (go_simp; exact rfl),?_⟩
     refine rq 20 F.out u.out rfl ?_
     refine rq 21 F.out u.out rfl ?_
     go_simp
     refine reg_load 22 F.out rfl (by kernel_rfl) (by decide) (fun _ _ _ _ h=>h) u.out (wanted_yes (g:=21) (p:=false) (d:=107) rfl (by kernel_rfl) (by simp)) ?_
     apply Exists.intro
     refine ⟨fun w' hw=>by (go_simp; exact rfl),?_⟩
     refine reg_load 24 F.out rfl (by kernel_rfl) (by decide) (fun _ _ _ _ h=>h) u.out (wanted_yes (g:=21) (p:=false) (d:=107) rfl (by kernel_rfl) (at_ne (by decide) (by simp))) ?_
     apply Exists.intro
     refine ⟨fun w' hw=>exec_load_w _ _ _ rfl rfl hw.2,?_⟩
     go_simp
     have aE:=z.out.cl
     have al:=fun w h=>wwant_open (w:=w) (base:=0) (col:=an) (x:=x) (s:=N) h (by rw [z.out.sl]; simp) aE
     have af:=fun w (h:Dw (Kc 0 an) w v3 N [])=>dwanted_any w v3 N [] h (by rw [z.out.sl]; simp)
     rw [aE] at af
     obtain ⟨bw,bh⟩:∃ bw,decide (0 < St.waitN N.sl)=bw:=⟨_,rfl⟩
     rw [bh] at al af
     have al:=Lh al
     have af:=Lh af
     clear aE bh
     refine reg_only 23 rfl (by kernel_rfl) (wanted_yes (g:=21) (p:=false) (d:=107) rfl (by kernel_rfl) (by simp)) ?_
     unfold Oper.wp
     go_simp
     refine (al.out _ z.out.tw.wv).mono ?_
     rintro e w7 ⟨rfl,b7⟩
     have aQ:=Lh (z.out.later b7)
     have aZ:Hid (Yc w7 q y∧Vw w7 J (v3.cells N)):=Lh ⟨u.out.1.later b7,u.out.2.later b7⟩
     clear b7 z u
     have z:=aQ
     have u:=aZ
     clear aQ aZ
     refine ⟨u.out,?_⟩
     refine reg_only 25 rfl (by kernel_rfl) (wanted_yes (g:=21) (p:=false) (d:=107) rfl (by kernel_rfl) (by simp)) ?_
     unfold Oper.wp
     go_simp
     refine (af.out _ z.out.tw.dw).mono ?_
     rintro e w8 ⟨rfl,b8⟩
     have aR:=Lh (z.out.later b8)
     have b0:Hid (Yc w8 q y∧Vw w8 J (v3.cells N)):=Lh ⟨u.out.1.later b8,u.out.2.later b8⟩
     clear b8 z u
     have z:=aR
     have u:=b0
     clear aR b0
     refine ⟨u.out,?_⟩
     have e1:(bw != bw)=false:=by simp
     refine reg_load 26 F.out rfl (by kernel_rfl) (by decide) (fun _ _ _ _ h=>h) u.out (wanted_yes (g:=21) (p:=false) (d:=107) rfl (by kernel_rfl) (by simp)) ?_
     apply Exists.intro
     refine ⟨fun w' hw=>by (go_simp; exact rfl),?_⟩
     refine rq 27 F.out u.out rfl ?_
     refine reg_done (by kernel_rfl) ?_
     go_simp
     clear e0 e1
     go_wp2_with fail
     go_roundw
     case rel=>exact ⟨k+1,an,x,v3,N,by omega,rfl,by go_num,z⟩
     case measure=>simp [intOf]; omega
   ·have bB:=Lh Y.out.bl
    go_wp2_with fail
    go_ret
    exact ⟨rfl,bB.out⟩
 ·have q0:(cfE c == 0)=false:=by simpa using he
  have HN:=Lh (new_no c a5.out he (.slice Ao no co) (.slice Ap np cp) w3)
  have ae:=Lh (fun w=>dnew_no c a5.out he Ao Ap no co np cp w)
  generalize cfE c=ec at *
  have q4:(ec != ec)=false:=by simp
  clear he
  go_wp2_with (refine load_c rfl _ rfl cb rfl c a8.out ?_)
  refine HN.out.mono ?_
  rintro e w4 ⟨rfl,b4⟩
  have ah:=Lh (range_later a8.out b4)
  have a2:Hid (Below W.heap.size W w4):=Lh (a1.out.trans (b4.mono a1.out.size))
  clear b4 a8 a1 HN
  go_wp2_with (refine load_c rfl _ rfl cb rfl c ah.out ?_)
  refine (ae.out w4).mono ?_
  rintro e I ⟨rfl,b5⟩
  have a4:=Lh (a2.out.trans (b5.mono a2.out.size))
  clear b5 a2 ah ae
  go_upto_region 8 with (first
   | (refine store_w rfl _ _ rfl I.heap.size rfl zvD zsD rfl (th_zero I) ?_; intro w6 ao aj; have aa:Hid (Below I.heap.size I w6):=Lh (((Below.refl _ I).alloc (Nat.le_refl _) _).trans (aj.below (by simp) (fun k hk=>by omega))); clear ao aj))
  go_wp2_with fail
  go_ret
  exact ⟨rfl,a4.out.trans (aa.out.mono a4.out.size)⟩
end Go.Proofs.YtaeemilldmhbnaaGreatDoor.Wo
