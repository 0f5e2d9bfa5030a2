/- A part of the claim: the texts PlayT3. -/
import Derived.Test.YtoiklelghfckgaaGreatDoorZPlayT
set_option maxRecDepth 100000
set_option maxHeartbeats 8000000
set_option linter.unusedVariables false
namespace Go.Proofs.YtoiklelghfckgaaGreatDoor.Wo
open Go Go.ChangeShapes Go.WideShapes Go.ChangeAt Go.RowKit Go.Maps Rw Hi Mt Ba
open Cn (Cf cfE)
section
variable (w:World) {base:Nat} {col:Nat→Nat} {x:Wp} {s:Ws} {d:Nat} {v:Dv} {y:Ay} {N:List Int} {k:Nat}
theorem playT3 (h:Tw base col w x v d s N) (hp:Pl s N k) (ci:k≤900) (hN:N.length≤900) (hy:y.ok) (hk:y.do_ % 8=3):Plays w base col x s d y N:=by
 unfold Plays
 rw [playS3 hk]
 have m0:(y.do_ % 8 == 0)=false:=by rw [hk]; rfl
 have cm:((y.do_).tmod 8 == 0)=false:=by rw [Int.tmod_eq_emod_of_nonneg hy.d.1,hk]; rfl
 have m1:(y.do_ % 8 == 1)=false:=by rw [hk]; rfl
 have cn:((y.do_).tmod 8 == 1)=false:=by rw [Int.tmod_eq_emod_of_nonneg hy.d.1,hk]; rfl
 have m2:(y.do_ % 8 == 2)=false:=by rw [hk]; rfl
 have co:((y.do_).tmod 8 == 2)=false:=by rw [Int.tmod_eq_emod_of_nonneg hy.d.1,hk]; rfl
 have m3:(y.do_ % 8 == 3)=true:=by rw [hk]; rfl
 have cp:((y.do_).tmod 8 == 3)=true:=by rw [Int.tmod_eq_emod_of_nonneg hy.d.1,hk]; rfl
 obtain ⟨s4,af⟩:∃ s4:Ws,({ s with O:=(Fc.nx s.O).2,n:=opnN s.O s.n,D:=entD s.D (opnI s.O s.n) y.st s.now } : Ws)=s4:=⟨_,rfl⟩
 obtain ⟨ok,hok⟩:∃ b,(Fc.nx s.O).1=b:=⟨_,rfl⟩
 have bR:=hp.dl
 have bU:=hp.nl
 have aC:U64 (opnI s.O s.n):=by unfold opnI; split <;> exact ⟨by omega,by omega⟩
 rw [af]
 obtain ⟨I,hI⟩:∃ I,opnI s.O s.n=I:=⟨_,rfl⟩
 obtain ⟨nn,aE⟩:∃ nn,opnN s.O s.n=nn:=⟨_,rfl⟩
 rw [hI] at aC
 rw [hI,aE] at af
 obtain ⟨sA,a7⟩:∃ sA:Ws,({ s with O:=(Fc.nx s.O).2,n:=nn } : Ws)=sA:=⟨_,rfl⟩
 obtain ⟨E,hE⟩:∃ E,eE s.D I y.st=E:=⟨_,rfl⟩
 have bg:Hid (∀ W,Wv base col W x s→Calls Tryz.prog 71 #[ptr x.pF] W fun e w'=>e=.returned (.tuple #[.int .u64 I,.bool ok])∧Wv base col w' x sA∧Fw col W w'):=Lh (fun W hw=>by
  have q:=wopen W hw (by omega)
  rw [hI,hok,aE,a7] at q
  exact q)
 have bi:Hid (∀ W,Dw (Kc base col) W v s N→(∀ g,W.heap.size≤g→Kc base col g)→Calls Tryz.prog 72 #[v.fact s.n] W fun e w'=>∃ v',e=.returned (.tuple #[v',.int .u64 I,.bool ok])∧Fk.Rf (Kc base col) w' v' (Fc.nx s.O).2 s.P nn s.C∧Below W.heap.size W w'):=Lh (fun W hd hK=>by
  have q:=Fk.ropen_any (v.fact s.n) s.n s.O s.P s.C W hd.fact (by omega) hp.cin hK
  rw [show (if (Fc.nx s.O).1=true then (s.n:Int)+1 else 0)=I from hI,show (if (Fc.nx s.O).1=true then s.n+1 else s.n)=nn from aE,hok] at q
  exact q)
 have bb:Hid (∀ (K:Nat→Prop) (z:Dv) W,z.b=v.b→Dw K W z sA N→(∀ g,W.heap.size≤g→K g)→Calls Tryz.prog 75 #[.agg #[.slice v.b.A v.b.n v.b.c,.slice v.b.A2 v.b.n2 v.b.c2],.int .u64 I,.int .i64 y.st,.int .u64 s.now] W fun e w'=>∃ A' n' G,e=.returned (.tuple #[.agg #[.slice A' n' G,.slice v.b.A2 v.b.n2 v.b.c2],.int .i64 E])∧Dw K w' { z with b:=⟨A',n',G,v.b.A2,v.b.n2,v.b.c2⟩ } s4 N∧Below W.heap.size W w'):=Lh (fun K z W hb hd hK=>by
  have bB:Dq K W v.b s.D s.S:=by have:=hd.bag; rw [hb,← a7] at this; exact this
  refine (renter_any v.b.A v.b.A2 v.b.n v.b.c v.b.n2 v.b.c2 s.D s.S W I y.st s.now bB hK hp.ri aC hy.s hp.nw (by have:=bB.l.len; omega)).mono ?_
  rintro e w' ⟨A',n',G,rfl,h1,h2⟩
  refine ⟨A',n',G,by rw [hE],?_,h2⟩
  have h3:=hd.later h2
  rw [← a7] at h3
  rw [← af]
  exact ⟨h1,h3.loc,h3.sl,h3.sk,h3.book,h3.fact,h3.hist,h3.hk,h3.l8⟩)
 have bh:Hid (∀ W (col:Nat→Nat),Wv base col W x sA→Calls Tryz.prog 73 #[ptr x.pb,.int .u64 I,.int .i64 y.st,.int .u64 s.now] W fun e w'=>e=.returned (.int .i64 E) ∧ ∃ col',Wv base col' w' x s4∧Fw col W w'∧El W col col'):=Lh (fun W col hw=>by
  have q:=wenter W hw I y.st s.now aC hp.nw (by rw [← a7]; show s.D.length < 1000000; omega)
  rw [← a7] at q
  rw [← af,← hE]
  exact q)
 have be:Hid (sA.now=s.now):=Lh (by rw [← a7])
 have bj:Hid (∀ W,Wc W x s4→Wc W x sA):=Lh (fun W h=>by rw [← af] at h; rw [← a7]; exact h.to rfl rfl rfl rfl rfl rfl rfl rfl rfl rfl rfl)
 have aK:Hid (∀ z:Dv,Dv.cells z sA=Dv.cells z { s with n:=nn }):=Lh (fun z=>by rw [← a7]; rfl)
 have bo:Hid (∀ z:Dv,Dv.cells z s4=Dv.cells z { s with n:=nn }):=Lh (fun z=>by rw [← af]; rfl)
 have ba:Hid (∀ (K:Nat→Prop) (W:World) (z:Dv),Dw K W v s N→Fk.Rf K W (z.fact nn) (Fc.nx s.O).2 s.P nn s.C→z.b=v.b→z.lA=v.lA→z.ln=v.ln→z.lc=v.lc→z.vs=v.vs→z.sA=v.sA→z.sn=v.sn→z.sc=v.sc→z.k=v.k→z.hA=v.hA→z.hn=v.hn→z.hc=v.hc→Dw K W z sA N):=Lh (fun K W z hd hf e1 e2 e3 e4 e5 e6 e7 e8 e9 bz bA bN=>by
  rw [← a7]
  refine ⟨e1 ▸ hd.bag,?_,?_,?_,e9 ▸ hd.book,hf,?_,?_,e3 ▸ hd.l8⟩
  ·rw [e2,e4,e5]; exact hd.loc
  ·rw [e6,e7,e8]; exact hd.sl
  ·rw [e6,e7]; exact hd.sk
  ·rw [bz,bA,bN]; exact hd.hist
  ·rw [bz,bA]; exact hd.hk)
 have HT:=Lh h
 have az:=Lh (Yc.new w y)
 have a9:Hid (Below w.heap.size w (w.alloc (.cells #[.int .u8 y.do_,.int .u64 y.id,.int .u64 y.n,.int .i64 y.th,.int .i64 y.st] 103))):=Lh ((Below.refl _ _).alloc (Nat.le_refl _) _)
 clear hk hy h hp af a7 hok bR bU hI aE hE aC
 go_enter Tryz.func34,Tryz.ntmps34
 go_upto_region 1 with (fail)
 generalize (w.alloc (.cells #[.int .u8 y.do_,.int .u64 y.id,.int .u64 y.n,.int .i64 y.th,.int .i64 y.st] 103))=W1 at *
 have aL:=Lh (HT.out.wv.later a9.out)
 have aH:=Lh (HT.out.vw.later a9.out)
 have b2:=Lh (HT.out.dw.later a9.out)
 obtain ⟨q,hq⟩:∃ q,w.heap.size=q:=⟨_,rfl⟩
 have bH:q≠d:=fun e=>by have:=HT.out.vw.lt; omega
 have cj:w.heap.size≤q:=by omega
 rw [hq] at az
 rw [hq]
 obtain ⟨z0,z1,z2,z3,z4⟩:=az.out
 have bI:=Lh bH
 have b0:Hid (col q=0):=Lh (Classical.byContradiction fun e=>by have:=HT.out.wv.hi q e; omega)
 clear hq bH
 have c12:=aL.out.cells.c12
 go_wp2_with fail
 refine (bg.out W1 aL.out).mono ?_
 rintro e w2 ⟨rfl,h2,av⟩
 have aM:=Lh h2
 have bw:=Lh av
 have aq:=Lh (aH.out.blk (av.block d aH.out.lt (fun e=>e.2 HT.out.c8)))
 have aF:=Lh (b2.out.call av (El.refl _ _))
 have aO:=Lh (az.out.blk (av.block q az.out.lt (fun e=>e.1 b0.out)))
 clear h2 av bg c12 z0 z1 z2 z3 z4 aL aH b2
 obtain ⟨z0,z1,z2,z3,z4⟩:=aO.out
 have aR:=aq.out.cell 16 _ rfl
 have aS:=aq.out.cell 17 _ rfl
 have aT:=aq.out.cell 18 _ rfl
 go_wp2_with fail
 refine (bi.out w2 aF.out (fun g hg=>aM.out.new0 g hg)).mono ?_
 rintro e w3 ⟨vf,rfl,aU,b3⟩
 obtain ⟨A1,n1,c1,A2,n2,c2,A3,c3,S,rfl,bX,bY,bZ,ch⟩:=aU.form
 have bc:=Lh aU
 have ax:=Lh b3
 have bn:=Lh (aq.out.later b3)
 have bq:=Lh (aM.out.later b3)
 have bu:=Lh (aO.out.later b3)
 clear b3 aU bX bY bZ ch bi aR aS aT z0 z1 z2 z3 z4
 obtain ⟨z,a1⟩:∃ z:Dv,({ v with fA:=A1,fn:=n1,fc:=c1,pA:=A2,pn:=n2,pc:=c2,cA:=A3,cc:=c3 } : Dv)=z:=⟨_,rfl⟩
 have bJ:=Lh a1
 have b4:Hid (Dw (Kc base col) w3 z sA N):=Lh (ba.out (Kc base col) w3 z (aF.out.later ax.out) (by rw [← a1]; exact bc.out) (by rw [← a1]) (by rw [← a1]) (by rw [← a1]) (by rw [← a1]) (by rw [← a1]) (by rw [← a1]) (by rw [← a1]) (by rw [← a1]) (by rw [← a1]) (by rw [← a1]) (by rw [← a1]) (by rw [← a1]))
 have aJ:Hid (z.b=v.b):=Lh (by rw [← a1])
 clear a1 ba bc
 go_upto_region 20 with (fail)
 have ai:Below w3.heap.size w3 (w3.alloc (.cells #[.slice A1 n1 c1,.slice A2 n2 c2,.slice A3 nn c3] 41)):=(Below.refl _ _).alloc (Nat.le_refl _) _
 have y0:(w3.alloc (.cells #[.slice A1 n1 c1,.slice A2 n2 c2,.slice A3 nn c3] 41)).cell? ⟨w3.heap.size,0,none⟩=some (.slice A1 n1 c1):=by go_simp
 have y1:(w3.alloc (.cells #[.slice A1 n1 c1,.slice A2 n2 c2,.slice A3 nn c3] 41)).cell? ⟨w3.heap.size,1,none⟩=some (.slice A2 n2 c2):=by go_simp
 have y2:(w3.alloc (.cells #[.slice A1 n1 c1,.slice A2 n2 c2,.slice A3 nn c3] 41)).cell? ⟨w3.heap.size,2,none⟩=some (.slice A3 nn c3):=by go_simp
 have aa:=Lh (bn.out.later ai)
 have br:=Lh (bq.out.later ai)
 have b5:=Lh (b4.out.later ai)
 have aP:=Lh (bu.out.later ai)
 have aZ:Hid (Below w2.heap.size w2 (w3.alloc (.cells #[.slice A1 n1 c1,.slice A2 n2 c2,.slice A3 nn c3] 41))):=Lh (ax.out.trans (ai.mono ax.out.size))
 have aR:=aa.out.cell 16 _ rfl
 have bO:=aa.out.free 16 (by decide)
 have aS:=aa.out.cell 17 _ rfl
 have bP:=aa.out.free 17 (by decide)
 have aT:=aa.out.cell 18 _ rfl
 have bQ:=aa.out.free 18 (by decide)
 clear ai aq bn bq b4 bu
 generalize (w3.alloc (.cells #[.slice A1 n1 c1,.slice A2 n2 c2,.slice A3 nn c3] 41))=w4 at *
 obtain ⟨x2,aX⟩:∃ x2,w3.heap.size=x2:=⟨_,rfl⟩
 rw [aX] at y0 y1 y2
 rw [aX]
 clear aX
 go_upto_region 21 with (fail)
 have a2:Hid (Vw (((w4.setCell ⟨d,16,none⟩ (.slice A1 n1 c1)).setCell ⟨d,17,none⟩ (.slice A2 n2 c2)).setCell ⟨d,18,none⟩ (.slice A3 nn c3)) d (Dv.cells z sA)):=Lh (by
  rw [aK.out,← bJ.out]
  exact ((aa.out.set 16 (by simp [cells_len]) (.slice A1 n1 c1)).set 17 (by simp [cells_len]) (.slice A2 n2 c2)).set 18 (by simp [cells_len]) (.slice A3 nn c3))
 have aw:Fz (fun k=>k=d) w4 (((w4.setCell ⟨d,16,none⟩ (.slice A1 n1 c1)).setCell ⟨d,17,none⟩ (.slice A2 n2 c2)).setCell ⟨d,18,none⟩ (.slice A3 nn c3)):=((Fz.of_set (C:=fun k=>k=d) (a:=⟨d,16,none⟩) _ rfl).trans (Fz.of_set (C:=fun k=>k=d) (a:=⟨d,17,none⟩) _ rfl)).trans (Fz.of_set (C:=fun k=>k=d) (a:=⟨d,18,none⟩) _ rfl)
 have ac:=Lh (br.out.aside aw (fun k _ e=>by rw [e]; exact HT.out.c8))
 have an:=Lh (b5.out.at_ HT.out.c8 aw)
 have a0:=Lh (aP.out.blk (aw.block q aP.out.lt (fun e=>bI.out e)))
 have aQ:Hid (Fp col d W1 (((w4.setCell ⟨d,16,none⟩ (.slice A1 n1 c1)).setCell ⟨d,17,none⟩ (.slice A2 n2 c2)).setCell ⟨d,18,none⟩ (.slice A3 nn c3))):=Lh ((fp_w bw.out).trans ((Fz.of_below aZ.out).trans (fp_d aw)))
 generalize (((w4.setCell ⟨d,16,none⟩ (.slice A1 n1 c1)).setCell ⟨d,17,none⟩ (.slice A2 n2 c2)).setCell ⟨d,18,none⟩ (.slice A3 nn c3))=w0 at *
 clear aw y0 y1 y2 aR bO aS bP aT bQ aa br b5 aP aZ bw ax aM aF aO
 go_wp2_with fail
 have u:Hid (Wc w0.drew x sA∧Yc w0.drew q y):=Lh ⟨ac.out.cells.blk rfl,a0.out.blk rfl⟩
 refine reg_start 11 (fun w'=>Wc w' x sA∧Yc w' q y) (by kernel_rfl) (by kernel_rfl) ?_
 intro ar
 have J:=Lh ar
 clear ar
 refine rq 0 J.out u.out rfl ?_
 refine rq 1 J.out u.out rfl ?_
 refine rq 2 J.out u.out rfl ?_
 refine rq 3 J.out u.out rfl ?_ (hv:=fun w' hw=>by (have kc:=hw.1.c8; go_simp; exact rfl))
 refine rq 4 J.out u.out rfl ?_
 refine rq 5 J.out u.out rfl ?_
 refine rq 6 J.out u.out rfl ?_ (hv:=fun w' hw=>by (have kz:=hw.2.z4; go_simp; exact rfl))
 refine rq 7 J.out u.out rfl ?_
 refine reg_only 8 rfl (by kernel_rfl) rfl ?_
 unfold Oper.wp
 go_simp
 refine (wnow_any _ u.out.1).mono ?_
 rintro e Y ⟨rfl,b6⟩
 have ae:Below w0.heap.size w0 Y:=(Below.refl _ _).drew.trans b6
 have hS:Wc Y x sA∧Yc Y q y:=⟨u.out.1.blk (b6.block _ u.out.1.lt),u.out.2.later b6⟩
 refine ⟨hS,?_⟩
 clear u
 have u:=Lh hS
 have a8:=Lh ae
 rw [be.out]
 clear hS b6 ae
 refine reg_only 9 rfl (by kernel_rfl) rfl ?_
 unfold Oper.wp
 go_simp
 refine (bh.out _ col (ac.out.later a8.out)).mono ?_
 rintro e Q ⟨rfl,a6,h7,z7,l7⟩
 have aY:Fw col w0 Q:=(Fz.of_below a8.out).trans z7
 have bG:El w0 col a6:=fun k hk=>l7 k (by have:=a8.out.size; omega)
 have hS:Wc Q x sA∧Yc Q q y:=⟨bj.out _ h7.cells,a0.out.blk (aY.block q a0.out.lt (fun e=>e.1 b0.out))⟩
 refine ⟨hS,?_⟩
 clear u
 have u:=Lh hS
 have bt:=Lh h7
 have aA:=Lh aY
 have ay:=Lh bG
 clear hS h7 z7 l7 aY bG
 refine rq 10 J.out u.out rfl ?_
 refine reg_done (by kernel_rfl) ?_
 have ag:Hid (a6 d=8):=Lh ((ay.out d a2.out.lt).trans HT.out.c8)
 have bp:=Lh (a2.out.blk (aA.out.block d a2.out.lt (fun e=>e.2 HT.out.c8)))
 have b9:=Lh (an.out.call aA.out ay.out)
 have bv:=Lh u.out.2
 have aB:Hid (Fp col d W1 Q):=Lh (aQ.out.trans (fp_w aA.out))
 have ca:=aQ.out.size
 have cd:=a9.out.size
 have bd:Hid (El w col a6):=Lh (fun g hg=>ay.out g (by omega))
 clear u ac a2 an a0 aA ay a8 aQ bh bj ca cd
 generalize bM:Q=F at *
 clear bM
 have ac:=bt
 have a2:=bp
 have an:=b9
 have a0:=bv
 clear bt bp b9 bv
 go_wp2_with fail
 have au:Below F.heap.size F F.drew:=(Below.refl _ _).drew
 have u:Hid (Vw F.drew d (Dv.cells z sA)∧F.drew.cell? ⟨q,4,none⟩=some (.int .i64 y.st)):=Lh ⟨a2.out.later au,(au.cell (p:=⟨q,4,none⟩) a0.out.lt).trans a0.out.z4⟩
 refine reg_start 18 (fun w'=>Vw w' d (Dv.cells z sA)∧w'.cell? ⟨q,4,none⟩=some (.int .i64 y.st)) (by kernel_rfl) (by kernel_rfl) ?_
 intro ar
 have J:=Lh ar
 clear ar
 refine rq 0 J.out u.out rfl ?_
 refine rq 1 J.out u.out rfl ?_
 refine rq 2 J.out u.out rfl ?_
 refine rq 3 J.out u.out rfl ?_ (hv:=fun w' hw=>by (have k8:=hw.1.cell 8 _ rfl; have k9:=hw.1.cell 9 _ rfl; rw [aJ.out] at k8 k9; go_simp; exact rfl))
 refine rq 4 J.out u.out rfl ?_
 refine rq 5 J.out u.out rfl ?_
 refine rq 6 J.out u.out rfl ?_ (hv:=fun w' hw=>by (have kz:=hw.2; go_simp; exact rfl))
 refine rq 7 J.out u.out rfl ?_
 refine rq 8 J.out u.out rfl ?_
 refine rq 9 J.out u.out rfl ?_
 refine rq 10 J.out u.out rfl ?_ (hv:=fun w' hw=>by (have k7:=hw.1.cell 7 _ rfl; rw [be.out] at k7; go_simp; exact rfl))
 refine reg_two 11 15 rfl rfl (by kernel_rfl) rfl rfl ?_ ?_
 ·as_aux_lemma=>
   unfold Oper.wp
   go_simp
   refine (bb.out (Kc base a6) z _ aJ.out (an.out.later au) (fun g hg=>ac.out.new0 g hg)).mono ?_
   rintro e Y ⟨A',n',G,rfl,bC,b6⟩
   have ae:Below F.heap.size F Y:=au.trans (b6.mono (Nat.le_refl _))
   clear u
   have u:Hid (Vw Y d (Dv.cells z sA)∧Y.cell? ⟨q,4,none⟩=some (.int .i64 y.st)):=Lh ⟨a2.out.later ae,(ae.cell (p:=⟨q,4,none⟩) a0.out.lt).trans a0.out.z4⟩
   refine ⟨u.out,?_⟩
   have b8:=Lh bC
   have a8:=Lh ae
   clear bC b6 ae
   refine rq 12 J.out u.out rfl ?_
   refine rq 13 J.out u.out rfl ?_
   refine rq 14 J.out u.out rfl ?_
   refine reg_only 15 rfl (by kernel_rfl) rfl ?_
   unfold Oper.wp
   go_simp
   have ah:Below Y.heap.size Y (Y.alloc (.cells #[.slice none 0 0,.slice none 0 0] 32)):=(Below.refl _ _).alloc (Nat.le_refl _) _
   have a3:Below F.heap.size F (Y.alloc (.cells #[.slice none 0 0,.slice none 0 0] 32)):=a8.out.trans (ah.mono a8.out.size)
   have y0:(Y.alloc (.cells #[.slice none 0 0,.slice none 0 0] 32)).cell? ⟨Y.heap.size,0,none⟩=some (.slice none 0 0):=by go_simp
   have y1:(Y.alloc (.cells #[.slice none 0 0,.slice none 0 0] 32)).cell? ⟨Y.heap.size,1,none⟩=some (.slice none 0 0):=by go_simp
   have x0:(Y.alloc (.cells #[.slice none 0 0,.slice none 0 0] 32)).frozen? ⟨Y.heap.size,0,none⟩=false:=by go_simp
   have x1:(Y.alloc (.cells #[.slice none 0 0,.slice none 0 0] 32)).frozen? ⟨Y.heap.size,1,none⟩=false:=by go_simp
   clear u
   have u:Hid (Vw (Y.alloc (.cells #[.slice none 0 0,.slice none 0 0] 32)) d (Dv.cells z sA)∧(Y.alloc (.cells #[.slice none 0 0,.slice none 0 0] 32)).cell? ⟨q,4,none⟩=some (.int .i64 y.st)):=Lh ⟨a2.out.later a3,(a3.cell (p:=⟨q,4,none⟩) a0.out.lt).trans a0.out.z4⟩
   refine ⟨u.out,?_⟩
   have ao:=Lh ((b8.out.mono (L:=fun k=>Kc base a6 k∧k≠Y.heap.size) (fun k hk e=>⟨e,by omega⟩)).later ah)
   have ak:=Lh a3
   obtain ⟨g,hg⟩:∃ g,Y.heap.size=g:=⟨_,rfl⟩
   have bS:F.heap.size≤g:=by have:=a8.out.size; omega
   rw [hg] at y0 y1 x0 x1
   rw [hg] at ao
   rw [hg]
   generalize (Y.alloc (.cells #[.slice none 0 0,.slice none 0 0] 32))=Q at *
   clear ah a3 hg b8 a8
   refine reg_only 16 rfl (by kernel_rfl) rfl ?_
   unfold Oper.wp
   go_simp
   have a5:Fz (fun k=>k=g) Q ((Q.setCell ⟨g,0,none⟩ (.slice A' n' G)).setCell ⟨g,1,none⟩ (.slice v.b.A2 v.b.n2 v.b.c2)):=(Fz.of_set (C:=fun k=>k=g) (a:=⟨g,0,none⟩) _ rfl).trans (Fz.of_set (C:=fun k=>k=g) (a:=⟨g,1,none⟩) _ rfl)
   have aV:g≠d:=fun e=>by have:=a2.out.lt; omega
   have aW:g≠q:=fun e=>by have:=a0.out.lt; omega
   have hS:Vw ((Q.setCell ⟨g,0,none⟩ (.slice A' n' G)).setCell ⟨g,1,none⟩ (.slice v.b.A2 v.b.n2 v.b.c2)) d (Dv.cells z sA)∧(((Q.setCell ⟨g,0,none⟩ (.slice A' n' G)).setCell ⟨g,1,none⟩ (.slice v.b.A2 v.b.n2 v.b.c2))).cell? ⟨q,4,none⟩=some (.int .i64 y.st):=⟨u.out.1.blk (a5.block d u.out.1.lt (fun e=>aV e.symm)),(World.cell?_of_block (a:=⟨q,4,none⟩) (a5.block q (Lw.lt_heap u.out.2) (fun e=>aW e.symm))).trans u.out.2⟩
   have y2:(((Q.setCell ⟨g,0,none⟩ (.slice A' n' G)).setCell ⟨g,1,none⟩ (.slice v.b.A2 v.b.n2 v.b.c2))).cell? ⟨g,0,none⟩=some (.slice A' n' G):=(World.cell?_setCell_other _ _ _ _ (by simp)).trans (World.cell?_setCell_same _ _ _ y0)
   have y3:(((Q.setCell ⟨g,0,none⟩ (.slice A' n' G)).setCell ⟨g,1,none⟩ (.slice v.b.A2 v.b.n2 v.b.c2))).cell? ⟨g,1,none⟩=some (.slice v.b.A2 v.b.n2 v.b.c2):=World.cell?_setCell_same _ _ _ ((World.cell?_setCell_other _ _ _ _ (by simp)).trans y1)
   refine ⟨by first | exact hS | exact ⟨hS.1,u.out.2⟩,?_⟩
   clear u
   have u:=Lh hS
   have al:Hid (Below F.heap.size F ((Q.setCell ⟨g,0,none⟩ (.slice A' n' G)).setCell ⟨g,1,none⟩ (.slice v.b.A2 v.b.n2 v.b.c2))):=Lh (ak.out.trans (a5.below ak.out.size (fun k hk=>by omega)))
   have aG:Hid (Dw (Kc base a6) ((Q.setCell ⟨g,0,none⟩ (.slice A' n' G)).setCell ⟨g,1,none⟩ (.slice v.b.A2 v.b.n2 v.b.c2)) { z with b:=⟨A',n',G,v.b.A2,v.b.n2,v.b.c2⟩ } s4 N):=Lh ((ao.out.fz a5 (fun k hk e e2=>e.2 e2)).mono (fun k hk e=>e.1))
   generalize ((Q.setCell ⟨g,0,none⟩ (.slice A' n' G)).setCell ⟨g,1,none⟩ (.slice v.b.A2 v.b.n2 v.b.c2))=w8 at *
   clear hS a5 y0 y1 x0 x1
   refine rq 17 J.out u.out rfl ?_
   refine reg_done (by kernel_rfl) ?_
   have a4:=Lh u.out.1
   clear u
   have f8:=a4.out.cell 8 _ rfl
   have g8:=a4.out.free 8 (by decide)
   have f9:=a4.out.cell 9 _ rfl
   have g9:=a4.out.free 9 (by decide)
   have aN:=Lh (ac.out.later al.out)
   go_upto_region 26 with (fail)
   have aI:Hid (Vw ((w8.setCell ⟨d,8,none⟩ (.slice A' n' G)).setCell ⟨d,9,none⟩ (.slice v.b.A2 v.b.n2 v.b.c2)) d (Dv.cells { z with b:=⟨A',n',G,v.b.A2,v.b.n2,v.b.c2⟩ } s4)):=Lh (by
    have q:=(a4.out.set 8 (by simp [cells_len]) (.slice A' n' G)).set 9 (by simp [cells_len]) (.slice v.b.A2 v.b.n2 v.b.c2)
    rw [aK.out] at q
    rw [bo.out]
    exact q)
   have ad:Hid (Fz (fun k=>k=d) w8 ((w8.setCell ⟨d,8,none⟩ (.slice A' n' G)).setCell ⟨d,9,none⟩ (.slice v.b.A2 v.b.n2 v.b.c2))):=Lh ((Fz.of_set (C:=fun k=>k=d) (a:=⟨d,8,none⟩) _ rfl).trans (Fz.of_set (C:=fun k=>k=d) (a:=⟨d,9,none⟩) _ rfl))
   generalize ((w8.setCell ⟨d,8,none⟩ (.slice A' n' G)).setCell ⟨d,9,none⟩ (.slice v.b.A2 v.b.n2 v.b.c2))=w9 at *
   clear f8 g8 f9 g9 y2 y3
   go_wp2_with fail
   go_ret
   have ce:=a9.out.size
   have cg:=aB.out.size
   refine ⟨by simp,a6,{ z with b:=⟨A',n',G,v.b.A2,v.b.n2,v.b.c2⟩ },⟨aN.out.aside ad.out (fun k _ e=>by rw [e]; exact ag.out),aG.out.at_ ag.out ad.out,aI.out,ag.out⟩,?_,fun k hk=>bd.out k (by omega)⟩
   exact ((Fz.of_below a9.out).trans aB.out).trans ((Fz.of_below al.out).trans (fp_d ad.out))
 ·as_aux_lemma=>
   unfold Oper.wp
   go_simp
   have ah:Below F.drew.heap.size F.drew (F.drew.alloc (.cells #[.slice none 0 0,.slice none 0 0] 32)):=(Below.refl _ _).alloc (Nat.le_refl _) _
   have a3:Below F.heap.size F (F.drew.alloc (.cells #[.slice none 0 0,.slice none 0 0] 32)):=au.trans (ah.mono (Nat.le_refl _))
   have y0:(F.drew.alloc (.cells #[.slice none 0 0,.slice none 0 0] 32)).cell? ⟨F.heap.size,0,none⟩=some (.slice none 0 0):=by go_simp
   have y1:(F.drew.alloc (.cells #[.slice none 0 0,.slice none 0 0] 32)).cell? ⟨F.heap.size,1,none⟩=some (.slice none 0 0):=by go_simp
   have x0:(F.drew.alloc (.cells #[.slice none 0 0,.slice none 0 0] 32)).frozen? ⟨F.heap.size,0,none⟩=false:=by go_simp
   have x1:(F.drew.alloc (.cells #[.slice none 0 0,.slice none 0 0] 32)).frozen? ⟨F.heap.size,1,none⟩=false:=by go_simp
   have aj:(F.drew.alloc (.cells #[.slice none 0 0,.slice none 0 0] 32)).heap.size=F.heap.size+1:=by simp
   clear u
   have u:Hid (Vw (F.drew.alloc (.cells #[.slice none 0 0,.slice none 0 0] 32)) d (Dv.cells z sA)∧(F.drew.alloc (.cells #[.slice none 0 0,.slice none 0 0] 32)).cell? ⟨q,4,none⟩=some (.int .i64 y.st)):=Lh ⟨a2.out.later a3,(a3.cell (p:=⟨q,4,none⟩) a0.out.lt).trans a0.out.z4⟩
   refine ⟨u.out,?_⟩
   refine reg_only 11 rfl (by kernel_rfl) rfl ?_
   unfold Oper.wp
   go_simp
   refine (bb.out (fun k=>Kc base a6 k∧k≠F.heap.size) z _ aJ.out ((an.out.mono (fun k hk e=>⟨e,by omega⟩)).later a3) (fun k hk=>⟨ac.out.new0 k (by have:=a3.size; omega),by rw [aj] at hk; omega⟩)).mono ?_
   rintro e Q ⟨A',n',G,rfl,bD,b7⟩
   have aD:Below F.heap.size F Q:=a3.trans (b7.mono a3.size)
   have y0:=(b7.cell (p:=⟨F.heap.size,0,none⟩) (by rw [aj]; show F.heap.size < _; omega)).trans y0
   have y1:=(b7.cell (p:=⟨F.heap.size,1,none⟩) (by rw [aj]; show F.heap.size < _; omega)).trans y1
   have x0:=(World.frozen?_of_block (a:=⟨F.heap.size,0,none⟩) (b7.block F.heap.size (by rw [aj]; omega))).trans x0
   have x1:=(World.frozen?_of_block (a:=⟨F.heap.size,1,none⟩) (b7.block F.heap.size (by rw [aj]; omega))).trans x1
   clear u
   have u:Hid (Vw Q d (Dv.cells z sA)∧Q.cell? ⟨q,4,none⟩=some (.int .i64 y.st)):=Lh ⟨a2.out.later aD,(aD.cell (p:=⟨q,4,none⟩) a0.out.lt).trans a0.out.z4⟩
   refine ⟨u.out,?_⟩
   have ao:=Lh bD
   have ak:=Lh aD
   clear bD b7 ah a3 aD aj
   refine rq 12 J.out u.out rfl ?_
   refine rq 13 J.out u.out rfl ?_
   refine rq 14 J.out u.out rfl ?_
   obtain ⟨g,hg⟩:∃ g,F.heap.size=g:=⟨_,rfl⟩
   have bS:F.heap.size≤g:=by omega
   rw [hg] at y0 y1 x0 x1
   rw [hg] at ao
   rw [hg]
   clear hg
   refine reg_only 16 rfl (by kernel_rfl) rfl ?_
   unfold Oper.wp
   go_simp
   have a5:Fz (fun k=>k=g) Q ((Q.setCell ⟨g,0,none⟩ (.slice A' n' G)).setCell ⟨g,1,none⟩ (.slice v.b.A2 v.b.n2 v.b.c2)):=(Fz.of_set (C:=fun k=>k=g) (a:=⟨g,0,none⟩) _ rfl).trans (Fz.of_set (C:=fun k=>k=g) (a:=⟨g,1,none⟩) _ rfl)
   have aV:g≠d:=fun e=>by have:=a2.out.lt; omega
   have aW:g≠q:=fun e=>by have:=a0.out.lt; omega
   have hS:Vw ((Q.setCell ⟨g,0,none⟩ (.slice A' n' G)).setCell ⟨g,1,none⟩ (.slice v.b.A2 v.b.n2 v.b.c2)) d (Dv.cells z sA)∧(((Q.setCell ⟨g,0,none⟩ (.slice A' n' G)).setCell ⟨g,1,none⟩ (.slice v.b.A2 v.b.n2 v.b.c2))).cell? ⟨q,4,none⟩=some (.int .i64 y.st):=⟨u.out.1.blk (a5.block d u.out.1.lt (fun e=>aV e.symm)),(World.cell?_of_block (a:=⟨q,4,none⟩) (a5.block q (Lw.lt_heap u.out.2) (fun e=>aW e.symm))).trans u.out.2⟩
   have y2:(((Q.setCell ⟨g,0,none⟩ (.slice A' n' G)).setCell ⟨g,1,none⟩ (.slice v.b.A2 v.b.n2 v.b.c2))).cell? ⟨g,0,none⟩=some (.slice A' n' G):=(World.cell?_setCell_other _ _ _ _ (by simp)).trans (World.cell?_setCell_same _ _ _ y0)
   have y3:(((Q.setCell ⟨g,0,none⟩ (.slice A' n' G)).setCell ⟨g,1,none⟩ (.slice v.b.A2 v.b.n2 v.b.c2))).cell? ⟨g,1,none⟩=some (.slice v.b.A2 v.b.n2 v.b.c2):=World.cell?_setCell_same _ _ _ ((World.cell?_setCell_other _ _ _ _ (by simp)).trans y1)
   refine ⟨by first | exact hS | exact ⟨hS.1,u.out.2⟩,?_⟩
   clear u
   have u:=Lh hS
   have al:Hid (Below F.heap.size F ((Q.setCell ⟨g,0,none⟩ (.slice A' n' G)).setCell ⟨g,1,none⟩ (.slice v.b.A2 v.b.n2 v.b.c2))):=Lh (ak.out.trans (a5.below ak.out.size (fun k hk=>by omega)))
   have aG:Hid (Dw (Kc base a6) ((Q.setCell ⟨g,0,none⟩ (.slice A' n' G)).setCell ⟨g,1,none⟩ (.slice v.b.A2 v.b.n2 v.b.c2)) { z with b:=⟨A',n',G,v.b.A2,v.b.n2,v.b.c2⟩ } s4 N):=Lh ((ao.out.fz a5 (fun k hk e e2=>e.2 e2)).mono (fun k hk e=>e.1))
   generalize ((Q.setCell ⟨g,0,none⟩ (.slice A' n' G)).setCell ⟨g,1,none⟩ (.slice v.b.A2 v.b.n2 v.b.c2))=w8 at *
   clear hS a5 y0 y1 x0 x1
   refine rq 17 J.out u.out rfl ?_
   refine reg_done (by kernel_rfl) ?_
   have a4:=Lh u.out.1
   clear u
   have f8:=a4.out.cell 8 _ rfl
   have g8:=a4.out.free 8 (by decide)
   have f9:=a4.out.cell 9 _ rfl
   have g9:=a4.out.free 9 (by decide)
   have aN:=Lh (ac.out.later al.out)
   go_upto_region 26 with (fail)
   have aI:Hid (Vw ((w8.setCell ⟨d,8,none⟩ (.slice A' n' G)).setCell ⟨d,9,none⟩ (.slice v.b.A2 v.b.n2 v.b.c2)) d (Dv.cells { z with b:=⟨A',n',G,v.b.A2,v.b.n2,v.b.c2⟩ } s4)):=Lh (by
    have q:=(a4.out.set 8 (by simp [cells_len]) (.slice A' n' G)).set 9 (by simp [cells_len]) (.slice v.b.A2 v.b.n2 v.b.c2)
    rw [aK.out] at q
    rw [bo.out]
    exact q)
   have ad:Hid (Fz (fun k=>k=d) w8 ((w8.setCell ⟨d,8,none⟩ (.slice A' n' G)).setCell ⟨d,9,none⟩ (.slice v.b.A2 v.b.n2 v.b.c2))):=Lh ((Fz.of_set (C:=fun k=>k=d) (a:=⟨d,8,none⟩) _ rfl).trans (Fz.of_set (C:=fun k=>k=d) (a:=⟨d,9,none⟩) _ rfl))
   generalize ((w8.setCell ⟨d,8,none⟩ (.slice A' n' G)).setCell ⟨d,9,none⟩ (.slice v.b.A2 v.b.n2 v.b.c2))=w9 at *
   clear f8 g8 f9 g9 y2 y3
   go_wp2_with fail
   go_ret
   have ce:=a9.out.size
   have cg:=aB.out.size
   refine ⟨by simp,a6,{ z with b:=⟨A',n',G,v.b.A2,v.b.n2,v.b.c2⟩ },⟨aN.out.aside ad.out (fun k _ e=>by rw [e]; exact ag.out),aG.out.at_ ag.out ad.out,aI.out,ag.out⟩,?_,fun k hk=>bd.out k (by omega)⟩
   exact ((Fz.of_below a9.out).trans aB.out).trans ((Fz.of_below al.out).trans (fp_d ad.out))
end
end Go.Proofs.YtoiklelghfckgaaGreatDoor.Wo
