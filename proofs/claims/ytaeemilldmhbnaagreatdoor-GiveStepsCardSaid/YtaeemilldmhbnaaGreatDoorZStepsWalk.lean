/- A part of the claim: the texts StepsWalk. -/
import Derived.Test.YtaeemilldmhbnaaGreatDoorZGSteps
import Derived.Deep.RegionHeld3
set_option maxRecDepth 100000
set_option maxHeartbeats 80000000
set_option linter.unusedVariables false
namespace Go.Proofs.YtaeemilldmhbnaaGreatDoor.Wo
open Go Go.ChangeShapes Go.WideShapes Go.ChangeAt Go.RowKit Go.Deep Go.Maps Rw Hi Mt Ba
open Cn (Cf cfE)
structure Sw (W0:World) (base:Nat) (col:Nat→Nat) (w:World) (x:Wp) (v:Dv) (gb db xb:Nat) (q:Gw):Prop where
 wv:Wv base col w x q.s
 dw:Dw (Kc base col) w v q.s q.N
 vd:Vw w db (v.cells q.s)
 cd:col db=8
 vx:Vg w xb q.g
 cx:col xb=8
 vg:Vg w gb q.g
 lb:gb < base
 hb:W0.heap.size≤gb
 ne:db≠xb
 bl:Below W0.heap.size W0 w
section
variable {W0 w w' w2:World} {base:Nat} {col col':Nat→Nat} {x:Wp} {v v':Dv} {gb db xb:Nat} {q r:Gw}
theorem Sw.cg (h:Sw W0 base col w x v gb db xb q):col gb=0:=Classical.byContradiction fun e=>by have:=h.wv.lo gb e; have:=h.lb; omega
theorem Sw.later (h:Sw W0 base col w x v gb db xb q) (hb:Below w.heap.size w w'):Sw W0 base col w' x v gb db xb q:=
 ⟨h.wv.later hb,h.dw.later hb,h.vd.later hb,h.cd,h.vx.later hb,h.cx,h.vg.later hb,h.lb,h.hb,h.ne,h.bl.trans (hb.mono h.bl.size)⟩
theorem Sw.bd (h:Sw W0 base col w x v gb db xb q):W0.heap.size≤base:=Nat.le_trans h.hb (Nat.le_of_lt h.lb)
theorem Sw.ours (h:Sw W0 base col w x v gb db xb q) (W:Wv base col' w' x r.s) (z:Fw col w w') (G:El w col col') (hv:Vg w2 gb r.g) (F:Fz (fun k=>k=gb) w' w2) :
  Wv base col' w2 x r.s∧Dw (Kc base col') w2 v q.s q.N∧Vw w2 db (v.cells q.s)∧col' db=8∧Vg w2 xb q.g∧col' xb=8∧Below W0.heap.size W0 w2:=by
 have a4:=h.lb
 have hs:=z.size
 have a1:Dw (Kc base col') w' v q.s q.N:=(h.dw.mono (L:=Kc base col') (fun g u e=>⟨(G g u).trans e.1,e.2⟩)).fz z (fun g u e Q=>Q.1 ((G g u).symm.trans e.1))
 have Y:col' db=8:=(G db h.vd.lt).trans h.cd
 have a0:col' xb=8:=(G xb h.vx.lt).trans h.cx
 have a2:db≠gb:=fun e=>by have:=h.cg; have:=h.cd; subst e; omega
 have a3:xb≠gb:=fun e=>by have:=h.cg; have:=h.cx; subst e; omega
 have I:=h.vd.blk (z.block _ h.vd.lt (fun e=>e.2 h.cd))
 have J:=h.vx.blk (z.block _ h.vx.lt (fun e=>e.2 h.cx))
 refine ⟨W.aside2 F (fun g _ e=>.inr (by omega)),a1.fz F (fun g _ hk e=>by have:=hk.2; omega),I.blk (F.block _ I.lt a2),Y,J.blk (F.block _ J.lt a3),a0,?_⟩
 have b1:Below W0.heap.size W0 w':=h.bl.trans (z.below h.bl.size (fun g u=>Nat.le_trans h.bd (h.wv.lo g u.1)))
 exact b1.trans (F.below b1.size (fun k hk=>by have:=h.hb; omega))
end
theorem Dw.nd (w:World) {base:Nat} {col:Nat→Nat} {x:Wp} {s:Ws} (h:Wv base col w x s):Nd s.D ∧ ∀ p∈s.D,U64 p.2.word:=⟨h.bag.ri.nd,fun p u=>(h.bag.ui p u).2.1⟩
theorem exec_load_g (h:Oper) (ev:Operand→Value) (y:Operand) (u:h.op=.load 83 y) {b:Nat} (hx:ev y=.pointer (some ⟨b,0,none⟩)) {w:World} {g:Gv} (z:Vg w b g):(execOp ev h).run Tryz.prog w=.ok (.value g.val) w:=by
 unfold execOp
 simp only [u,hx,Instr.loadAt,Instr.sureAddr,Sem.run_bind,Sem.run_pure,Result.andThen_ok,run_loadVar_mid (P:=Tryz.prog) w b 0 83 _ _ z.at_ under_g row_g info_g]
 rfl
theorem wp_store_g {op:Oper} {a:Act} {w:World} {K:Act→World→Prop} {Q:Exit→Act→World→Prop} (y z:Operand) (F:op.op=.store 83 y z) (b:Nat) (hx:a.eval y=.pointer (some ⟨b,0,none⟩)) (g:Gv) (G:a.eval z=g.val) (u:w.there b 0 5)
  (h:∀ w',Vg w' b g→Fz (fun k=>k=b) w w'→K (a.put op.dst undef) w'):op.wp Tryz.prog a w K Q:=
 wp_store_mid 83 y z F b 0 g.cells.toArray hx G u info_g (gcells_one g) (h _ ⟨World.rangeAt_setCells_same w b 0 _ u,World.there_setCells u b 0 _⟩ (fz_setCells _ _ _ _))
theorem steps_any (W:World) (hT:Tb.Tabs W) (As Aw Am:Option Addr) (ns cs nw cw nm cm:Nat) (ss ws ms:List Int)
  (hs:Rd (Value.int .u8) W W.heap.size As ns cs ss) (hw:Rd (Value.int .u8) W W.heap.size Aw nw cw ws) (hm:Rd (Value.int .u8) W W.heap.size Am nm cm ms) (us:∀ z∈ss,0≤z∧z≤255) (uw:∀ z∈ws,0≤z∧z≤255) (um:∀ z∈ms,0≤z∧z≤255) (b4:ns≤6) (b6:nw≤5) (b0:nm≤5) (cl:Bool)
  (g:Gv) (hg:g.ok) (hz:g.st.size≤20) (n:Int) (hn:0≤n∧n≤255) :
  Calls Tryz.prog 4 #[.slice As ns cs,.slice Aw nw cw,.slice Am nm cm,.bool cl,g.val,.int .u8 n] W fun e w'=>e=.returned (.bool true)∧Below W.heap.size W w':=by
 have bD:=Lh hs
 have bX:=Lh hw
 have bu:=Lh hm
 have bO:=Lh us
 have bP:=Lh uw
 have bN:=Lh um
 have HG:=Lh hg
 have HZ:=Lh hz
 have aN:Hid (Gs ⟨g,bgnS ss ws ms cl,bgnN ss ws ms⟩ 0):=Lh (bgn_gs ss ws ms cl (by rw [hs.len]; exact b4) (by rw [hw.len]; exact b6) (by rw [hm.len]; exact b0) g hg hz)
 obtain ⟨m,cP⟩:∃ m:Nat,m=(n % 20).toNat:=⟨_,rfl⟩
 have cq:(m:Int)=n % 20:=by omega
 have cp:m < 20:=by omega
 have bt:=Lh cq
 have av:=Lh cp
 have HN:=Lh hn
 obtain ⟨W1,aW,V1,B1,S1⟩:=box_g g W
 have aW:W.alloc (.cells #[.int .i64 g.th,.int .i64 g.op,.int .u64 g.id,.int .u64 g.word,.string g.st] 83)=W1:=aW
 have bG:=Lh (hT.below B1)
 have bQ:=Lh V1
 have a4:=Lh B1
 have bz:=Lh b4
 have bA:=Lh b6
 have bw:=Lh b0
 clear hT hs hw hm us uw um hg hz cq cp cP hn V1 B1
 go_enter Tryz.func4,Tryz.ntmps4
 go_upto_region 1 with (fail)
 clear aW S1
 go_wp2_with fail
 refine (awake17_any W1 bG.out).mono ?_
 rintro e w2 ⟨rfl,b2⟩
 have ac:=Lh (bQ.out.later b2)
 have a3:Hid (Below W.heap.size W w2):=Lh (a4.out.trans (b2.mono a4.out.size))
 clear b2 bG
 have k4:=ac.out.cell 4 _ rfl
 have t0:decide ((6:Int) < (ns:Int))=false:=decide_eq_false (by omega)
 have cW:decide (6 < ns)=false:=decide_eq_false (by omega)
 have t1:decide ((5:Int) < (nw:Int))=false:=decide_eq_false (by omega)
 have cX:decide (5 < nw)=false:=decide_eq_false (by omega)
 have t2:decide ((5:Int) < (nm:Int))=false:=decide_eq_false (by omega)
 have cY:decide (5 < nm)=false:=decide_eq_false (by omega)
 have t3:decide ((20:Int) < (g.st.size:Int))=false:=decide_eq_false (by have:=HZ.out; omega)
 have cZ:decide (20 < g.st.size)=false:=decide_eq_false (by have:=HZ.out; omega)
 clear b4 b6 b0
 go_wp2_with fail
 clear t0 cW t1 cX t2 cY t3 cZ k4
 refine (begin_any w2 As Aw Am ns cs nw cw nm cm ss ws ms (bD.out.later a3.out) (bX.out.later a3.out) (bu.out.later a3.out) bO.out bP.out bN.out bz.out bA.out bw.out cl).mono ?_
 rintro e w3 ⟨base,x,col,v,rfl,ce,bc,aK,b3⟩
 obtain ⟨s,hs⟩:∃ s,bgnS ss ws ms cl=s:=⟨_,rfl⟩
 obtain ⟨N,hN⟩:∃ N,bgnN ss ws ms=N:=⟨_,rfl⟩
 rw [hs] at bc aK aN
 rw [hN] at aK aN
 rw [hs]
 have a7:=Lh bc
 have ar:=Lh aK
 have a8:=Lh b3
 have bi:=Lh ce
 clear hs hN bc aK b3 ce bD bX bu bO bP bN bz bA bw
 go_upto_region 6 with (first
  | (refine store_w rfl _ _ rfl w3.heap.size rfl v s rfl (th_zero w3) ?_; intro w4 aA an; have a6:=Lh aA; have ao:Hid (Below w3.heap.size w3 w4):=Lh (((Below.refl _ w3).alloc (Nat.le_refl _) _).trans (an.below (by simp) (fun k hk=>by omega))); clear aA an))
 obtain ⟨db,aX⟩:∃ db,w3.heap.size=db:=⟨_,rfl⟩
 obtain ⟨cK,h4,l4,c4,-⟩:=a7.out.var ao.out db (by omega) (by have:=a6.out.lt; omega)
 have bU:=Lh h4
 have bj:=Lh c4
 have bo:Hid (Dw (Kc base cK) w4 v s N):=Lh ((ar.out.mono (fun g hg e=>⟨(l4 g hg).trans e.1,e.2⟩)).later ao.out)
 have aC:=Lh ((ac.out.later a8.out).later ao.out)
 have aM:Hid (Below W.heap.size W w4):=Lh ((a3.out.trans (a8.out.mono a3.out.size)).trans (ao.out.mono (Nat.le_trans a3.out.size a8.out.size)))
 have bq:Hid (W.heap.size < base):=Lh (by have:=ac.out.lt; have:=bi.out; omega)
 obtain ⟨gb,aY⟩:∃ gb,W.heap.size=gb:=⟨_,rfl⟩
 have cI:Hid (W.heap.size≤gb):=Lh (by omega)
 have aa:Hid (gb < base):=Lh (by have:=bq.out; omega)
 rw [aX] at a6
 rw [aX]
 rw [aY] at aC
 rw [aY]
 clear h4 l4 c4 aX aY a7 ar a8 ao ac bQ a4 a3 bi bq
 go_wp2_with (first
  | (refine load_g rfl _ rfl gb rfl g aC.out ?_))
 refine (gof_any g w4).mono ?_
 rintro e G ⟨rfl,b5⟩
 have aq:=Lh b5
 clear b5
 go_upto_region 9 with (first
  | (refine store_dg rfl _ _ rfl G.heap.size rfl g rfl (zdg_there G) ?_; intro w6 cv cE; have aU:=Lh cv; have af:Hid (Below G.heap.size G w6):=Lh (((Below.refl _ G).alloc (Nat.le_refl _) _).trans (cE.below (by simp) (fun k hk=>by omega))); clear cv cE))
 obtain ⟨xb,be⟩:∃ xb,G.heap.size=xb:=⟨_,rfl⟩
 have ak:Below w4.heap.size w4 w6:=aq.out.trans (af.out.mono aq.out.size)
 obtain ⟨ca,h6,l6,c6,-⟩:=bU.out.var ak xb (by have:=aq.out.size; omega) (by have:=aU.out.lt; omega)
 have Y:Hid (Sw W base ca w6 x v gb db xb (itG 0 ⟨g,s,N⟩)):=Lh ⟨h6,(bo.out.mono (fun g hg e=>⟨(l6 g hg).trans e.1,e.2⟩)).later ak,a6.out.later ak,(l6 db a6.out.lt).trans bj.out,be ▸ aU.out,c6,aC.out.later ak,aa.out,cI.out,fun e=>by have:=a6.out.lt; have:=aq.out.size; omega,aM.out.trans (ak.mono aM.out.size)⟩
 rw [be]
 clear h6 l6 c6 be ak bU bj bo aC aM a6 aU aq af
 -- the three givings of line 65
 have u:Hid (Vg w6.drew gb g):=Lh (Y.out.vg.later (Below.refl _ _).drew)
 refine reg_start 33 (fun w'=>Vg w' gb g) (by kernel_rfl) (by kernel_rfl) ?_
 intro ay
 have F:=Lh ay
 clear ay
 refine rl 0 F.out u.out rfl ?_
 apply Exists.intro
 refine ⟨fun w' hw=>by (go_simp; exact rfl),?_⟩
 refine rl 2 F.out u.out rfl ?_
 apply Exists.intro
 refine ⟨fun w' hw=>by (go_simp; exact rfl),?_⟩
 refine rl 4 F.out u.out rfl ?_
 apply Exists.intro
 refine ⟨fun w' hw=>by (go_simp; exact rfl),?_⟩
 refine rl 6 F.out u.out rfl ?_
 apply Exists.intro
 refine ⟨fun w' hw=>by (go_simp; exact rfl),?_⟩
 refine rl 9 F.out u.out rfl ?_
 apply Exists.intro
 refine ⟨fun w' hw=>by (go_simp; exact rfl),?_⟩
 refine rl 11 F.out u.out rfl ?_
 apply Exists.intro
 refine ⟨fun w' hw=>by (go_simp; exact rfl),?_⟩
 refine rl 13 F.out u.out rfl ?_
 apply Exists.intro
 refine ⟨fun w' hw=>by (go_simp; exact rfl),?_⟩
 refine rl 15 F.out u.out rfl ?_
 apply Exists.intro
 refine ⟨fun w' hw=>by (go_simp; exact rfl),?_⟩
 refine rl 18 F.out u.out rfl ?_
 apply Exists.intro
 refine ⟨fun w' hw=>by (go_simp; exact rfl),?_⟩
 refine rl 20 F.out u.out rfl ?_
 apply Exists.intro
 refine ⟨fun w' hw=>by (go_simp; exact rfl),?_⟩
 refine rl 22 F.out u.out rfl ?_
 apply Exists.intro
 refine ⟨fun w' hw=>by (go_simp; exact rfl),?_⟩
 refine rl 24 F.out u.out rfl ?_
 apply Exists.intro
 refine ⟨fun w' hw=>by (go_simp; exact rfl),?_⟩
 refine rl 1 F.out u.out rfl ?_
 apply Exists.intro
 refine ⟨fun w' hw=>by (have kz:=hw.cell 0 _ rfl; go_simp; exact rfl),?_⟩
 refine rl 3 F.out u.out rfl ?_
 apply Exists.intro
 refine ⟨fun w' hw=>by (have kz:=hw.cell 1 _ rfl; go_simp; exact rfl),?_⟩
 refine rl 5 F.out u.out rfl ?_
 apply Exists.intro
 refine ⟨fun w' hw=>by (have kz:=hw.cell 2 _ rfl; go_simp; exact rfl),?_⟩
 refine rl 7 F.out u.out rfl ?_
 apply Exists.intro
 refine ⟨fun w' hw=>by (have kz:=hw.cell 3 _ rfl; go_simp; exact rfl),?_⟩
 refine rl 10 F.out u.out rfl ?_
 apply Exists.intro
 refine ⟨fun w' hw=>by (have kz:=hw.cell 0 _ rfl; go_simp; exact rfl),?_⟩
 refine rl 12 F.out u.out rfl ?_
 apply Exists.intro
 refine ⟨fun w' hw=>by (have kz:=hw.cell 1 _ rfl; go_simp; exact rfl),?_⟩
 refine rl 14 F.out u.out rfl ?_
 apply Exists.intro
 refine ⟨fun w' hw=>by (have kz:=hw.cell 2 _ rfl; go_simp; exact rfl),?_⟩
 refine rl 16 F.out u.out rfl ?_
 apply Exists.intro
 refine ⟨fun w' hw=>by (have kz:=hw.cell 3 _ rfl; go_simp; exact rfl),?_⟩
 refine rl 19 F.out u.out rfl ?_
 apply Exists.intro
 refine ⟨fun w' hw=>by (have kz:=hw.cell 0 _ rfl; go_simp; exact rfl),?_⟩
 refine rl 21 F.out u.out rfl ?_
 apply Exists.intro
 refine ⟨fun w' hw=>by (have kz:=hw.cell 1 _ rfl; go_simp; exact rfl),?_⟩
 refine rl 23 F.out u.out rfl ?_
 apply Exists.intro
 refine ⟨fun w' hw=>by (have kz:=hw.cell 2 _ rfl; go_simp; exact rfl),?_⟩
 refine rl 25 F.out u.out rfl ?_
 apply Exists.intro
 refine ⟨fun w' hw=>by (have kz:=hw.cell 3 _ rfl; go_simp; exact rfl),?_⟩
 refine reg_stable_zs [30,31,32] [8,17,26,27,28,29] (fun w w'=>Below w.heap.size w w') (qG w6.heap.size g) qD ?_ ?_ ?_ ?_ ?_ ?_ ?_ (fun _=>Below.refl _ _) (fun _ _ _ h1 h2=>h1.trans (h2.mono h1.size)) (qG_mono w6.heap.size g) (fun _ h=>u.out.later h) ?_ ?_
 ·kernel_rfl
 ·kernel_rfl
 ·kernel_rfl
 ·kernel_rfl
 ·kernel_rfl
 ·kernel_rfl
 ·kernel_rfl
 ·refine ⟨?_,?_,?_,?_,?_,?_,trivial⟩
  ·intro a' w' val hb J hd done a2
   have d0:a'.tmps[55]?.getD undef=.int .i64 g.th:=(J 55 (by kernel_rfl)).trans (by kernel_rfl)
   have d2:a'.tmps[57]?.getD undef=.int .i64 g.op:=(J 57 (by kernel_rfl)).trans (by kernel_rfl)
   have d3:a'.tmps[59]?.getD undef=.int .u64 g.id:=(J 59 (by kernel_rfl)).trans (by kernel_rfl)
   have d4:a'.tmps[61]?.getD undef=.int .u64 g.word:=(J 61 (by kernel_rfl)).trans (by kernel_rfl)
   clear J hd a2
   refine ⟨_,rfl,?_⟩
   unfold Oper.wp
   go_simp
   refine (goffer_any g.th g.op g.id g.word w').mono ?_
   rintro x w2 ⟨rfl,ad⟩
   exact ⟨_,rfl,rfl,ad,fun j _ h1 h2=>absurd h1 (by decide)⟩
  ·intro a' w' val hb J hd done a2
   have d5:a'.tmps[64]?.getD undef=.int .i64 g.th:=(J 64 (by kernel_rfl)).trans (by kernel_rfl)
   have d6:a'.tmps[66]?.getD undef=.int .i64 g.op:=(J 66 (by kernel_rfl)).trans (by kernel_rfl)
   have d9:a'.tmps[68]?.getD undef=.int .u64 g.id:=(J 68 (by kernel_rfl)).trans (by kernel_rfl)
   have da:a'.tmps[70]?.getD undef=.int .u64 g.word:=(J 70 (by kernel_rfl)).trans (by kernel_rfl)
   clear J hd a2
   refine ⟨_,rfl,?_⟩
   unfold Oper.wp
   go_simp
   refine (gagain_any g.th g.op g.id g.word w').mono ?_
   rintro x w2 ⟨rfl,ad⟩
   exact ⟨_,rfl,rfl,ad,fun j _ h1 h2=>absurd h1 (by decide)⟩
  ·intro a' w' val hb J hd done a2
   have dc:a'.tmps[73]?.getD undef=.int .i64 g.th:=(J 73 (by kernel_rfl)).trans (by kernel_rfl)
   have dd:a'.tmps[75]?.getD undef=.int .i64 g.op:=(J 75 (by kernel_rfl)).trans (by kernel_rfl)
   have de:a'.tmps[77]?.getD undef=.int .u64 g.id:=(J 77 (by kernel_rfl)).trans (by kernel_rfl)
   have df:a'.tmps[79]?.getD undef=.int .u64 g.word:=(J 79 (by kernel_rfl)).trans (by kernel_rfl)
   clear J hd a2
   refine ⟨_,rfl,?_⟩
   unfold Oper.wp
   go_simp
   refine (gclose_any g.th g.op g.id g.word w').mono ?_
   rintro x w2 ⟨rfl,ad⟩
   exact ⟨_,rfl,rfl,ad,fun j _ h1 h2=>absurd h1 (by decide)⟩
  ·intro a' w' val hb J hd done a2
   clear J hd
   refine ⟨_,rfl,?_⟩
   unfold Oper.wp
   go_simp
   refine ⟨_,rfl,⟨w'.heap.size,rfl,by have:=hb.size; simpa using this,by simp,zg_there w'⟩,(Below.refl _ _).alloc (Nat.le_refl _) _,fun j hj h1 h2 h3 h4 e=>?_⟩
   have hq:=a2 j hj
   have az:j=27∨j=28∨j=29:=by omega
   rcases az with rfl | rfl | rfl <;> (obtain ⟨p,I,_,h6,_⟩:=hq; rw [← e] at I; injection I with I; injection I with I; injection I with I; omega)
  ·intro a' w' val hb J hd done a2
   clear J hd
   refine ⟨_,rfl,?_⟩
   unfold Oper.wp
   go_simp
   refine ⟨_,rfl,⟨w'.heap.size,rfl,by have:=hb.size; simpa using this,by simp,zg_there w'⟩,(Below.refl _ _).alloc (Nat.le_refl _) _,fun j hj h1 h2 h3 h4 e=>?_⟩
   have hq:=a2 j hj
   have az:j=27∨j=28∨j=29:=by omega
   rcases az with rfl | rfl | rfl <;> (obtain ⟨p,I,_,h6,_⟩:=hq; rw [← e] at I; injection I with I; injection I with I; injection I with I; omega)
  ·intro a' w' val hb J hd done a2
   clear J hd
   refine ⟨_,rfl,?_⟩
   unfold Oper.wp
   go_simp
   refine ⟨_,rfl,⟨w'.heap.size,rfl,by have:=hb.size; simpa using this,by simp,zg_there w'⟩,(Below.refl _ _).alloc (Nat.le_refl _) _,fun j hj h1 h2 h3 h4 e=>?_⟩
   have hq:=a2 j hj
   have az:j=27∨j=28∨j=29:=by omega
   rcases az with rfl | rfl | rfl <;> (obtain ⟨p,I,_,h6,_⟩:=hq; rw [← e] at I; injection I with I; injection I with I; injection I with I; omega)
 ·intro val w7 hE hD b7
  obtain ⟨e8,aF,aG,⟨p1,aH,l1,u1,y1⟩,⟨p2,aI,l2,u2,y2⟩,⟨p3,aJ,l3,u3,y3⟩,-⟩:=hE
  have cT:p1≠p2:=fun e=>by rcases hD 27 28 (by decide) (by decide) (by decide) with h | h <;> exact h (by decide) (by decide) (by decide) (by decide) (by rw [aH,aI,e])
  have cU:p1≠p3:=fun e=>by rcases hD 27 29 (by decide) (by decide) (by decide) with h | h <;> exact h (by decide) (by decide) (by decide) (by decide) (by rw [aH,aJ,e])
  have cV:p2≠p3:=fun e=>by rcases hD 28 29 (by decide) (by decide) (by decide) with h | h <;> exact h (by decide) (by decide) (by decide) (by decide) (by rw [aI,aJ,e])
  have a5:=Lh (Y.out.later ((Below.refl _ _).drew.trans b7))
  have cM:gb < w6.heap.size:=Y.out.vg.lt
  clear hD
  have e8:val 8=.agg #[.int .i64 g.th,.int .i64 g.op,.int .u64 g.id,.int .u64 g.word,.string sOffer]:=e8
  have aF:val 17=.agg #[.int .i64 g.th,.int .i64 g.op,.int .u64 g.id,.int .u64 g.word,.string sAgain]:=aF
  have aG:val 26=.agg #[.int .i64 g.th,.int .i64 g.op,.int .u64 g.id,.int .u64 g.word,.string sClose]:=aG
  simp only [puts,dstOf,e8,aF,aG,aH,aI,aJ]
  go_simp
  refine reg_only 30 rfl (by kernel_rfl) (by kernel_rfl) ?_
  refine wp_store_g _ _ rfl p1 rfl ⟨g.th,g.op,g.id,g.word,sOffer⟩ rfl y1 ?_
  intro w8 ba ae
  refine ⟨fun _=>(a5.out.vg.blk (ae.block _ a5.out.vg.lt (by omega))),?_⟩
  refine reg_only 31 rfl (by kernel_rfl) (by kernel_rfl) ?_
  refine wp_store_g _ _ rfl p2 rfl ⟨g.th,g.op,g.id,g.word,sAgain⟩ rfl (th5_blk y2 (ae.block _ u2 (by omega))) ?_
  intro w9 bb ag
  have cR:=ae.size
  have cS:=ag.size
  have x8:=ba.blk (ag.block _ ba.lt (by omega))
  refine ⟨fun _=>((a5.out.vg.blk (ae.block _ a5.out.vg.lt (by omega))).blk (ag.block _ (by have:=a5.out.vg.lt; omega) (by omega))),?_⟩
  refine reg_only 32 rfl (by kernel_rfl) (by kernel_rfl) ?_
  refine wp_store_g _ _ rfl p3 rfl ⟨g.th,g.op,g.id,g.word,sClose⟩ rfl (th5_blk (th5_blk y3 (ae.block _ u3 (by omega))) (ag.block _ (by omega) (by omega))) ?_
  intro aL b8 al
  have cQ:=al.size
  have bg:=x8.blk (al.block _ x8.lt (by omega))
  have x9:=bb.blk (al.block _ bb.lt (by omega))
  refine ⟨fun _=>(((a5.out.vg.blk (ae.block _ a5.out.vg.lt (by omega))).blk (ag.block _ (by have:=a5.out.vg.lt; omega) (by omega))).blk (al.block _ (by have:=a5.out.vg.lt; omega) (by omega))),?_⟩
  refine reg_done (by kernel_rfl) ?_
  have cL:w6.drew.heap.size=w6.heap.size:=rfl
  have s7:w6.heap.size≤w7.heap.size:=b7.size
  have cb:Below w6.heap.size w6 aL:=((((Below.refl _ w6).drew.trans b7).trans (ae.below (by omega) (fun k hk=>by omega))).trans (ag.below (by omega) (fun k hk=>by omega))).trans (al.below (by omega) (fun k hk=>by omega))
  have aw:=Lh (Y.out.later cb)
  have z0:aL.cell? ⟨gb,0,none⟩=some (.int .i64 g.th):=aw.out.vg.cell 0 _ rfl
  have z2:aL.cell? ⟨gb,2,none⟩=some (.int .u64 g.id):=aw.out.vg.cell 2 _ rfl
  have z3:aL.cell? ⟨gb,3,none⟩=some (.int .u64 g.word):=aw.out.vg.cell 3 _ rfl
  have m4:=bg.cell 4 _ rfl
  have m2:=bg.cell 2 _ rfl
  have n4:=x9.cell 4 _ rfl
  have n0:=x9.cell 0 _ rfl
  have o4:=b8.cell 4 _ rfl
  have o3:=b8.cell 3 _ rfl
  have i0:(g.th != g.th)=false:=by simp
  have i2:(g.id != g.id)=false:=by simp
  have i3:(g.word != g.word)=false:=by simp
  clear Y a5 ba bb b8 ae ag al x8 bg x9 y1 y2 y3 b7 cb e8 aF aG aH aI aJ u F cR cS cQ cL s7 cT cU cV l1 l2 l3 u1 u2 u3 cM
  have r1:n.tmod 20=n % 20:=Int.tmod_eq_emod_of_nonneg HN.out.1
  have r2:IntKind.u8.wrap (n % 20)=(m:Int):=by rw [IntKind.wrap_u8,bt.out]; omega
  have r3:IntKind.u8.wrap (m:Int)=(m:Int):=by rw [IntKind.wrap_u8]; have:=av.out; omega
  have r4:n % 20=(m:Int):=bt.out.symm
  go_wp2_with fail
  go_loopw [117] (fun i wr=>∃ (k:Nat) (col:Nat→Nat) (v:Dv),k≤m∧i=.int .u8 k∧Hid (Sw W base col wr x v gb db xb (itG k ⟨g,s,N⟩))) (fun i _=>m - (intOf i).toNat)
  case atStart=>exact ⟨0,ca,v,Nat.zero_le _,rfl,aw⟩
  case round=>
   clear aw z0 z2 z3 m4 m2 n4 n0 o4 o3 i0 i2 i3 r1 r2 r3 r4
   obtain ⟨k,col,v,hk,rfl,Y⟩:=hrel
   have au:=Lh (aN.out.it k)
   obtain ⟨Q,hQ⟩:∃ Q,itG k ⟨g,s,N⟩=Q:=⟨_,rfl⟩
   have cJ:Hid (itG (k+1) ⟨g,s,N⟩=stepG Q):=Lh (by rw [← hQ]; rfl)
   rw [hQ] at Y au
   clear hQ
   by_cases hkm:k < m
   ·as_aux_lemma=>
    have aO:=Lh hkm
    have d1:decide ((k:Int) < (m:Int))=true:=decide_eq_true (by omega)
    have t3:IntKind.u8.wrap ((k:Int)+1)=(k:Int)+1:=by rw [IntKind.wrap_u8]; have:=av.out; omega
    have cH:=Lh (au.out.step)
    have bC:=Lh (give_any wr Y.out.wv au.out (by have:=av.out; omega))
    clear hk hkm
    go_wp2_with (first
     | (refine load_g rfl _ rfl gb rfl Q.g Y.out.vg ?_))
    refine bC.out.mono ?_
    rintro e w1 ⟨rfl,aV,h1,z1,l1⟩
    have ci:w1.heap[gb]? = wr.heap[gb]?:=z1.block _ Y.out.vg.lt (fun e=>e.1 Y.out.cg)
    have bI:=Lh (Y.out.vg.blk ci).th
    have bS:=Lh h1
    have bY:=Lh z1
    have br:=Lh l1
    clear h1 z1 l1 ci bC
    go_upto_region 15 with (first
     | (refine store_g rfl _ _ rfl gb rfl (stepG Q).g rfl bI.out ?_; intro w2 ct cB; have ac:=Lh ct; have bZ:=Lh cB; clear ct cB))
    obtain ⟨h2,cn,cy,ch,cz,cj,ad⟩:=Y.out.ours bS.out bY.out br.out ac.out bZ.out
    have aT:=Lh h2
    have bn:=Lh cn
    have aR:=Lh cy
    have ah:=Lh ch
    have aS:=Lh cz
    have ai:=Lh cj
    have a3:=Lh ad
    have aa:=Lh Y.out.lb
    have aD:=Lh Y.out.hb
    have aE:=Lh Y.out.ne
    have aZ:=Dw.nd wr Y.out.wv
    have bp:=Lh (dgive_any (K:=Kc base aV) w2 bn.out aT.out.new0 aZ.1 aZ.2 au.out (by have:=av.out; omega))
    clear h2 cn cy ch cz cj ad aZ Y bS bY br bI bZ
    go_wp2_with (first
     | (refine load_w rfl _ rfl db rfl v Q.s aR.out ?_)
     | (refine load_dg rfl _ rfl xb rfl Q.g aS.out ?_))
    refine bp.out.mono ?_
    rintro e w3 ⟨v3,rfl,co,b3⟩
    have bH:=Lh (aR.out.later b3).th
    have aP:=Lh (aS.out.later b3).th
    have a7:=Lh (aT.out.later b3)
    have aQ:=Lh (ac.out.later b3)
    have ar:=Lh co
    have a8:Hid (Below W.heap.size W w3):=Lh (a3.out.trans (b3.mono a3.out.size))
    clear co b3 bp aT ac aR aS bn a3
    go_upto_region 16 with (first
     | (refine store_w rfl _ _ rfl db rfl v3 (stepG Q).s rfl bH.out ?_; intro w4 aA an; have a6:=Lh aA; have ax:=Lh an; have bM:=Lh (th5_blk aP.out (an.block _ (th5_lt aP.out) (fun e=>aE.out e.symm))); clear aA an)
     | (refine store_dg rfl _ _ rfl xb rfl (stepG Q).g rfl bM.out ?_; intro G cu cC; have bR:=Lh cu; have aj:=Lh cC; clear cu cC))
    have a1:Hid (Sw W base aV G x v3 gb db xb (stepG Q)):=Lh (by
     have cN:gb≠db:=fun e=>by have h8:=ah.out; have h9:=a7.out.lo db (by omega); have:=aa.out; omega
     have cO:gb≠xb:=fun e=>by have h8:=ai.out; have h9:=a7.out.lo xb (by omega); have:=aa.out; omega
     have e4:=aQ.out.blk (ax.out.block _ aQ.out.lt cN)
     refine ⟨(a7.out.aside ax.out (fun g _ e=>e ▸ ah.out)).aside aj.out (fun g _ e=>e ▸ ai.out),(ar.out.at_ ah.out ax.out).at_ ai.out aj.out,a6.out.blk (aj.out.block _ a6.out.lt aE.out),ah.out,bR.out,ai.out,e4.blk (aj.out.block _ e4.lt cO),aa.out,aD.out,aE.out,?_⟩
     have b1:=a8.out.trans (ax.out.below a8.out.size (fun k hk=>by have h8:=ah.out; have h9:=a7.out.lo db (by omega); have:=aa.out; have:=aD.out; omega))
     exact b1.trans (aj.out.below b1.size (fun k hk=>by have h8:=ai.out; have h9:=a7.out.lo xb (by omega); have:=aa.out; have:=aD.out; omega)))
    clear a7 ar aQ a6 bR ax aj aP bM bH a8 ah ai aa aD aE
    have bJ:Hid (∀ w',Below G.heap.size G w'→Calls Tryz.prog 15 #[ptr x.pw,v3.val (stepG Q).s] w' fun e aB=>e=.returned (.bool true)∧Below w'.heap.size w' aB):=Lh (fun w' hb=>by
     have q:=cH.out
     have q1:=q.dl; have q2:=q.S; have q3:=q.sl; have q4:=q.el; have q5:=q.ll; have q6:=q.nl; have q7:=q.tl; have q8:=q.n_
     have:=aO.out; have:=av.out
     exact told16_any w' (a1.out.wv.later hb) (a1.out.dw.later hb) q.mk_ q.sd (by omega) (by omega) (by omega) (by omega) (by omega) (by omega) (by omega) (by omega))
    have a9:Hid (∀ w',Calls Tryz.prog 28 #[(stepG Q).g.val] w' fun e aB=>e=.returned (.bool ((stepG Q).g.st.toList == [100,111,110,101]))∧Below w'.heap.size w' aB):=Lh (fun w'=>gdone_any (stepG Q).g w')
    have bB:Hid (∀ w',Calls Tryz.prog 22 #[(stepG Q).g.val] w' fun e aB=>e=.returned (stepG Q).g.val∧Below w'.heap.size w' aB):=Lh (fun w'=>gof_any (stepG Q).g w')
    obtain ⟨dn,a2⟩:∃ dn,((stepG Q).g.st.toList == [100,111,110,101])=dn:=⟨_,rfl⟩
    have cG:=Lh a2
    rw [a2] at a9
    clear a2
    have u:Hid (Vg G.drew gb (stepG Q).g∧Vg G.drew xb (stepG Q).g∧Vw G.drew db (v3.cells (stepG Q).s)):=Lh ⟨a1.out.vg.later (Below.refl _ _).drew,a1.out.vx.later (Below.refl _ _).drew,a1.out.vd.later (Below.refl _ _).drew⟩
    refine reg_start 18 (fun w'=>Vg w' gb (stepG Q).g∧Vg w' xb (stepG Q).g∧Vw w' db (v3.cells (stepG Q).s)) (by kernel_rfl) (by kernel_rfl) ?_
    intro ay
    have F:=Lh ay
    clear ay
    refine rl 0 F.out u.out rfl ?_
    apply Exists.intro
    refine ⟨fun w' hw=>exec_load_g _ _ _ rfl rfl hw.1,?_⟩
    refine rl 2 F.out u.out rfl ?_
    apply Exists.intro
    refine ⟨fun w' hw=>exec_load_dg _ _ _ rfl rfl hw.2.1,?_⟩
    refine reg_only 1 rfl (by kernel_rfl) rfl ?_
    unfold Oper.wp
    go_simp
    refine (bB.out _).mono ?_
    rintro e w6 ⟨rfl,b9⟩
    have a0:Below G.heap.size G w6:=(Below.refl G.heap.size G).drew.trans (b9.mono (Below.refl G.heap.size G).drew.size)
    clear u
    have u:Hid (Vg w6 gb (stepG Q).g∧Vg w6 xb (stepG Q).g∧Vw w6 db (v3.cells (stepG Q).s)):=Lh ⟨a1.out.vg.later a0,a1.out.vx.later a0,a1.out.vd.later a0⟩
    refine ⟨u.out,?_⟩
    have a4:Hid (Below G.heap.size G w6):=Lh a0
    clear b9 a0
    have gn:=fun w=>g_ne w (stepG Q).g
    have gg:=g_guard
    refine rl 3 F.out u.out rfl ?_
    apply Exists.intro
    refine ⟨fun w' hw=>by (have gn:=g_ne w' (stepG Q).g; go_simp; exact rfl),?_⟩
    clear gn gg
    refine rl 4 F.out u.out rfl ?_
    apply Exists.intro
    refine ⟨fun w' hw=>by (go_simp; exact rfl),?_⟩
    go_simp
    refine reg_load 5 F.out rfl (by kernel_rfl) (by decide) (fun _ _ _ _ h=>h) u.out (by refine wanted_yes (g:=4) (p:=false) (d:=132) rfl (by kernel_rfl) ?_; first | (simp; done) | (exact at_eq (Nat.lt_of_lt_of_eq (m:=150) (by decide) rfl)) | (apply at_ne; (focus decide); simp; done) | (apply at_ne; (focus decide); apply at_ne; (focus decide); simp; done) | (apply at_ne; (focus decide); apply at_ne; (focus decide); apply at_ne; (focus decide); simp; done)) ?_
    apply Exists.intro
    refine ⟨fun w' hw=>exec_load_g _ _ _ rfl rfl hw.1,?_⟩
    refine reg_load 7 F.out rfl (by kernel_rfl) (by decide) (fun _ _ _ _ h=>h) u.out (by refine wanted_yes (g:=4) (p:=false) (d:=132) rfl (by kernel_rfl) ?_; first | (simp; done) | (exact at_eq (Nat.lt_of_lt_of_eq (m:=150) (by decide) rfl)) | (apply at_ne; (focus decide); simp; done) | (apply at_ne; (focus decide); apply at_ne; (focus decide); simp; done) | (apply at_ne; (focus decide); apply at_ne; (focus decide); apply at_ne; (focus decide); simp; done)) ?_
    apply Exists.intro
    refine ⟨fun w' hw=>by (go_simp; exact rfl),?_⟩
    go_simp
    refine reg_load 8 F.out rfl (by kernel_rfl) (by decide) (fun _ _ _ _ h=>h) u.out (by refine wanted_yes (g:=4) (p:=false) (d:=132) rfl (by kernel_rfl) ?_; first | (simp; done) | (exact at_eq (Nat.lt_of_lt_of_eq (m:=150) (by decide) rfl)) | (apply at_ne; (focus decide); simp; done) | (apply at_ne; (focus decide); apply at_ne; (focus decide); simp; done) | (apply at_ne; (focus decide); apply at_ne; (focus decide); apply at_ne; (focus decide); simp; done)) ?_
    apply Exists.intro
    refine ⟨fun w' hw=>by (have k4:=hw.2.1.cell 4 _ rfl; go_simp; exact rfl),?_⟩
    refine reg_load 9 F.out rfl (by kernel_rfl) (by decide) (fun _ _ _ _ h=>h) u.out (by refine wanted_yes (g:=4) (p:=false) (d:=132) rfl (by kernel_rfl) ?_; first | (simp; done) | (exact at_eq (Nat.lt_of_lt_of_eq (m:=150) (by decide) rfl)) | (apply at_ne; (focus decide); simp; done) | (apply at_ne; (focus decide); apply at_ne; (focus decide); simp; done) | (apply at_ne; (focus decide); apply at_ne; (focus decide); apply at_ne; (focus decide); simp; done)) ?_
    apply Exists.intro
    refine ⟨fun w' hw=>by (have e9:=cG.out; go_simp; exact rfl),?_⟩
    go_simp
    refine reg_only 6 rfl (by kernel_rfl) (by refine wanted_yes (g:=4) (p:=false) (d:=132) rfl (by kernel_rfl) ?_; first | (simp; done) | (exact at_eq (Nat.lt_of_lt_of_eq (m:=150) (by decide) rfl)) | (apply at_ne; (focus decide); simp; done) | (apply at_ne; (focus decide); apply at_ne; (focus decide); simp; done) | (apply at_ne; (focus decide); apply at_ne; (focus decide); apply at_ne; (focus decide); simp; done)) ?_
    unfold Oper.wp
    go_simp
    refine (a9.out _).mono ?_
    rintro e w7 ⟨rfl,b9⟩
    have a0:Below G.heap.size G w7:=a4.out.trans (b9.mono a4.out.size)
    clear u
    have u:Hid (Vg w7 gb (stepG Q).g∧Vg w7 xb (stepG Q).g∧Vw w7 db (v3.cells (stepG Q).s)):=Lh ⟨a1.out.vg.later a0,a1.out.vx.later a0,a1.out.vd.later a0⟩
    refine ⟨u.out,?_⟩
    have af:Hid (Below G.heap.size G w7):=Lh a0
    clear b9 a0
    refine reg_load 10 F.out rfl (by kernel_rfl) (by decide) (fun _ _ _ _ h=>h) u.out (by refine wanted_yes (g:=4) (p:=false) (d:=132) rfl (by kernel_rfl) ?_; first | (simp; done) | (exact at_eq (Nat.lt_of_lt_of_eq (m:=150) (by decide) rfl)) | (apply at_ne; (focus decide); simp; done) | (apply at_ne; (focus decide); apply at_ne; (focus decide); simp; done) | (apply at_ne; (focus decide); apply at_ne; (focus decide); apply at_ne; (focus decide); simp; done)) ?_
    apply Exists.intro
    refine ⟨fun w' hw=>by (have e9:(dn != dn)=false:=(by simp); go_simp; exact rfl),?_⟩
    refine rl 11 F.out u.out rfl ?_
    apply Exists.intro
    refine ⟨fun w' hw=>by (go_simp; exact rfl),?_⟩
    go_simp
    refine rl 12 F.out u.out rfl ?_
    apply Exists.intro
    refine ⟨fun w' hw=>by (go_simp; exact rfl),?_⟩
    go_simp
    refine reg_load 13 F.out rfl (by kernel_rfl) (by decide) (fun _ _ _ _ h=>h) u.out (by refine wanted_yes (g:=12) (p:=false) (d:=140) rfl (by kernel_rfl) ?_; first | (simp; done) | (exact at_eq (Nat.lt_of_lt_of_eq (m:=150) (by decide) rfl)) | (apply at_ne; (focus decide); simp; done) | (apply at_ne; (focus decide); apply at_ne; (focus decide); simp; done) | (apply at_ne; (focus decide); apply at_ne; (focus decide); apply at_ne; (focus decide); simp; done)) ?_
    apply Exists.intro
    refine ⟨fun w' hw=>by (go_simp; exact rfl),?_⟩
    go_simp
    refine reg_load 14 F.out rfl (by kernel_rfl) (by decide) (fun _ _ _ _ h=>h) u.out (by refine wanted_yes (g:=12) (p:=false) (d:=140) rfl (by kernel_rfl) ?_; first | (simp; done) | (exact at_eq (Nat.lt_of_lt_of_eq (m:=150) (by decide) rfl)) | (apply at_ne; (focus decide); simp; done) | (apply at_ne; (focus decide); apply at_ne; (focus decide); simp; done) | (apply at_ne; (focus decide); apply at_ne; (focus decide); apply at_ne; (focus decide); simp; done)) ?_
    apply Exists.intro
    refine ⟨fun w' hw=>exec_load_w _ _ _ rfl rfl hw.2.2,?_⟩
    refine reg_only 15 rfl (by kernel_rfl) (by refine wanted_yes (g:=12) (p:=false) (d:=140) rfl (by kernel_rfl) ?_; first | (simp; done) | (exact at_eq (Nat.lt_of_lt_of_eq (m:=150) (by decide) rfl)) | (apply at_ne; (focus decide); simp; done) | (apply at_ne; (focus decide); apply at_ne; (focus decide); simp; done) | (apply at_ne; (focus decide); apply at_ne; (focus decide); apply at_ne; (focus decide); simp; done)) ?_
    unfold Oper.wp
    go_simp
    refine (bJ.out _ af.out).mono ?_
    rintro e w8 ⟨rfl,b9⟩
    have a0:Below G.heap.size G w8:=af.out.trans (b9.mono af.out.size)
    clear u
    have u:Hid (Vg w8 gb (stepG Q).g∧Vg w8 xb (stepG Q).g∧Vw w8 db (v3.cells (stepG Q).s)):=Lh ⟨a1.out.vg.later a0,a1.out.vx.later a0,a1.out.vd.later a0⟩
    refine ⟨u.out,?_⟩
    have bh:Hid (Below G.heap.size G w8):=Lh a0
    clear b9 a0
    refine reg_load 16 F.out rfl (by kernel_rfl) (by decide) (fun _ _ _ _ h=>h) u.out (by refine wanted_yes (g:=12) (p:=false) (d:=140) rfl (by kernel_rfl) ?_; first | (simp; done) | (exact at_eq (Nat.lt_of_lt_of_eq (m:=150) (by decide) rfl)) | (apply at_ne; (focus decide); simp; done) | (apply at_ne; (focus decide); apply at_ne; (focus decide); simp; done) | (apply at_ne; (focus decide); apply at_ne; (focus decide); apply at_ne; (focus decide); simp; done)) ?_
    apply Exists.intro
    refine ⟨fun w' hw=>by (go_simp; exact rfl),?_⟩
    refine rl 17 F.out u.out rfl ?_
    apply Exists.intro
    refine ⟨fun w' hw=>by (go_simp; exact rfl),?_⟩
    refine reg_done (by kernel_rfl) ?_
    have cF:=bh
    clear u a4 af bh bJ a9 bB
    go_wp2_with fail
    go_roundw
    case rel=>exact ⟨k+1,aV,v3,by have:=aO.out; omega,by go_num,by rw [cJ.out]; exact Lh (a1.out.later cF.out)⟩
    case measure=>simp [intOf]; have:=aO.out; omega
   ·obtain rfl:k=m:=by omega
    have d1:decide ((k:Int) < (k:Int))=false:=decide_eq_false (by omega)
    have bv:=Lh (give_nil Q.g wr (by have:=au.out.sz; unfold maxLen; omega))
    clear hk hkm
    go_wp2_with (first
     | (refine load_g rfl _ rfl gb rfl Q.g Y.out.vg ?_))
    refine bv.out.mono ?_
    rintro e w1 ⟨rfl,b1⟩
    have a4:Hid (Below W.heap.size W w1):=Lh (Y.out.bl.trans (b1.mono Y.out.bl.size))
    have a9:=gdone_any { Q.g with st:=sDone } w1
    rw [show ((Gv.st { Q.g with st:=sDone }).toList == [100,111,110,101])=true from (by kernel_rfl)] at a9
    have a9:=Lh a9
    clear b1 bv
    go_wp2_with fail
    refine a9.out.mono ?_
    rintro e w2 ⟨rfl,b2⟩
    have a3:Hid (Below W.heap.size W w2):=Lh (a4.out.trans (b2.mono a4.out.size))
    clear b2
    go_wp2_with fail
    go_ret
    exact ⟨rfl,a3.out⟩
end Go.Proofs.YtaeemilldmhbnaaGreatDoor.Wo
