/- A part of the claim. -/
import Derived.Test.YtoiklelghfckgaaGreatDoorYK6
import Derived.RangeFuncSeq
section
set_option maxRecDepth 100000
set_option maxHeartbeats 8000000
set_option linter.unusedVariables false
namespace Go.Proofs.YtoiklelghfckgaaGreatDoor.Wo
open Go Go.ChangeShapes Go.WideShapes Go.ChangeAt Go.RowKit Go.Maps Rw Hi Mt Ba
open Cn (Cf cfE)
structure Wp where
 pw:Nat
 pb:Nat
 ab:Nat
 pl:Nat
 ps:Nat
 rs:Option Nat
 bk:Le.At
 bF:Nat
 mF:Nat
 pF:Nat
 ph:Nat
 rh:Option Nat
structure Ws where
 conf:Cf
 now:Int
 D:List (Int × Ex)
 S:List Int
 loc:Nat->List Int
 sl:List St.Sx
 leak:Int
 L:List (Int × Le.Ls)
 M:List (Int × Bool)
 T:List (Int × Int)
 O:List Bool
 P:List Bool
 n:Nat
 C:List Int
 step:Int
 ev:List Tx.Ev
 live:Int
 closed:Bool
structure Wc (w:World) (x:Wp) (s:Ws):Prop where
 c0:w.cell? ⟨x.pw,0,none⟩=some (.int .i64 s.conf.max)
 c1:w.cell? ⟨x.pw,1,none⟩=some (.int .i64 s.conf.min)
 c2:w.cell? ⟨x.pw,2,none⟩=some (.int .u64 s.conf.idle)
 c3:w.cell? ⟨x.pw,3,none⟩=some (.int .u64 s.conf.life)
 c4:w.cell? ⟨x.pw,4,none⟩=some (.int .u64 s.conf.keep)
 c5:w.cell? ⟨x.pw,5,none⟩=some (.int .u64 s.conf.leak)
 c6:w.cell? ⟨x.pw,6,none⟩=some (.float .f64 s.conf.var)
 c7:w.cell? ⟨x.pw,7,none⟩=some (.int .u64 s.now)
 c8:w.cell? ⟨x.pw,8,none⟩=some (ptr x.pb)
 c9:w.cell? ⟨x.pw,9,none⟩=some (ptr x.pl)
 c10:w.cell? ⟨x.pw,10,none⟩=some (ptr x.ps)
 c11:w.cell? ⟨x.pw,11,none⟩=some (ptr x.bk.p)
 c12:w.cell? ⟨x.pw,12,none⟩=some (ptr x.pF)
 c13:w.cell? ⟨x.pw,13,none⟩=some (ptr x.ph)
 c14:w.cell? ⟨x.pw,14,none⟩=some (.int .i64 s.live)
 c15:w.cell? ⟨x.pw,15,none⟩=some (.bool s.closed)
 fz:∀ o,w.frozen? ⟨x.pw,o,none⟩=false
structure Wo (base:Nat) (col:Nat->Nat) (w:World) (x:Wp) (s:Ws):Prop where
 cells:Wc w x s
 bag:Bx (fun g=>col g=1) (fun g=>col g=0/\base<=g) w x.pb x.ab s.D s.S
 loc:Lc.Lo (fun g=>(col g≠0/\col g≠2)\/g < base) w base x.pl s.loc
 slots:St.Ss w base x.ps x.rs s.sl
 book:Le.Bk w x.bk s.leak s.L s.M s.T
 fact:Fc.Fa w x.bF x.mF x.pF s.O s.P s.n s.C
 hist:Hi.Hs w base x.ph x.rh s.step s.ev
 kl:col x.pl=2
 ks:col x.ps=3 /\ ∀ g,x.rs=some g->col g=3
 kb:col x.bk.p=4/\col x.bk.a=4/\col x.bk.b=4/\col x.bk.q=4/\col x.bk.m=4
 kf:∀ g,x.bF<=g->g<=x.pF->col g=5
 kh:col x.ph=6 /\ ∀ g,x.rh=some g->col g=6
 kw:col x.pw=7
 lo:∀ g,col g≠0->base<=g
section
variable {base:Nat} {col:Nat->Nat} {w w':World} {x:Wp} {s:Ws}
theorem Wc.lt (h:Wc w x s):x.pw < w.heap.size:=Lw.ltH h.c0
theorem Wc.blk (h:Wc w x s) (u:w'.heap[x.pw]? = w.heap[x.pw]?):Wc w' x s:=
 ⟨(World.cell?_of_block (a:=⟨x.pw,0,none⟩) u).trans h.c0,(World.cell?_of_block (a:=⟨x.pw,1,none⟩) u).trans h.c1,(World.cell?_of_block (a:=⟨x.pw,2,none⟩) u).trans h.c2,(World.cell?_of_block (a:=⟨x.pw,3,none⟩) u).trans h.c3,(World.cell?_of_block (a:=⟨x.pw,4,none⟩) u).trans h.c4,(World.cell?_of_block (a:=⟨x.pw,5,none⟩) u).trans h.c5,(World.cell?_of_block (a:=⟨x.pw,6,none⟩) u).trans h.c6,(World.cell?_of_block (a:=⟨x.pw,7,none⟩) u).trans h.c7,(World.cell?_of_block (a:=⟨x.pw,8,none⟩) u).trans h.c8,(World.cell?_of_block (a:=⟨x.pw,9,none⟩) u).trans h.c9,(World.cell?_of_block (a:=⟨x.pw,10,none⟩) u).trans h.c10,(World.cell?_of_block (a:=⟨x.pw,11,none⟩) u).trans h.c11,(World.cell?_of_block (a:=⟨x.pw,12,none⟩) u).trans h.c12,(World.cell?_of_block (a:=⟨x.pw,13,none⟩) u).trans h.c13,(World.cell?_of_block (a:=⟨x.pw,14,none⟩) u).trans h.c14,(World.cell?_of_block (a:=⟨x.pw,15,none⟩) u).trans h.c15,fun o=>(World.frozen?_of_block (a:=⟨x.pw,o,none⟩) u).trans (h.fz o)⟩
theorem Wo.later (h:Wo base col w x s) (u:Below w.heap.size w w'):Wo base col w' x s:=
 ⟨h.cells.blk (u.block _ h.cells.lt),h.bag.later u,h.loc.later u,h.slots.later u,h.book.later u,h.fact.later u,h.hist.later u,h.kl,h.ks,h.kb,h.kf,h.kh,h.kw,h.lo⟩
end
section
variable (w:World) {base:Nat} {col:Nat->Nat} {x:Wp} {s:Ws}
theorem Wc.live (h:Wc w x s) (v:Int):Wc (w.setCell ⟨x.pw,14,none⟩ (.int .i64 v)) x { s with live:=v }:=by
 have k:∀ o u,o≠14->w.cell? ⟨x.pw,o,none⟩=some u->(w.setCell ⟨x.pw,14,none⟩ (.int .i64 v)).cell? ⟨x.pw,o,none⟩=some u:=fun o u F z=>(World.cell?_setCell_other _ _ _ _ (fun e=>by injection e with _ e _; omega)).trans z
 exact⟨k 0 _ (by decide) h.c0,k 1 _ (by decide) h.c1,k 2 _ (by decide) h.c2,k 3 _ (by decide) h.c3,k 4 _ (by decide) h.c4,k 5 _ (by decide) h.c5,k 6 _ (by decide) h.c6,k 7 _ (by decide) h.c7,k 8 _ (by decide) h.c8,k 9 _ (by decide) h.c9,k 10 _ (by decide) h.c10,k 11 _ (by decide) h.c11,k 12 _ (by decide) h.c12,k 13 _ (by decide) h.c13,World.cell?_setCell_same _ _ _ h.c14,k 15 _ (by decide) h.c15,fun o=>by simpa using h.fz o⟩
end
def col8 (a b c d e f g h k:Nat):Nat:=if k < a then 0 else if k < b then 1 else if k < c then 2 else if k < d then 3 else if k < e then 4 else if k < f then 5 else if k < g then 6 else if k=h then 7 else 0
section
variable {a b c d e f g h k:Nat}
theorem col8_1 (u:a<=k) (z:k < b):col8 a b c d e f g h k=1:=by unfold col8; (repeat' split) <;> omega
theorem col8_2 (u:a<=b) (z:b<=k) (F:k < c):col8 a b c d e f g h k=2:=by unfold col8; (repeat' split) <;> omega
theorem col8_3 (u:a<=b) (z:b<=c) (F:c<=k) (G:k < d):col8 a b c d e f g h k=3:=by unfold col8; (repeat' split) <;> omega
theorem col8_4 (u:a<=b) (z:b<=c) (F:c<=d) (G:d<=k) (I:k < e):col8 a b c d e f g h k=4:=by unfold col8; (repeat' split) <;> omega
theorem col8_5 (u:a<=b) (z:b<=c) (F:c<=d) (J:d<=e) (G:e<=k) (I:k < f):col8 a b c d e f g h k=5:=by unfold col8; (repeat' split) <;> omega
theorem col8_6 (u:a<=b) (z:b<=c) (F:c<=d) (J:d<=e) (Q:e<=f) (G:f<=k) (I:k < g):col8 a b c d e f g h k=6:=by unfold col8; (repeat' split) <;> omega
theorem col8_7 (u:a<=b) (z:b<=c) (F:c<=d) (J:d<=e) (Q:e<=f) (W:f<=g) (G:k=g) (I:k=h):col8 a b c d e f g h k=7:=by unfold col8; (repeat' split) <;> omega
theorem col8_lo (u:col8 a b c d e f g h k≠0):a<=k:=by unfold col8 at u; split at u <;> omega
theorem col8_x (hc:b<=c) (u:col8 a b c d e f g h k≠0/\col8 a b c d e f g h k≠2):(a<=k/\k < b)\/c<=k:=by
 have z:=col8_lo u.1
 by_cases h3:k < b
 .exact .inl ⟨z,h3⟩
 .by_cases h4:k < c
  .exfalso
   refine u.2 ?_
   unfold col8; (repeat' split) <;> omega
  .exact .inr (by omega)
end
theorem at0 (w:World):Calls Tryz.prog 56 #[.int .u64 0] w fun e w'=>e=.returned (.agg #[.int .u64 0])/\Below w.heap.size w w':=
 (Ck.at_any 0 w (by decide) (by decide)).mono fun e w' ⟨u,z⟩=>⟨u,z ▸ (Below.refl _ _).alloc (Nat.le_refl _) _⟩
theorem new_ok (c:Cf) (hc:c.ok) (h0:cfE c=0) (A A':Option Addr) (k cp B k' a1 B':Nat) (O P:List Bool) (w:World) (hO:Rd Value.bool w B A k cp O) (hP:Rd Value.bool w B' A' k' a1 P) (hB:B<=w.heap.size) (a2:B'<=w.heap.size) (hk:k<=1000) (aa:k'<=1000) :
  Calls Tryz.prog 29 #[c.v,.slice A k cp,.slice A' k' a1] w fun e w'=>∃ (x:Wp) (col:Nat->Nat),e=.returned (.tuple #[ptr x.pw,.int .i64 0]) /\
   Wo w.heap.size col w' x ⟨c,0,[],[],fun _=>[],[],c.leak,[],[],[],O,P,0,[],0,[],0,false⟩/\Below w.heap.size w w':=by
 have HC:=Lh hc
 have a0:=Lh (Cn.ccheck_any c hc (w.alloc (.cells #[.int .i64 c.max,.int .i64 c.min,.int .u64 c.idle,.int .u64 c.life,.int .u64 c.keep,.int .u64 c.leak,.float .f64 c.var] 50)))
 rw[h0] at a0
 have HO:=Lh hO
 have HP:=Lh hP
 have a4:=Lh hB
 have a5:=Lh a2
 clear h0 hc hO hP
 go_enter Tryz.func29,Tryz.ntmps29
 go_wp2_with fail
 refine a0.out.mono ?_
 rintro e w1 ⟨rfl,b1⟩
 have a3:Below w.heap.size w (w.alloc (.cells #[.int .i64 c.max,.int .i64 c.min,.int .u64 c.idle,.int .u64 c.life,.int .u64 c.keep,.int .u64 c.leak,.float .f64 c.var] 50)):=(Below.refl _ w).alloc (Nat.le_refl _) _
 have G:=Lh (a3.trans (b1.mono a3.size))
 have a8:=Lh (G.out.mono hB)
 have a9:=Lh (G.out.mono a2)
 have a7:w.heap.size < w1.heap.size:=by have:=b1.size; simp at this; omega
 have V0:=Lh ((b1.cell (p:=⟨w.heap.size,0,none⟩) (by simp)).trans (show _=some (.int .i64 c.max) by go_simp))
 have V1:=Lh ((b1.cell (p:=⟨w.heap.size,1,none⟩) (by simp)).trans (show _=some (.int .i64 c.min) by go_simp))
 have V2:=Lh ((b1.cell (p:=⟨w.heap.size,2,none⟩) (by simp)).trans (show _=some (.int .u64 c.idle) by go_simp))
 have V3:=Lh ((b1.cell (p:=⟨w.heap.size,3,none⟩) (by simp)).trans (show _=some (.int .u64 c.life) by go_simp))
 have V4:=Lh ((b1.cell (p:=⟨w.heap.size,4,none⟩) (by simp)).trans (show _=some (.int .u64 c.keep) by go_simp))
 have V5:=Lh ((b1.cell (p:=⟨w.heap.size,5,none⟩) (by simp)).trans (show _=some (.int .u64 c.leak) by go_simp))
 have V6:=Lh ((b1.cell (p:=⟨w.heap.size,6,none⟩) (by simp)).trans (show _=some (.float .f64 c.var) by go_simp))
 have Q:=Lh a7
 clear b1 a3 a0
 go_wp2_with fail
 clear a7 hB a2
 have u:Hid (Below w1.heap.size w1 w1.drew):=Lh (Below.refl _ _).drew
 refine rgS 16 (fun w'=>Below w1.heap.size w1 w') (by kernel_rfl) (by kernel_rfl) ?_
 intro a6
 have W:=Lh a6
 clear a6
 refine rq 0 W.out u.out rfl ?_ (hv:=fun w' hw=>by (have k0:=(hw.cell (p:=⟨w.heap.size,0,none⟩) Q.out).trans V0.out; have k1:=(hw.cell (p:=⟨w.heap.size,1,none⟩) Q.out).trans V1.out; have k2:=(hw.cell (p:=⟨w.heap.size,2,none⟩) Q.out).trans V2.out; have k3:=(hw.cell (p:=⟨w.heap.size,3,none⟩) Q.out).trans V3.out; have k4:=(hw.cell (p:=⟨w.heap.size,4,none⟩) Q.out).trans V4.out; have k5:=(hw.cell (p:=⟨w.heap.size,5,none⟩) Q.out).trans V5.out; have k6:=(hw.cell (p:=⟨w.heap.size,6,none⟩) Q.out).trans V6.out; go_simp; exact rfl))
 refine rq 5 W.out u.out rfl ?_
 refine rq 6 W.out u.out rfl ?_ (hv:=fun w' hw=>by (have k5:=(hw.cell (p:=⟨w.heap.size,5,none⟩) Q.out).trans V5.out; go_simp; exact rfl))
 refine rq 8 W.out u.out rfl ?_
 refine rq 9 W.out u.out rfl ?_
 refine rO 1 rfl (by kernel_rfl) rfl ?_
 unfold Oper.wp
 go_simp
 refine (at0 _).mono ?_
 rintro e J ⟨rfl,b2⟩
 have z:=u.out.trans (b2.mono u.out.size)
 refine⟨z,?_⟩
 have ad:=u
 clear u
 have u:=Lh z
 clear z
 refine rO 2 rfl (by kernel_rfl) rfl ?_
 unfold Oper.wp
 go_simp
 refine (bnew_any J).mono ?_
 rintro e w3 ⟨rfl,h3,b3⟩
 have z:=u.out.trans (b3.mono u.out.size)
 refine⟨z,?_⟩
 have ae:=u
 clear u
 have u:=Lh z
 clear z
 refine rO 3 rfl (by kernel_rfl) rfl ?_
 unfold Oper.wp
 go_simp
 refine (Lc.new_any (fun g=>g < w3.heap.size) w3 w.heap.size (Nat.le_trans G.out.size u.out.size) (fun g F=>F)).mono ?_
 rintro e w4 ⟨pl,rfl,h4,l4,b4⟩
 have z:=u.out.trans (b4.mono u.out.size)
 refine⟨z,?_⟩
 have af:=u
 clear u
 have u:=Lh z
 clear z
 refine rO 4 rfl (by kernel_rfl) rfl ?_
 unfold Oper.wp
 go_simp
 refine (St.new_any w4 w.heap.size (Nat.le_trans G.out.size u.out.size)).mono ?_
 rintro e w5 ⟨ps,rfl,h5,l5,b5⟩
 have z:=u.out.trans (b5.mono u.out.size)
 refine⟨z,?_⟩
 have ag:=u
 clear u
 have u:=Lh z
 clear z
 refine rO 7 rfl (by kernel_rfl) rfl ?_
 unfold Oper.wp
 go_simp
 refine (Le.new_any w5 c.leak).mono ?_
 rintro e w6 ⟨xk,rfl,h6,b6,lp,la,lb,lq,lm⟩
 have z:=u.out.trans (b6.mono u.out.size)
 refine⟨z,?_⟩
 have ah:=u
 clear u
 have u:=Lh z
 clear z
 refine rO 10 rfl (by kernel_rfl) rfl ?_
 unfold Oper.wp
 go_simp
 refine (Fc.new_any A k cp B O A' k' a1 B' P w6 (HO.out.below (a8.out.trans (u.out.mono (Nat.le_trans a4.out G.out.size)))) (HP.out.below (a9.out.trans (u.out.mono (Nat.le_trans a5.out G.out.size)))) (Nat.le_trans a4.out (Nat.le_trans G.out.size u.out.size)) (Nat.le_trans a5.out (Nat.le_trans G.out.size u.out.size)) hk aa).mono ?_
 rintro e w7 ⟨mF,pF,rfl,h7,b7⟩
 have z:=u.out.trans (b7.mono u.out.size)
 refine⟨z,?_⟩
 have ai:=u
 clear u
 have u:=Lh z
 clear z
 refine rO 11 rfl (by kernel_rfl) rfl ?_
 unfold Oper.wp
 go_simp
 refine (Hi.new_any w7 w.heap.size (Nat.le_trans G.out.size u.out.size)).mono ?_
 rintro e I ⟨ph,rfl,h8,l8,b8⟩
 have z:=u.out.trans (b8.mono u.out.size)
 refine⟨z,?_⟩
 have aj:=u
 clear u
 have u:=Lh z
 clear z
 refine rq 12 W.out u.out rfl ?_
 refine rO 13 rfl (by kernel_rfl) rfl ?_
 unfold Oper.wp
 go_simp
 have z:=u.out.alloc u.out.size (.cells #[.int .i64 c.max,.int .i64 c.min,.int .u64 c.idle,.int .u64 c.life,.int .u64 c.keep,.int .u64 c.leak,.float .f64 c.var,.int .u64 0,ptr (J.heap.size+1),ptr pl,ptr ps,ptr xk.p,ptr pF,ptr ph,.int .i64 0,.bool false] 60)
 refine⟨z,?_⟩
 have ac:=u
 clear u
 have u:=Lh z
 clear z
 refine rq 14 W.out u.out rfl ?_
 refine rq 15 W.out u.out rfl ?_
 refine rgD (by kernel_rfl) ?_
 go_wp2_with fail
 go_ret2
 have t8:Below I.heap.size I (I.alloc (.cells #[.int .i64 c.max,.int .i64 c.min,.int .u64 c.idle,.int .u64 c.life,.int .u64 c.keep,.int .u64 c.leak,.float .f64 c.var,.int .u64 0,ptr (J.heap.size+1),ptr pl,ptr ps,ptr xk.p,ptr pF,ptr ph,.int .i64 0,.bool false] 60)):=(Below.refl _ _).alloc (Nat.le_refl _) _
 have t7:=b8.trans (t8.mono b8.size)
 have t6:=b7.trans (t7.mono b7.size)
 have t5:=b6.trans (t6.mono b6.size)
 have t4:=b5.trans (t5.mono b5.size)
 have t3:=b4.trans (t4.mono b4.size)
 have z1:=G.out.size
 have z2:w1.heap.size<=J.heap.size:=b2.size
 have z3:=b3.size
 have z4:=b4.size
 have Y:=b5.size
 have z6:=b6.size
 have z7:=b7.size
 have z8:=b8.size
 have y3:=h3.lt
 have y4:=h4.lt
 have y5:=h5.lt
 have y6:=h6.lt
 have y7:=h7.in_
 have ak:=h7.lo
 have al:=h7.lt
 have y8:=h8.lt
 have hX:∀ g,((col8 J.heap.size w3.heap.size w4.heap.size w5.heap.size w6.heap.size w7.heap.size I.heap.size I.heap.size g≠0/\col8 J.heap.size w3.heap.size w4.heap.size w5.heap.size w6.heap.size w7.heap.size I.heap.size I.heap.size g≠2)\/g < w.heap.size)->g < w3.heap.size\/w4.heap.size<=g:=fun g F=>by
  rcases F with F | F
  .rcases col8_x z4 F with h | h
   .exact .inl h.2
   .exact .inr h
  .exact .inl (by omega)
 refine⟨⟨I.heap.size,J.heap.size+1,J.heap.size,pl,ps,none,xk,w6.heap.size,mF,pF,ph,none⟩,col8 J.heap.size w3.heap.size w4.heap.size w5.heap.size w6.heap.size w7.heap.size I.heap.size I.heap.size,rfl,⟨?_,?_,?_,?_,?_,?_,?_,?_,?_,?_,?_,?_,?_,?_⟩,?_⟩
 .refine⟨?_,?_,?_,?_,?_,?_,?_,?_,?_,?_,?_,?_,?_,?_,?_,?_,?_⟩
  all_goals (first | (go_simp; done) | (intro o; simp[World.frozen?]))
 .exact (h3.mono (fun g F hc=>col8_1 hc F) (fun g _ h=>h.elim) (fun g h1 h2=>by rw[h1] at h2; cases h2.1)).later t3
 .exact (h4.shun hX).later t4
 .exact h5.later t5
 .exact h6.later t6
 .exact h7.later t7
 .exact h8.later t8
 .exact col8_2 z3 l4 y4
 .exact⟨col8_3 z3 z4 l5 y5,fun g F=>by cases F⟩
 .exact⟨col8_4 z3 z4 Y lp y6.1,col8_4 z3 z4 Y la y6.2.1,col8_4 z3 z4 Y lb y6.2.2.1,col8_4 z3 z4 Y lq y6.2.2.2.1,col8_4 z3 z4 Y lm y6.2.2.2.2⟩
 .exact fun g h1 h2=>col8_5 z3 z4 Y z6 h1 (by have h2:g<=pF:=h2; omega)
 .exact⟨col8_6 z3 z4 Y z6 z7 l8 y8,fun g F=>by cases F⟩
 .exact col8_7 z3 z4 Y z6 z7 z8 rfl rfl
 .exact fun g F=>by have:=col8_lo F; omega
 .exact G.out.trans (u.out.mono z1)
section
variable {base:Nat} {col:Nat->Nat} {w w':World} {x:Wp} {s:Ws} {i:Nat}
theorem lo_aside {X:Nat->Prop} {B p:Nat} {L:Nat->List Int} {D:Nat->Prop} (h:Lc.Lo X w B p L) (J:Fz D w w') (Y:∀ g,D g->X g):Lc.Lo X w' B p L:=by
 have hk:∀ g,g < w.heap.size -> ¬ X g->w'.heap[g]? = w.heap[g]?:=fun g F u=>J.block g F (fun e=>u (Y g e))
 have W:=hk p h.lt h.px
 refine⟨fun j I=>?_,h.len,fun j I=>(World.frozen?_of_block (a:=⟨p,j,none⟩) W).trans (h.free j I),h.lo,h.px⟩
 obtain⟨A,n,c,F,u,G⟩:=h.at_ j I
 refine⟨A,n,c,(World.cell?_of_block (a:=⟨p,j,none⟩) W).trans F,rd_blk u J.size fun hn b o e=>?_,fun g Q=>⟨Nat.lt_of_lt_of_le (G g Q).1 J.size,(G g Q).2⟩⟩
 have:=G b (by subst e; obtain⟨b',o',z,_,_⟩:=u.at_ hn; injection z with z; injection z with e1 e2; rfl)
 exact hk b this.1 this.2
theorem Wo.bag_aside (h:Wo base col w x s) (z:Fz (fun g=>col g=i) w w') (F:i≠0) (G:i≠1):Bx (fun g=>col g=1) (fun g=>col g=0/\base<=g) w' x.pb x.ab s.D s.S:=
 h.bag.aside z (fun g u e=>by rcases u with u | u <;> omega)
theorem Wo.loc_aside (h:Wo base col w x s) (u:Fz (fun g=>col g=i) w w') (z:i≠0) (F:i≠2):Lc.Lo (fun g=>(col g≠0/\col g≠2)\/g < base) w' base x.pl s.loc:=
 lo_aside h.loc u (fun g G=>.inl ⟨by omega,by omega⟩)
theorem Wo.slots_aside (h:Wo base col w x s) (z:Fz (fun g=>col g=i) w w') (F:i≠3):St.Ss w' base x.ps x.rs s.sl:=
 h.slots.same (z.block _ h.slots.lt (fun e=>by have:=h.ks.1; omega)) (fun g u=>z.block g (h.slots.rowlt g u).2 (fun e=>by have:=h.ks.2 g u; omega))
theorem Wo.book_aside (h:Wo base col w x s) (u:Fz (fun g=>col g=i) w w') (Q:i≠4):Le.Bk w' x.bk s.leak s.L s.M s.T:=by
 obtain⟨k1,k2,k3,W,Y⟩:=h.kb
 obtain⟨z,F,G,I,J⟩:=h.book.lt
 exact h.book.same (u.block _ z (fun e=>by omega)) (u.block _ F (fun e=>by omega)) (u.block _ G (fun e=>by omega)) (u.block _ I (fun e=>by omega)) (u.block _ J (fun e=>by omega))
theorem Wo.fact_aside (h:Wo base col w x s) (F:Fz (fun g=>col g=i) w w') (G:i≠5):Fc.Fa w' x.bF x.mF x.pF s.O s.P s.n s.C:=
 h.fact.same fun g u z=>F.block g (by have:=h.fact.in_; omega) (fun e=>by have:=h.kf g u z; omega)
theorem Wo.hist_aside (h:Wo base col w x s) (z:Fz (fun g=>col g=i) w w') (F:i≠6):Hi.Hs w' base x.ph x.rh s.step s.ev:=
 h.hist.same (z.block _ h.hist.lt (fun e=>by have:=h.kh.1; omega)) (fun g u=>z.block g (h.hist.row g u).2 (fun e=>by have:=h.kh.2 g u; omega))
theorem Wo.cells_aside (h:Wo base col w x s) (u:Fz (fun g=>col g=i) w w') (z:i≠7):Wc w' x s:=
 h.cells.blk (u.block _ h.cells.lt (fun e=>by have:=h.kw; omega))
theorem Wo.own_ (h:Wo base col w x s) (cf:Cf) (nw lv:Int) (cl:Bool) (hc:Wc w' x { s with conf:=cf,now:=nw,live:=lv,closed:=cl }) (u:Fz (fun g=>col g=7) w w'):Wo base col w' x { s with conf:=cf,now:=nw,live:=lv,closed:=cl }:=
 ⟨hc,h.bag_aside u (by decide) (by decide),h.loc_aside u (by decide) (by decide),h.slots_aside u (by decide),h.book_aside u (by decide),h.fact_aside u (by decide),h.hist_aside u (by decide),h.kl,h.ks,h.kb,h.kf,h.kh,h.kw,h.lo⟩
end
section
variable (w:World) {base:Nat} {col:Nat->Nat} {x:Wp} {s:Ws}
theorem grow_any (h:Wo base col w x s) (Q:0<=s.live) (hm:s.conf.max<=1000000):Calls Tryz.prog 68 #[ptr x.pw] w fun e w'=>e=.returned (.bool (decide (s.live < s.conf.max))) /\
   Wo base col w' x { s with live:=if s.live < s.conf.max then s.live+1 else s.live } /\ Fz (fun g=>col g=7) w w':=by
 have c0:=h.cells.c0
 have c14:=h.cells.c14
 have W:∀ y:After w,y.1.cell? ⟨x.pw,0,none⟩=some (.int .i64 s.conf.max):=fun y=>y.cell c0
 have Y:∀ y:After w,y.1.cell? ⟨x.pw,14,none⟩=some (.int .i64 s.live):=fun y=>y.cell c14
 have J:=Lh h
 by_cases hl:s.live < s.conf.max
 .have I:decide (s.live < s.conf.max)=true:=decide_eq_true hl
  have q2:decide (s.conf.max<=s.live)=false:=decide_eq_false (by omega)
  have a2:IntKind.i64.wrap (s.live+1)=s.live+1:=by rw[IntKind.wrap_i64]; omega
  rw[if_pos hl,I]
  clear h hl Q hm
  go_enter Tryz.func68,Tryz.ntmps68
  go_wp2_with fail
  refine rgA (by kernel_rfl) (by kernel_rfl) ?_
  repeat (go_big_quiet_step (fail))
  refine wpQuiet_nil ?_
  rintro F ⟨⟨_,z⟩,rfl⟩
  have u:=Lh (J.out.later z)
  have G:=Lh z
  have a0:=u.out.cells.c14
  have a1:=u.out.cells.fz 14
  clear z W Y c0 c14
  go_wp2_with fail
  go_ret
  have hz:Fz (fun g=>col g=7) F (F.setCell ⟨x.pw,14,none⟩ (.int .i64 (s.live+1))):=Fz.of_set _ u.out.kw
  exact⟨rfl,u.out.own_ s.conf s.now (s.live+1) s.closed (u.out.cells.live F (s.live+1)) hz,(Fz.of_below G.out).trans hz⟩
 .have I:decide (s.live < s.conf.max)=false:=decide_eq_false hl
  have q2:decide (s.conf.max<=s.live)=true:=decide_eq_true (by omega)
  rw[if_neg hl,I]
  clear h hl Q hm
  go_enter Tryz.func68,Tryz.ntmps68
  go_wp2_with fail
  refine rgA (by kernel_rfl) (by kernel_rfl) ?_
  repeat (go_big_quiet_step (fail))
  refine wpQuiet_nil ?_
  rintro F ⟨⟨_,z⟩,rfl⟩
  have u:=Lh (J.out.later z)
  have G:=Lh z
  clear z W Y c0 c14
  go_wp2_with fail
  go_ret
  exact⟨rfl,u.out,Fz.of_below G.out⟩
end
end Go.Proofs.YtoiklelghfckgaaGreatDoor.Wo
end
section
set_option maxRecDepth 100000
set_option maxHeartbeats 8000000
set_option linter.unusedVariables false
namespace Go.Proofs.YtoiklelghfckgaaGreatDoor.Lc
open Go.ChangeShapes Go.WideShapes Go.ChangeAt Go.RowKit Rw Hi Sl
def firstK (L:Nat->List Int) (k:Nat):Nat->List Int:=fun j=>if j < k then L j else []
theorem firstK_next (L:Nat->List Int) (k:Nat) (i:Nat):firstK L (k+1) i=upd (firstK L k) k (L k) i:=by
 unfold firstK upd
 by_cases e:i=k
 .subst e; simp
 .by_cases h:i < k
  .simp[h,e,show i < k+1 by omega]
  .simp[h,e,show ¬ i < k+1 by omega]
theorem clone_any (X Y:Nat->Prop) (w:World) (B p:Nat) (L:Nat->List Int) (hX:∀ g,X g->g < w.heap.size) (h:Lo Y w B p L) (hB:B<=w.heap.size) :
  Calls Tryz.prog 49 #[.pointer (some ⟨p,0,none⟩)] w fun e w'=>∃ p',e=.returned (.pointer (some ⟨p',0,none⟩))/\Lo X w' B p' L/\w.heap.size<=p'/\Below w.heap.size w w':=by
 obtain⟨A0,n0,c0,k0,r0,_⟩:=h.at_ 0 (by omega)
 have ak:n0<=4:=by rw[<- r0.len]; exact h.len 0 (by omega)
 have R0:=Lh r0
 obtain⟨A1,n1,c1,k1,r1,_⟩:=h.at_ 1 (by omega)
 have al:n1<=4:=by rw[<- r1.len]; exact h.len 1 (by omega)
 have R1:=Lh r1
 obtain⟨A2,n2,c2,k2,r2,_⟩:=h.at_ 2 (by omega)
 have an:n2<=4:=by rw[<- r2.len]; exact h.len 2 (by omega)
 have R2:=Lh r2
 obtain⟨A3,n3,c3,k3,r3,_⟩:=h.at_ 3 (by omega)
 have ao:n3<=4:=by rw[<- r3.len]; exact h.len 3 (by omega)
 have R3:=Lh r3
 obtain⟨A4,n4,c4,k4,r4,_⟩:=h.at_ 4 (by omega)
 have aq:n4<=4:=by rw[<- r4.len]; exact h.len 4 (by omega)
 have R4:=Lh r4
 obtain⟨A5,n5,c5,k5,r5,_⟩:=h.at_ 5 (by omega)
 have ar:n5<=4:=by rw[<- r5.len]; exact h.len 5 (by omega)
 have R5:=Lh r5
 obtain⟨A6,n6,c6,k6,r6,_⟩:=h.at_ 6 (by omega)
 have au:n6<=4:=by rw[<- r6.len]; exact h.len 6 (by omega)
 have R6:=Lh r6
 obtain⟨A7,n7,c7,k7,r7,_⟩:=h.at_ 7 (by omega)
 have av:n7<=4:=by rw[<- r7.len]; exact h.len 7 (by omega)
 have R7:=Lh r7
 have a3:=h.lt
 have HL:=Lh h.len
 have HX:=Lh hX
 clear h r0 r1 r2 r3 r4 r5 r6 r7 hX
 go_enter Tryz.func49,Tryz.ntmps49
 go_wp2_with fail
 refine (new_any X _ B hB HX.out).mono ?_
 rintro e w1 ⟨p',rfl,J,a2,a1⟩
 have k0:=(a1.cell (p:=⟨p,0,none⟩) a3).trans k0
 have k1:=(a1.cell (p:=⟨p,1,none⟩) a3).trans k1
 have k2:=(a1.cell (p:=⟨p,2,none⟩) a3).trans k2
 have k3:=(a1.cell (p:=⟨p,3,none⟩) a3).trans k3
 have k4:=(a1.cell (p:=⟨p,4,none⟩) a3).trans k4
 have k5:=(a1.cell (p:=⟨p,5,none⟩) a3).trans k5
 have k6:=(a1.cell (p:=⟨p,6,none⟩) a3).trans k6
 have k7:=(a1.cell (p:=⟨p,7,none⟩) a3).trans k7
 have L0:=Lh (show Lo X w1 B p' (firstK L 0) from J.same (fun i hi=>by simp[firstK]))
 have B0:=Lh a1
 clear J a1
 go_wp2_with fail
 clear k0 k1 k2 k3 k4 k5 k6 k7
 refine wp_loop_rounds 9 ?_
 have ac:∀ w:World,(Instr.index 193 (.agg #[.slice A0 n0 c0,.slice A1 n1 c1,.slice A2 n2 c2,.slice A3 n3 c3,.slice A4 n4 c4,.slice A5 n5 c5,.slice A6 n6 c6,.slice A7 n7 c7]) (.int .i64 0)).run Tryz.prog w=.ok (.slice A0 n0 c0) w:=fun _=>by kernel_rfl
 rw[rounds_succ]
 go_wp2_with fail
 refine rgS 7 (fun w'=>Below w1.heap.size w1 w') (by kernel_rfl) (by kernel_rfl) ?_
 intro a0
 have z:=Lh a0
 have u:=Lh (show Below w1.heap.size w1 w1.drew from (Below.refl _ _).drew)
 clear a0 ac
 refine rq 0 z.out u.out rfl ?_
 refine rq 1 z.out u.out rfl ?_
 refine rq 2 z.out u.out rfl ?_
 refine rq 4 z.out u.out rfl ?_
 refine rq 5 z.out u.out rfl ?_
 refine rO 3 rfl (by kernel_rfl) rfl ?_
 unfold Oper.wp
 go_simp
 refine (Sl.clone_any A0 n0 c0 (L 0) w.heap.size _ (R0.out.below (B0.out.trans (u.out.mono B0.out.size))) (by have J:=B0.out.size; have h2:=u.out.size; omega) (by omega)).mono ?_
 rintro e x0 ⟨E0,d0,rfl,I,hb⟩
 have F:=Lh (u.out.trans (hb.mono u.out.size))
 have W:=Lh (Rd.own_rd I)
 have Q:=Lh (own_fresh I (X:=X) (fun g hg=>by have J:=HX.out g hg; have h2:=B0.out.size; have h3:=u.out.size; omega))
 clear hb I u
 refine⟨F.out,?_⟩
 refine rq 6 z.out F.out rfl ?_
 have G:=L0.out.later F.out
 obtain⟨q1,q2⟩:=G.store (i:=0) (by omega) W.out (HL.out 0 (by omega)) Q.out
 obtain⟨Az,nz,cz,z0,_⟩:=G.at_ 0 (by omega)
 have zf:=G.free 0 (by omega)
 have L1:=Lh (q1.same (fun i hi=>firstK_next L 0 i))
 have B1:=Lh ((B0.out.trans (F.out.mono B0.out.size)).trans (fr_bel q2 (by have J:=B0.out.size; have h2:=F.out.size; omega) a2))
 clear G q1 q2 W Q L0 B0
 refine rO 7 rfl (by kernel_rfl) rfl ?_
 unfold Oper.wp
 go_simp
 refine rgD (by kernel_rfl) ?_
 clear z0 zf F z
 generalize x0.setCell ⟨p',0,none⟩ (.slice E0 n0 d0)=a4 at *
 go_wp2_with fail
 have ad:∀ w:World,(Instr.index 193 (.agg #[.slice A0 n0 c0,.slice A1 n1 c1,.slice A2 n2 c2,.slice A3 n3 c3,.slice A4 n4 c4,.slice A5 n5 c5,.slice A6 n6 c6,.slice A7 n7 c7]) (.int .i64 1)).run Tryz.prog w=.ok (.slice A1 n1 c1) w:=fun _=>by kernel_rfl
 rw[rounds_succ]
 go_wp2_with fail
 refine rgS 7 (fun w'=>Below a4.heap.size a4 w') (by kernel_rfl) (by kernel_rfl) ?_
 intro a0
 have z:=Lh a0
 have u:=Lh (show Below a4.heap.size a4 a4.drew from (Below.refl _ _).drew)
 clear a0 ad
 refine rq 0 z.out u.out rfl ?_
 refine rq 1 z.out u.out rfl ?_
 refine rq 2 z.out u.out rfl ?_
 refine rq 4 z.out u.out rfl ?_
 refine rq 5 z.out u.out rfl ?_
 refine rO 3 rfl (by kernel_rfl) rfl ?_
 unfold Oper.wp
 go_simp
 refine (Sl.clone_any A1 n1 c1 (L 1) w.heap.size _ (R1.out.below (B1.out.trans (u.out.mono B1.out.size))) (by have J:=B1.out.size; have h2:=u.out.size; omega) (by omega)).mono ?_
 rintro e x1 ⟨E1,d1,rfl,I,hb⟩
 have F:=Lh (u.out.trans (hb.mono u.out.size))
 have W:=Lh (Rd.own_rd I)
 have Q:=Lh (own_fresh I (X:=X) (fun g hg=>by have J:=HX.out g hg; have h2:=B1.out.size; have h3:=u.out.size; omega))
 clear hb I u
 refine⟨F.out,?_⟩
 refine rq 6 z.out F.out rfl ?_
 have G:=L1.out.later F.out
 obtain⟨q1,q2⟩:=G.store (i:=1) (by omega) W.out (HL.out 1 (by omega)) Q.out
 obtain⟨Az,nz,cz,z0,_⟩:=G.at_ 1 (by omega)
 have zf:=G.free 1 (by omega)
 have L2:=Lh (q1.same (fun i hi=>firstK_next L 1 i))
 have B2:=Lh ((B1.out.trans (F.out.mono B1.out.size)).trans (fr_bel q2 (by have J:=B1.out.size; have h2:=F.out.size; omega) a2))
 clear G q1 q2 W Q L1 B1
 refine rO 7 rfl (by kernel_rfl) rfl ?_
 unfold Oper.wp
 go_simp
 refine rgD (by kernel_rfl) ?_
 clear z0 zf F z
 generalize x1.setCell ⟨p',1,none⟩ (.slice E1 n1 d1)=a5 at *
 go_wp2_with fail
 have ae:∀ w:World,(Instr.index 193 (.agg #[.slice A0 n0 c0,.slice A1 n1 c1,.slice A2 n2 c2,.slice A3 n3 c3,.slice A4 n4 c4,.slice A5 n5 c5,.slice A6 n6 c6,.slice A7 n7 c7]) (.int .i64 2)).run Tryz.prog w=.ok (.slice A2 n2 c2) w:=fun _=>by kernel_rfl
 rw[rounds_succ]
 go_wp2_with fail
 refine rgS 7 (fun w'=>Below a5.heap.size a5 w') (by kernel_rfl) (by kernel_rfl) ?_
 intro a0
 have z:=Lh a0
 have u:=Lh (show Below a5.heap.size a5 a5.drew from (Below.refl _ _).drew)
 clear a0 ae
 refine rq 0 z.out u.out rfl ?_
 refine rq 1 z.out u.out rfl ?_
 refine rq 2 z.out u.out rfl ?_
 refine rq 4 z.out u.out rfl ?_
 refine rq 5 z.out u.out rfl ?_
 refine rO 3 rfl (by kernel_rfl) rfl ?_
 unfold Oper.wp
 go_simp
 refine (Sl.clone_any A2 n2 c2 (L 2) w.heap.size _ (R2.out.below (B2.out.trans (u.out.mono B2.out.size))) (by have J:=B2.out.size; have h2:=u.out.size; omega) (by omega)).mono ?_
 rintro e x2 ⟨E2,d2,rfl,I,hb⟩
 have F:=Lh (u.out.trans (hb.mono u.out.size))
 have W:=Lh (Rd.own_rd I)
 have Q:=Lh (own_fresh I (X:=X) (fun g hg=>by have J:=HX.out g hg; have h2:=B2.out.size; have h3:=u.out.size; omega))
 clear hb I u
 refine⟨F.out,?_⟩
 refine rq 6 z.out F.out rfl ?_
 have G:=L2.out.later F.out
 obtain⟨q1,q2⟩:=G.store (i:=2) (by omega) W.out (HL.out 2 (by omega)) Q.out
 obtain⟨Az,nz,cz,z0,_⟩:=G.at_ 2 (by omega)
 have zf:=G.free 2 (by omega)
 have L3:=Lh (q1.same (fun i hi=>firstK_next L 2 i))
 have B3:=Lh ((B2.out.trans (F.out.mono B2.out.size)).trans (fr_bel q2 (by have J:=B2.out.size; have h2:=F.out.size; omega) a2))
 clear G q1 q2 W Q L2 B2
 refine rO 7 rfl (by kernel_rfl) rfl ?_
 unfold Oper.wp
 go_simp
 refine rgD (by kernel_rfl) ?_
 clear z0 zf F z
 generalize x2.setCell ⟨p',2,none⟩ (.slice E2 n2 d2)=a6 at *
 go_wp2_with fail
 have af:∀ w:World,(Instr.index 193 (.agg #[.slice A0 n0 c0,.slice A1 n1 c1,.slice A2 n2 c2,.slice A3 n3 c3,.slice A4 n4 c4,.slice A5 n5 c5,.slice A6 n6 c6,.slice A7 n7 c7]) (.int .i64 3)).run Tryz.prog w=.ok (.slice A3 n3 c3) w:=fun _=>by kernel_rfl
 rw[rounds_succ]
 go_wp2_with fail
 refine rgS 7 (fun w'=>Below a6.heap.size a6 w') (by kernel_rfl) (by kernel_rfl) ?_
 intro a0
 have z:=Lh a0
 have u:=Lh (show Below a6.heap.size a6 a6.drew from (Below.refl _ _).drew)
 clear a0 af
 refine rq 0 z.out u.out rfl ?_
 refine rq 1 z.out u.out rfl ?_
 refine rq 2 z.out u.out rfl ?_
 refine rq 4 z.out u.out rfl ?_
 refine rq 5 z.out u.out rfl ?_
 refine rO 3 rfl (by kernel_rfl) rfl ?_
 unfold Oper.wp
 go_simp
 refine (Sl.clone_any A3 n3 c3 (L 3) w.heap.size _ (R3.out.below (B3.out.trans (u.out.mono B3.out.size))) (by have J:=B3.out.size; have h2:=u.out.size; omega) (by omega)).mono ?_
 rintro e x3 ⟨E3,d3,rfl,I,hb⟩
 have F:=Lh (u.out.trans (hb.mono u.out.size))
 have W:=Lh (Rd.own_rd I)
 have Q:=Lh (own_fresh I (X:=X) (fun g hg=>by have J:=HX.out g hg; have h2:=B3.out.size; have h3:=u.out.size; omega))
 clear hb I u
 refine⟨F.out,?_⟩
 refine rq 6 z.out F.out rfl ?_
 have G:=L3.out.later F.out
 obtain⟨q1,q2⟩:=G.store (i:=3) (by omega) W.out (HL.out 3 (by omega)) Q.out
 obtain⟨Az,nz,cz,z0,_⟩:=G.at_ 3 (by omega)
 have zf:=G.free 3 (by omega)
 have L4:=Lh (q1.same (fun i hi=>firstK_next L 3 i))
 have B4:=Lh ((B3.out.trans (F.out.mono B3.out.size)).trans (fr_bel q2 (by have J:=B3.out.size; have h2:=F.out.size; omega) a2))
 clear G q1 q2 W Q L3 B3
 refine rO 7 rfl (by kernel_rfl) rfl ?_
 unfold Oper.wp
 go_simp
 refine rgD (by kernel_rfl) ?_
 clear z0 zf F z
 generalize x3.setCell ⟨p',3,none⟩ (.slice E3 n3 d3)=a7 at *
 go_wp2_with fail
 have ag:∀ w:World,(Instr.index 193 (.agg #[.slice A0 n0 c0,.slice A1 n1 c1,.slice A2 n2 c2,.slice A3 n3 c3,.slice A4 n4 c4,.slice A5 n5 c5,.slice A6 n6 c6,.slice A7 n7 c7]) (.int .i64 4)).run Tryz.prog w=.ok (.slice A4 n4 c4) w:=fun _=>by kernel_rfl
 rw[rounds_succ]
 go_wp2_with fail
 refine rgS 7 (fun w'=>Below a7.heap.size a7 w') (by kernel_rfl) (by kernel_rfl) ?_
 intro a0
 have z:=Lh a0
 have u:=Lh (show Below a7.heap.size a7 a7.drew from (Below.refl _ _).drew)
 clear a0 ag
 refine rq 0 z.out u.out rfl ?_
 refine rq 1 z.out u.out rfl ?_
 refine rq 2 z.out u.out rfl ?_
 refine rq 4 z.out u.out rfl ?_
 refine rq 5 z.out u.out rfl ?_
 refine rO 3 rfl (by kernel_rfl) rfl ?_
 unfold Oper.wp
 go_simp
 refine (Sl.clone_any A4 n4 c4 (L 4) w.heap.size _ (R4.out.below (B4.out.trans (u.out.mono B4.out.size))) (by have J:=B4.out.size; have h2:=u.out.size; omega) (by omega)).mono ?_
 rintro e x4 ⟨E4,d4,rfl,I,hb⟩
 have F:=Lh (u.out.trans (hb.mono u.out.size))
 have W:=Lh (Rd.own_rd I)
 have Q:=Lh (own_fresh I (X:=X) (fun g hg=>by have J:=HX.out g hg; have h2:=B4.out.size; have h3:=u.out.size; omega))
 clear hb I u
 refine⟨F.out,?_⟩
 refine rq 6 z.out F.out rfl ?_
 have G:=L4.out.later F.out
 obtain⟨q1,q2⟩:=G.store (i:=4) (by omega) W.out (HL.out 4 (by omega)) Q.out
 obtain⟨Az,nz,cz,z0,_⟩:=G.at_ 4 (by omega)
 have zf:=G.free 4 (by omega)
 have L5:=Lh (q1.same (fun i hi=>firstK_next L 4 i))
 have B5:=Lh ((B4.out.trans (F.out.mono B4.out.size)).trans (fr_bel q2 (by have J:=B4.out.size; have h2:=F.out.size; omega) a2))
 clear G q1 q2 W Q L4 B4
 refine rO 7 rfl (by kernel_rfl) rfl ?_
 unfold Oper.wp
 go_simp
 refine rgD (by kernel_rfl) ?_
 clear z0 zf F z
 generalize x4.setCell ⟨p',4,none⟩ (.slice E4 n4 d4)=a8 at *
 go_wp2_with fail
 have ah:∀ w:World,(Instr.index 193 (.agg #[.slice A0 n0 c0,.slice A1 n1 c1,.slice A2 n2 c2,.slice A3 n3 c3,.slice A4 n4 c4,.slice A5 n5 c5,.slice A6 n6 c6,.slice A7 n7 c7]) (.int .i64 5)).run Tryz.prog w=.ok (.slice A5 n5 c5) w:=fun _=>by kernel_rfl
 rw[rounds_succ]
 go_wp2_with fail
 refine rgS 7 (fun w'=>Below a8.heap.size a8 w') (by kernel_rfl) (by kernel_rfl) ?_
 intro a0
 have z:=Lh a0
 have u:=Lh (show Below a8.heap.size a8 a8.drew from (Below.refl _ _).drew)
 clear a0 ah
 refine rq 0 z.out u.out rfl ?_
 refine rq 1 z.out u.out rfl ?_
 refine rq 2 z.out u.out rfl ?_
 refine rq 4 z.out u.out rfl ?_
 refine rq 5 z.out u.out rfl ?_
 refine rO 3 rfl (by kernel_rfl) rfl ?_
 unfold Oper.wp
 go_simp
 refine (Sl.clone_any A5 n5 c5 (L 5) w.heap.size _ (R5.out.below (B5.out.trans (u.out.mono B5.out.size))) (by have J:=B5.out.size; have h2:=u.out.size; omega) (by omega)).mono ?_
 rintro e x5 ⟨E5,d5,rfl,I,hb⟩
 have F:=Lh (u.out.trans (hb.mono u.out.size))
 have W:=Lh (Rd.own_rd I)
 have Q:=Lh (own_fresh I (X:=X) (fun g hg=>by have J:=HX.out g hg; have h2:=B5.out.size; have h3:=u.out.size; omega))
 clear hb I u
 refine⟨F.out,?_⟩
 refine rq 6 z.out F.out rfl ?_
 have G:=L5.out.later F.out
 obtain⟨q1,q2⟩:=G.store (i:=5) (by omega) W.out (HL.out 5 (by omega)) Q.out
 obtain⟨Az,nz,cz,z0,_⟩:=G.at_ 5 (by omega)
 have zf:=G.free 5 (by omega)
 have L6:=Lh (q1.same (fun i hi=>firstK_next L 5 i))
 have B6:=Lh ((B5.out.trans (F.out.mono B5.out.size)).trans (fr_bel q2 (by have J:=B5.out.size; have h2:=F.out.size; omega) a2))
 clear G q1 q2 W Q L5 B5
 refine rO 7 rfl (by kernel_rfl) rfl ?_
 unfold Oper.wp
 go_simp
 refine rgD (by kernel_rfl) ?_
 clear z0 zf F z
 generalize x5.setCell ⟨p',5,none⟩ (.slice E5 n5 d5)=a9 at *
 go_wp2_with fail
 have ai:∀ w:World,(Instr.index 193 (.agg #[.slice A0 n0 c0,.slice A1 n1 c1,.slice A2 n2 c2,.slice A3 n3 c3,.slice A4 n4 c4,.slice A5 n5 c5,.slice A6 n6 c6,.slice A7 n7 c7]) (.int .i64 6)).run Tryz.prog w=.ok (.slice A6 n6 c6) w:=fun _=>by kernel_rfl
 rw[rounds_succ]
 go_wp2_with fail
 refine rgS 7 (fun w'=>Below a9.heap.size a9 w') (by kernel_rfl) (by kernel_rfl) ?_
 intro a0
 have z:=Lh a0
 have u:=Lh (show Below a9.heap.size a9 a9.drew from (Below.refl _ _).drew)
 clear a0 ai
 refine rq 0 z.out u.out rfl ?_
 refine rq 1 z.out u.out rfl ?_
 refine rq 2 z.out u.out rfl ?_
 refine rq 4 z.out u.out rfl ?_
 refine rq 5 z.out u.out rfl ?_
 refine rO 3 rfl (by kernel_rfl) rfl ?_
 unfold Oper.wp
 go_simp
 refine (Sl.clone_any A6 n6 c6 (L 6) w.heap.size _ (R6.out.below (B6.out.trans (u.out.mono B6.out.size))) (by have J:=B6.out.size; have h2:=u.out.size; omega) (by omega)).mono ?_
 rintro e x6 ⟨E6,d6,rfl,I,hb⟩
 have F:=Lh (u.out.trans (hb.mono u.out.size))
 have W:=Lh (Rd.own_rd I)
 have Q:=Lh (own_fresh I (X:=X) (fun g hg=>by have J:=HX.out g hg; have h2:=B6.out.size; have h3:=u.out.size; omega))
 clear hb I u
 refine⟨F.out,?_⟩
 refine rq 6 z.out F.out rfl ?_
 have G:=L6.out.later F.out
 obtain⟨q1,q2⟩:=G.store (i:=6) (by omega) W.out (HL.out 6 (by omega)) Q.out
 obtain⟨Az,nz,cz,z0,_⟩:=G.at_ 6 (by omega)
 have zf:=G.free 6 (by omega)
 have L7:=Lh (q1.same (fun i hi=>firstK_next L 6 i))
 have B7:=Lh ((B6.out.trans (F.out.mono B6.out.size)).trans (fr_bel q2 (by have J:=B6.out.size; have h2:=F.out.size; omega) a2))
 clear G q1 q2 W Q L6 B6
 refine rO 7 rfl (by kernel_rfl) rfl ?_
 unfold Oper.wp
 go_simp
 refine rgD (by kernel_rfl) ?_
 clear z0 zf F z
 generalize x6.setCell ⟨p',6,none⟩ (.slice E6 n6 d6)=aa at *
 go_wp2_with fail
 have aj:∀ w:World,(Instr.index 193 (.agg #[.slice A0 n0 c0,.slice A1 n1 c1,.slice A2 n2 c2,.slice A3 n3 c3,.slice A4 n4 c4,.slice A5 n5 c5,.slice A6 n6 c6,.slice A7 n7 c7]) (.int .i64 7)).run Tryz.prog w=.ok (.slice A7 n7 c7) w:=fun _=>by kernel_rfl
 rw[rounds_succ]
 go_wp2_with fail
 refine rgS 7 (fun w'=>Below aa.heap.size aa w') (by kernel_rfl) (by kernel_rfl) ?_
 intro a0
 have z:=Lh a0
 have u:=Lh (show Below aa.heap.size aa aa.drew from (Below.refl _ _).drew)
 clear a0 aj
 refine rq 0 z.out u.out rfl ?_
 refine rq 1 z.out u.out rfl ?_
 refine rq 2 z.out u.out rfl ?_
 refine rq 4 z.out u.out rfl ?_
 refine rq 5 z.out u.out rfl ?_
 refine rO 3 rfl (by kernel_rfl) rfl ?_
 unfold Oper.wp
 go_simp
 refine (Sl.clone_any A7 n7 c7 (L 7) w.heap.size _ (R7.out.below (B7.out.trans (u.out.mono B7.out.size))) (by have J:=B7.out.size; have h2:=u.out.size; omega) (by omega)).mono ?_
 rintro e x7 ⟨E7,d7,rfl,I,hb⟩
 have F:=Lh (u.out.trans (hb.mono u.out.size))
 have W:=Lh (Rd.own_rd I)
 have Q:=Lh (own_fresh I (X:=X) (fun g hg=>by have J:=HX.out g hg; have h2:=B7.out.size; have h3:=u.out.size; omega))
 clear hb I u
 refine⟨F.out,?_⟩
 refine rq 6 z.out F.out rfl ?_
 have G:=L7.out.later F.out
 obtain⟨q1,q2⟩:=G.store (i:=7) (by omega) W.out (HL.out 7 (by omega)) Q.out
 obtain⟨Az,nz,cz,z0,_⟩:=G.at_ 7 (by omega)
 have zf:=G.free 7 (by omega)
 have L8:=Lh (q1.same (fun i hi=>firstK_next L 7 i))
 have B8:=Lh ((B7.out.trans (F.out.mono B7.out.size)).trans (fr_bel q2 (by have J:=B7.out.size; have h2:=F.out.size; omega) a2))
 clear G q1 q2 W Q L7 B7
 refine rO 7 rfl (by kernel_rfl) rfl ?_
 unfold Oper.wp
 go_simp
 refine rgD (by kernel_rfl) ?_
 clear z0 zf F z
 generalize x7.setCell ⟨p',7,none⟩ (.slice E7 n7 d7)=aw at *
 go_wp2_with fail
 rw[rounds_succ]
 go_wp2_with fail
 go_ret
 exact⟨p',rfl,L8.out.same (fun i hi=>by simp[firstK,hi]),a2,B8.out⟩
end Go.Proofs.YtoiklelghfckgaaGreatDoor.Lc
namespace Go.Proofs.YtoiklelghfckgaaGreatDoor.Ba
open Go Go.ChangeShapes Go.WideShapes Go.ChangeAt Go.RowKit Go.Maps Rw Hi Mt
theorem ris_eq {β:Type} {a b:List (Int × β)} (F:a.Perm b) (ha:Ris a) (z:Ris b):a=b:=
 F.eq_of_pairwise (fun x y _ _ h u=>absurd (Int.lt_trans h u) (Int.lt_irrefl _)) ha z
theorem Bt.side {C R:Nat->Prop} {w w':World} {p a r:Nat} {L:List (Int × En)} {S:List Int} (h:Bt C R w p a L S) (Q:w.grownBy w' (some r)) (hr:∀ o v,w.cell? ⟨r,o,none⟩≠some v) (G:¬ C r):Bt C R w' p a L S:=by
 have hk:∀ g,g < w.heap.size->g≠r->w'.heap[g]? = w.heap[g]?:=fun g I u=>Q.block g I (fun e=>u (by injection e))
 have J:=hk p h.lt.1 (fun e=>G (e ▸ h.ip))
 obtain⟨A,n,c,I,u,Y⟩:=h.row
 refine⟨(World.cell?_of_block J).trans h.c0,(World.frozen?_of_block J).trans h.f1,⟨A,n,c,(World.cell?_of_block J).trans I,rd_blk u Q.size fun hn b o e=>?_,Y⟩,h.nd,h.us,h.mo.block (hk a h.lt.2 (fun e=>G (e ▸ h.ia))),fun q hq=>?_,h.ap,h.ri,h.ui,h.ip,h.ia,h.cr⟩
 .obtain⟨b',o',F,hb,hc⟩:=u.at_ hn
  rw[e] at F; injection F with F; injection F with e1 e2 _
  refine hk b (by omega) (fun W=>?_)
  have:=hc 0 _ (List.getElem?_eq_getElem (by rw[u.len]; exact hn))
  rw[<- e1,W] at this
  exact hr _ _ this
 .have z:=h.en q hq
  exact z.blk (hk _ z.lt.1 (fun e=>G (e ▸ z.ie))) (hk _ z.lt.2 (fun e=>G (e ▸ z.ic)))
theorem rgp_no_cell {P:Program} {k:TypeId} {w:World} {b r:Nat} {l left:List (Int × Option Nat)} (h:Rg P k eP w b r l left) (o:Nat) (v:Value):w.cell? ⟨r,o,none⟩≠some v:=fun hc=>by
 obtain⟨⟨D,lf,cnt,F,I,J⟩,Q,W,Y⟩:=h
 obtain⟨o1,z,f1⟩:=F.iter_walk
 obtain⟨G,u,f2⟩:=not_walk_of_cell hc
 have u:w.heap[r]? = some G:=u
 rw[z] at u
 injection u with u
 rw[u,f2] at f1
 cases f1
theorem grown_below {w w':World} (h:Below w.heap.size w w'):w.grownBy w' none:=⟨h.os,h.tape,h.output,h.size,fun k hk _=>h.block k hk⟩
theorem not_seen {u left L:List (Int × En)} {y:Int} {x:En} (G:(u ++ left).Perm L) (F:Ris L) (hx:(y,x)∈left):y ∉ u.map Prod.fst:=by
 have h:=F.nd.perm G.symm
 unfold Nd at h
 rw[List.map_append,List.nodup_append] at h
 intro z
 exact h.2.2 y z y (List.mem_map.2 ⟨_,hx,rfl⟩) rfl
theorem cloneT_any {C R:Nat->Prop} (w:World) (p a:Nat) (L:List (Int × En)) (S:List Int) (h:Bt C R w p a L S) (hL:L.length<=1000) :
  Calls Tryz.prog 48 #[ptr p] w fun e w'=>∃ (p' a':Nat) (L':List (Int × En)),e=.returned (ptr p')/\ab L'=ab L/\Bt (fresh w) (cut w R) w' p' a' L' S/\Below w.heap.size w w':=by
 have HK:=Lh h
 have aB:=h.lt
 have c0:=h.c0
 obtain⟨A,n,c,r1,r2,r3⟩:=h.row
 have an:=Lh r2
 have b4:=Lh r3
 have b3:=Lh r1
 clear h r1 r2 r3
 go_enter Tryz.func48,Tryz.ntmps48
 go_wp2_with fail
 refine (new_any w).mono ?_
 rintro e w1 ⟨rfl,aD,a6⟩
 obtain⟨p',b8⟩:∃ q,w.heap.size+1=q:=⟨_,rfl⟩
 obtain⟨a',b6⟩:∃ q,w.heap.size=q:=⟨_,rfl⟩
 have ae:=aD
 rw[b8] at ae ⊢
 have d0:=(a6.cell (p:=⟨p,0,none⟩) aB.1).trans c0
 have aW:=Lh (HK.out.mo.later a6)
 have af:Bt (fresh w) (cut w R) w1 p' w.heap.size [] []:=ae.mono (fun _ _ h=>h) (fun _ _ h=>h.elim) (fun g G I=>by have G:w.heap.size<=g:=G; have:=I.1; omega)
 have bn:=af.lt.1
 have a9:=Lh af
 have aj:=Lh a6
 have ba:=a6.size
 clear aD ae af a6
 go_wp2_with (at_range; refine range1 _ rfl _ 133 rfl 25 114 Tryz.underlying25 Tryz.underlying133 a (bl L) rfl aW.out ?_; intro w0 ah ay bq)
 go_frame
 have aa:Below w1.heap.size w1 w0:=(Below.refl _ w1).grown ay (Nat.le_refl _) (fun g hg=>by cases hg)
 obtain⟨r,hr⟩:∃ r,w1.heap.size=r:=⟨_,rfl⟩
 rw[hr] at ah ⊢
 have bp:w.heap.size < r:=by omega
 have a3:=Lh (aj.out.trans (aa.mono ba))
 have ak:=Lh ((a9.out.mono (D:=fun g=>fresh w g/\g≠r) (T:=cut w R) (fun g hg hc=>⟨hc,by omega⟩) (fun _ _ h=>h) (fun g G I=>a9.out.cr g G.1 I)).later aa)
 clear ay a9 aj
 go_loopw [] (fun wr=>∃ (left a0 Q:List (Int × En)),Rg Tryz.prog 25 eP wr a r (bl L) (bl left)/\Hid (Bt (fun g=>fresh w g/\g≠r) (cut w R) wr p' a' Q [])/\Hid ((ab Q).Perm (ab a0))/\Hid (Below w.heap.size w wr/\(a0 ++ left).Perm L)/\r < wr.heap.size)
  (fun wr=>wr.rangeLeft a r)
 case atStart=>exact⟨L,[],[],ah,b6 ▸ ak,Lh (List.Perm.refl _),Lh ⟨a3.out,List.Perm.refl _⟩,by omega⟩
 case round=>
  clear ah a3 ak aa d0
  obtain⟨left,a0,Q,a7,HN,HP,Y,bo⟩:=hrel
  go_wp2_with (at_next; refine nextP rfl _ rfl a r L left rfl a7 ?_ ?_)
  .intro b7
   have ag:=Y.out.2
   rw[b7,List.append_nil] at ag
   have HE:Hid (ab Q=ab L):=Lh (ris_eq (HP.out.trans (ag.map _)) (by rw[ris_keys]; have:=ris_keys.1 HN.out.ri; simpa [ab,Function.comp_def] using this) (by rw[ris_keys]; have:=ris_keys.1 HK.out.ri; simpa [ab,Function.comp_def] using this))
   have W:=Lh Y.out.1
   have e1:=(Y.out.1.cell (p:=⟨p,1,none⟩) aB.1).trans b3.out
   have e2:=HN.out.c0
   have e3:=HN.out.f1
   have aU:=Lh ((HN.out.mono (D:=fresh w) (T:=cut w R) (fun _ _ h=>h.1) (fun _ _ h=>h) (fun g G I=>by have G:w.heap.size<=g:=G; have:=I.1; omega)).list_put (Below.refl _ wr) (an.out.later Y.out.1) HK.out.nd HK.out.us (fun hn b o e=>by
    obtain⟨b',o',e',bi,_⟩:=an.out.at_ hn
    have h9:=b4.out hn b o e
    rw[e] at e'; injection e' with e'; injection e' with e3 _
    exact⟨by omega,h9⟩))
   obtain⟨A0,n0,bg,e4,-,-⟩:=HN.out.row
   clear a7 ag Y HP
   go_wp2_with fail
   go_ret
   exact⟨p',a',Q,rfl,HE.out,aU.out,W.out.setCell (p:=⟨p',1,none⟩) (by show w.heap.size<=p'; omega) _⟩
  .intro y x u hx bd be aK aC ac bb bj
   have aE:∀ o v,wr.cell? ⟨r,o,none⟩≠some v:=fun o v=>rgp_no_cell a7 o v
   have aF:Nd left:=by
    have G:=a7.ndl
    unfold Nd at G ⊢
    rw[bl_keys] at G; exact G
   have aY:=Lh aF
   have HX:=Lh hx
   have a4:=Lh (HN.out.side ac aE (fun e=>e.2 rfl))
   have W:=Lh (Y.out.1.grown ac Y.out.1.size (fun j hj=>by injection hj with hj; omega))
   have a5:=Y.out.2
   have aO:(y,x)∈L:=a5.mem_iff.1 (List.mem_append_right _ hx)
   have J:=HK.out.en _ aO
   have a1:=J.lt
   have a8:=W.out.size
   have HL:Hid (x.e < u.heap.size/\x.c < u.heap.size):=Lh ⟨Nat.lt_of_lt_of_le a1.1 a8,Nat.lt_of_lt_of_le a1.2 a8⟩
   have K0:=Lh ((W.out.cell (p:=⟨x.e,0,none⟩) a1.1).trans J.k0)
   have K1:=Lh ((W.out.cell (p:=⟨x.e,1,none⟩) a1.1).trans J.k1)
   have K2:=Lh ((W.out.cell (p:=⟨x.e,2,none⟩) a1.1).trans J.k2)
   have K3:=Lh ((W.out.cell (p:=⟨x.e,3,none⟩) a1.1).trans J.k3)
   have KC:=Lh ((W.out.cell (p:=⟨x.c,0,none⟩) a1.2).trans J.kc)
   have HU:=Lh (And.intro J.uw (And.intro J.ub (And.intro J.us J.up_)))
   have aZ:=Lh a4.out.lt.1
   have KP:=Lh a4.out.c0
   have HM:=Lh a4.out.mo
   have HI:Hid (U64 y):=Lh ⟨bd,be⟩
   have bh:Q.length<=1000:=by
    have G:=HP.out.length_eq
    have I:=a5.length_eq
    simp[ab] at G I; omega
   have aT:Hid ((bl Q).length < 4611686018427387904):=Lh (by simp[bl]; omega)
   have aG:fnd Q y=none:=fnd_none (fun hm=>not_seen a5 HK.out.ri hx (by
    have G:y∈(ab Q).map Prod.fst:=by simpa [ab,Function.comp_def] using hm
    have I:=(HP.out.map Prod.fst).mem_iff.1 G
    simpa [ab,Function.comp_def] using I))
   have al:=Lh aG
   have aV:=Lh aC
   have ao:=Lh aK
   have b2:=Lh a5
   have b9:r < u.heap.size:=by omega
   clear a7 aK ac hx aE aF aO J a1 aG a5 aC Y HN bb
   go_wp2_with fail
   have z:Hid (Below u.heap.size u u.drew):=Lh (Below.refl _ _).drew
   have a3:Hid (Below u.heap.size u u):=Lh (Below.refl _ _)
   refine rgS 24 (fun w'=>Below u.heap.size u w') (by kernel_rfl) (by kernel_rfl) ?_
   intro ar
   have F:=Lh ar
   clear ar
   refine rq 0 F.out z.out rfl ?_
   refine rq 1 F.out z.out rfl ?_
   refine rq 2 F.out z.out rfl ?_
   refine rq 3 F.out z.out rfl ?_ (hv:=fun w' hw=>by (have k:=(hw.cell (p:=⟨p',0,none⟩) aZ.out).trans KP.out; go_simp; exact rfl))
   refine rq 4 F.out z.out rfl ?_
   refine rq 5 F.out z.out rfl ?_
   refine rq 6 F.out z.out rfl ?_
   refine rq 7 F.out z.out rfl ?_
   refine rq 8 F.out z.out rfl ?_ (hv:=fun w' hw=>by (have k:=(hw.cell (p:=⟨x.e,0,none⟩) HL.out.1).trans K0.out; go_simp; exact rfl))
   refine rq 10 F.out z.out rfl ?_
   refine rq 11 F.out z.out rfl ?_
   refine rq 12 F.out z.out rfl ?_
   refine rq 13 F.out z.out rfl ?_ (hv:=fun w' hw=>by (have k:=(hw.cell (p:=⟨x.e,1,none⟩) HL.out.1).trans K1.out; go_simp; exact rfl))
   refine rq 14 F.out z.out rfl ?_
   refine rq 15 F.out z.out rfl ?_
   refine rq 16 F.out z.out rfl ?_
   refine rq 17 F.out z.out rfl ?_ (hv:=fun w' hw=>by (have k:=(hw.cell (p:=⟨x.e,2,none⟩) HL.out.1).trans K2.out; go_simp; exact rfl))
   refine rq 18 F.out z.out rfl ?_
   refine rq 19 F.out z.out rfl ?_
   refine rq 20 F.out z.out rfl ?_
   refine rq 21 F.out z.out rfl ?_ (hv:=fun w' hw=>by (have k:=(hw.cell (p:=⟨x.e,3,none⟩) HL.out.1).trans K3.out; go_simp; exact rfl))
   refine rO 9 rfl (by kernel_rfl) rfl ?_
   unfold Oper.wp
   go_simp
   refine (Wd.clone_any _ _ _ ((z.out.cell (p:=⟨x.c,0,none⟩) HL.out.2).trans KC.out)).mono ?_
   rintro e w9 ⟨rfl,rfl⟩
   refine and_keep (by (repeat' (first | exact z.out | exact a3.out | exact Below.refl _ _ | apply Below.setCell | apply Below.drew | apply Below.alloc)); all_goals (first | exact Nat.le_refl _ | omega | (simp; done) | (simp; omega))) ?_
   intro hS
   clear z
   have z:=Lh hS
   clear hS
   refine rq 22 F.out z.out rfl ?_
   refine rO 23 rfl (by kernel_rfl) rfl ?_
   unfold Oper.wp
   go_simp
   refine and_keep (by (repeat' (first | exact z.out | exact a3.out | exact Below.refl _ _ | apply Below.setCell | apply Below.drew | apply Below.alloc)); all_goals (first | exact Nat.le_refl _ | omega | (simp; done) | (simp; omega))) ?_
   intro hS
   clear z
   have z:=Lh hS
   clear hS
   refine rO 24 rfl (by kernel_rfl) rfl ?_
   unfold Oper.wp
   go_simp
   obtain⟨w3,aM,aq,az⟩:=run_put (E:=eP) ((u.alloc (.cells #[.int .u64 x.word] 191)).alloc (.cells #[ptr u.heap.size,.int .u64 x.born,.int .u64 x.since,.int .u64 x.proved] 118)).drew Tryz.underlying25 Tryz.underlying133 (HM.out.later z.out) aT.out HI.out (some (u.heap.size+1))
   have aN:(Instr.mapUpdate 133 (.map (some a')) (.int .u64 y) (.pointer (some ⟨u.heap.size+1,0,none⟩))).run Tryz.prog ((u.alloc (.cells #[.int .u64 x.word] 191)).alloc (.cells #[.pointer (some ⟨u.heap.size,0,none⟩),.int .u64 x.born,.int .u64 x.since,.int .u64 x.proved] 118)).drew=.ok () w3:=aM
   rw[aN]
   go_simp
   refine rgD (by kernel_rfl) ?_
   have aX:=Lh aq
   have aR:=Lh az
   clear aM aN aq az
   have hw:=aR.out
   have ad:=grown_below z.out
   have aJ:some r≠some a':=fun e=>by injection e with e; omega
   have au:some a≠some a':=fun e=>by injection e with e; omega
   have ai:=ao.out.kept ad (by simp) (by simp)
   have aL:=ai.kept hw au aJ
   have aA:w3.rangeLeft a r=u.rangeLeft a r:=by rw[ai.left_kept hw au aJ,ao.out.left_kept ad (by simp) (by simp)]
   have a2:∀ g,u.heap.size<=g->some g≠some a':=fun g hg e=>by injection e with e; omega
   have c1:∀ i v,((u.alloc (.cells #[.int .u64 x.word] 191)).alloc (.cells #[ptr u.heap.size,.int .u64 x.born,.int .u64 x.since,.int .u64 x.proved] 118)).drew.cell? ⟨u.heap.size+1,i,none⟩=some v->w3.cell? ⟨u.heap.size+1,i,none⟩=some v:=fun i v hv=>hw.cell hv (a2 _ (by show u.heap.size<=u.heap.size+1; omega))
   have aH:Ok (ext u (fun g=>fresh w g/\g≠r)) w3 ⟨u.heap.size+1,u.heap.size,x.word,x.born,x.since,x.proved⟩:=
    ⟨c1 0 _ (by go_simp),c1 1 _ (by go_simp),c1 2 _ (by go_simp),c1 3 _ (by go_simp),hw.cell (a:=⟨u.heap.size,0,none⟩) (by go_simp) (a2 _ (Nat.le_refl _)),
     (World.frozen?_of_block (hw.block _ (by simp) (a2 _ (by show u.heap.size<=u.heap.size+1; omega)))).trans (by go_simp),(World.frozen?_of_block (hw.block _ (by simp) (a2 _ (by show u.heap.size<=u.heap.size+1; omega)))).trans (by go_simp),(World.frozen?_of_block (hw.block _ (by simp; omega) (a2 _ (Nat.le_refl _)))).trans (by go_simp),
     .inr (by show u.heap.size<=u.heap.size+1; omega),.inr (Nat.le_refl _),HU.out.1,HU.out.2.1,HU.out.2.2.1,HU.out.2.2.2⟩
   have av:=a4.out.enter al.out HI.out z.out _ aH (by show u.heap.size<=u.heap.size+1; omega) (Nat.le_refl _) aX.out hw
   have aw:=av.mono (D:=fun g=>fresh w g/\g≠r) (T:=cut w R) (fun g _ hc=>by
    rcases hc with hc | hc
    .exact hc.2
    .exact⟨Nat.le_trans a8 hc,by omega⟩) (fun g _ h=>h.2) (fun g G I=>by have G:w.heap.size<=g:=G.1; have:=I.1; omega)
   have aI:(ab (ins Q y ⟨u.heap.size+1,u.heap.size,x.word,x.born,x.since,x.proved⟩)).Perm (ab (a0 ++ [(y,x)])):=by
    have G:=(ins_perm (id:=y) a4.out.ri (fnd_no al.out) (⟨u.heap.size+1,u.heap.size,x.word,x.born,x.since,x.proved⟩:En)).map (fun q=>(q.1,q.2.x))
    refine G.symm.trans ?_
    have I:ab (a0 ++ [(y,x)])=ab a0 ++ [(y,x.x)]:=by simp[ab]
    rw[I]
    exact (List.Perm.cons (y,x.x) HP.out).trans (List.perm_append_singleton (y,x.x) (ab a0)).symm
   have ax:Below w.heap.size w w3:=(W.out.trans (z.out.mono a8)).grown hw (Nat.le_trans a8 z.out.size) (fun j hj=>by injection hj with hj; omega)
   have bc:r < w3.heap.size:=Nat.lt_of_lt_of_le b9 (Nat.le_trans z.out.size hw.size)
   have aP:=Lh aw
   have b0:=Lh aI
   have aQ:=Lh ax
   have b5:=Lh aL
   have aS:=Lh aA
   clear av aw aI ax aL aA ai ad aH c1 a2 hw
   go_wp2_with fail
   go_roundw
   case rel=>exact⟨wo left y,a0 ++ [(y,x)],_,b5.out,aP,b0,Lh ⟨aQ.out,by rw[List.append_assoc]; exact (List.Perm.append_left a0 (perm_wo aY.out HX.out).symm).trans b2.out⟩,bc⟩
   case measure=>rw[aS.out]; exact aV.out
theorem bclone_any {C R:Nat->Prop} (w:World) (p a:Nat) (D:List (Int × Ex)) (S:List Int) (h:Bx C R w p a D S) (F:D.length<=1000) :
  Calls Tryz.prog 48 #[ptr p] w fun e w'=>∃ u a':Nat,e=.returned (ptr u)/\Bx (fresh w) (cut w R) w' u a' D S/\Below w.heap.size w w':=by
 obtain⟨L,h,rfl⟩:=h
 refine (cloneT_any w p a L S h (by simpa [ab] using F)).mono ?_
 rintro e w' ⟨u,a',z,rfl,G,I,hw⟩
 exact⟨u,a',rfl,⟨z,I,G⟩,hw⟩
end Go.Proofs.YtoiklelghfckgaaGreatDoor.Ba
namespace Go.Proofs.YtoiklelghfckgaaGreatDoor.Sf
open Go.ChangeShapes Go.WideShapes Go.ChangeAt Go.RowKit Rw Go.Shelf
def mlF (k:Nat):Nat:=if k=5 then 114 else if k=7 then 173 else 0
def mlT (k:Nat):Nat:=if k=4 then 4 else if k=20 then 20 else if k=23 then 125 else if k=25 then 25 else if k=3 then 121 else 0
def mlRen:Ren:={ f:=mlF,t:=mlT,g:=fun x=>x }
theorem mlLays:SlLaysW.n5 Tryz.prog mlRen:={
 mixed:=by kernel_rfl
 f5:=⟨ "maps.Clone[map[uint64]hackney/lease.lease,uint64,hackney/lease.lease]",by kernel_rfl,by kernel_rfl⟩
 f7:=by kernel_rfl
 t4:=by kernel_rfl
 a4:=fun w=>by kernel_rfl
 z4:=fun w=>by kernel_rfl
 v4:=fun w=>by kernel_rfl
 t20:=by kernel_rfl
 a20:=fun w=>by kernel_rfl
 z20:=fun w=>by kernel_rfl
 v20:=fun w=>by kernel_rfl
 t23:=by kernel_rfl
 a23:=fun w=>by kernel_rfl
 z23:=fun w=>by kernel_rfl
 v23:=fun w=>by kernel_rfl }
end Go.Proofs.YtoiklelghfckgaaGreatDoor.Sf
namespace Go.Proofs.YtoiklelghfckgaaGreatDoor.Le
open Go.ChangeShapes Go.WideShapes Go.ChangeAt Go.RowKit Go.Maps Go.Shelf Rw Hi Mt
theorem mcloneL (w:World) (m:Nat) (L:List (Int × Ls)) (h:ML w m L) :
  Calls Tryz.prog 114 #[.map (some m)] w fun e w'=>e=.returned (.map (some w.heap.size))/\ML w' w.heap.size L/\Below w.heap.size w w':=by
 obtain⟨⟨D,⟨es,u,G,F,I,z⟩,J⟩,hn⟩:=h
 refine (AnyW.maps_Clone Sf.mlLays m es u w G).mono ?_
 rintro e w' ⟨rfl,rfl⟩
 exact⟨rfl,⟨⟨D,⟨es,u,(MapKept.heap_alloc w _).1,F,I,z⟩,J⟩,hn⟩,(Below.refl _ w).alloc (Nat.le_refl _) _⟩
theorem mcloneM (w:World) (m:Nat) (L:List (Int × Bool)) (h:MB w m L) :
  Calls Tryz.prog 115 #[.map (some m)] w fun e w'=>e=.returned (.map (some w.heap.size))/\MB w' w.heap.size L/\Below w.heap.size w w':=by
 obtain⟨⟨D,⟨es,u,G,F,I,z⟩,J⟩,hn⟩:=h
 refine (AnyW.maps_Clone Sf.mbLays m es u w G).mono ?_
 rintro e w' ⟨rfl,rfl⟩
 exact⟨rfl,⟨⟨D,⟨es,u,(MapKept.heap_alloc w _).1,F,I,z⟩,J⟩,hn⟩,(Below.refl _ w).alloc (Nat.le_refl _) _⟩
theorem clone_book (w:World) (x:At) (leak:Int) (L:List (Int × Ls)) (M:List (Int × Bool)) (T:List (Int × Int)) (h:Bk w x leak L M T) :
  Calls Tryz.prog 51 #[ptr x.p] w fun e w'=>∃ I:At,e=.returned (ptr I.p)/\Bk w' I leak L M T/\Below w.heap.size w w'/\w.heap.size<=I.p/\w.heap.size<=I.a/\w.heap.size<=I.b/\w.heap.size<=I.q/\w.heap.size<=I.m:=by
 have HK:=Lh h
 have HP:=Lh h.lt.1
 have ag:=Lh h.c0
 have ah:=Lh h.c1
 have ai:=Lh h.c2
 have aj:=Lh h.c3
 clear h
 go_enter Tryz.func51,Tryz.ntmps51
 go_wp2_with fail
 have u:Hid (Below w.heap.size w w.drew):=Lh (Below.refl _ _).drew
 refine rgS 22 (fun w'=>Below w.heap.size w w') (by kernel_rfl) (by kernel_rfl) ?_
 intro a7
 have z:=Lh a7
 clear a7
 refine rq 0 z.out u.out rfl ?_
 refine rq 1 z.out u.out rfl ?_
 refine rq 2 z.out u.out rfl ?_
 refine rq 3 z.out u.out rfl ?_ (hv:=fun w' hw=>by (have k0:=(hw.cell (p:=⟨x.p,0,none⟩) HP.out).trans ag.out; go_simp; exact rfl))
 refine rq 4 z.out u.out rfl ?_
 refine rq 5 z.out u.out rfl ?_
 refine rq 6 z.out u.out rfl ?_
 refine rq 7 z.out u.out rfl ?_ (hv:=fun w' hw=>by (have k0:=(hw.cell (p:=⟨x.p,1,none⟩) HP.out).trans ah.out; go_simp; exact rfl))
 refine rq 9 z.out u.out rfl ?_
 refine rq 10 z.out u.out rfl ?_
 refine rq 11 z.out u.out rfl ?_
 refine rq 12 z.out u.out rfl ?_ (hv:=fun w' hw=>by (have k0:=(hw.cell (p:=⟨x.p,2,none⟩) HP.out).trans ai.out; go_simp; exact rfl))
 refine rq 14 z.out u.out rfl ?_
 refine rq 15 z.out u.out rfl ?_
 refine rq 16 z.out u.out rfl ?_
 refine rq 17 z.out u.out rfl ?_ (hv:=fun w' hw=>by (have k0:=(hw.cell (p:=⟨x.p,3,none⟩) HP.out).trans aj.out; go_simp; exact rfl))
 refine rO 8 rfl (by kernel_rfl) rfl ?_
 unfold Oper.wp
 go_simp
 refine (mcloneL _ x.a L (HK.out.leases.later u.out)).mono ?_
 rintro e J ⟨rfl,aa,a9⟩
 have Q:=Lh (u.out.trans (a9.mono u.out.size))
 have a5:=Lh aa
 obtain⟨a1,a8⟩:∃ a,w.drew.heap.size=a:=⟨_,rfl⟩
 have ar:=Lh a8
 clear aa a9 a8
 refine⟨Q.out,?_⟩
 refine rO 13 rfl (by kernel_rfl) rfl ?_
 unfold Oper.wp
 go_simp
 refine (mcloneM _ x.b M (HK.out.marks.later Q.out)).mono ?_
 rintro e F ⟨rfl,ac,a4⟩
 have W:=Lh (Q.out.trans (a4.mono Q.out.size))
 have ak:=Lh (a5.out.later a4)
 have a6:=Lh ac
 clear ac a4
 refine⟨W.out,?_⟩
 refine rO 18 rfl (by kernel_rfl) rfl ?_
 unfold Oper.wp
 go_simp
 refine (Wl.clone_any _ x.q x.m T (HK.out.later W.out).wheel).mono ?_
 rintro e G ⟨rfl,ae,a0,ad⟩
 have u:=Lh (W.out.trans (a0.mono W.out.size))
 have al:=Lh (ak.out.later a0)
 have an:=Lh (a6.out.later a0)
 have a3:=Lh ae
 have aq:=Lh ad
 clear ae a0 ad
 refine⟨u.out,?_⟩
 refine rq 19 z.out u.out rfl ?_
 refine rO 20 rfl (by kernel_rfl) rfl ?_
 unfold Oper.wp
 go_simp
 have Y:Below G.heap.size G (G.alloc (.cells #[.int .u64 leak,.map (some w.drew.heap.size),.map (some J.heap.size),.pointer (some ⟨F.heap.size+1,0,none⟩)] 129)):=(Below.refl _ _).alloc (Nat.le_refl _) _
 have a2:=Lh (u.out.trans (Y.mono u.out.size))
 refine⟨a2.out,?_⟩
 have ao:=u
 clear u
 have u:=a2
 refine rq 21 z.out u.out rfl ?_
 refine rgD (by kernel_rfl) ?_
 have l1:=a5.out.lt
 have l2:=a6.out.lt
 have l3:=aq.out
 have z0:w.drew.heap.size=w.heap.size:=rfl
 have z1:=Q.out.size
 have z2:=W.out.size
 have z3:=ao.out.size
 have af:Hid (Bk (G.alloc (.cells #[.int .u64 leak,.map (some w.drew.heap.size),.map (some J.heap.size),.pointer (some ⟨F.heap.size+1,0,none⟩)] 129)) ⟨G.heap.size,w.drew.heap.size,J.heap.size,F.heap.size+1,F.heap.size⟩ leak L M T):=Lh
  ⟨by go_simp,by go_simp,by go_simp,by go_simp,al.out.later Y,an.out.later Y,⟨(Y.cell (p:=⟨F.heap.size+1,0,none⟩) (by show F.heap.size+1 < G.heap.size; omega)).trans a3.out.cell,a3.out.own.block (Y.block _ (by omega)),a3.out.tms⟩,by show w.drew.heap.size≠J.heap.size; omega,by show w.drew.heap.size≠F.heap.size; omega,by show J.heap.size≠F.heap.size; omega⟩
 go_wp2_with fail
 go_ret
 exact⟨⟨G.heap.size,w.drew.heap.size,J.heap.size,F.heap.size+1,F.heap.size⟩,rfl,af.out,a2.out,z3,Nat.le_refl _,z1,by show w.heap.size<=F.heap.size+1; omega,z2⟩
end Go.Proofs.YtoiklelghfckgaaGreatDoor.Le
end
section
set_option maxRecDepth 100000
set_option maxHeartbeats 8000000
set_option linter.unusedVariables false
namespace Go.Proofs.YtoiklelghfckgaaGreatDoor.Ba
open Go.ChangeShapes Go.WideShapes Go.ChangeAt Go.RowKit Go.Maps Rw Hi Mt
def enc5 (a:Int × Ex):List Value:=[.int .u64 a.1,.int .u64 a.2.word,.int .u64 a.2.born,.int .u64 a.2.since,.int .u64 a.2.proved]
theorem enc5_len (a:Int × Ex):(enc5 a).length=5:=rfl
theorem enc5_one (y:Int × Ex):∀ u∈enc5 y,u.oneCell'=true:=by intro u h; simp[enc5] at h; rcases h with rfl | rfl | rfl | rfl | rfl <;> rfl
theorem info_entry:(Tryz.prog.info? 215).map (fun i=>(i.zero,i.size,i.bytes))=some (some (.agg #[.int .u64 0,.int .u64 0,.int .u64 0,.int .u64 0,.int .u64 0]),5,40):=by kernel_rfl
abbrev Rb (w:World) (B:Nat) (A:Option Addr) (n c:Nat) (l:List (Int × Ex)):Prop:=Rs enc5 5 w B A n c l
theorem five_at {w:World} {B:Nat} {A:Option Addr} {n c:Nat} {l:List (Int × Ex)} (h:Rb w B A n c l) {k:Nat} (hk:k < n) :
  ∃ b o x wd u z pr,A=some ⟨b,o,none⟩/\b < B/\l[k]? = some (x,⟨wd,u,z,pr⟩)/\w.cell? ⟨b,o+k * 5,none⟩=some (.int .u64 x)/\w.cell? ⟨b,o+k * 5+1,none⟩=some (.int .u64 wd)/\w.cell? ⟨b,o+k * 5+2,none⟩=some (.int .u64 u)/\w.cell? ⟨b,o+k * 5+3,none⟩=some (.int .u64 z)/\w.cell? ⟨b,o+k * 5+4,none⟩=some (.int .u64 pr):=by
 obtain⟨b,o,⟨x,wd,u,z,pr⟩,hA,F,hx,hc⟩:=h.get hk
 exact⟨b,o,x,wd,u,z,pr,hA,F,hx,hc 0 _ (by omega) rfl,hc 1 _ (by omega) rfl,hc 2 _ (by omega) rfl,hc 3 _ (by omega) rfl,hc 4 _ (by omega) rfl⟩
section
variable {β:Type}
def fx (D:List (Int × β)) (id:Int):Int:=match D.findIdx? (fun a=>a.1 == id) with
 | some i=>(i:Int)
 | none=>-1
theorem fx_hit {D:List (Int × β)} {id:Int} {k:Nat} {y:β} (h:∀ a∈D.take k,a.1≠id) (hk:D[k]? = some (id,y)):fx D id=k:=by
 have:D.findIdx? (fun a=>a.1 == id)=some k:=by
  obtain⟨u,e⟩:=List.getElem?_eq_some_iff.1 hk
  rw[List.findIdx?_eq_some_iff_getElem]
  refine⟨u,by rw[e]; simp,fun j z=>?_⟩
  have:=h D[j] (List.mem_take_iff_getElem.2 ⟨j,by omega,rfl⟩)
  simpa using this
 unfold fx; rw[this]
theorem fx_miss {D:List (Int × β)} {id:Int} (h:∀ a∈D,a.1≠id):fx D id = -1:=by
 have:D.findIdx? (fun a=>a.1 == id)=none:=by
  rw[List.findIdx?_eq_none_iff]
  intro a ha
  simpa using h a ha
 unfold fx; rw[this]
theorem take_ne {D:List (Int × β)} {id:Int} {k:Nat} {a:Int × β} (h:∀ a∈D.take k,a.1≠id) (hk:D[k]? = some a) (F:a.1≠id):∀ a∈D.take (k+1),a.1≠id:=by
 obtain⟨z,rfl⟩:=List.getElem?_eq_some_iff.1 hk
 intro b u
 rw[List.take_succ_eq_append_getElem z] at u
 rcases List.mem_append.1 u with u | u
 .exact h b u
 .rw[List.mem_singleton.1 u]; exact F
theorem fx_cases (D:List (Int × β)) (id:Int):(fnd D id=none/\fx D id = -1) \/ ∃ (k:Nat) (y:β),D[k]? = some (id,y)/\(∀ a∈D.take k,a.1≠id)/\fx D id=k/\fnd D id=some y:=by
 by_cases h:∀ a∈D,a.1≠id
 .refine .inl ⟨?_,fx_miss h⟩
  refine fnd_none fun I=>?_
  obtain⟨a,ha,e⟩:=List.mem_map.1 I
  exact h a ha e
 .cases hf:D.findIdx? (fun a=>a.1 == id) with
  | none=>
   rw[List.findIdx?_eq_none_iff] at hf
   exact absurd (fun a ha=>by simpa using hf a ha) h
  | some k=>
   rw[List.findIdx?_eq_some_iff_getElem] at hf
   obtain⟨F,u,z⟩:=hf
   refine .inr ⟨k,D[k].2,?_,fun a ha=>?_,?_,?_⟩
   .rw[List.getElem?_eq_getElem F]
    have:D[k].1=id:=by simpa using u
    rw[<- this]
   .obtain⟨j,G,rfl⟩:=List.mem_take_iff_getElem.1 ha
    have:=z j (by omega)
    simpa using this
   .unfold fx
    rw[List.findIdx?_eq_some_iff_getElem.2 ⟨F,u,z⟩]
   .unfold fnd
    have J:D.find? (fun a=>a.1 == id)=some D[k]:=List.find?_eq_some_iff_getElem.2 ⟨u,k,F,rfl,fun j G=>by simpa using z j G⟩
    rw[J]; rfl
end
section
variable (A A2:Option Addr) (n c n2 c2 B:Nat) (D:List (Int × Ex)) (w:World)
theorem rfind_any (id:Int) (h:Rb w B A n c D) (hB:B<=w.heap.size) (hn:n<=100000) :
  Calls Tryz.prog 132 #[.agg #[.slice A n c,.slice A2 n2 c2],.int .u64 id] w fun e w'=>e=.returned (.int .i64 (fx D id))/\Below w.heap.size w w':=by
 have HR:=Lh h
 have W:=Lh h.len
 have b0:=Lh ((Below.refl w.heap.size w).alloc (Nat.le_refl _) (.cells #[.slice A n c,.slice A2 n2 c2] 32))
 clear h
 go_enter Tryz.func132,Tryz.ntmps132
 go_wp2_with fail
 go_loopw [5,6,10] (fun s5 s6 i wr=>∃ k:Nat,k<=n/\i=.int .i64 k/\Hid (∀ a∈D.take k,a.1≠id)/\Below w.heap.size w wr) (fun _ _ i _=>n - (intOf i).toNat)
 case atStart=>exact⟨0,Nat.zero_le _,rfl,Lh (fun a ha=>by simp at ha),b0.out⟩
 case round=>
  obtain⟨k,hk,rfl,F,u⟩:=hrel
  by_cases hlt:k < n
  .obtain⟨b,o,x,wd,bo,si,pr,rfl,hb,ha,c0,c1,J,c3,c4⟩:=five_at HR.out hlt
   have d0:=(u.cell (p:=⟨b,o+k * 5,none⟩) (by simp only; omega)).trans c0
   have d1:=(u.cell (p:=⟨b,o+k * 5+1,none⟩) (by simp only; omega)).trans c1
   have d2:=(u.cell (p:=⟨b,o+k * 5+2,none⟩) (by simp only; omega)).trans J
   have d3:=(u.cell (p:=⟨b,o+k * 5+3,none⟩) (by simp only; omega)).trans c3
   have d4:=(u.cell (p:=⟨b,o+k * 5+4,none⟩) (by simp only; omega)).trans c4
   have G:=Lh ha
   have a0:=u.size
   have I:=Lh (u.alloc a0 (.cells #[.int .u64 x,.int .u64 wd,.int .u64 bo,.int .u64 si,.int .u64 pr] 215))
   clear c0 c1 J c3 c4 ha u
   by_cases hx:x=id
   .subst hx
    have z:=Lh (fx_hit F.out G.out)
    go_wp2_with fail
    go_ret
    exact⟨by rw[z.out]; rfl,I.out⟩
   .have e1:(x == id)=false:=by simpa using hx
    have Y:=Lh (take_ne F.out G.out hx)
    clear hx
    go_wp2_with fail
    go_roundw
    case rel=>exact⟨k+1,by omega,by go_num,Y,I.out⟩
    case measure=>simp[intOf]; omega
  .have z:Hid (fx D id = -1):=Lh (fx_miss (by
    have Q:=F.out
    rw[List.take_of_length_le (by have:=W.out; omega)] at Q
    exact Q))
   go_wp2_with fail
   go_ret
   exact⟨by rw[z.out]; rfl,u⟩
end
structure Db where
 A:Option Addr
 n:Nat
 c:Nat
 A2:Option Addr
 n2:Nat
 c2:Nat
abbrev Db.val (d:Db):Value:=.agg #[.slice d.A d.n d.c,.slice d.A2 d.n2 d.c2]
def Flt (A:Option Addr) (c:Nat):Prop:=(A=none/\c=0) \/ ∃ b o,A=some ⟨b,o,none⟩
structure Dq (K:Nat->Prop) (w:World) (d:Db) (D:List (Int × Ex)) (S:List Int):Prop where
 l:Rb w w.heap.size d.A d.n d.c D
 s:Rd (Value.int .u64) w w.heap.size d.A2 d.n2 d.c2 S
 fl:Flt d.A d.c
 kl:Kn K d.n d.A
 ks:Kn K d.n2 d.A2
theorem Dq.later {K:Nat->Prop} {w w':World} {d:Db} {D:List (Int × Ex)} {S:List Int} (h:Dq K w d D S) (u:Below w.heap.size w w'):Dq K w' d D S:=⟨h.l.later u,h.s.later u,h.fl,h.kl,h.ks⟩
theorem own_flt {w:World} {base:Nat} {e:TypeId} {z n c:Nat} {A:Option Addr} {xs:List Value} (h:w.ownsRow base e z (.slice A n c) n xs):Flt A c:=by
 rcases h.2 with ⟨u,_⟩ | ⟨g,cap,F,u,_⟩
 .injection u with u _ h2; exact .inl ⟨u,h2⟩
 .injection u with u _ h2; exact .inr ⟨g,0,u⟩
section
variable {K:Nat->Prop} (A A2:Option Addr) (n c n2 c2:Nat) (D:List (Int × Ex)) (S:List Int) (w:World)
end
def Vb (w:World) (g:Nat) (a b:Value):Prop:=(w.cell? ⟨g,0,none⟩=some a/\w.cell? ⟨g,1,none⟩=some b)/\w.frozen? ⟨g,0,none⟩=false/\w.frozen? ⟨g,1,none⟩=false
theorem Vb.below {w w':World} {g B:Nat} {a b:Value} (h:Vb w g a b) (u:Below B w w') (z:g < B):Vb w' g a b:=by
 obtain⟨⟨F,G⟩,f0,f1⟩:=h
 exact⟨⟨(u.cell (p:=⟨g,0,none⟩) z).trans F,(u.cell (p:=⟨g,1,none⟩) z).trans G⟩,(u.frozen (p:=⟨g,0,none⟩) z).trans f0,(u.frozen (p:=⟨g,1,none⟩) z).trans f1⟩
theorem two_boxes (A A2:Option Addr) (n c n2 c2:Nat) (w:World):Below w.heap.size w ((w.alloc (.cells #[.slice A n c,.slice A2 n2 c2] 32)).alloc (.cells #[.slice none 0 0,.slice none 0 0] 32)) /\
  Vb ((w.alloc (.cells #[.slice A n c,.slice A2 n2 c2] 32)).alloc (.cells #[.slice none 0 0,.slice none 0 0] 32)) w.heap.size (.slice A n c) (.slice A2 n2 c2) /\
  Vb ((w.alloc (.cells #[.slice A n c,.slice A2 n2 c2] 32)).alloc (.cells #[.slice none 0 0,.slice none 0 0] 32)) (w.heap.size+1) (.slice none 0 0) (.slice none 0 0) /\
  w.heap.size+2<=((w.alloc (.cells #[.slice A n c,.slice A2 n2 c2] 32)).alloc (.cells #[.slice none 0 0,.slice none 0 0] 32)).heap.size:=by
 refine⟨((Below.refl _ _).alloc (Nat.le_refl _) _).alloc (by simp) _,⟨⟨?_,?_⟩,?_,?_⟩,⟨⟨?_,?_⟩,?_,?_⟩,by simp⟩ <;> go_simp
section
variable {K:Nat->Prop} (A A2:Option Addr) (n c n2 c2:Nat) (D:List (Int × Ex)) (S:List Int) (w:World)
theorem rpublish_any (id:Int) (h:Dq K w ⟨A,n,c,A2,n2,c2⟩ D S) (aa:∀ g,w.heap.size<=g->K g) (hn:n<=1000) (au:n2<=1000) :
  Calls Tryz.prog 134 #[.agg #[.slice A n c,.slice A2 n2 c2],.int .u64 id] w fun e w'=>∃ A' z u,e=.returned (.tuple #[.agg #[.slice A n c,.slice A' z u],.int .i64 (kn D id)])/\Dq K w' ⟨A,n,c,A',z,u⟩ D (if (fnd D id).isSome then Sn.sWith S id else S)/\Below w.heap.size w w':=by
 obtain⟨J,a0,a1,ag⟩:=two_boxes A A2 n c n2 c2 w
 have I:=Lh h
 have aj:=Lh aa
 clear h aa
 rcases fx_cases D id with ⟨W,a7⟩ | ⟨k,x,hk,ao,a7,W⟩
 .have ek:kn D id=9:=by unfold kn; rw[W]; rfl
  have es:(fnd D id).isSome=false:=by rw[W]; rfl
  rw[ek,es]
  clear W ek es
  go_enter Tryz.func134,Tryz.ntmps134
  go_upto_region 1 with (fail)
  obtain⟨G,a5⟩:∃ G,((w.alloc (.cells #[.slice A n c,.slice A2 n2 c2] 32)).alloc (.cells #[.slice none 0 0,.slice none 0 0] 32))=G:=⟨_,rfl⟩
  rw[a5] at J a0 a1 ag ⊢
  have Q:=Lh (rfind_any A A2 n c n2 c2 G.heap.size D G id (I.out.later J).l (Nat.le_refl _) (by omega))
  rw[a7] at Q
  have a2:=Lh J
  have a3:=Lh a0
  have a4:=Lh a1
  obtain⟨⟨f0,f1⟩,g0,g1⟩:=a0
  clear a5 J a1
  clear a7
  go_wp2_with fail
  refine Q.out.mono ?_
  rintro e w2 ⟨rfl,F⟩
  have Y:=Lh (a2.out.trans (F.mono a2.out.size))
  obtain⟨⟨f0,f1⟩,g0,g1⟩:=a3.out.below F (by omega)
  obtain⟨⟨r0,r1⟩,z0,z1⟩:=a4.out.below F (by omega)
  have ar:=F.size
  clear F Q a3 a4
  go_wp2_with fail
  have ad:Below w.heap.size w ((w2.setCell ⟨w.heap.size+1,0,none⟩ (.slice A n c)).setCell ⟨w.heap.size+1,1,none⟩ (.slice A2 n2 c2)):=
   (Y.out.setCell (p:=⟨w.heap.size+1,0,none⟩) (by show w.heap.size<=w.heap.size+1; omega) _).setCell (p:=⟨w.heap.size+1,1,none⟩) (by show w.heap.size<=w.heap.size+1; omega) _
  exact bodyPost_ret (v:=.tuple #[.agg #[.slice A n c,.slice A2 n2 c2],.int .i64 9]) (by simp[results,Tryz.results134,go_sem,r0,r1]) rfl ⟨_,_,_,rfl,I.out.later ad,ad⟩
 .have ek:kn D id=0:=by unfold kn; rw[W]; rfl
  have es:(fnd D id).isSome=true:=by rw[W]; rfl
  rw[ek,es]
  have q0:decide ((k:Int) < 0)=false:=decide_eq_false (by omega)
  clear W ek es hk ao
  go_enter Tryz.func134,Tryz.ntmps134
  go_upto_region 1 with (fail)
  obtain⟨G,a5⟩:∃ G,((w.alloc (.cells #[.slice A n c,.slice A2 n2 c2] 32)).alloc (.cells #[.slice none 0 0,.slice none 0 0] 32))=G:=⟨_,rfl⟩
  rw[a5] at J a0 a1 ag ⊢
  have Q:=Lh (rfind_any A A2 n c n2 c2 G.heap.size D G id (I.out.later J).l (Nat.le_refl _) (by omega))
  rw[a7] at Q
  have a2:=Lh J
  have a3:=Lh a0
  have a4:=Lh a1
  obtain⟨⟨f0,f1⟩,g0,g1⟩:=a0
  clear a5 J a1
  clear a7
  go_wp2_with fail
  refine Q.out.mono ?_
  rintro e w2 ⟨rfl,F⟩
  have Y:=Lh (a2.out.trans (F.mono a2.out.size))
  have a8:=Lh (a3.out.below F (by omega))
  have a9:=Lh (a4.out.below F (by omega))
  obtain⟨⟨f0,f1⟩,g0,g1⟩:=a8.out
  have ar:=F.size
  clear F Q a3 a4
  go_wp2_with fail
  refine (Sn.rwithK_any A2 n2 c2 S id w2 (I.out.later Y.out).s (by omega) I.out.ks (fun g hg=>aj.out g (Nat.le_trans Y.out.size hg))).mono ?_
  rintro e w3 ⟨A',z,u,rfl,af,ae,a6⟩
  have ai:=Lh ae
  clear ae
  have ah:=Lh (Y.out.trans (a6.mono Y.out.size))
  have ak:=Lh af
  obtain⟨⟨f0,f1⟩,g0,g1⟩:=a8.out.below a6 (by omega)
  obtain⟨⟨r0,r1⟩,z0,z1⟩:=a9.out.below a6 (by omega)
  have av:=a6.size
  clear a6 af a8 a9
  go_wp2_with fail
  have al:=ah.out.setCell (p:=⟨w.heap.size,1,none⟩) (Nat.le_refl _) (.slice A' z u)
  have an:=al.setCell (p:=⟨w.heap.size+1,0,none⟩) (by show w.heap.size<=w.heap.size+1; omega) (.slice A n c)
  have ac:=an.setCell (p:=⟨w.heap.size+1,1,none⟩) (by show w.heap.size<=w.heap.size+1; omega) (.slice A' z u)
  have aq:Rd (Value.int .u64) (((w3.setCell ⟨w.heap.size,1,none⟩ (.slice A' z u)).setCell ⟨w.heap.size+1,0,none⟩ (.slice A n c)).setCell ⟨w.heap.size+1,1,none⟩ (.slice A' z u)) (((w3.setCell ⟨w.heap.size,1,none⟩ (.slice A' z u)).setCell ⟨w.heap.size+1,0,none⟩ (.slice A n c)).setCell ⟨w.heap.size+1,1,none⟩ (.slice A' z u)).heap.size A' z u (Sn.sWith S id):=by
   have p1:=ak.out.setOther (p:=⟨w.heap.size,1,none⟩) f1 (fun x e=>by cases e) (.slice A' z u)
   have p2:=p1.setOther (p:=⟨w.heap.size+1,0,none⟩) (v:=.slice none 0 0) (by go_simp) (fun x e=>by cases e) (.slice A n c)
   have p3:=p2.setOther (p:=⟨w.heap.size+1,1,none⟩) (v:=.slice none 0 0) (by go_simp) (fun x e=>by cases e) (.slice A' z u)
   exact p3.more (by simp)
  exact bodyPost_ret (v:=.tuple #[.agg #[.slice A n c,.slice A' z u],.int .i64 0]) (by simp[results,Tryz.results134,go_sem,r0,r1]) rfl ⟨_,_,_,rfl,⟨(I.out.later ac).l,aq,I.out.fl,I.out.kl,ai.out⟩,ac⟩
end
end Go.Proofs.YtoiklelghfckgaaGreatDoor.Ba
end
section
set_option maxRecDepth 100000
set_option maxHeartbeats 8000000
set_option linter.unusedVariables false
namespace Go.Proofs.YtoiklelghfckgaaGreatDoor.Ba
open Go.ChangeShapes Go.WideShapes Go.ChangeAt Go.RowKit Go.Deep Go.Maps Rw Hi Mt
section
variable {β:Type} {D:List (Int × β)} {id:Int} {k:Nat}
theorem ris_rest (h:Ris D) (hk:∀ a,D[k]? = some a->id < a.1):∀ a∈D.drop k,id < a.1:=by
 intro a ha
 obtain⟨j,z,rfl⟩:=List.mem_iff_getElem.1 ha
 rw[List.getElem_drop]
 rw[List.length_drop] at z
 have u:=hk _ (List.getElem?_eq_getElem (show k < D.length by omega))
 rcases Nat.eq_zero_or_pos j with e | e
 .subst e; exact u
 .have:=List.pairwise_iff_getElem.1 h k (k+j) (by omega) (by omega) (by omega)
  exact Int.lt_trans u this
theorem take_below {a:Int × β} (h:∀ a∈D.take k,a.1 < id) (hk:D[k]? = some a) (F:a.1 < id):∀ a∈D.take (k+1),a.1 < id:=by
 obtain⟨z,rfl⟩:=List.getElem?_eq_some_iff.1 hk
 intro b u
 rw[List.take_succ_eq_append_getElem z] at u
 rcases List.mem_append.1 u with u | u
 .exact h b u
 .rw[List.mem_singleton.1 u]; exact F
theorem ins_at (x:β) (u:∀ a∈D.take k,a.1 < id) (h:∀ a∈D.drop k,id < a.1):D.take k ++ (id,x) :: D.drop k=ins D id x:=by
 have z:D.filter (fun q=>decide (q.1 < id))=D.take k:=by
  conv=>lhs; rw[<- List.take_append_drop k D,List.filter_append]
  rw[List.filter_eq_self.2 (fun a ha=>by simpa using u a ha),List.filter_eq_nil_iff.2 (fun a ha=>by have:=h a ha; simp; omega),List.append_nil]
 have F:D.filter (fun q=>decide (id < q.1))=D.drop k:=by
  conv=>lhs; rw[<- List.take_append_drop k D,List.filter_append]
  rw[List.filter_eq_nil_iff.2 (fun a ha=>by have:=u a ha; simp; omega),List.filter_eq_self.2 (fun a ha=>by simpa using h a ha),List.nil_append]
 show _=D.filter (fun q=>decide (q.1 < id)) ++ (id,x) :: D.filter (fun q=>decide (id < q.1))
 rw[z,F]
end
section
variable {K:Nat->Prop} (A A2:Option Addr) (n c n2 c2:Nat) (D:List (Int × Ex)) (S:List Int) (w:World)
theorem renter_any (id st now:Int) (h:Dq K w ⟨A,n,c,A2,n2,c2⟩ D S) (aQ:∀ g,w.heap.size<=g->K g) (hs:Ris D) (hid:U64 id) (aX:-9223372036854775808<=st/\st<=9223372036854775807) (bi:U64 now) (hn:n<=1000) :
  Calls Tryz.prog 75 #[.agg #[.slice A n c,.slice A2 n2 c2],.int .u64 id,.int .i64 st,.int .u64 now] w fun e w'=>∃ A' n' c',e=.returned (.tuple #[.agg #[.slice A' n' c',.slice A2 n2 c2],.int .i64 (eE D id st)]) /\
   Dq K w' ⟨A',n',c',A2,n2,c2⟩ (if eE D id st=0 then ins D id ⟨Wd.wOf st 0,now,now,now⟩ else D) S/\Below w.heap.size w w':=by
 obtain⟨i0,hi,ar,au,av⟩:=info_parts info_entry
 obtain⟨a3,a4,a5,aq⟩:=two_boxes A A2 n c n2 c2 w
 have u:=Lh h
 have aZ:=Lh aQ
 clear aQ
 have b3:=Lh hs
 have aB:Hid (D.length=n):=Lh h.l.len
 clear h hs
 by_cases h1:id=0\/st < 0\/3 < st
 .have e:eE D id st=2:=by unfold eE; rw[if_pos h1]
  rw[e,if_neg (by decide)]
  clear e
  go_enter Tryz.func75,Tryz.ntmps75
  go_upto_region 1 with (fail)
  obtain⟨F,a7⟩:∃ F,((w.alloc (.cells #[.slice A n c,.slice A2 n2 c2] 32)).alloc (.cells #[.slice none 0 0,.slice none 0 0] 32))=F:=⟨_,rfl⟩
  rw[a7] at a3 a4 a5 aq ⊢
  have I:=Lh a3
  have ac:=Lh a4
  have ad:=Lh a5
  obtain⟨⟨f0,f1⟩,g0,g1⟩:=a4
  obtain⟨⟨Q,Y⟩,z0,z1⟩:=a5
  clear a7 a3
  by_cases hz:id=0
  .have q0:(id == 0)=true:=by simpa using hz
   clear h1 hz
   go_wp2_with fail
   have G:Below w.heap.size w ((F.setCell ⟨w.heap.size+1,0,none⟩ (.slice A n c)).setCell ⟨w.heap.size+1,1,none⟩ (.slice A2 n2 c2)):=
    ((I.out).setCell (p:=⟨w.heap.size+1,0,none⟩) (by show w.heap.size<=w.heap.size+1; omega) _).setCell (p:=⟨w.heap.size+1,1,none⟩) (by show w.heap.size<=w.heap.size+1; omega) _
   exact bodyPost_ret (v:=.tuple #[.agg #[.slice A n c,.slice A2 n2 c2],.int .i64 2]) (by simp[results,Tryz.results75,go_sem,Q,Y]) rfl ⟨_,_,_,rfl,u.out.later G,G⟩
  .have q0:(id == 0)=false:=by simpa using hz
   by_cases h0:st < 0
   .have q1:decide (st < 0)=true:=decide_eq_true h0
    clear h1 h0 hz
    go_wp2_with fail
    have G:Below w.heap.size w ((F.setCell ⟨w.heap.size+1,0,none⟩ (.slice A n c)).setCell ⟨w.heap.size+1,1,none⟩ (.slice A2 n2 c2)):=
     ((I.out).setCell (p:=⟨w.heap.size+1,0,none⟩) (by show w.heap.size<=w.heap.size+1; omega) _).setCell (p:=⟨w.heap.size+1,1,none⟩) (by show w.heap.size<=w.heap.size+1; omega) _
    exact bodyPost_ret (v:=.tuple #[.agg #[.slice A n c,.slice A2 n2 c2],.int .i64 2]) (by simp[results,Tryz.results75,go_sem,Q,Y]) rfl ⟨_,_,_,rfl,u.out.later G,G⟩
   .have q1:decide (st < 0)=false:=decide_eq_false h0
    have q2:decide (3 < st)=true:=decide_eq_true (by omega)
    clear h1 h0 hz
    go_wp2_with fail
    have G:Below w.heap.size w ((F.setCell ⟨w.heap.size+1,0,none⟩ (.slice A n c)).setCell ⟨w.heap.size+1,1,none⟩ (.slice A2 n2 c2)):=
     ((I.out).setCell (p:=⟨w.heap.size+1,0,none⟩) (by show w.heap.size<=w.heap.size+1; omega) _).setCell (p:=⟨w.heap.size+1,1,none⟩) (by show w.heap.size<=w.heap.size+1; omega) _
    exact bodyPost_ret (v:=.tuple #[.agg #[.slice A n c,.slice A2 n2 c2],.int .i64 2]) (by simp[results,Tryz.results75,go_sem,Q,Y]) rfl ⟨_,_,_,rfl,u.out.later G,G⟩
 have q0:(id == 0)=false:=by (have:id≠0:=(by omega)); simpa using this
 have q1:decide (st < 0)=false:=decide_eq_false (by omega)
 have q2:decide (3 < st)=false:=decide_eq_false (by omega)
 rcases fx_cases D id with ⟨ae,aj⟩ | ⟨k,y,hk,bd,aj,ae⟩
 rotate_left
 .have e:eE D id st=10:=by unfold eE; rw[if_neg h1,ae]; rfl
  rw[e,if_neg (by decide)]
  clear e
  have q3:decide ((0:Int)<=(k:Int))=true:=decide_eq_true (by omega)
  clear h1 hk bd ae
  go_enter Tryz.func75,Tryz.ntmps75
  go_upto_region 1 with (fail)
  obtain⟨F,a7⟩:∃ F,((w.alloc (.cells #[.slice A n c,.slice A2 n2 c2] 32)).alloc (.cells #[.slice none 0 0,.slice none 0 0] 32))=F:=⟨_,rfl⟩
  rw[a7] at a3 a4 a5 aq ⊢
  have I:=Lh a3
  have ac:=Lh a4
  have ad:=Lh a5
  obtain⟨⟨f0,f1⟩,g0,g1⟩:=a4
  obtain⟨⟨Q,Y⟩,z0,z1⟩:=a5
  clear a7 a3
  have HF:=Lh (rfind_any A A2 n c n2 c2 F.heap.size D F id (u.out.later I.out).l (Nat.le_refl _) (by omega))
  rw[aj] at HF
  clear aj
  go_wp2_with fail
  refine HF.out.mono ?_
  rintro e z ⟨rfl,a1⟩
  have ag:=Lh (I.out.trans (a1.mono I.out.size))
  have VF:=Lh (ac.out.below a1 (by omega))
  have VR:=Lh (ad.out.below a1 (by omega))
  have be:w.heap.size+2<=z.heap.size:=by have:=a1.size; omega
  clear a1 ac ad I HF aq f0 f1 g0 g1 Q Y z0 z1
  obtain⟨⟨f0,f1⟩,g0,g1⟩:=VF.out
  obtain⟨⟨Q,Y⟩,z0,z1⟩:=VR.out
  go_wp2_with fail
  have G:Below w.heap.size w ((z.setCell ⟨w.heap.size+1,0,none⟩ (.slice A n c)).setCell ⟨w.heap.size+1,1,none⟩ (.slice A2 n2 c2)):=
   ((ag.out).setCell (p:=⟨w.heap.size+1,0,none⟩) (by show w.heap.size<=w.heap.size+1; omega) _).setCell (p:=⟨w.heap.size+1,1,none⟩) (by show w.heap.size<=w.heap.size+1; omega) _
  exact bodyPost_ret (v:=.tuple #[.agg #[.slice A n c,.slice A2 n2 c2],.int .i64 10]) (by simp[results,Tryz.results75,go_sem,Q,Y]) rfl ⟨_,_,_,rfl,u.out.later G,G⟩
 have e0:eE D id st=0:=by unfold eE; rw[if_neg h1,ae]; rfl
 have b2:Hid (∀ a∈D,a.1≠id):=Lh (fun a ha e=>fnd_no ae (List.mem_map.2 ⟨a,ha,e⟩))
 rw[e0,if_pos rfl]
 have q3:decide ((0:Int) <= -1)=false:=rfl
 clear h1 ae e0
 go_enter Tryz.func75,Tryz.ntmps75
 go_upto_region 1 with (fail)
 obtain⟨F,a7⟩:∃ F,((w.alloc (.cells #[.slice A n c,.slice A2 n2 c2] 32)).alloc (.cells #[.slice none 0 0,.slice none 0 0] 32))=F:=⟨_,rfl⟩
 rw[a7] at a3 a4 a5 aq ⊢
 have I:=Lh a3
 have ac:=Lh a4
 have ad:=Lh a5
 obtain⟨⟨f0,f1⟩,g0,g1⟩:=a4
 obtain⟨⟨Q,Y⟩,z0,z1⟩:=a5
 clear a7 a3
 have HF:=Lh (rfind_any A A2 n c n2 c2 F.heap.size D F id (u.out.later I.out).l (Nat.le_refl _) (by omega))
 rw[aj] at HF
 clear aj
 go_wp2_with fail
 refine HF.out.mono ?_
 rintro e z ⟨rfl,a1⟩
 have ag:=Lh (I.out.trans (a1.mono I.out.size))
 have VF:=Lh (ac.out.below a1 (by omega))
 have VR:=Lh (ad.out.below a1 (by omega))
 have be:w.heap.size+2<=z.heap.size:=by have:=a1.size; omega
 clear a1 ac ad I HF aq f0 f1 g0 g1 Q Y z0 z1
 obtain⟨⟨f0,f1⟩,g0,g1⟩:=VF.out
 go_upto_block 0 with fail
 go_cut [10] from 28 to 44 (fun bg wx=>∃ k:Nat,k<=n/\bg=.int .i64 k/\Hid (∀ a∈D.take k,a.1 < id)/\Hid (∀ a∈D.drop k,id < a.1)/\z=wx)
 case first=>
  go_wp2_with fail
  go_loopw [10] (fun i wr=>∃ k:Nat,k<=n/\i=.int .i64 k/\Hid (∀ a∈D.take k,a.1 < id)/\z=wr) (fun i _=>n - (intOf i).toNat)
  case atStart=>exact⟨0,Nat.zero_le _,rfl,Lh (fun a ha=>by simp at ha),rfl⟩
  case round=>
   obtain⟨k,hk,rfl,aH,rfl⟩:=hrel
   by_cases aU:k < n
   .obtain⟨b,o,x,wd,bo,si,pr,rfl,hb,ha,c0,c1,b7,b8,b9⟩:=five_at u.out.l aU
    have d0:=(ag.out.cell (p:=⟨b,o+k * 5,none⟩) (by simp only; omega)).trans c0
    have aA:=Lh ha
    have aT:k < c:=by have:=u.out.l.cap; have:n<=c:=this; omega
    clear c0 c1 b7 b8 b9 ha
    by_cases hx:x < id
    .have e1:decide (x < id)=true:=decide_eq_true hx
     have b0:=Lh (take_below aH.out aA.out hx)
     clear hx
     go_wp2_with fail
     go_roundw
     case rel=>exact⟨k+1,by omega,by go_num,b0,by trivial⟩
     case measure=>simp[intOf]; omega
    .have e1:decide (x < id)=false:=decide_eq_false hx
     have a9:Hid (∀ a∈D.drop k,id < a.1):=Lh (ris_rest b3.out (fun a ha=>by
      have h9:=aA.out.symm.trans ha
      injection h9 with h9
      subst h9
      have:=b2.out _ (List.mem_of_getElem? aA.out)
      have h8:x≠id:=this
      show id < x
      omega))
     clear hx
     go_wp2_with fail
     go_meet
     case rel=>exact⟨k,hk,rfl,aH,a9,rfl⟩
   .have a9:Hid (∀ a∈D.drop k,id < a.1):=Lh (fun a ha=>by
     rw[List.drop_of_length_le (by have:=aB.out; omega)] at ha; cases ha)
    go_wp2_with fail
    go_meet
    case rel=>exact⟨k,hk,rfl,aH,a9,rfl⟩
 case rest=>
  obtain⟨k,hk,rfl,aM,a9,rfl⟩:=hcut
  obtain⟨XL,ay⟩:∃ X,D.take k ++ (id,(⟨Wd.wOf st 0,now,now,now⟩:Ex)) :: D.drop k=X:=⟨_,rfl⟩
  have b4:Hid (XL=ins D id ⟨Wd.wOf st 0,now,now,now⟩):=Lh (by rw[<- ay]; exact ins_at _ aM.out a9.out)
  have aY:Hid (flat enc5 (D.take k) ++ flat enc5 [(id,(⟨Wd.wOf st 0,now,now,now⟩:Ex))] = flat enc5 (D.take k ++ [(id,(⟨Wd.wOf st 0,now,now,now⟩:Ex))])):=Lh (flA _ _).symm
  have aK:Hid (flat enc5 (D.take k ++ [(id,(⟨Wd.wOf st 0,now,now,now⟩:Ex))]) ++ flat enc5 (D.drop k)=flat enc5 XL):=Lh (by rw[<- flA,<- ay,List.append_assoc]; rfl)
  have b5:Hid (XL.length=n+1):=Lh (by rw[<- ay]; have h2:=aB.out; simp; omega)
  have aL:Hid (k+1+(n - k)=n+1):=Lh (by omega)
  clear ay aM a9
  go_upto_region 9 with (fail)
  go_cut [11] from 45 to 50 (fun bh wx=>∃ (A5:Option Addr) (c5:Nat),bh=.slice A5 k c5/\Hid (wx.ownsRow (w.heap.size+2) 215 5 (.slice A5 k c5) k (flat enc5 (D.take k)))/\Hid (Below (w.heap.size+2) z wx)/\z.heap.size<=wx.heap.size)
  case first=>
   rcases u.out.fl with ⟨hA,hc⟩ | ⟨b,o,hA⟩
   .have hA:A=none:=hA
    have hc:c=0:=hc
    subst hA hc
    obtain rfl:n=0:=by have:n<=0:=u.out.l.cap; omega
    obtain rfl:k=0:=by omega
    have RF:Hid (Rb z z.heap.size none 0 0 (D.take 0)):=Lh (by rw[List.take_zero]; exact Rs.nil_)
    go_wp2_with (
     at_builtin
     refine apRs enc5_len rfl _ _ 29 rfl (w.heap.size+2) 215 i0 _ 40 Tryz.underlying29 hi ar au av rfl (by decide) (.slice none 0 0) 0 [] rfl (World.ownsRow_nil _ _ _ _) _ none 0 0 (D.take 0) rfl RF.out enc5_one 0 (Nat.zero_add _) (flat enc5 (D.take 0)) rfl (by unfold maxLen; omega) (by omega) (by omega) ?_
     intro A5 c5 w5 an a8 aE
     have B5:=Lh ((Below.refl (w.heap.size+2) z).grown a8 (by omega) (fun j hj=>by cases hj))
     have aa:=Lh an
     have az:z.heap.size<=w5.heap.size:=a8.size
     clear an a8 aE)
    go_meet
    case rel=>exact⟨A5,c5,rfl,aa,B5,az⟩
   .have hA:A=some ⟨b,o,none⟩:=hA
    subst hA
    have RF:Hid (Rb z z.heap.size (some ⟨b,o,none⟩) k c (D.take k)):=Lh ((u.out.later ag.out).l.front (i:=k) hk)
    have bc:n<=c:=u.out.l.cap
    have aT:k<=c:=by omega
    go_wp2_with (
     at_builtin
     refine apRs enc5_len rfl _ _ 29 rfl (w.heap.size+2) 215 i0 _ 40 Tryz.underlying29 hi ar au av rfl (by decide) (.slice none 0 0) 0 [] rfl (World.ownsRow_nil _ _ _ _) _ (some ⟨b,o,none⟩) k c (D.take k) rfl RF.out enc5_one k (Nat.zero_add _) (flat enc5 (D.take k)) rfl (by unfold maxLen; omega) (by omega) (by omega) ?_
     intro A5 c5 w5 an a8 aE
     have B5:=Lh ((Below.refl (w.heap.size+2) z).grown a8 (by omega) (fun j hj=>by cases hj))
     have aa:=Lh an
     have az:z.heap.size<=w5.heap.size:=a8.size
     clear an a8 aE)
    go_meet
    case rel=>exact⟨A5,c5,rfl,aa,B5,az⟩
  case rest=>
   obtain⟨A5,c5,rfl,aa,B5,az⟩:=hcut
   generalize wc=w5 at *
   have aO:=Lh (rs_one enc5_len w5 (id,(⟨Wd.wOf st 0,now,now,now⟩:Ex)) 215 (cs:=#[.int .u64 id,.int .u64 (Wd.wOf st 0),.int .u64 now,.int .u64 now,.int .u64 now]) rfl)
   have aC:=Lh (aa.out.alloc (.cells #[.int .u64 id,.int .u64 (Wd.wOf st 0),.int .u64 now,.int .u64 now,.int .u64 now] 215))
   have aJ:=Lh (B5.out.alloc (by omega) (.cells #[.int .u64 id,.int .u64 (Wd.wOf st 0),.int .u64 now,.int .u64 now,.int .u64 now] 215))
   have aN:=Lh (Wd.rof_any st 0 w5 (by decide) (by decide) aX.1 aX.2)
   clear aa B5 f0 f1 g0 g1
   go_wp2_with fail
   refine aN.out.mono ?_
   rintro e bp ⟨rfl,rfl⟩
   go_wp2_with (
    at_builtin
    refine apRs enc5_len rfl _ _ 29 rfl (w.heap.size+2) 215 i0 _ 40 Tryz.underlying29 hi ar au av rfl (by decide) (.slice A5 k c5) k (flat enc5 (D.take k)) rfl aC.out _ _ 1 1 [(id,(⟨Wd.wOf st 0,now,now,now⟩:Ex))] rfl aO.out enc5_one (k+1) rfl (flat enc5 (D.take k ++ [(id,(⟨Wd.wOf st 0,now,now,now⟩:Ex))])) aY.out (by unfold maxLen; omega) (by omega) (by simp; omega) ?_
    intro A6 c6 w6 aV aG bb
    refine Hid.out ?_)
   refine Lh ?_
   have B6:=Lh (aJ.out.grown aG (by simp; omega) (fun j hj=>(aC.out.lt j hj).1))
   have bj:w.heap.size+2<=w6.heap.size:=by have:=aG.size; simp at this; omega
   have ah:=Lh aV
   have ax:=Lh (VF.out.below B6.out (by omega))
   have aD:=Lh (VR.out.below B6.out (by omega))
   have aw:=Lh (ag.out.trans (B6.out.mono (by omega)))
   obtain⟨⟨f0,f1⟩,g0,g1⟩:=ax.out
   clear aV aG bb aO aC aJ VF VR B6 aN
   go_upto_region 11 with (fail)
   go_cut [] from 61 to 67 (fun wx=>∃ (A7:Option Addr) (c7:Nat),Hid (Vb wx w.heap.size (.slice A7 (n+1) c7) (.slice A2 n2 c2))/\Hid (Vb wx (w.heap.size+1) (.slice none 0 0) (.slice none 0 0))/\Hid (wx.ownsRow (w.heap.size+2) 215 5 (.slice A7 (n+1) c7) (n+1) (flat enc5 XL))/\Hid (Below w.heap.size w wx)/\w.heap.size+2<=wx.heap.size)
   case first=>
    rcases u.out.fl with ⟨hA,hc⟩ | ⟨b,o,hA⟩
    .have hA:A=none:=hA
     have hc:c=0:=hc
     subst hA hc
     obtain rfl:n=0:=by have:n<=0:=u.out.l.cap; omega
     obtain rfl:k=0:=by omega
     have RB:Hid (Rb w6 w6.heap.size none 0 0 (D.drop 0)):=Lh (by rw[List.drop_of_length_le (by have:=aB.out; omega)]; exact Rs.nil_)
     go_wp2_with (
      at_builtin
      refine apRs enc5_len rfl _ _ 29 rfl (w.heap.size+2) 215 i0 _ 40 Tryz.underlying29 hi ar au av rfl (by decide) (.slice A6 (0+1) c6) (0+1) (flat enc5 (D.take 0 ++ [(id,(⟨Wd.wOf st 0,now,now,now⟩:Ex))])) rfl ah.out _ none 0 0 (D.drop 0) rfl RB.out enc5_one (0+1) aL.out (flat enc5 XL) aK.out (by unfold maxLen; omega) (by omega) (by omega) ?_
      intro A7 c7 w7 ao al aF
      have a0:Below (w.heap.size+2) w6 w7:=(Below.refl _ _).grown al (by omega) (fun j hj=>(ah.out.lt j hj).1)
      have a6:=Lh ao
      have af:=Lh (aw.out.trans (a0.mono (by omega)))
      obtain⟨⟨f0,f1⟩,g0,g1⟩:=ax.out.below a0 (by omega)
      have ai:=Lh (aD.out.below a0 (by omega))
      have aW:w.heap.size+2<=w7.heap.size:=by have:=a0.size; omega
      clear a0 ao al aF)
     go_meet
     case rel=>
      refine⟨A7,c7,?_,?_,?_,?_,by simp; omega⟩
      .exact Lh ⟨⟨by go_simp,by go_simp⟩,by go_simp,by go_simp⟩
      .refine Lh ?_
       obtain⟨⟨Q,Y⟩,z0,z1⟩:=ai.out
       exact⟨⟨by go_simp,by go_simp⟩,by go_simp,by go_simp⟩
      .refine Lh (Hi.owS a6.out (fun J ak=>?_))
       have hg:=(a6.out.lt J ak).1
       rw[heap_setCell_other _ _ J _ (fun e=>by have e:J=w.heap.size:=e; omega)]
      .exact Lh (af.out.setCell (Nat.le_refl _) _)
    .have hA:A=some ⟨b,o,none⟩:=hA
     subst hA
     have bc:n<=c:=u.out.l.cap
     have aT:k<=c:=by omega
     have bn:c<=9223372036854775807:=u.out.l.top
     obtain⟨A4,ba⟩:∃ A4:Option Addr,(if c=k then some (⟨b,o,none⟩:Addr) else some ⟨b,o+k * 5,none⟩)=A4:=⟨_,rfl⟩
     have aR:Rb w w.heap.size (some ⟨b,o,none⟩) n c D:=u.out.l
     have aP:Rb w w.heap.size A4 (n - k) (c - k) (D.drop k):=aR.back (i:=k) hk rfl (fun aU=>by rw[<- ba,if_neg (by omega)])
     have RB:=Lh (aP.later aw.out)
     clear aR aP
     go_wp2_with (
      at_builtin
      refine apRs enc5_len rfl _ _ 29 rfl (w.heap.size+2) 215 i0 _ 40 Tryz.underlying29 hi ar au av rfl (by decide) (.slice A6 (k+1) c6) (k+1) (flat enc5 (D.take k ++ [(id,(⟨Wd.wOf st 0,now,now,now⟩:Ex))])) rfl ah.out _ A4 (n - k) (c - k) (D.drop k) rfl RB.out enc5_one (n+1) aL.out (flat enc5 XL) aK.out (by unfold maxLen; omega) (by omega) (by omega) ?_
      intro A7 c7 w7 ao al aF
      have a0:Below (w.heap.size+2) w6 w7:=(Below.refl _ _).grown al (by omega) (fun j hj=>(ah.out.lt j hj).1)
      have a6:=Lh ao
      have af:=Lh (aw.out.trans (a0.mono (by omega)))
      obtain⟨⟨f0,f1⟩,g0,g1⟩:=ax.out.below a0 (by omega)
      have ai:=Lh (aD.out.below a0 (by omega))
      have aW:w.heap.size+2<=w7.heap.size:=by have:=a0.size; omega
      clear a0 ao al aF)
     go_meet
     case rel=>
      refine⟨A7,c7,?_,?_,?_,?_,by simp; omega⟩
      .exact Lh ⟨⟨by go_simp,by go_simp⟩,by go_simp,by go_simp⟩
      .refine Lh ?_
       obtain⟨⟨Q,Y⟩,z0,z1⟩:=ai.out
       exact⟨⟨by go_simp,by go_simp⟩,by go_simp,by go_simp⟩
      .refine Lh (Hi.owS a6.out (fun J ak=>?_))
       have hg:=(a6.out.lt J ak).1
       rw[heap_setCell_other _ _ J _ (fun e=>by have e:J=w.heap.size:=e; omega)]
      .exact Lh (af.out.setCell (Nat.le_refl _) _)
   case rest=>
    obtain⟨A7,c7,b6,ai,a6,af,aW⟩:=hcut
    clear ax aD ah aw f0 f1 g0 g1
    generalize wc=w7 at *
    obtain⟨⟨f0,f1⟩,g0,g1⟩:=b6.out
    obtain⟨⟨Q,Y⟩,z0,z1⟩:=ai.out
    go_wp2_with fail
    have G:Below w.heap.size w ((w7.setCell ⟨w.heap.size+1,0,none⟩ (.slice A7 (n+1) c7)).setCell ⟨w.heap.size+1,1,none⟩ (.slice A2 n2 c2)):=
     ((af.out).setCell (p:=⟨w.heap.size+1,0,none⟩) (by show w.heap.size<=w.heap.size+1; omega) _).setCell (p:=⟨w.heap.size+1,1,none⟩) (by show w.heap.size<=w.heap.size+1; omega) _
    have aI:((w7.setCell ⟨w.heap.size+1,0,none⟩ (.slice A7 (n+1) c7)).setCell ⟨w.heap.size+1,1,none⟩ (.slice A2 n2 c2)).ownsRow (w.heap.size+2) 215 5 (.slice A7 (n+1) c7) (n+1) (flat enc5 XL):=by
     refine Hi.owS a6.out (fun J ak=>?_)
     have hg:=(a6.out.lt J ak).1
     rw[heap_setCell_other _ _ J _ (fun e=>by have e:J=w.heap.size+1:=e; omega),heap_setCell_other _ _ J _ (fun e=>by have e:J=w.heap.size+1:=e; omega)]
    have aS:=u.out.later G
    exact bodyPost_ret (v:=.tuple #[.agg #[.slice A7 (n+1) c7,.slice A2 n2 c2],.int .i64 0]) (by simp[results,Tryz.results75,go_sem,Q,Y]) rfl ⟨_,_,_,rfl,(by rw[<- b4.out]; exact⟨Rs.own_rs enc5_len b5.out aI,aS.s,own_flt aI,Kn.own aI (fun g hg=>aZ.out g (by omega)),aS.ks⟩),G⟩
end
end Go.Proofs.YtoiklelghfckgaaGreatDoor.Ba
namespace Go.Proofs.YtoiklelghfckgaaGreatDoor.Ba
open Go.ChangeShapes Go.WideShapes Go.ChangeAt Go.RowKit Go.Maps Rw Hi Mt
theorem rs_blk {α:Type} {enc:α->List Value} {z:Nat} {w w':World} {A:Option Addr} {n c:Nat} {xs:List α} {B B':Nat} (h:Rs enc z w B A n c xs) (I:B<=B') (hk:0 < n -> ∀ b o,A=some ⟨b,o,none⟩->w'.heap[b]? = w.heap[b]?):Rs enc z w' B' A n c xs:=
 ⟨h.len,h.cap,h.top,fun hn=>by
  obtain⟨b,o,e,G,hc⟩:=h.at_ hn
  exact⟨b,o,e,by omega,fun j x hx i u hi F=>(World.cell?_of_block (hk hn b o e)).trans (hc j x hx i u hi F)⟩⟩
section
variable {K L E:Nat->Prop} {w w':World} {d:Db} {D:List (Int × Ex)} {S:List Int}
theorem Dq.mono (h:Dq K w d D S) (hk:∀ g,g < w.heap.size->K g->L g):Dq L w d D S:=
 ⟨h.l,h.s,h.fl,fun hn a e=>by
  obtain⟨b,o,u,F,_⟩:=h.l.at_ hn
  have z:=h.kl hn a e
  rw[u] at e; injection e with e; subst e
  exact hk _ F z,fun hn a e=>by
  obtain⟨b,o,u,F,_⟩:=h.s.at_ hn
  have z:=h.ks hn a e
  rw[u] at e; injection e with e; subst e
  exact hk _ F z⟩
theorem Dq.fz (h:Dq K w d D S) (z:Fz E w w') (I:∀ g,g < w.heap.size->K g -> ¬ E g):Dq K w' d D S:=
 ⟨rs_blk h.l z.size fun hn b o e=>z.block b (by obtain⟨b',G,u,F,_⟩:=h.l.at_ hn; rw[u] at e; injection e with e; injection e with e1; omega)
   (I b (by obtain⟨b',G,u,F,_⟩:=h.l.at_ hn; rw[u] at e; injection e with e; injection e with e1; omega) (h.kl hn _ e)),
  rd_blk h.s z.size fun hn b o e=>z.block b (by obtain⟨b',G,u,F,_⟩:=h.s.at_ hn; rw[u] at e; injection e with e; injection e with e1; omega)
   (I b (by obtain⟨b',G,u,F,_⟩:=h.s.at_ hn; rw[u] at e; injection e with e; injection e with e1; omega) (h.ks hn _ e)),h.fl,h.kl,h.ks⟩
theorem Dq.nil_:Dq K w ⟨none,0,0,none,0,0⟩ [] []:=⟨Rs.nil_,Rd.nil_,.inl ⟨rfl,rfl⟩,Kn.nil_,Kn.nil_⟩
end
def put2 (w:World) (r:Nat) (d:Db):World:=(w.setCell ⟨r,0,none⟩ (.slice d.A d.n d.c)).setCell ⟨r,1,none⟩ (.slice d.A2 d.n2 d.c2)
section
variable {W w w':World} {p a r q:Nat} {e d:Db} {D D' D2:List (Int × Ex)} {S S' S2:List Int} {y:Ax} {C R C' R':Nat->Prop}
end
section
variable {W w w':World} {p a p2 a2 r q:Nat} {e d:Db} {D0 D D' D1:List (Int × Ex)} {S0 S S' S1:List Int} {C R C2 R2:Nat->Prop}
end
end Go.Proofs.YtoiklelghfckgaaGreatDoor.Ba
end
section
set_option linter.unusedVariables false
namespace Go.Proofs.YtoiklelghfckgaaGreatDoor.Lc
open Go.ChangeShapes Go.WideShapes Go.ChangeAt Go.RowKit Rw Hi Sl
structure Sv where
 A:Option Addr
 n:Nat
 c:Nat
def encS (s:Sv):Value:=.slice s.A s.n s.c
theorem info_s:(Tryz.prog.info? 30).map (fun i=>(i.zero,i.size,i.bytes))=some (some (.slice none 0 0),1,24):=by kernel_rfl
structure Dc (w:World) (p:Nat) (A:Option Addr) (c:Nat) (vs:List Sv) (L:Nat->List Int):Prop where
 rd:Rd encS w w.heap.size A 8 c vs
 bl:∀ g,(Value.slice A 8 c).ownBlock=some g->g≠p
 el:∀ i s,vs[i]? = some s->Rd (Value.int .u64) w w.heap.size s.A s.n s.c (L i) /\ ∀ g,(Value.slice s.A s.n s.c).ownBlock=some g->g < w.heap.size/\g≠p
 len:∀ i,i < 8->(L i).length<=4
section
variable {w w':World} {p:Nat} {A:Option Addr} {c:Nat} {vs:List Sv} {L:Nat->List Int}
end
end Go.Proofs.YtoiklelghfckgaaGreatDoor.Lc
namespace Go.Proofs.YtoiklelghfckgaaGreatDoor.Lc
open Go Go.ChangeShapes Go.WideShapes Go.ChangeAt Go.RowKit Go.Deep Rw Hi Sl
abbrev Fx:Nat->Prop:=fun _=>False
theorem fx (w:World):∀ g,Fx g->g < w.heap.size:=fun g h=>h.elim
def inR (t:Int):Bool:=decide (0<=t) && decide (t < 8)
theorem inR_yes {t:Int} (h:inR t=true):∃ i:Nat,t=i/\i < 8:=by
 simp[inR] at h
 exact⟨t.toNat,by omega,by omega⟩
theorem inR_no {t:Int} (h:inR t=false):t < 0\/8<=t:=by
 simp[inR] at h
 by_cases h0:0<=t
 .exact .inr (h h0)
 .exact .inl (by omega)
def takeR (L:Nat->List Int) (t:Int):(Nat->List Int) × Int × Bool:=
 if inR t then (match (L t.toNat).getLast? with | some x=>(upd L t.toNat (L t.toNat).dropLast,x,true) | none=>(L,0,false)) else (L,0,false)
def putR (L:Nat->List Int) (t:Int) (ids:List Int):Nat->List Int:=if inR t then upd L t.toNat (last4 (L t.toNat ++ ids)) else L
def putE (t:Int):Int:=if inR t then 0 else 2
section
variable {w0 w w':World} {p q:Nat} {A:Option Addr} {c:Nat} {vs:List Sv} {t:Int} {v:Value} {tk cl:Bool} {L E:Nat->List Int}
end
end Go.Proofs.YtoiklelghfckgaaGreatDoor.Lc
namespace Go.Proofs.YtoiklelghfckgaaGreatDoor.Lk
open Go.ChangeShapes Go.WideShapes Go.ChangeAt Go.RowKit Rw Hi Sl Lc
structure Dc (K:Nat->Prop) (w:World) (A:Option Addr) (c:Nat) (vs:List Sv) (L:Nat->List Int):Prop where
 rd:Rd encS w w.heap.size A 8 c vs
 bl:∀ g,(Value.slice A 8 c).ownBlock=some g->K g
 el:∀ i s,vs[i]? = some s->Rd (Value.int .u64) w w.heap.size s.A s.n s.c (L i) /\ ∀ g,(Value.slice s.A s.n s.c).ownBlock=some g->g < w.heap.size/\K g
 len:∀ i,i < 8->(L i).length<=4
section
variable {K:Nat->Prop} {w w':World} {A:Option Addr} {c:Nat} {vs:List Sv} {L:Nat->List Int}
theorem Dc.later (h:Dc K w A c vs L) (u:Below w.heap.size w w'):Dc K w' A c vs L:=
 ⟨h.rd.later u,h.bl,fun i s z=>⟨(h.el i s z).1.later u,fun g F=>⟨Nat.lt_of_lt_of_le ((h.el i s z).2 g F).1 u.size,((h.el i s z).2 g F).2⟩⟩,h.len⟩
end
theorem rnew_any {K:Nat->Prop} (w:World) (I:∀ g,w.heap.size<=g->K g) :
  Calls Tryz.prog 65 #[] w fun e w'=>∃ A c vs,e=.returned (.slice A 8 c)/\Dc K w' A c vs (fun _=>[])/\Below w.heap.size w w':=by
 have a0:=Lh I
 clear I
 obtain⟨i0,a1,a2,a3,a5⟩:=info_parts info_s
 obtain⟨z,W,u,h⟩:=run_make_full (P:=Tryz.prog) w w.heap.size 33 30 i0 (.slice none 0 0) 1 Tryz.underlying33 a1 a2 a3 .i64 .i64 8 (by omega) (by unfold maxLen; omega) (Nat.le_refl _)
 have a4:(Instr.makeSlice 33 (.int .i64 8) (.int .i64 8)).run Tryz.prog w=.ok (.slice (some ⟨w.heap.size,0,none⟩) 8 8) z:=W
 have Q:(madeCells (Value.slice none 0 0).cells (8 * 1)).toList=(List.replicate 8 (⟨none,0,0⟩:Sv)).map encS:=toList_madeCells_one _ 8
 rw[Q] at u
 have J:Below w.heap.size w z:=(Below.refl _ _).grown h (Nat.le_refl _) (fun j hj=>by cases hj)
 have G:Dc K z (some ⟨w.heap.size,0,none⟩) 8 (List.replicate 8 ⟨none,0,0⟩) (fun _=>[]):=by
  refine⟨Rd.own_rd u,fun g h=>?_,fun i s hs=>?_,fun i hi=>by simp⟩
  .injection h with h
   have e:w.heap.size=g:=h
   exact a0.out g (by omega)
  .have:=List.getElem?_eq_some_iff.1 hs
   obtain⟨h1,F⟩:=this
   rw[List.getElem_replicate] at F
   subst F
   exact⟨Rd.nil_,fun g h=>by cases h⟩
 have HD:=Lh G
 have Y:=Lh J
 clear W u h Q J G
 go_enter Tryz.func65,Tryz.ntmps65
 go_wp2_with fail
 go_ret
 exact⟨_,_,_,rfl,HD.out,Y.out⟩
end Go.Proofs.YtoiklelghfckgaaGreatDoor.Lk
end
section
set_option maxRecDepth 100000
set_option linter.unusedVariables false
namespace Go.Proofs.YtoiklelghfckgaaGreatDoor.Wo
open Go Go.ChangeShapes Go.WideShapes Go.ChangeAt Go.RowKit Go.Maps Rw Hi Mt Ba
open Cn (Cf cfE)
def entD (D:List (Int × Ex)) (id st now:Int):List (Int × Ex):=if eE D id st=0 then ins D id ⟨Wd.wOf st 0,now,now,now⟩ else D
def pubS (D:List (Int × Ex)) (S:List Int) (id:Int):List Int:=if (fnd D id).isSome then Sn.sWith S id else S
def unlS (D:List (Int × Ex)) (S:List Int) (id:Int):List Int:=if (fnd D id).isSome then Sn.sWithout S id else S
def opnN (O:List Bool) (n:Nat):Nat:=if (Fc.nx O).1 then n+1 else n
def opnI (O:List Bool) (n:Nat):Int:=if (Fc.nx O).1 then (n:Int)+1 else 0
def clsC (n:Nat) (C:List Int) (id:Int):List Int:=if Fc.kn n C id 10=0 then C ++ [id] else C
def endL (L:List (Int × Le.Ls)) (id th:Int):List (Int × Le.Ls):=if Le.holds L id th=true then Mt.wo L id else L
def endT (L:List (Int × Le.Ls)) (T:List (Int × Int)) (id th:Int):List (Int × Int):=if Le.holds L id th=true then Wl.wo T id else T
def mrkN (L:List (Int × Le.Ls)) (N:List Int) (id th:Int):List Int:=if Le.holds L id th=true then N.filter (· != id) ++ [id] else N
def grwV (live max:Int):Int:=if live < max then live+1 else live
def shrV (live:Int):Int:=if 0 < live then live - 1 else live
theorem Wc.to {w:World} {x u:Wp} {s z:Ws} (h:Wc w x s) (F:u.pw=x.pw) (G:u.pb=x.pb) (I:u.pl=x.pl) (J:u.ps=x.ps) (Q:u.bk=x.bk) (W:u.pF=x.pF) (Y:u.ph=x.ph) (f1:z.conf=s.conf) (f2:z.now=s.now) (f3:z.live=s.live) (f4:z.closed=s.closed):Wc w u z:=by
 obtain⟨c0,c1,c2,c3,c4,c5,c6,c7,c8,c9,c10,c11,c12,c13,c14,c15,cf⟩:=h
 refine⟨?_,?_,?_,?_,?_,?_,?_,?_,?_,?_,?_,?_,?_,?_,?_,?_,?_⟩ <;> simp only[F,G,I,J,Q,W,Y,f1,f2,f3,f4] <;> assumption
theorem Wo.recol {base:Nat} {col col':Nat->Nat} {w:World} {x:Wp} {s:Ws} (h:Wo base col w x s) (u:∀ g,g < w.heap.size->col' g=col g) (I:∀ g,col' g≠0->base<=g):Wo base col' w x s:=by
 obtain⟨k1,k2,k3,J,Q⟩:=h.kb
 obtain⟨W,Y,l3,l4,l5⟩:=h.book.lt
 refine⟨h.cells,h.bag.mono (fun g z hc=>(u g z).trans hc) (fun g z hc=>⟨(u g z).trans hc.1,hc.2⟩) (fun g G F=>by have:=F.1; omega),h.loc.shun (fun g z=>?_),h.slots,h.book,h.fact,h.hist,(u _ h.loc.lt).trans h.kl,
  ⟨(u _ h.slots.lt).trans h.ks.1,fun g z=>(u _ (h.slots.rowlt g z).2).trans (h.ks.2 g z)⟩,⟨(u _ W).trans k1,(u _ Y).trans k2,(u _ l3).trans k3,(u _ l4).trans J,(u _ l5).trans Q⟩,
  fun g G F=>(u _ (by have:=h.fact.in_; omega)).trans (h.kf g G F),⟨(u _ h.hist.lt).trans h.kh.1,fun g z=>(u _ (h.hist.row g z).2).trans (h.kh.2 g z)⟩,(u _ h.cells.lt).trans h.kw,I⟩
 by_cases hs:g < w.heap.size
 .rw[u g hs] at z; exact .inl z
 .exact .inr (by omega)
def Wv (base:Nat) (col:Nat->Nat) (w:World) (x:Wp) (s:Ws):Prop:=∃ r q,Wo base col w { x with rs:=r,rh:=q } s /\ ∀ g,col g≠0->g < w.heap.size
def El (w:World) (col col':Nat->Nat):Prop:=∀ g,g < w.heap.size->col' g=col g
def more (w w':World) (col:Nat->Nat) (i g:Nat):Nat:=if g < w.heap.size then col g else if g < w'.heap.size then i else 0
abbrev Fw (col:Nat->Nat) (w w':World):Prop:=Fz (fun g=>col g≠0/\col g≠8) w w'
section
variable {base:Nat} {col:Nat->Nat} {w w':World} {x:Wp} {s:Ws} {i:Nat}
theorem El.refl (w:World) (col:Nat->Nat):El w col col:=fun _ _=>rfl
theorem El.trans {c1 c2 c3:Nat->Nat} (h:El w c1 c2) (u:El w' c2 c3) (F:w.heap.size<=w'.heap.size):El w c1 c3:=fun g z=>(u g (by omega)).trans (h g z)
theorem more_el:El w col (more w w' col i):=fun g h=>if_pos h
theorem more_new {g:Nat} (u:w.heap.size<=g) (h:g < w'.heap.size):more w w' col i g=i:=by unfold more; rw[if_neg (by omega),if_pos h]
theorem more_lt {g:Nat} (u:w.heap.size<=w'.heap.size) (h:more w w' col i g≠0):g < w'.heap.size:=by
 unfold more at h
 split at h
 .omega
 .split at h
  .assumption
  .exact absurd rfl h
theorem more_lo {g:Nat} (z:base<=w.heap.size) (u:∀ g,col g≠0->base<=g) (h:more w w' col i g≠0):base<=g:=by
 unfold more at h
 split at h
 .exact u g h
 .omega
theorem fw_of (u:i≠0/\i≠8) (h:Fz (fun g=>col g=i) w w'):Fw col w w':=h.mono fun g _ z=>by omega
theorem fz_fr {p:Nat} {r:Option Nat} (h:Fr (some p) r w w') (u:col p=i) (z:∀ g,r=some g->col g=i):Fz (fun g=>col g=i) w w':=
 ⟨h.os,h.tape,h.output,h.size,fun k hk hc=>h.block k hk (fun e=>by injection e with e; subst e; exact hc u) (fun e=>hc (z k e.symm))⟩
theorem Wo.base_le (h:Wo base col w x s):base<=w.heap.size:=by
 have u:=h.lo x.pw (by have:=h.kw; omega)
 have:=h.cells.lt
 omega
theorem Wv.base_le (h:Wv base col w x s):base<=w.heap.size:=by obtain⟨r,q,h,_⟩:=h; exact h.base_le
theorem Wv.hi (h:Wv base col w x s):∀ g,col g≠0->g < w.heap.size:=by obtain⟨r,q,_,h⟩:=h; exact h
theorem Wv.lo (h:Wv base col w x s):∀ g,col g≠0->base<=g:=by obtain⟨r,q,h,_⟩:=h; exact h.lo
theorem Wv.cells (h:Wv base col w x s):Wc w x s:=by obtain⟨r,q,h,_⟩:=h; exact⟨h.cells.c0,h.cells.c1,h.cells.c2,h.cells.c3,h.cells.c4,h.cells.c5,h.cells.c6,h.cells.c7,h.cells.c8,h.cells.c9,h.cells.c10,h.cells.c11,h.cells.c12,h.cells.c13,h.cells.c14,h.cells.c15,h.cells.fz⟩
theorem Wv.bag (h:Wv base col w x s):Bx (fun g=>col g=1) (fun g=>col g=0/\base<=g) w x.pb x.ab s.D s.S:=by obtain⟨r,q,h,_⟩:=h; exact h.bag
theorem Wv.book (h:Wv base col w x s):Le.Bk w x.bk s.leak s.L s.M s.T:=by obtain⟨r,q,h,_⟩:=h; exact h.book
theorem Wv.fact (h:Wv base col w x s):Fc.Fa w x.bF x.mF x.pF s.O s.P s.n s.C:=by obtain⟨r,q,h,_⟩:=h; exact h.fact
theorem Wv.loc (h:Wv base col w x s):Lc.Lo (fun g=>(col g≠0/\col g≠2)\/g < base) w base x.pl s.loc:=by obtain⟨r,q,h,_⟩:=h; exact h.loc
theorem Wv.slots (h:Wv base col w x s):∃ r,St.Ss w base x.ps r s.sl:=by obtain⟨r,q,h,_⟩:=h; exact⟨r,h.slots⟩
theorem Wv.hist (h:Wv base col w x s):∃ r,Hi.Hs w base x.ph r s.step s.ev:=by obtain⟨r,q,h,_⟩:=h; exact⟨q,h.hist⟩
theorem Wv.kw (h:Wv base col w x s):col x.pw=7:=by obtain⟨r,q,h,_⟩:=h; exact h.kw
theorem Wv.later (h:Wv base col w x s) (u:Below w.heap.size w w'):Wv base col w' x s:=by
 obtain⟨r,q,h,hi⟩:=h
 exact⟨r,q,h.later u,fun g z=>Nat.lt_of_lt_of_le (hi g z) u.size⟩
theorem Wv.aside {E:Nat->Prop} (h:Wv base col w x s) (z:Fz E w w') (F:∀ g,g < w.heap.size->E g->col g=8):Wv base col w' x s:=by
 obtain⟨r,q,h,hi⟩:=h
 have u:Fz (fun g=>col g=8) w w':=z.mono F
 exact⟨r,q,⟨h.cells_aside u (by decide),h.bag_aside u (by decide) (by decide),h.loc_aside u (by decide) (by decide),h.slots_aside u (by decide),h.book_aside u (by decide),h.fact_aside u (by decide),h.hist_aside u (by decide),h.kl,h.ks,h.kb,h.kf,h.kh,h.kw,h.lo⟩,fun g G=>Nat.lt_of_lt_of_le (hi g G) z.size⟩
theorem Wv.bagT {I R':Nat->Prop} {J:List (Int × Ex)} {Q:List Int} (h:Wv base col w x s) (hb:Bx I R' w' x.pb x.ab J Q) (hz:Fz (fun g=>col g=1) w w') (hc:∀ g,g < w.heap.size->I g->col g=1) (hr:∀ g,g < w.heap.size->R' g->col g=0/\base<=g) :
  ∃ col',Wv base col' w' x { s with D:=J,S:=Q } /\ Fw col w w'/\El w col col':=by
 obtain⟨r,q,h,hi⟩:=h
 classical
 have hs:=hz.size
 have a1:=h.base_le
 let col':Nat->Nat:=fun g=>if g < w.heap.size then col g else if g < w'.heap.size/\I g then 1 else 0
 have Y:∀ g,g < w.heap.size->col' g=col g:=fun g u=>if_pos u
 have a0:∀ g,col' g≠0->base<=g:=fun g u=>by
  simp only[col'] at u
  split at u
  .exact h.lo g u
  .omega
 have z:=h.recol Y a0
 have G:Fz (fun g=>col' g=1) w w':=hz.mono fun g u e=>(Y g u).trans e
 have hn:Bx (fun g=>col' g=1) (fun g=>col' g=0/\base<=g) w' x.pb x.ab J Q:=hb.mono (fun g u hC=>by
   simp only[col']
   split
   .next F=>exact hc g F hC
   .rw[if_pos ⟨u,hC⟩]) (fun g u W=>by
   refine⟨?_,?_⟩
   .simp only[col']
    split
    .next F=>exact (hr g F W).1
    .rw[if_neg (fun e=>hb.cr g e.2 W)]
   .by_cases F:g < w.heap.size
    .exact (hr g F W).2
    .omega) (fun g F h4=>by have:=h4.1; omega)
 exact⟨col',⟨r,q,⟨(z.cells_aside G (by decide)).to rfl rfl rfl rfl rfl rfl rfl rfl rfl rfl rfl,hn,z.loc_aside G (by decide) (by decide),z.slots_aside G (by decide),z.book_aside G (by decide),z.fact_aside G (by decide),z.hist_aside G (by decide),z.kl,z.ks,z.kb,z.kf,z.kh,z.kw,z.lo⟩,fun g u=>by
   simp only[col'] at u
   split at u
   .omega
   .split at u
    .next F=>exact F.1
    .exact absurd rfl u⟩,fw_of (by decide) hz,Y⟩
theorem Wv.bookT {F:List (Int × Le.Ls)} {G:List (Int × Bool)} {I:List (Int × Int)} {f g:Option Nat} (h:Wv base col w x s) (Q:Le.Bk w' x.bk s.leak F G I) (z:Fr f g w w') (J:(f=some x.bk.a/\g=some x.bk.m)\/(f=some x.bk.b/\g=none)):Wv base col w' x { s with L:=F,M:=G,T:=I } /\ Fw col w w':=by
 obtain⟨r,q,h,hi⟩:=h
 obtain⟨k1,k2,k3,k4,Y⟩:=h.kb
 have u:Fz (fun g=>col g=4) w w':=⟨z.os,z.tape,z.output,z.size,fun k hk hc=>z.block k hk (fun e=>by
   rcases J with ⟨rfl,_⟩ | ⟨rfl,_⟩ <;> injection e with e <;> subst e <;> exact hc (by assumption)) (fun e=>by
   rcases J with ⟨_,rfl⟩ | ⟨_,rfl⟩
   .injection e with e; subst e; exact hc Y
   .cases e)⟩
 exact⟨⟨r,q,⟨(h.cells_aside u (by decide)).to rfl rfl rfl rfl rfl rfl rfl rfl rfl rfl rfl,h.bag_aside u (by decide) (by decide),h.loc_aside u (by decide) (by decide),h.slots_aside u (by decide),Q,h.fact_aside u (by decide),h.hist_aside u (by decide),h.kl,h.ks,h.kb,h.kf,h.kh,h.kw,h.lo⟩,fun g W=>Nat.lt_of_lt_of_le (hi g W) u.size⟩,fw_of (by decide) u⟩
theorem Wv.factT {I J:List Bool} {Q:Nat} {G:List Int} (h:Wv base col w x s) (W:Fc.Fa w' x.bF x.mF x.pF I J Q G) (Y:Fr (some x.pF) (some x.mF) w w'):Wv base col w' x { s with O:=I,P:=J,n:=Q,C:=G } /\ Fw col w w':=by
 obtain⟨r,q,h,hi⟩:=h
 have z:=h.fact.lo
 have F:=h.fact.lt
 have u:Fz (fun g=>col g=5) w w':=fz_fr Y (h.kf _ (by have z:x.bF<=x.mF:=z; have F:x.mF < x.pF:=F; show x.bF<=x.pF; omega) (Nat.le_refl _)) (fun g e=>by injection e with e; subst e; exact h.kf _ z (Nat.le_of_lt F))
 exact⟨⟨r,q,⟨(h.cells_aside u (by decide)).to rfl rfl rfl rfl rfl rfl rfl rfl rfl rfl rfl,h.bag_aside u (by decide) (by decide),h.loc_aside u (by decide) (by decide),h.slots_aside u (by decide),h.book_aside u (by decide),W,h.hist_aside u (by decide),h.kl,h.ks,h.kb,h.kf,h.kh,h.kw,h.lo⟩,fun g hg=>Nat.lt_of_lt_of_le (hi g hg) u.size⟩,fw_of (by decide) u⟩
theorem Wv.locT {z:Nat->List Int} (h:Wv base col w x s) (F:Lc.Lo (fun g=>(col g≠0/\col g≠2)\/g < base) w' base x.pl z) (G:Fr (some x.pl) none w w'):Wv base col w' x { s with loc:=z } /\ Fw col w w':=by
 obtain⟨r,q,h,hi⟩:=h
 have u:Fz (fun g=>col g=2) w w':=fz_fr G h.kl (fun g e=>by cases e)
 exact⟨⟨r,q,⟨(h.cells_aside u (by decide)).to rfl rfl rfl rfl rfl rfl rfl rfl rfl rfl rfl,h.bag_aside u (by decide) (by decide),F,h.slots_aside u (by decide),h.book_aside u (by decide),h.fact_aside u (by decide),h.hist_aside u (by decide),h.kl,h.ks,h.kb,h.kf,h.kh,h.kw,h.lo⟩,fun g I=>Nat.lt_of_lt_of_le (hi g I) u.size⟩,fw_of (by decide) u⟩
theorem Wo.slotsT {I:Option Nat} {l':List St.Sx} (h:Wo base col w x s) (hi:∀ g,col g≠0->g < w.heap.size) (J:St.Ss w' base x.ps I l') (W:Fr (some x.ps) x.rs w w') (Y:∀ g,I=some g->x.rs=some g\/w.heap.size<=g) :
  ∃ col',Wv base col' w' x { s with sl:=l' } /\ Fw col w w'/\El w col col':=by
 have G:Fz (fun g=>col g=3) w w':=fz_fr W h.ks.1 h.ks.2
 have hs:=G.size
 have Q:=h.base_le
 have u:=h.recol (col':=more w w' col 3) more_el (fun g z=>more_lo Q h.lo z)
 have F:Fz (fun g=>more w w' col 3 g=3) w w':=G.mono fun g z e=>(more_el g z).trans e
 refine⟨more w w' col 3,⟨I,x.rh,⟨(u.cells_aside F (by decide)).to rfl rfl rfl rfl rfl rfl rfl rfl rfl rfl rfl,u.bag_aside F (by decide) (by decide),u.loc_aside F (by decide) (by decide),J,u.book_aside F (by decide),u.fact_aside F (by decide),u.hist_aside F (by decide),u.kl,⟨u.ks.1,fun g z=>?_⟩,u.kb,u.kf,u.kh,u.kw,u.lo⟩,fun g z=>more_lt hs z⟩,fw_of (by decide) G,more_el⟩
 rcases Y g z with e | e
 .exact u.ks.2 g e
 .exact more_new e (J.rowlt g z).2
theorem Wo.histT {G:Option Nat} {st:Int} {l':List Tx.Ev} (h:Wo base col w x s) (hi:∀ g,col g≠0->g < w.heap.size) (Q:Hi.Hs w' base x.ph G st l') (hf:Fr (some x.ph) x.rh w w') (hr:G=x.rh \/ ∃ g,G=some g/\w.heap.size<=g) :
  ∃ col',Wv base col' w' x { s with step:=st,ev:=l' } /\ Fw col w w'/\El w col col':=by
 have I:Fz (fun g=>col g=6) w w':=fz_fr hf h.kh.1 h.kh.2
 have hs:=I.size
 have Y:=h.base_le
 have u:=h.recol (col':=more w w' col 6) more_el (fun g z=>more_lo Y h.lo z)
 have F:Fz (fun g=>more w w' col 6 g=6) w w':=I.mono fun g z e=>(more_el g z).trans e
 refine⟨more w w' col 6,⟨x.rs,G,⟨(u.cells_aside F (by decide)).to rfl rfl rfl rfl rfl rfl rfl rfl rfl rfl rfl,u.bag_aside F (by decide) (by decide),u.loc_aside F (by decide) (by decide),u.slots_aside F (by decide),u.book_aside F (by decide),u.fact_aside F (by decide),Q,u.kl,u.ks,u.kb,u.kf,⟨u.kh.1,fun g z=>?_⟩,u.kw,u.lo⟩,fun g z=>more_lt hs z⟩,fw_of (by decide) I,more_el⟩
 rcases hr with e | ⟨J,e,a0⟩
 .exact u.kh.2 g (e ▸ z)
 .have W:J=g:=by rw[e] at z; injection z
  subst W
  exact more_new a0 (Q.row J e).2
theorem Wv.ownT (h:Wv base col w x s) (cf:Cf) (nw lv:Int) (cl:Bool) (hc:Wc w' x { s with conf:=cf,now:=nw,live:=lv,closed:=cl }) (u:Fz (fun g=>col g=7) w w'):Wv base col w' x { s with conf:=cf,now:=nw,live:=lv,closed:=cl } /\ Fw col w w':=by
 obtain⟨r,q,h,hi⟩:=h
 refine⟨⟨r,q,h.own_ cf nw lv cl ?_ u,fun g z=>Nat.lt_of_lt_of_le (hi g z) u.size⟩,fw_of (by decide) u⟩
 exact⟨hc.c0,hc.c1,hc.c2,hc.c3,hc.c4,hc.c5,hc.c6,hc.c7,hc.c8,hc.c9,hc.c10,hc.c11,hc.c12,hc.c13,hc.c14,hc.c15,hc.fz⟩
end
theorem Wv.var {base:Nat} {col:Nat->Nat} {w w':World} {x:Wp} {s:Ws} (h:Wv base col w x s) (Q:Below w.heap.size w w') (r:Nat) (h1:w.heap.size<=r) (h2:r < w'.heap.size):∃ col',Wv base col' w' x s/\El w col col'/\col' r=8 /\ ∀ g,w.heap.size<=g->g≠r->col' g=0:=by
 have a1:=h.base_le
 obtain⟨col',I⟩:∃ col':Nat->Nat,col'=fun g=>if g < w.heap.size then col g else if g=r then 8 else 0:=⟨_,rfl⟩
 have z:∀ g,g < w.heap.size->col' g=col g:=fun g u=>by rw[I]; exact if_pos u
 have W:col' r=8:=by rw[I]; show (if r < w.heap.size then col r else if r=r then 8 else 0)=8; rw[if_neg (by omega),if_pos rfl]
 have J:∀ g,w.heap.size<=g->g≠r->col' g=0:=fun g F G=>by rw[I]; show (if g < w.heap.size then col g else if g=r then 8 else 0)=0; rw[if_neg (by omega),if_neg G]
 have a0:=h.lo
 obtain⟨p,q,Y,hi⟩:=h
 have hs:=Q.size
 refine⟨col',⟨p,q,(Y.recol z (fun g u=>?_)).later Q,fun g u=>?_⟩,z,W,J⟩
 .by_cases F:g < w.heap.size
  .exact a0 g (by rw[<- z g F]; exact u)
  .omega
 .by_cases F:g < w.heap.size
  .omega
  .by_cases G:g=r
   .omega
   .exact absurd (J g (by omega) G) u
section
variable (w:World) {base:Nat} {col:Nat->Nat} {x:Wp} {s:Ws}
theorem wswap (h:Wv base col w x s) (id old st now:Int) (hid:U64 id) (J:U64 old) (I:U64 now):Calls Tryz.prog 83 #[ptr x.pb,.int .u64 id,.int .u64 old,.int .i64 st,.int .u64 now] w fun e w'=>e=.returned (.tuple #[.int .u64 (bV s.D id old st),.bool (bK s.D id old st)]) /\
  ∃ col',Wv base col' w' x { s with D:=up s.D id (exS old st now) } /\ Fw col w w'/\El w col col':=
 (swap_any w x.pb x.ab s.D s.S id h.bag hid old st now J I).mono fun e w' ⟨u,z,F⟩=>⟨u,h.bagT z F (fun g G hc=>hc) (fun g G hc=>hc)⟩
theorem wenter (h:Wv base col w x s) (id st now:Int) (hid:U64 id) (J:U64 now) (I:s.D.length < 1000000):Calls Tryz.prog 73 #[ptr x.pb,.int .u64 id,.int .i64 st,.int .u64 now] w fun e w'=>e=.returned (.int .i64 (eE s.D id st)) /\
  ∃ col',Wv base col' w' x { s with D:=entD s.D id st now } /\ Fw col w w'/\El w col col':=
 (enter_any w x.pb x.ab s.D s.S id h.bag hid st now J I).mono fun e w' ⟨u,z,F⟩=>⟨u,h.bagT z F (fun g G hc=>hc.elim And.right (fun Q=>by omega)) (fun g G hc=>hc.2)⟩
theorem wpublish (h:Wv base col w x s) (id:Int) (hid:U64 id) (I:s.S.length<=1000000):Calls Tryz.prog 135 #[ptr x.pb,.int .u64 id] w fun e w'=>e=.returned (.int .i64 (kn s.D id)) /\
  ∃ col',Wv base col' w' x { s with S:=pubS s.D s.S id } /\ Fw col w w'/\El w col col':=
 (publish_any w x.pb x.ab s.D s.S id h.bag hid I).mono fun e w' ⟨u,z,F⟩=>⟨u,h.bagT z F (fun g G hc=>hc.2) (fun g G hc=>hc.elim And.right (fun J=>by omega))⟩
theorem wunlist (h:Wv base col w x s) (id:Int) (hid:U64 id) (I:s.S.length<=1000000):Calls Tryz.prog 235 #[ptr x.pb,.int .u64 id] w fun e w'=>e=.returned (.int .i64 (kn s.D id)) /\
  ∃ col',Wv base col' w' x { s with S:=unlS s.D s.S id } /\ Fw col w w'/\El w col col':=
 (unlist_any w x.pb x.ab s.D s.S id h.bag hid I).mono fun e w' ⟨u,z,F⟩=>⟨u,h.bagT z F (fun g G hc=>hc.2) (fun g G hc=>hc.elim And.right (fun J=>by omega))⟩
theorem wopen (h:Wv base col w x s) (hn:s.n < 18446744073709551615):Calls Tryz.prog 71 #[ptr x.pF] w fun e w'=>e=.returned (.tuple #[.int .u64 (opnI s.O s.n),.bool (Fc.nx s.O).1]) /\
  Wv base col w' x { s with O:=(Fc.nx s.O).2,n:=opnN s.O s.n } /\ Fw col w w':=
 (Fc.open_any x.pF x.bF x.mF s.n s.O s.P s.C w h.fact hn).mono fun e w' ⟨u,z,F⟩=>⟨u,h.factT z F⟩
theorem wclose (h:Wv base col w x s) (id:Int) (hid:U64 id) (hn:s.C.length < 1000):Calls Tryz.prog 141 #[ptr x.pF,.int .u64 id] w fun e w'=>e=.returned (.int .i64 (Fc.kn s.n s.C id 10)) /\
  Wv base col w' x { s with C:=clsC s.n s.C id } /\ Fw col w w':=
 (Fc.close_any x.pF x.bF x.mF s.n s.O s.P s.C id w h.fact hid hn).mono fun e w' ⟨u,z,F⟩=>⟨u,h.factT z F⟩
theorem wadd (h:Wv base col w x s) (th z op id u:Int) (Q:s.ev.length<=1000):Calls Tryz.prog 143 #[ptr x.ph,.int .i64 th,.int .i64 z,.int .i64 op,.int .u64 id,.int .i64 u] w fun e w'=>e=.returned (.tuple #[]) /\
  ∃ col',Wv base col' w' x { s with ev:=s.ev ++ [⟨s.step,th,z,op,id,u⟩] } /\ Fw col w w'/\El w col col':=by
 obtain⟨r,q,h,hi⟩:=h
 exact (Hi.add_any w base x.ph q s.step s.ev th z op id u h.hist Q).mono fun e w' ⟨F,W,G,I,J⟩=>⟨F,h.histT hi G I J⟩
theorem wpark (h:Wv base col w x s) (t d:Int) (I:s.sl.length<=1000):Calls Tryz.prog 35 #[ptr x.ps,.int .i64 t,.int .u64 d] w fun e w'=>e=.returned (.int .i64 (St.parkE s.sl t)) /\
  ∃ col',Wv base col' w' x { s with sl:=St.parkL s.sl t d } /\ Fw col w w'/\El w col col':=by
 obtain⟨r,q,h,hi⟩:=h
 exact (St.parkU w base x.ps r s.sl t d h.slots I).mono fun e w' ⟨u,J,z,F,G⟩=>⟨u,h.slotsT hi z F G⟩
theorem wfill (h:Wv base col w x s) (id:Int):Calls Tryz.prog 231 #[ptr x.ps,.int .u64 id] w fun e w'=>e=.returned (.tuple #[.int .i64 (St.fillR s.sl id).2.1,.bool (St.fillR s.sl id).2.2]) /\
  ∃ col',Wv base col' w' x { s with sl:=(St.fillR s.sl id).1 } /\ Fw col w w'/\El w col col':=by
 obtain⟨r,q,h,hi⟩:=h
 exact (St.fillU w base x.ps r s.sl id h.slots).mono fun e w' ⟨u,z,F⟩=>⟨u,h.slotsT hi z F (fun g G=>.inl G)⟩
theorem wltake (h:Wv base col w x s) (t:Int):Calls Tryz.prog 153 #[ptr x.pl,.int .i64 t] w fun e w'=>e=.returned (.tuple #[.int .u64 (Lc.takeR s.loc t).2.1,.bool (Lc.takeR s.loc t).2.2]) /\
  Wv base col w' x { s with loc:=(Lc.takeR s.loc t).1 } /\ Fw col w w':=by
 unfold Lc.takeR
 cases hr:Lc.inR t with
 | false=>
  simp only[Bool.false_eq_true,if_false]
  refine (Lc.take_none (some ⟨x.pl,0,none⟩) t w (.inr ⟨x.pl,rfl,Lc.inR_no hr⟩)).mono ?_
  rintro e w' ⟨rfl,rfl⟩
  exact⟨rfl,h,Fz.refl _ _⟩
 | true=>
  obtain⟨i,rfl,hi⟩:=Lc.inR_yes hr
  simp only[if_true,Int.toNat_natCast]
  cases hg:(s.loc i).getLast? with
  | none=>
   refine (Lc.take_empty _ w base x.pl i s.loc h.loc hi (by simpa using hg)).mono ?_
   rintro e w' ⟨rfl,rfl⟩
   exact⟨rfl,h,Fz.refl _ _⟩
  | some y=>
   refine (Lc.take_some _ w base x.pl i s.loc (s.loc i).dropLast y h.loc hi (by obtain⟨G,F⟩:=List.getLast?_eq_some_iff.1 hg; rw[F]; simp)).mono ?_
   rintro e w' ⟨rfl,u,z⟩
   exact⟨rfl,h.locT u z⟩
theorem wlput (h:Wv base col w x s) (t:Int) (A:Option Addr) (n c:Nat) (ids:List Int) (I:Rd (Value.int .u64) w w.heap.size A n c ids) (hn:n<=1000):Calls Tryz.prog 233 #[ptr x.pl,.int .i64 t,.slice A n c] w fun e w'=>e=.returned (.int .i64 (Lc.putE t)) /\
  Wv base col w' x { s with loc:=Lc.putR s.loc t ids } /\ Fw col w w':=by
 unfold Lc.putE Lc.putR
 cases hi:Lc.inR t with
 | false=>
  refine (Lc.put_out x.pl t A n c w (Lc.inR_no hi)).mono ?_
  rintro e w' ⟨rfl,rfl⟩
  exact⟨rfl,h,Fz.refl _ _⟩
 | true=>
  obtain⟨i,rfl,G⟩:=Lc.inR_yes hi
  simp only[if_true,Int.toNat_natCast]
  refine (Lc.put_in _ w base x.pl i s.loc A n c ids (fun g F=>F.elim (fun e=>h.hi g e.1) (fun e=>Nat.lt_of_lt_of_le e h.base_le)) h.loc G I hn).mono ?_
  rintro e w' ⟨rfl,u,z⟩
  exact⟨rfl,h.locT u z⟩
variable (N:List Int)
theorem wbegin (h:Wv base col w x s) (u:s.M=Le.mk N) (id th now:Int) (hid:U64 id) (Y:U64 now) (W:U64 s.leak) (Q:s.L.length<=1000) (J:s.T.length<=1000):Calls Tryz.prog 137 #[ptr x.bk.p,.int .u64 id,.int .i64 th,.int .u64 now] w fun e w'=>e=.returned (.int .i64 (Le.bE s.L id th)) /\
  Wv base col w' x { s with L:=Le.bL s.L id th now,T:=Le.bT s.leak s.L s.T id th now } /\ Fw col w w':=by
 have z:=h.book
 rw[u] at z
 refine (Le.beginU w x.bk s.leak s.L N s.T id th now z hid Y W Q J).mono fun e w' ⟨F,G,I⟩=>⟨F,?_⟩
 have:=h.bookT G I (.inl ⟨rfl,rfl⟩)
 rw[<- u] at this
 exact this
theorem wend (h:Wv base col w x s) (u:s.M=Le.mk N) (id th:Int) (hid:U64 id):Calls Tryz.prog 267 #[ptr x.bk.p,.int .u64 id,.int .i64 th] w fun e w'=>e=.returned (.int .i64 (Le.wr s.L id th)) /\
  Wv base col w' x { s with L:=endL s.L id th,T:=endT s.L s.T id th } /\ Fw col w w':=by
 have z:=h.book
 rw[u] at z
 refine (Le.endU w x.bk s.leak s.L N s.T id th z hid).mono fun e w' ⟨F,G,I⟩=>⟨F,?_⟩
 have:=h.bookT G I (.inl ⟨rfl,rfl⟩)
 rw[<- u] at this
 exact this
theorem wmark (h:Wv base col w x s) (I:s.M=Le.mk N) (id th:Int) (hid:U64 id) (J:N.length<=1000):Calls Tryz.prog 37 #[ptr x.bk.p,.int .u64 id,.int .i64 th] w fun e w'=>e=.returned (.int .i64 (Le.wr s.L id th)) /\
  Wv base col w' x { s with M:=Le.mk (mrkN s.L N id th) } /\ Fw col w w':=by
 have u:=h.book
 rw[I] at u
 exact (Le.markU w x.bk s.leak s.L N s.T id th u hid J).mono fun e w' ⟨z,F,G⟩=>⟨z,h.bookT F G (.inr ⟨rfl,rfl⟩)⟩
theorem wforget (h:Wv base col w x s) (I:s.M=Le.mk N) (id:Int) (hid:U64 id):Calls Tryz.prog 142 #[ptr x.bk.p,.int .u64 id] w fun e w'=>e=.returned (.tuple #[]) /\
  Wv base col w' x { s with M:=Le.mk (N.filter (· != id)) } /\ Fw col w w':=by
 have u:=h.book
 rw[I] at u
 exact (Le.forgetU w x.bk s.leak s.L N s.T id u hid).mono fun e w' ⟨z,F,G⟩=>⟨z,h.bookT F G (.inr ⟨rfl,rfl⟩)⟩
end
section
variable (w:World) {base:Nat} {col:Nat->Nat} {x:Wp} {s:Ws}
theorem wnow_any (h:Wc w x s):Calls Tryz.prog 74 #[ptr x.pw] w fun e w'=>e=.returned (.int .u64 s.now)/\Below w.heap.size w w':=by
 have c7:=h.c7
 clear h
 go_enter Tryz.func74,Tryz.ntmps74
 go_wp2_with fail
 refine (Ck.now_any s.now _).mono ?_
 rintro e u ⟨rfl,rfl⟩
 go_wp2_with fail
 go_ret
 exact⟨rfl,(Below.refl _ _).alloc (Nat.le_refl _) _⟩
theorem Wc.at15 (h:Wc w x s) (b:Bool):Wc (w.setCell ⟨x.pw,15,none⟩ (.bool b)) x { s with closed:=b }:=by
 have k:∀ o u,o≠15->w.cell? ⟨x.pw,o,none⟩=some u->(w.setCell ⟨x.pw,15,none⟩ (.bool b)).cell? ⟨x.pw,o,none⟩=some u:=fun o u F z=>(World.cell?_setCell_other _ _ _ _ (fun e=>by injection e with _ e _; omega)).trans z
 exact⟨k 0 _ (by decide) h.c0,k 1 _ (by decide) h.c1,k 2 _ (by decide) h.c2,k 3 _ (by decide) h.c3,k 4 _ (by decide) h.c4,k 5 _ (by decide) h.c5,k 6 _ (by decide) h.c6,k 7 _ (by decide) h.c7,k 8 _ (by decide) h.c8,k 9 _ (by decide) h.c9,k 10 _ (by decide) h.c10,k 11 _ (by decide) h.c11,k 12 _ (by decide) h.c12,k 13 _ (by decide) h.c13,k 14 _ (by decide) h.c14,World.cell?_setCell_same _ _ _ h.c15,fun o=>by simpa using h.fz o⟩
theorem wset14 (h:Wv base col w x s) (lv:Int):Wv base col (w.setCell ⟨x.pw,14,none⟩ (.int .i64 lv)) x { s with live:=lv } /\ Fw col w (w.setCell ⟨x.pw,14,none⟩ (.int .i64 lv)):=
 h.ownT s.conf s.now lv s.closed (h.cells.live w lv) (Fz.of_set _ h.kw)
theorem wset15 (h:Wv base col w x s) (b:Bool):Wv base col (w.setCell ⟨x.pw,15,none⟩ (.bool b)) x { s with closed:=b } /\ Fw col w (w.setCell ⟨x.pw,15,none⟩ (.bool b)):=
 h.ownT s.conf s.now s.live b (h.cells.at15 w b) (Fz.of_set _ h.kw)
theorem wshrink_any (h:Wv base col w x s) (z:0<=s.live) (G:s.live<=1000000):Calls Tryz.prog 69 #[ptr x.pw] w fun e w'=>e=.returned (.tuple #[]) /\
  Wv base col w' x { s with live:=shrV s.live } /\ Fw col w w':=by
 have c14:=h.cells.c14
 have I:∀ y:After w,y.1.cell? ⟨x.pw,14,none⟩=some (.int .i64 s.live):=fun y=>y.cell c14
 have u:=Lh h
 by_cases hl:0 < s.live
 .have J:decide (0 < s.live)=true:=decide_eq_true hl
  have W:IntKind.i64.wrap (s.live - 1)=s.live - 1:=by rw[IntKind.wrap_i64]; omega
  rw[show shrV s.live=s.live - 1 from if_pos hl]
  clear h hl z G
  go_enter Tryz.func69,Tryz.ntmps69
  have Q:=u.out.cells.fz 14
  clear I
  go_wp2_with fail
  have F:=wset14 w u.out (s.live - 1)
  exact bodyPost_end (v:=.tuple #[]) (by simp[results,Tryz.results69]) rfl ⟨rfl,F.1,F.2⟩
 .have J:decide (0 < s.live)=false:=decide_eq_false hl
  rw[show shrV s.live=s.live from if_neg hl]
  clear h hl z G
  go_enter Tryz.func69,Tryz.ntmps69
  go_wp2_with fail
  exact bodyPost_end (v:=.tuple #[]) (by simp[results,Tryz.results69]) rfl ⟨rfl,u.out,Fz.refl _ _⟩
theorem wgrow_any (h:Wv base col w x s) (z:0<=s.live) (J:s.conf.max<=1000000):Calls Tryz.prog 68 #[ptr x.pw] w fun e w'=>e=.returned (.bool (decide (s.live < s.conf.max))) /\
  Wv base col w' x { s with live:=grwV s.live s.conf.max } /\ Fw col w w':=by
 obtain⟨r,q,h,hi⟩:=h
 exact (grow_any w h z J).mono fun e w' ⟨F,G,u⟩=>⟨F,⟨r,q,G,fun g I=>Nat.lt_of_lt_of_le (hi g I) u.size⟩,fw_of ⟨by decide,by decide⟩ u⟩
variable (N:List Int)
theorem wlease_any (h:Wv base col w x s) (W:s.M=Le.mk N) (id th:Int) (hid:U64 id) (a1:U64 s.now) (a0:U64 s.leak) (hl:s.L.length<=1000) (hT:s.T.length<=1000):Calls Tryz.prog 79 #[ptr x.pw,.int .u64 id,.int .i64 th] w fun e w'=>e=.returned (.int .i64 (Le.bE s.L id th)) /\
  Wv base col w' x { s with L:=Le.bL s.L id th s.now,T:=Le.bT s.leak s.L s.T id th s.now } /\ Fw col w w':=by
 have Q:=Lh h
 have a4:=Lh W
 have a2:=Lh hid
 have a5:=Lh a1
 have a3:=Lh a0
 clear h W hid a1 a0
 go_enter Tryz.func79,Tryz.ntmps79
 go_wp2_with fail
 have u:Hid (Wc w.drew x s/\Fw col w w.drew):=Lh ⟨Q.out.cells.blk rfl,Fz.of_below (Below.refl _ _).drew⟩
 have a6:Hid (Wv base col w.drew x s):=Lh (Q.out.later (Below.refl _ _).drew)
 refine rgS 10 (fun w'=>Wc w' x s/\Fw col w w') (by kernel_rfl) (by kernel_rfl) ?_
 intro Y
 have z:=Lh Y
 clear Y
 refine rq 0 z.out u.out rfl ?_
 refine rq 1 z.out u.out rfl ?_
 refine rq 2 z.out u.out rfl ?_
 refine rq 3 z.out u.out rfl ?_ (hv:=fun w' hw=>by (have a9:=hw.1.c11; go_simp; exact rfl))
 refine rq 4 z.out u.out rfl ?_
 refine rq 5 z.out u.out rfl ?_
 refine rq 6 z.out u.out rfl ?_
 refine rO 7 rfl (by kernel_rfl) rfl ?_
 unfold Oper.wp
 go_simp
 refine (wnow_any _ u.out.1).mono ?_
 rintro e J ⟨rfl,G⟩
 have F:Wc J x s/\Fw col w J:=⟨u.out.1.blk (G.block _ u.out.1.lt),u.out.2.trans (Fz.of_below G)⟩
 refine⟨F,?_⟩
 have a7:=Lh (a6.out.later G)
 clear u G
 have u:=Lh F
 clear F
 refine rO 8 rfl (by kernel_rfl) rfl ?_
 unfold Oper.wp
 go_simp
 refine (wbegin J N a7.out a4.out id th s.now a2.out a5.out a3.out hl hT).mono ?_
 rintro e w3 ⟨rfl,I,z3⟩
 have F:Wc w3 x s/\Fw col w w3:=⟨I.cells.to rfl rfl rfl rfl rfl rfl rfl rfl rfl rfl rfl,u.out.2.trans z3⟩
 refine⟨F,?_⟩
 have a8:=Lh I
 clear u I z3
 have u:=Lh F
 clear F
 refine rq 9 z.out u.out rfl ?_
 refine rgD (by kernel_rfl) ?_
 go_wp2_with fail
 go_ret
 exact⟨rfl,a8.out,u.out.2⟩
def remS (s:Ws) (N:List Int) (id old th op:Int):Ws:={ s with D:=up s.D id (exS old 3 s.now),C:=clsC s.n s.C id,M:=Le.mk (N.filter (· != id)),ev:=s.ev ++ [⟨s.step,th,3,op,id,0⟩] }
theorem up_fail {D:List (Int × Ex)} (hn:Nd D) {id old st:Int} (hk:bK D id old st=false) (now:Int):up D id (exS old st now)=D:=by
 refine up_same (fun x hx=>?_) hn
 unfold bK at hk
 rw[hx] at hk
 have hk:Wd.wSwapOk x.word old st=false:=hk
 have u:Wd.wSwap x.word old st=x.word:=by
  unfold Wd.wSwap
  unfold Wd.wSwapOk at hk
  split
  .next h=>exact absurd h (by simpa using hk)
  .rfl
 unfold exS
 rw[hk,u]
 simp
theorem fw_two {col col':Nat->Nat} {w w' z:World} (h:Fw col w w') (F:El w col col') (u:Fw col' w' z):Fw col w z:=
 ⟨u.os.trans h.os,u.tape.trans h.tape,u.output.trans h.output,Nat.le_trans h.size u.size,fun k hk hc=>(u.block k (Nat.lt_of_lt_of_le hk h.size) (fun e=>hc (by rw[F k hk] at e; exact e))).trans (h.block k hk hc)⟩
theorem wrem_no (h:Wv base col w x s) (hM:s.M=Le.mk N) (id old th op:Int) (hid:U64 id) (a1:U64 s.now) (ho:U64 old) (hk:bK s.D id old 3=false):Calls Tryz.prog 81 #[ptr x.pw,.int .u64 id,.int .u64 old,.int .i64 th,.int .i64 op] w fun e w'=>e=.returned (.bool false) /\
  ∃ col',Wv base col' w' x s/\Fw col w w'/\El w col col':=by
 have a7:=Lh (up_fail h.bag.ri.nd hk s.now)
 have Q:=Lh h
 have ad:=Lh hM
 have a3:=Lh hid
 have a6:=Lh a1
 have HO:=Lh ho
 have a4:=Lh hk
 clear h hM hid a1 ho hk
 go_enter Tryz.func81,Tryz.ntmps81
 go_wp2_with fail
 have u:Hid (Wc w.drew x s/\Fw col w w.drew):=Lh ⟨Q.out.cells.blk rfl,Fz.of_below (Below.refl _ _).drew⟩
 have a8:Hid (Wv base col w.drew x s):=Lh (Q.out.later (Below.refl _ _).drew)
 refine rgS 14 (fun w'=>Wc w' x s/\Fw col w w') (by kernel_rfl) (by kernel_rfl) ?_
 intro a0
 have z:=Lh a0
 clear a0
 refine rq 0 z.out u.out rfl ?_
 refine rq 1 z.out u.out rfl ?_
 refine rq 2 z.out u.out rfl ?_
 refine rq 3 z.out u.out rfl ?_ (hv:=fun w' hw=>by (have k8:=hw.1.c8; go_simp; exact rfl))
 refine rq 4 z.out u.out rfl ?_
 refine rq 5 z.out u.out rfl ?_
 refine rq 6 z.out u.out rfl ?_
 refine rO 7 rfl (by kernel_rfl) rfl ?_
 unfold Oper.wp
 go_simp
 refine (wnow_any _ u.out.1).mono ?_
 rintro e J ⟨rfl,I⟩
 have F:Wc J x s/\Fw col w J:=⟨u.out.1.blk (I.block _ u.out.1.lt),u.out.2.trans (Fz.of_below I)⟩
 refine⟨F,?_⟩
 have a9:=Lh (a8.out.later I)
 have W:=u.out.2.size
 have ae:=I.size
 clear u I
 have u:=Lh F
 clear F
 refine rO 8 rfl (by kernel_rfl) rfl ?_
 unfold Oper.wp
 go_simp
 refine (wswap J a9.out id old 3 s.now a3.out HO.out a6.out).mono ?_
 rintro e w3 ⟨rfl,ac,G,z3,l3⟩
 rw[a4.out]
 have F:Wc w3 x s/\Fw col w w3:=⟨G.cells.to rfl rfl rfl rfl rfl rfl rfl rfl rfl rfl rfl,u.out.2.trans z3⟩
 refine⟨F,?_⟩
 have aa:=Lh G
 have a5:=Lh l3
 have a2:=Lh W
 clear u G z3 l3 W
 have u:=Lh F
 clear F
 obtain⟨Y,hY⟩:∃ Y,bV s.D id old 3=Y:=⟨_,rfl⟩
 rw[hY]
 clear hY
 refine rq 9 z.out u.out rfl ?_
 refine rq 10 z.out u.out rfl ?_
 refine rq 11 z.out u.out rfl ?_
 refine rq 12 z.out u.out rfl ?_
 refine rq 13 z.out u.out rfl ?_
 refine rgD (by kernel_rfl) ?_
 go_wp2_with fail
 go_ret
 have G:=aa.out
 rw[a7.out] at G
 exact⟨rfl,ac,G,u.out.2,fun g hg=>a5.out g (by have:=a2.out; omega)⟩
theorem wrem_yes (h:Wv base col w x s) (hM:s.M=Le.mk N) (id old th op:Int) (hid:U64 id) (a7:U64 s.now) (ho:U64 old) (hk:bK s.D id old 3=true) (hn:s.C.length < 1000) (hl:s.ev.length<=1000):Calls Tryz.prog 81 #[ptr x.pw,.int .u64 id,.int .u64 old,.int .i64 th,.int .i64 op] w fun e w'=>e=.returned (.bool true) /\
  ∃ col',Wv base col' w' x (remS s N id old th op)/\Fw col w w'/\El w col col':=by
 have HW:=Lh h
 have aa:=Lh hM
 have W:=Lh hid
 have ac:=Lh a7
 have HO:=Lh ho
 have a8:=Lh hk
 clear h hM hid a7 ho hk
 go_enter Tryz.func81,Tryz.ntmps81
 go_wp2_with fail
 have u:Hid (Wc w.drew x s/\Fw col w w.drew):=Lh ⟨HW.out.cells.blk rfl,Fz.of_below (Below.refl _ _).drew⟩
 have af:Hid (Wv base col w.drew x s):=Lh (HW.out.later (Below.refl _ _).drew)
 refine rgS 14 (fun w'=>Wc w' x s/\Fw col w w') (by kernel_rfl) (by kernel_rfl) ?_
 intro a6
 have z:=Lh a6
 clear a6
 refine rq 0 z.out u.out rfl ?_
 refine rq 1 z.out u.out rfl ?_
 refine rq 2 z.out u.out rfl ?_
 refine rq 3 z.out u.out rfl ?_ (hv:=fun w' hw=>by (have k8:=hw.1.c8; go_simp; exact rfl))
 refine rq 4 z.out u.out rfl ?_
 refine rq 5 z.out u.out rfl ?_
 refine rq 6 z.out u.out rfl ?_
 refine rO 7 rfl (by kernel_rfl) rfl ?_
 unfold Oper.wp
 go_simp
 refine (wnow_any _ u.out.1).mono ?_
 rintro e w2 ⟨rfl,G⟩
 have F:Wc w2 x s/\Fw col w w2:=⟨u.out.1.blk (G.block _ u.out.1.lt),u.out.2.trans (Fz.of_below G)⟩
 refine⟨F,?_⟩
 have ag:=Lh (af.out.later G)
 have a5:=u.out.2.size
 have ah:=G.size
 clear u G
 have u:=Lh F
 clear F
 refine rO 8 rfl (by kernel_rfl) rfl ?_
 unfold Oper.wp
 go_simp
 refine (wswap w2 ag.out id old 3 s.now W.out HO.out ac.out).mono ?_
 rintro e w3 ⟨rfl,ai,h3,z3,l3⟩
 rw[a8.out]
 have F:Wc w3 x s/\Fw col w w3:=⟨h3.cells.to rfl rfl rfl rfl rfl rfl rfl rfl rfl rfl rfl,u.out.2.trans z3⟩
 refine⟨F,?_⟩
 have a2:=Lh h3
 have J:=Lh l3
 have I:=Lh a5
 clear u h3 z3 l3 a5
 have u:=Lh F
 clear F
 obtain⟨Y,hY⟩:∃ Y,bV s.D id old 3=Y:=⟨_,rfl⟩
 rw[hY]
 clear hY
 refine rq 9 z.out u.out rfl ?_
 refine rq 10 z.out u.out rfl ?_
 refine rq 11 z.out u.out rfl ?_
 refine rq 12 z.out u.out rfl ?_
 refine rq 13 z.out u.out rfl ?_
 refine rgD (by kernel_rfl) ?_
 have c12:=a2.out.cells.c12
 go_wp2_with fail
 refine (wclose _ a2.out id W.out hn).mono ?_
 rintro e w4 ⟨rfl,h4,z4⟩
 have a3:=Lh h4
 have ad:Hid (Fw col w w4):=Lh (fw_two u.out.2 (fun g Q=>J.out g (by have:=I.out; omega)) z4)
 have c11:=a3.out.cells.c11
 clear h4 z4 c12
 go_wp2_with fail
 refine (wforget _ N a3.out aa.out id W.out).mono ?_
 rintro e w5 ⟨rfl,h5,z5⟩
 have a4:=Lh h5
 have a1:Hid (Fw col w w5):=Lh (fw_two ad.out (fun g Q=>J.out g (by have:=I.out; omega)) z5)
 have c13:=a4.out.cells.c13
 clear h5 z5 c11
 go_wp2_with fail
 refine (wadd _ a4.out th 3 op id 0 hl).mono ?_
 rintro e w6 ⟨rfl,a0,h6,z6,l6⟩
 have HX:Hid (Wv base a0 w6 x (remS s N id old th op)):=Lh h6
 have ae:Hid (Fw col w w6):=Lh (fw_two a1.out (fun g Q=>J.out g (by have:=I.out; omega)) z6)
 have a9:Hid (El w col a0):=Lh (fun g Q=>(l6 g (Nat.lt_of_lt_of_le Q a1.out.size)).trans (J.out g (by have:=I.out; omega)))
 clear h6 z6 l6 c13
 go_wp2_with fail
 go_ret
 exact⟨rfl,a0,HX.out,ae.out,a9.out⟩
theorem wpub_closed (h:Wv base col w x s) (id:Int) (hc:s.closed=true):Calls Tryz.prog 77 #[ptr x.pw,.int .u64 id] w fun e w'=>e=.returned (.bool false)/\w=w':=by
 have c15:=h.cells.c15
 rw[hc] at c15
 clear h hc
 go_enter Tryz.func77,Tryz.ntmps77
 go_wp2_with fail
 go_ret
 exact⟨rfl,rfl⟩
theorem wpub_open (h:Wv base col w x s) (id:Int) (hid:U64 id) (G:s.S.length<=1000000) (hc:s.closed=false):Calls Tryz.prog 77 #[ptr x.pw,.int .u64 id] w fun e w'=>e=.returned (.bool (kn s.D id == 0)) /\
  ∃ col',Wv base col' w' x { s with S:=pubS s.D s.S id } /\ Fw col w w'/\El w col col':=by
 have c15:=h.cells.c15
 have c8:=h.cells.c8
 rw[hc] at c15
 obtain⟨Z,z⟩:∃ Z,kn s.D id=Z:=⟨_,rfl⟩
 have u:=wpublish w h id hid G
 rw[z] at u
 rw[z]
 have u:=Lh u
 clear h hc z
 go_enter Tryz.func77,Tryz.ntmps77
 go_wp2_with fail
 refine u.out.mono ?_
 rintro e I ⟨rfl,hx⟩
 have F:=Lh hx
 clear hx u
 go_wp2_with fail
 go_ret
 exact⟨rfl,F.out⟩
theorem wwant_closed (h:Wv base col w x s) (hc:s.closed=true):Calls Tryz.prog 234 #[ptr x.pw] w fun e w'=>e=.returned (.bool true)/\w=w':=by
 have c15:=h.cells.c15
 rw[hc] at c15
 clear h hc
 go_enter Tryz.func234,Tryz.ntmps234
 go_wp2_with fail
 go_ret
 exact⟨rfl,rfl⟩
theorem wwant_open (h:Wv base col w x s) (J:s.sl.length<=1000) (hc:s.closed=false):Calls Tryz.prog 234 #[ptr x.pw] w fun e w'=>e=.returned (.bool (decide (0 < St.waitN s.sl)))/\Below w.heap.size w w':=by
 have c15:=h.cells.c15
 have c10:=h.cells.c10
 rw[hc] at c15
 obtain⟨r,F⟩:=h.slots
 have Q:=Lh F
 obtain⟨m,z⟩:∃ m,St.waitN s.sl=m:=⟨_,rfl⟩
 have u:=St.waiting_any w base x.ps r s.sl F J
 rw[z] at u
 rw[z]
 have u:=Lh u
 clear h hc F z
 go_enter Tryz.func234,Tryz.ntmps234
 go_wp2_with fail
 refine u.out.mono ?_
 rintro e W ⟨rfl,G⟩
 have I:=Lh G
 clear G u
 go_wp2_with fail
 go_ret
 exact⟨by simp,I.out⟩
end
theorem cAdd_u64 {a b:Int} (ha:U64 a) (h:U64 b):U64 (Ck.cAdd a b):=by
 exact⟨Ck.cAdd_lo a b ha.1 h.1,Ck.cAdd_u a b⟩
section
variable {s:Ws} {N:List Int} {k:Nat}
end
end Go.Proofs.YtoiklelghfckgaaGreatDoor.Wo
end
