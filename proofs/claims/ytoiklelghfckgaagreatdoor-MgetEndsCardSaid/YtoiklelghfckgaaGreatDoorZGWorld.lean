/- A part of the claim: the texts World WorldB. -/
import Derived.Test.YtoiklelghfckgaaGreatDoorZGAw
import Derived.Test.YtoiklelghfckgaaGreatDoorZGFltE
import Derived.Test.YtoiklelghfckgaaGreatDoorZBase5
import Derived.Test.YtoiklelghfckgaaGreatDoorZBase1
set_option maxRecDepth 100000
set_option maxHeartbeats 8000000
set_option linter.unusedVariables false
namespace Go.Proofs.YtoiklelghfckgaaGreatDoor.Wo
open Go Go.ChangeShapes Go.WideShapes Go.ChangeAt Go.RowKit Go.Maps Rw Hi Mt Ba
open Cn (Cf cfE)
structure Wp where
 pw:Nat
 pb:Nat
 ab:Nat
 pl:Nat
 ps:Nat
 rs:Option Nat
 bk:Le.At
 bF:Nat
 mF:Nat
 pF:Nat
 ph:Nat
 rh:Option Nat
structure Ws where
 conf:Cf
 now:Int
 D:List (Int × Ex)
 S:List Int
 loc:Nat→List Int
 sl:List St.Sx
 leak:Int
 L:List (Int × Le.Ls)
 M:List (Int × Bool)
 T:List (Int × Int)
 O:List Bool
 P:List Bool
 n:Nat
 C:List Int
 step:Int
 ev:List Tx.Ev
 live:Int
 closed:Bool
structure Wc (w:World) (x:Wp) (s:Ws):Prop where
 c0:w.cell? ⟨x.pw,0,none⟩=some (.int .i64 s.conf.max)
 c1:w.cell? ⟨x.pw,1,none⟩=some (.int .i64 s.conf.min)
 c2:w.cell? ⟨x.pw,2,none⟩=some (.int .u64 s.conf.idle)
 c3:w.cell? ⟨x.pw,3,none⟩=some (.int .u64 s.conf.life)
 c4:w.cell? ⟨x.pw,4,none⟩=some (.int .u64 s.conf.keep)
 c5:w.cell? ⟨x.pw,5,none⟩=some (.int .u64 s.conf.leak)
 c6:w.cell? ⟨x.pw,6,none⟩=some (.float .f64 s.conf.var)
 c7:w.cell? ⟨x.pw,7,none⟩=some (.int .u64 s.now)
 c8:w.cell? ⟨x.pw,8,none⟩=some (ptr x.pb)
 c9:w.cell? ⟨x.pw,9,none⟩=some (ptr x.pl)
 c10:w.cell? ⟨x.pw,10,none⟩=some (ptr x.ps)
 c11:w.cell? ⟨x.pw,11,none⟩=some (ptr x.bk.p)
 c12:w.cell? ⟨x.pw,12,none⟩=some (ptr x.pF)
 c13:w.cell? ⟨x.pw,13,none⟩=some (ptr x.ph)
 c14:w.cell? ⟨x.pw,14,none⟩=some (.int .i64 s.live)
 c15:w.cell? ⟨x.pw,15,none⟩=some (.bool s.closed)
 fz:∀ o,w.frozen? ⟨x.pw,o,none⟩=false
structure Wo (base:Nat) (col:Nat→Nat) (w:World) (x:Wp) (s:Ws):Prop where
 cells:Wc w x s
 bag:Bx (fun g=>col g=1) (fun g=>col g=0∧base≤g) w x.pb x.ab s.D s.S
 loc:Lc.Lo (fun g=>(col g≠0∧col g≠2)∨g < base) w base x.pl s.loc
 slots:St.Ss w base x.ps x.rs s.sl
 book:Le.Bk w x.bk s.leak s.L s.M s.T
 fact:Fc.Fa w x.bF x.mF x.pF s.O s.P s.n s.C
 hist:Hi.Hs w base x.ph x.rh s.step s.ev
 kl:col x.pl=2
 ks:col x.ps=3 ∧ ∀ g,x.rs=some g→col g=3
 kb:col x.bk.p=4∧col x.bk.a=4∧col x.bk.b=4∧col x.bk.q=4∧col x.bk.m=4
 kf:∀ g,x.bF≤g→g≤x.pF→col g=5
 kh:col x.ph=6 ∧ ∀ g,x.rh=some g→col g=6
 kw:col x.pw=7
 lo:∀ g,col g≠0→base≤g
section
variable {base:Nat} {col:Nat→Nat} {w w':World} {x:Wp} {s:Ws}
theorem Wc.lt (h:Wc w x s):x.pw < w.heap.size:=Lw.lt_heap h.c0
theorem Wc.blk (h:Wc w x s) (u:w'.heap[x.pw]? = w.heap[x.pw]?):Wc w' x s:=
 ⟨(World.cell?_of_block (a:=⟨x.pw,0,none⟩) u).trans h.c0,(World.cell?_of_block (a:=⟨x.pw,1,none⟩) u).trans h.c1,(World.cell?_of_block (a:=⟨x.pw,2,none⟩) u).trans h.c2,(World.cell?_of_block (a:=⟨x.pw,3,none⟩) u).trans h.c3,(World.cell?_of_block (a:=⟨x.pw,4,none⟩) u).trans h.c4,(World.cell?_of_block (a:=⟨x.pw,5,none⟩) u).trans h.c5,(World.cell?_of_block (a:=⟨x.pw,6,none⟩) u).trans h.c6,(World.cell?_of_block (a:=⟨x.pw,7,none⟩) u).trans h.c7,(World.cell?_of_block (a:=⟨x.pw,8,none⟩) u).trans h.c8,(World.cell?_of_block (a:=⟨x.pw,9,none⟩) u).trans h.c9,(World.cell?_of_block (a:=⟨x.pw,10,none⟩) u).trans h.c10,(World.cell?_of_block (a:=⟨x.pw,11,none⟩) u).trans h.c11,(World.cell?_of_block (a:=⟨x.pw,12,none⟩) u).trans h.c12,(World.cell?_of_block (a:=⟨x.pw,13,none⟩) u).trans h.c13,(World.cell?_of_block (a:=⟨x.pw,14,none⟩) u).trans h.c14,(World.cell?_of_block (a:=⟨x.pw,15,none⟩) u).trans h.c15,fun o=>(World.frozen?_of_block (a:=⟨x.pw,o,none⟩) u).trans (h.fz o)⟩
theorem Wo.later (h:Wo base col w x s) (u:Below w.heap.size w w'):Wo base col w' x s:=
 ⟨h.cells.blk (u.block _ h.cells.lt),h.bag.later u,h.loc.later u,h.slots.later u,h.book.later u,h.fact.later u,h.hist.later u,h.kl,h.ks,h.kb,h.kf,h.kh,h.kw,h.lo⟩
end
section
variable (w:World) {base:Nat} {col:Nat→Nat} {x:Wp} {s:Ws}
theorem Wc.live (h:Wc w x s) (v:Int):Wc (w.setCell ⟨x.pw,14,none⟩ (.int .i64 v)) x { s with live:=v }:=by
 have k:∀ o u,o≠14→w.cell? ⟨x.pw,o,none⟩=some u→(w.setCell ⟨x.pw,14,none⟩ (.int .i64 v)).cell? ⟨x.pw,o,none⟩=some u:=fun o u F z=>(World.cell?_setCell_other _ _ _ _ (fun e=>by injection e with _ e _; omega)).trans z
 exact ⟨k 0 _ (by decide) h.c0,k 1 _ (by decide) h.c1,k 2 _ (by decide) h.c2,k 3 _ (by decide) h.c3,k 4 _ (by decide) h.c4,k 5 _ (by decide) h.c5,k 6 _ (by decide) h.c6,k 7 _ (by decide) h.c7,k 8 _ (by decide) h.c8,k 9 _ (by decide) h.c9,k 10 _ (by decide) h.c10,k 11 _ (by decide) h.c11,k 12 _ (by decide) h.c12,k 13 _ (by decide) h.c13,World.cell?_setCell_same _ _ _ h.c14,k 15 _ (by decide) h.c15,fun o=>by simpa using h.fz o⟩
end
def col8 (a b c d e f g h k:Nat):Nat:=if k < a then 0 else if k < b then 1 else if k < c then 2 else if k < d then 3 else if k < e then 4 else if k < f then 5 else if k < g then 6 else if k=h then 7 else 0
section
variable {a b c d e f g h k:Nat}
theorem col8_1 (u:a≤k) (z:k < b):col8 a b c d e f g h k=1:=by unfold col8; (repeat' split) <;> omega
theorem col8_2 (u:a≤b) (z:b≤k) (F:k < c):col8 a b c d e f g h k=2:=by unfold col8; (repeat' split) <;> omega
theorem col8_3 (u:a≤b) (z:b≤c) (F:c≤k) (G:k < d):col8 a b c d e f g h k=3:=by unfold col8; (repeat' split) <;> omega
theorem col8_4 (u:a≤b) (z:b≤c) (F:c≤d) (G:d≤k) (I:k < e):col8 a b c d e f g h k=4:=by unfold col8; (repeat' split) <;> omega
theorem col8_5 (u:a≤b) (z:b≤c) (F:c≤d) (J:d≤e) (G:e≤k) (I:k < f):col8 a b c d e f g h k=5:=by unfold col8; (repeat' split) <;> omega
theorem col8_6 (u:a≤b) (z:b≤c) (F:c≤d) (J:d≤e) (Q:e≤f) (G:f≤k) (I:k < g):col8 a b c d e f g h k=6:=by unfold col8; (repeat' split) <;> omega
theorem col8_7 (u:a≤b) (z:b≤c) (F:c≤d) (J:d≤e) (Q:e≤f) (W:f≤g) (G:k=g) (I:k=h):col8 a b c d e f g h k=7:=by unfold col8; (repeat' split) <;> omega
theorem col8_lo (u:col8 a b c d e f g h k≠0):a≤k:=by unfold col8 at u; split at u <;> omega
theorem col8_x (hc:b≤c) (u:col8 a b c d e f g h k≠0∧col8 a b c d e f g h k≠2):(a≤k∧k < b)∨c≤k:=by
 have z:=col8_lo u.1
 by_cases h3:k < b
 ·exact .inl ⟨z,h3⟩
 ·by_cases h4:k < c
  ·exfalso
   refine u.2 ?_
   unfold col8; (repeat' split) <;> omega
  ·exact .inr (by omega)
end
theorem at0 (w:World):Calls Tryz.prog 56 #[.int .u64 0] w fun e w'=>e=.returned (.agg #[.int .u64 0])∧Below w.heap.size w w':=
 (Ck.at_any 0 w (by decide) (by decide)).mono fun e w' ⟨u,z⟩=>⟨u,z ▸ (Below.refl _ _).alloc (Nat.le_refl _) _⟩
theorem new_ok (c:Cf) (hc:c.ok) (h0:cfE c=0) (A A':Option Addr) (k cp B k' a1 B':Nat) (O P:List Bool) (w:World) (hO:Rd Value.bool w B A k cp O) (hP:Rd Value.bool w B' A' k' a1 P) (hB:B≤w.heap.size) (a2:B'≤w.heap.size) (hk:k≤1000) (aa:k'≤1000) :
  Calls Tryz.prog 29 #[c.v,.slice A k cp,.slice A' k' a1] w fun e w'=>∃ (x:Wp) (col:Nat→Nat),e=.returned (.tuple #[ptr x.pw,.int .i64 0]) ∧
   Wo w.heap.size col w' x ⟨c,0,[],[],fun _=>[],[],c.leak,[],[],[],O,P,0,[],0,[],0,false⟩∧Below w.heap.size w w':=by
 have HC:=Lh hc
 have a0:=Lh (Cn.ccheck_any c hc (w.alloc (.cells #[.int .i64 c.max,.int .i64 c.min,.int .u64 c.idle,.int .u64 c.life,.int .u64 c.keep,.int .u64 c.leak,.float .f64 c.var] 50)))
 rw [h0] at a0
 have HO:=Lh hO
 have HP:=Lh hP
 have a4:=Lh hB
 have a5:=Lh a2
 clear h0 hc hO hP
 go_enter Tryz.func29,Tryz.ntmps29
 go_wp2_with fail
 refine a0.out.mono ?_
 rintro e w1 ⟨rfl,b1⟩
 have a3:Below w.heap.size w (w.alloc (.cells #[.int .i64 c.max,.int .i64 c.min,.int .u64 c.idle,.int .u64 c.life,.int .u64 c.keep,.int .u64 c.leak,.float .f64 c.var] 50)):=(Below.refl _ w).alloc (Nat.le_refl _) _
 have G:=Lh (a3.trans (b1.mono a3.size))
 have a8:=Lh (G.out.mono hB)
 have a9:=Lh (G.out.mono a2)
 have a7:w.heap.size < w1.heap.size:=by have:=b1.size; simp at this; omega
 have V0:=Lh ((b1.cell (p:=⟨w.heap.size,0,none⟩) (by simp)).trans (show _=some (.int .i64 c.max) by go_simp))
 have V1:=Lh ((b1.cell (p:=⟨w.heap.size,1,none⟩) (by simp)).trans (show _=some (.int .i64 c.min) by go_simp))
 have V2:=Lh ((b1.cell (p:=⟨w.heap.size,2,none⟩) (by simp)).trans (show _=some (.int .u64 c.idle) by go_simp))
 have V3:=Lh ((b1.cell (p:=⟨w.heap.size,3,none⟩) (by simp)).trans (show _=some (.int .u64 c.life) by go_simp))
 have V4:=Lh ((b1.cell (p:=⟨w.heap.size,4,none⟩) (by simp)).trans (show _=some (.int .u64 c.keep) by go_simp))
 have V5:=Lh ((b1.cell (p:=⟨w.heap.size,5,none⟩) (by simp)).trans (show _=some (.int .u64 c.leak) by go_simp))
 have V6:=Lh ((b1.cell (p:=⟨w.heap.size,6,none⟩) (by simp)).trans (show _=some (.float .f64 c.var) by go_simp))
 have Q:=Lh a7
 clear b1 a3 a0
 go_wp2_with fail
 clear a7 hB a2
 have u:Hid (Below w1.heap.size w1 w1.drew):=Lh (Below.refl _ _).drew
 refine reg_start 16 (fun w'=>Below w1.heap.size w1 w') (by kernel_rfl) (by kernel_rfl) ?_
 intro a6
 have W:=Lh a6
 clear a6
 refine rq 0 W.out u.out rfl ?_ (hv:=fun w' hw=>by (have k0:=(hw.cell (p:=⟨w.heap.size,0,none⟩) Q.out).trans V0.out; have k1:=(hw.cell (p:=⟨w.heap.size,1,none⟩) Q.out).trans V1.out; have k2:=(hw.cell (p:=⟨w.heap.size,2,none⟩) Q.out).trans V2.out; have k3:=(hw.cell (p:=⟨w.heap.size,3,none⟩) Q.out).trans V3.out; have k4:=(hw.cell (p:=⟨w.heap.size,4,none⟩) Q.out).trans V4.out; have k5:=(hw.cell (p:=⟨w.heap.size,5,none⟩) Q.out).trans V5.out; have k6:=(hw.cell (p:=⟨w.heap.size,6,none⟩) Q.out).trans V6.out; go_simp; exact rfl))
 refine rq 5 W.out u.out rfl ?_
 refine rq 6 W.out u.out rfl ?_ (hv:=fun w' hw=>by (have k5:=(hw.cell (p:=⟨w.heap.size,5,none⟩) Q.out).trans V5.out; go_simp; exact rfl))
 refine rq 8 W.out u.out rfl ?_
 refine rq 9 W.out u.out rfl ?_
 refine reg_only 1 rfl (by kernel_rfl) rfl ?_
 unfold Oper.wp
 go_simp
 refine (at0 _).mono ?_
 rintro e J ⟨rfl,b2⟩
 have z:=u.out.trans (b2.mono u.out.size)
 refine ⟨z,?_⟩
 have ad:=u
 clear u
 have u:=Lh z
 clear z
 refine reg_only 2 rfl (by kernel_rfl) rfl ?_
 unfold Oper.wp
 go_simp
 refine (bnew_any J).mono ?_
 rintro e w3 ⟨rfl,h3,b3⟩
 have z:=u.out.trans (b3.mono u.out.size)
 refine ⟨z,?_⟩
 have ae:=u
 clear u
 have u:=Lh z
 clear z
 refine reg_only 3 rfl (by kernel_rfl) rfl ?_
 unfold Oper.wp
 go_simp
 refine (Lc.new_any (fun g=>g < w3.heap.size) w3 w.heap.size (Nat.le_trans G.out.size u.out.size) (fun g F=>F)).mono ?_
 rintro e w4 ⟨pl,rfl,h4,l4,b4⟩
 have z:=u.out.trans (b4.mono u.out.size)
 refine ⟨z,?_⟩
 have af:=u
 clear u
 have u:=Lh z
 clear z
 refine reg_only 4 rfl (by kernel_rfl) rfl ?_
 unfold Oper.wp
 go_simp
 refine (St.new_any w4 w.heap.size (Nat.le_trans G.out.size u.out.size)).mono ?_
 rintro e w5 ⟨ps,rfl,h5,l5,b5⟩
 have z:=u.out.trans (b5.mono u.out.size)
 refine ⟨z,?_⟩
 have ag:=u
 clear u
 have u:=Lh z
 clear z
 refine reg_only 7 rfl (by kernel_rfl) rfl ?_
 unfold Oper.wp
 go_simp
 refine (Le.new_any w5 c.leak).mono ?_
 rintro e w6 ⟨xk,rfl,h6,b6,lp,la,lb,lq,lm⟩
 have z:=u.out.trans (b6.mono u.out.size)
 refine ⟨z,?_⟩
 have ah:=u
 clear u
 have u:=Lh z
 clear z
 refine reg_only 10 rfl (by kernel_rfl) rfl ?_
 unfold Oper.wp
 go_simp
 refine (Fc.new_any A k cp B O A' k' a1 B' P w6 (HO.out.below (a8.out.trans (u.out.mono (Nat.le_trans a4.out G.out.size)))) (HP.out.below (a9.out.trans (u.out.mono (Nat.le_trans a5.out G.out.size)))) (Nat.le_trans a4.out (Nat.le_trans G.out.size u.out.size)) (Nat.le_trans a5.out (Nat.le_trans G.out.size u.out.size)) hk aa).mono ?_
 rintro e w7 ⟨mF,pF,rfl,h7,b7⟩
 have z:=u.out.trans (b7.mono u.out.size)
 refine ⟨z,?_⟩
 have ai:=u
 clear u
 have u:=Lh z
 clear z
 refine reg_only 11 rfl (by kernel_rfl) rfl ?_
 unfold Oper.wp
 go_simp
 refine (Hi.new_any w7 w.heap.size (Nat.le_trans G.out.size u.out.size)).mono ?_
 rintro e I ⟨ph,rfl,h8,l8,b8⟩
 have z:=u.out.trans (b8.mono u.out.size)
 refine ⟨z,?_⟩
 have aj:=u
 clear u
 have u:=Lh z
 clear z
 refine rq 12 W.out u.out rfl ?_
 refine reg_only 13 rfl (by kernel_rfl) rfl ?_
 unfold Oper.wp
 go_simp
 have z:=u.out.alloc u.out.size (.cells #[.int .i64 c.max,.int .i64 c.min,.int .u64 c.idle,.int .u64 c.life,.int .u64 c.keep,.int .u64 c.leak,.float .f64 c.var,.int .u64 0,ptr (J.heap.size+1),ptr pl,ptr ps,ptr xk.p,ptr pF,ptr ph,.int .i64 0,.bool false] 60)
 refine ⟨z,?_⟩
 have ac:=u
 clear u
 have u:=Lh z
 clear z
 refine rq 14 W.out u.out rfl ?_
 refine rq 15 W.out u.out rfl ?_
 refine reg_done (by kernel_rfl) ?_
 go_wp2_with fail
 go_ret2
 have t8:Below I.heap.size I (I.alloc (.cells #[.int .i64 c.max,.int .i64 c.min,.int .u64 c.idle,.int .u64 c.life,.int .u64 c.keep,.int .u64 c.leak,.float .f64 c.var,.int .u64 0,ptr (J.heap.size+1),ptr pl,ptr ps,ptr xk.p,ptr pF,ptr ph,.int .i64 0,.bool false] 60)):=(Below.refl _ _).alloc (Nat.le_refl _) _
 have t7:=b8.trans (t8.mono b8.size)
 have t6:=b7.trans (t7.mono b7.size)
 have t5:=b6.trans (t6.mono b6.size)
 have t4:=b5.trans (t5.mono b5.size)
 have t3:=b4.trans (t4.mono b4.size)
 have z1:=G.out.size
 have z2:w1.heap.size≤J.heap.size:=b2.size
 have z3:=b3.size
 have z4:=b4.size
 have Y:=b5.size
 have z6:=b6.size
 have z7:=b7.size
 have z8:=b8.size
 have y3:=h3.lt
 have y4:=h4.lt
 have y5:=h5.lt
 have y6:=h6.lt
 have y7:=h7.in_
 have ak:=h7.lo
 have al:=h7.lt
 have y8:=h8.lt
 have hX:∀ g,((col8 J.heap.size w3.heap.size w4.heap.size w5.heap.size w6.heap.size w7.heap.size I.heap.size I.heap.size g≠0∧col8 J.heap.size w3.heap.size w4.heap.size w5.heap.size w6.heap.size w7.heap.size I.heap.size I.heap.size g≠2)∨g < w.heap.size)→g < w3.heap.size∨w4.heap.size≤g:=fun g F=>by
  rcases F with F | F
  ·rcases col8_x z4 F with h | h
   ·exact .inl h.2
   ·exact .inr h
  ·exact .inl (by omega)
 refine ⟨⟨I.heap.size,J.heap.size+1,J.heap.size,pl,ps,none,xk,w6.heap.size,mF,pF,ph,none⟩,col8 J.heap.size w3.heap.size w4.heap.size w5.heap.size w6.heap.size w7.heap.size I.heap.size I.heap.size,rfl,⟨?_,?_,?_,?_,?_,?_,?_,?_,?_,?_,?_,?_,?_,?_⟩,?_⟩
 ·refine ⟨?_,?_,?_,?_,?_,?_,?_,?_,?_,?_,?_,?_,?_,?_,?_,?_,?_⟩
  all_goals (first | (go_simp; done) | (intro o; simp [World.frozen?]))
 ·exact (h3.mono (fun g F hc=>col8_1 hc F) (fun g _ h=>h.elim) (fun g h1 h2=>by rw [h1] at h2; cases h2.1)).later t3
 ·exact (h4.shun hX).later t4
 ·exact h5.later t5
 ·exact h6.later t6
 ·exact h7.later t7
 ·exact h8.later t8
 ·exact col8_2 z3 l4 y4
 ·exact ⟨col8_3 z3 z4 l5 y5,fun g F=>by cases F⟩
 ·exact ⟨col8_4 z3 z4 Y lp y6.1,col8_4 z3 z4 Y la y6.2.1,col8_4 z3 z4 Y lb y6.2.2.1,col8_4 z3 z4 Y lq y6.2.2.2.1,col8_4 z3 z4 Y lm y6.2.2.2.2⟩
 ·exact fun g h1 h2=>col8_5 z3 z4 Y z6 h1 (by have h2:g≤pF:=h2; omega)
 ·exact ⟨col8_6 z3 z4 Y z6 z7 l8 y8,fun g F=>by cases F⟩
 ·exact col8_7 z3 z4 Y z6 z7 z8 rfl rfl
 ·exact fun g F=>by have:=col8_lo F; omega
 ·exact G.out.trans (u.out.mono z1)
section
variable {base:Nat} {col:Nat→Nat} {w w':World} {x:Wp} {s:Ws} {i:Nat}
theorem lo_aside {X:Nat→Prop} {B p:Nat} {L:Nat→List Int} {D:Nat→Prop} (h:Lc.Lo X w B p L) (J:Fz D w w') (Y:∀ g,D g→X g):Lc.Lo X w' B p L:=by
 have hk:∀ g,g < w.heap.size → ¬ X g→w'.heap[g]? = w.heap[g]?:=fun g F u=>J.block g F (fun e=>u (Y g e))
 have W:=hk p h.lt h.px
 refine ⟨fun j I=>?_,h.len,fun j I=>(World.frozen?_of_block (a:=⟨p,j,none⟩) W).trans (h.free j I),h.lo,h.px⟩
 obtain ⟨A,n,c,F,u,G⟩:=h.at_ j I
 refine ⟨A,n,c,(World.cell?_of_block (a:=⟨p,j,none⟩) W).trans F,rd_blk u J.size fun hn b o e=>?_,fun g Q=>⟨Nat.lt_of_lt_of_le (G g Q).1 J.size,(G g Q).2⟩⟩
 have:=G b (by subst e; obtain ⟨b',o',z,_,_⟩:=u.at_ hn; injection z with z; injection z with e1 e2; rfl)
 exact hk b this.1 this.2
theorem Wo.bag_aside (h:Wo base col w x s) (z:Fz (fun g=>col g=i) w w') (F:i≠0) (G:i≠1):Bx (fun g=>col g=1) (fun g=>col g=0∧base≤g) w' x.pb x.ab s.D s.S:=
 h.bag.aside z (fun g u e=>by rcases u with u | u <;> omega)
theorem Wo.loc_aside (h:Wo base col w x s) (u:Fz (fun g=>col g=i) w w') (z:i≠0) (F:i≠2):Lc.Lo (fun g=>(col g≠0∧col g≠2)∨g < base) w' base x.pl s.loc:=
 lo_aside h.loc u (fun g G=>.inl ⟨by omega,by omega⟩)
theorem Wo.slots_aside (h:Wo base col w x s) (z:Fz (fun g=>col g=i) w w') (F:i≠3):St.Ss w' base x.ps x.rs s.sl:=
 h.slots.same (z.block _ h.slots.lt (fun e=>by have:=h.ks.1; omega)) (fun g u=>z.block g (h.slots.rowlt g u).2 (fun e=>by have:=h.ks.2 g u; omega))
theorem Wo.book_aside (h:Wo base col w x s) (u:Fz (fun g=>col g=i) w w') (Q:i≠4):Le.Bk w' x.bk s.leak s.L s.M s.T:=by
 obtain ⟨k1,k2,k3,W,Y⟩:=h.kb
 obtain ⟨z,F,G,I,J⟩:=h.book.lt
 exact h.book.same (u.block _ z (fun e=>by omega)) (u.block _ F (fun e=>by omega)) (u.block _ G (fun e=>by omega)) (u.block _ I (fun e=>by omega)) (u.block _ J (fun e=>by omega))
theorem Wo.fact_aside (h:Wo base col w x s) (F:Fz (fun g=>col g=i) w w') (G:i≠5):Fc.Fa w' x.bF x.mF x.pF s.O s.P s.n s.C:=
 h.fact.same fun g u z=>F.block g (by have:=h.fact.in_; omega) (fun e=>by have:=h.kf g u z; omega)
theorem Wo.hist_aside (h:Wo base col w x s) (z:Fz (fun g=>col g=i) w w') (F:i≠6):Hi.Hs w' base x.ph x.rh s.step s.ev:=
 h.hist.same (z.block _ h.hist.lt (fun e=>by have:=h.kh.1; omega)) (fun g u=>z.block g (h.hist.row g u).2 (fun e=>by have:=h.kh.2 g u; omega))
theorem Wo.cells_aside (h:Wo base col w x s) (u:Fz (fun g=>col g=i) w w') (z:i≠7):Wc w' x s:=
 h.cells.blk (u.block _ h.cells.lt (fun e=>by have:=h.kw; omega))
theorem Wo.own_ (h:Wo base col w x s) (cf:Cf) (nw lv:Int) (cl:Bool) (hc:Wc w' x { s with conf:=cf,now:=nw,live:=lv,closed:=cl }) (u:Fz (fun g=>col g=7) w w'):Wo base col w' x { s with conf:=cf,now:=nw,live:=lv,closed:=cl }:=
 ⟨hc,h.bag_aside u (by decide) (by decide),h.loc_aside u (by decide) (by decide),h.slots_aside u (by decide),h.book_aside u (by decide),h.fact_aside u (by decide),h.hist_aside u (by decide),h.kl,h.ks,h.kb,h.kf,h.kh,h.kw,h.lo⟩
end
section
variable (w:World) {base:Nat} {col:Nat→Nat} {x:Wp} {s:Ws}
theorem grow_nil:Calls Tryz.prog 68 #[.pointer none] w fun e w'=>e=.returned (.bool false)∧Below w.heap.size w w':=by
 go_enter Tryz.func68,Tryz.ntmps68
 go_wp2_with fail
 refine region_after (by kernel_rfl) (by kernel_rfl) ?_
 repeat (go_big_quiet_step (fail))
 refine wpQuiet_nil ?_
 rintro F ⟨⟨_,u⟩,rfl⟩
 have z:=Lh u
 clear u
 go_wp2_with fail
 go_ret
 exact ⟨rfl,z.out⟩
theorem grow_any (h:Wo base col w x s) (Q:0≤s.live) (hm:s.conf.max≤1000000):Calls Tryz.prog 68 #[ptr x.pw] w fun e w'=>e=.returned (.bool (decide (s.live < s.conf.max))) ∧
   Wo base col w' x { s with live:=if s.live < s.conf.max then s.live+1 else s.live } ∧ Fz (fun g=>col g=7) w w':=by
 have c0:=h.cells.c0
 have c14:=h.cells.c14
 have W:∀ y:After w,y.1.cell? ⟨x.pw,0,none⟩=some (.int .i64 s.conf.max):=fun y=>y.cell c0
 have Y:∀ y:After w,y.1.cell? ⟨x.pw,14,none⟩=some (.int .i64 s.live):=fun y=>y.cell c14
 have J:=Lh h
 by_cases hl:s.live < s.conf.max
 ·have I:decide (s.live < s.conf.max)=true:=decide_eq_true hl
  have q2:decide (s.conf.max≤s.live)=false:=decide_eq_false (by omega)
  have a2:IntKind.i64.wrap (s.live+1)=s.live+1:=by rw [IntKind.wrap_i64]; omega
  rw [if_pos hl,I]
  clear h hl Q hm
  go_enter Tryz.func68,Tryz.ntmps68
  go_wp2_with fail
  refine region_after (by kernel_rfl) (by kernel_rfl) ?_
  repeat (go_big_quiet_step (fail))
  refine wpQuiet_nil ?_
  rintro F ⟨⟨_,z⟩,rfl⟩
  have u:=Lh (J.out.later z)
  have G:=Lh z
  have a0:=u.out.cells.c14
  have a1:=u.out.cells.fz 14
  clear z W Y c0 c14
  go_wp2_with fail
  go_ret
  have hz:Fz (fun g=>col g=7) F (F.setCell ⟨x.pw,14,none⟩ (.int .i64 (s.live+1))):=Fz.of_set _ u.out.kw
  exact ⟨rfl,u.out.own_ s.conf s.now (s.live+1) s.closed (u.out.cells.live F (s.live+1)) hz,(Fz.of_below G.out).trans hz⟩
 ·have I:decide (s.live < s.conf.max)=false:=decide_eq_false hl
  have q2:decide (s.conf.max≤s.live)=true:=decide_eq_true (by omega)
  rw [if_neg hl,I]
  clear h hl Q hm
  go_enter Tryz.func68,Tryz.ntmps68
  go_wp2_with fail
  refine region_after (by kernel_rfl) (by kernel_rfl) ?_
  repeat (go_big_quiet_step (fail))
  refine wpQuiet_nil ?_
  rintro F ⟨⟨_,z⟩,rfl⟩
  have u:=Lh (J.out.later z)
  have G:=Lh z
  clear z W Y c0 c14
  go_wp2_with fail
  go_ret
  exact ⟨rfl,u.out,Fz.of_below G.out⟩
end
end Go.Proofs.YtoiklelghfckgaaGreatDoor.Wo
