/- A part of the claim: the texts DueW WClone WPlaysKit WPlaysLong. -/
import Derived.Test.YtaeemilldmhbnaaGreatDoorXGDue
import Derived.Test.YtaeemilldmhbnaaGreatDoorXGWorldC
import Derived.Test.YtaeemilldmhbnaaGreatDoorXGDocW
import Derived.Test.YtaeemilldmhbnaaGreatDoorXBase1
import Derived.Test.YtaeemilldmhbnaaGreatDoorXGWorld
import Derived.Test.YtaeemilldmhbnaaGreatDoorXGClone
import Derived.Test.YtaeemilldmhbnaaGreatDoorXGTold
import Derived.Test.YtaeemilldmhbnaaGreatDoorXPlayT6
import Derived.Test.YtaeemilldmhbnaaGreatDoorXPlayT7
import Derived.Test.YtaeemilldmhbnaaGreatDoorXTold16
import Derived.Test.YtaeemilldmhbnaaGreatDoorXGAwK
set_option maxRecDepth 100000
set_option maxHeartbeats 8000000
set_option linter.unusedVariables false
namespace Go.Proofs.YtaeemilldmhbnaaGreatDoor.Wo
open Go Go.ChangeShapes Go.WideShapes Go.ChangeAt Go.RowKit Go.Maps Rw Hi Mt Ba
open Cn (Cf cfE)
def dueW (s:Ws) (id:Int):Int:=match fnd s.D id with
 | none=>0
 | some y=>Cn.dueC s.conf id s.now y.born y.since y.proved s.live s.closed
section
variable (w:World) {base:Nat} {col:Nat→Nat} {x:Wp} {s:Ws} {N:List Int}
theorem wdue_any (h:Wv base col w x s) (hc:Cn.okC s.conf) (a6:U64 s.now) (id:Int) (hid:U64 id) :
  Calls Tryz.prog 16 #[ptr x.pw,.int .u64 id] w fun e w'=>e=.returned (.int .i64 (dueW s id))∧Below w.heap.size w w':=by
 have G:=entry_any w x.pb x.ab s.D s.S id h.bag hid
 have HW:=Lh h
 have c8:=h.cells.c8
 unfold dueW
 cases hf:fnd s.D id with
 | none=>
  have W:bE s.D id=.agg #[.int .u64 0,.int .u64 0,.int .u64 0,.int .u64 0,.int .u64 0]:=by unfold bE; rw [hf]
  have G:=Lh G
  rw [W,hf] at G
  simp only []
  clear h hc hf W
  go_enter Tryz.func16,Tryz.ntmps16
  go_wp2_with fail
  refine G.out.mono ?_
  rintro e F ⟨rfl,b1⟩
  have J:=Lh b1
  clear b1 G c8
  go_wp2_with fail
  go_ret
  exact ⟨rfl,J.out.trans (((Below.refl _ _).alloc (Nat.le_refl _) _).mono J.out.size)⟩
 | some y=>
  have hm:=fnd_some hf
  have Y:=h.bag.ui _ hm
  have W:bE s.D id=.agg #[.int .u64 id,.int .u64 y.word,.int .u64 y.born,.int .u64 y.since,.int .u64 y.proved]:=by unfold bE; rw [hf]
  have G:=Lh G
  rw [W,hf] at G
  simp only []
  have a3:=Lh (fun w=>Cn.cdue_any s.conf hc id s.now y.born y.since y.proved s.live s.closed hid a6 Y.2.2.1 Y.2.2.2.1 Y.2.2.2.2 w)
  generalize Cn.dueC s.conf id s.now y.born y.since y.proved s.live s.closed=dv at *
  clear h hc hf W hm Y
  go_enter Tryz.func16,Tryz.ntmps16
  go_wp2_with fail
  refine G.out.mono ?_
  rintro e F ⟨rfl,b1⟩
  have a2:=Lh (HW.out.later b1)
  have J:=Lh b1
  clear b1 G c8 HW
  go_upto_region 4 with (fail)
  have v2:(F.alloc (.cells #[.int .u64 id,.int .u64 y.word,.int .u64 y.born,.int .u64 y.since,.int .u64 y.proved] 155)).cell? ⟨F.heap.size,2,none⟩=some (.int .u64 y.born):=by go_simp
  have v3:(F.alloc (.cells #[.int .u64 id,.int .u64 y.word,.int .u64 y.born,.int .u64 y.since,.int .u64 y.proved] 155)).cell? ⟨F.heap.size,3,none⟩=some (.int .u64 y.since):=by go_simp
  have v4:(F.alloc (.cells #[.int .u64 id,.int .u64 y.word,.int .u64 y.born,.int .u64 y.since,.int .u64 y.proved] 155)).cell? ⟨F.heap.size,4,none⟩=some (.int .u64 y.proved):=by go_simp
  have a0:Below F.heap.size F (F.alloc (.cells #[.int .u64 id,.int .u64 y.word,.int .u64 y.born,.int .u64 y.since,.int .u64 y.proved] 155)):=(Below.refl _ _).alloc (Nat.le_refl _) _
  have I:=Lh (a2.out.later a0)
  have a1:=Lh (J.out.trans (a0.mono J.out.size))
  clear a0 a2 J
  generalize (F.alloc (.cells #[.int .u64 id,.int .u64 y.word,.int .u64 y.born,.int .u64 y.since,.int .u64 y.proved] 155))=z at *
  generalize F.heap.size=q at *
  have i0:∀ u:After z,u.1.cell? ⟨x.pw,0,none⟩=some (.int .i64 s.conf.max):=fun u=>u.cell I.out.cells.c0
  have i1:∀ u:After z,u.1.cell? ⟨x.pw,1,none⟩=some (.int .i64 s.conf.min):=fun u=>u.cell I.out.cells.c1
  have i2:∀ u:After z,u.1.cell? ⟨x.pw,2,none⟩=some (.int .u64 s.conf.idle):=fun u=>u.cell I.out.cells.c2
  have i3:∀ u:After z,u.1.cell? ⟨x.pw,3,none⟩=some (.int .u64 s.conf.life):=fun u=>u.cell I.out.cells.c3
  have i4:∀ u:After z,u.1.cell? ⟨x.pw,4,none⟩=some (.int .u64 s.conf.keep):=fun u=>u.cell I.out.cells.c4
  have i5:∀ u:After z,u.1.cell? ⟨x.pw,5,none⟩=some (.int .u64 s.conf.leak):=fun u=>u.cell I.out.cells.c5
  have i6:∀ u:After z,u.1.cell? ⟨x.pw,6,none⟩=some (.float .f64 s.conf.var):=fun u=>u.cell I.out.cells.c6
  have a7:∀ u:After z,u.1.cell? ⟨x.pw,14,none⟩=some (.int .i64 s.live):=fun u=>u.cell I.out.cells.c14
  have a8:∀ u:After z,u.1.cell? ⟨x.pw,15,none⟩=some (.bool s.closed):=fun u=>u.cell I.out.cells.c15
  have j2:∀ u:After z,u.1.cell? ⟨q,2,none⟩=some (.int .u64 y.born):=fun u=>u.cell v2
  have j3:∀ u:After z,u.1.cell? ⟨q,3,none⟩=some (.int .u64 y.since):=fun u=>u.cell v3
  have j4:∀ u:After z,u.1.cell? ⟨q,4,none⟩=some (.int .u64 y.proved):=fun u=>u.cell v4
  have a4:Hid (∀ u:After z,Calls Tryz.prog 56 #[ptr x.pw] u.1 fun e w'=>e=.returned (.int .u64 s.now)∧Below u.1.heap.size u.1 w'):=Lh (fun u=>wnow_any u.1 (I.out.later u.2).cells)
  clear v2 v3 v4
  go_wp2_with fail
  refine region_after (by kernel_rfl) (by kernel_rfl) ?_
  repeat (go_big_quiet_step (first
   | (go_at_call 56; exact After.call (a4.out _))
   | (go_at_call 83; exact After.call (a3.out _))))
  refine wpQuiet_nil ?_
  rintro W3 ⟨⟨_,a5⟩,rfl⟩
  clear i0 i1 i2 i3 i4 i5 i6 a7 a8 j2 j3 j4
  go_wp2_with fail
  go_ret
  exact ⟨rfl,a1.out.trans (a5.mono a1.out.size)⟩
theorem ddue_any {K:Nat→Prop} (v:Dv) (h:Dw K w v s N) (hc:Cn.okC s.conf) (ae:U64 s.now) (id:Int) (hid:U64 id) (hn:s.D.length≤1000) (hu:∀ p∈s.D,U64 p.2.born∧U64 p.2.since∧U64 p.2.proved) :
  Calls Tryz.prog 17 #[v.val s,.int .u64 id] w fun e w'=>e=.returned (.int .i64 (dueW s id))∧Below w.heap.size w w':=by
 obtain ⟨W1,ad,V1,B1,S1⟩:=box_w (v.cells s) w rfl
 have a2:=Lh (h.later B1)
 have ac:=Lh V1
 have a3:=Lh B1
 have u:=rfind_any v.b.A v.b.A2 v.b.n v.b.c v.b.n2 v.b.c2 _ s.D W1 id a2.out.bag.l (Nat.le_refl _) (by have:=a2.out.bag.l.len; omega)
 have f8:=V1.cell 8 _ rfl
 have f9:=V1.cell 9 _ rfl
 clear V1 B1 h
 unfold dueW
 rcases fx_cases s.D id with ⟨I,e2⟩ | ⟨k,y,I,-,e2,e3⟩
 ·rw [e2] at u
  rw [I]
  have u:=Lh u
  simp only []
  clear I e2 hu hc
  go_enter Tryz.func17,Tryz.ntmps17
  go_wp2_with fail
  refine u.out.mono ?_
  rintro e w2 ⟨rfl,z⟩
  have a0:=Lh (a3.out.trans (z.mono a3.out.size))
  clear z u
  go_wp2_with fail
  go_ret
  exact ⟨rfl,a0.out⟩
 ·rw [e2] at u
  rw [e3]
  have u:=Lh u
  simp only []
  obtain ⟨a6,a7,W⟩:=hu _ (List.mem_of_getElem? I)
  have aa:=Lh (fun w=>Cn.rcdue_any s.conf hc id s.now y.born y.since y.proved s.live s.closed hid ae a6 a7 W w)
  have hk:k < v.b.n:=by
   have:=a2.out.bag.l.len
   have:=(List.getElem?_eq_some_iff.1 I).1
   omega
  generalize Cn.dueC s.conf id s.now y.born y.since y.proved s.live s.closed=dv at *
  obtain ⟨b,o,i0,Y,G,J,pr,hA,a8,hx,g0,g1,g2,g3,g4⟩:=five_at a2.out.bag.l hk
  rw [I] at hx
  obtain ⟨rfl,rfl⟩:id=i0∧y=⟨Y,G,J,pr⟩:=by simpa using hx
  have HG:=Lh (And.intro g0 (And.intro g1 (And.intro g2 (And.intro g3 g4))))
  have a1:=Lh a8
  rw [hA] at f8 u
  clear I e2 e3 hu hc a6 a7 W g0 g1 g2 g3 g4 hx a8 a2
  go_enter Tryz.func17,Tryz.ntmps17
  go_upto_region 1 with (fail)
  clear ad
  go_wp2_with fail
  refine u.out.mono ?_
  rintro e w2 ⟨rfl,z⟩
  have a4:=Lh (ac.out.later z)
  have a0:=Lh (a3.out.trans (z.mono a3.out.size))
  obtain ⟨g0,g1,g2,g3,g4⟩:=HG.out
  have m0:=(z.cell (p:=⟨b,o+k * 5,none⟩) a1.out).trans g0
  have m1:=(z.cell (p:=⟨b,o+k * 5+1,none⟩) a1.out).trans g1
  have m2:=(z.cell (p:=⟨b,o+k * 5+2,none⟩) a1.out).trans g2
  have m3:=(z.cell (p:=⟨b,o+k * 5+3,none⟩) a1.out).trans g3
  have m4:=(z.cell (p:=⟨b,o+k * 5+4,none⟩) a1.out).trans g4
  have f8:=a4.out.cell 8 _ rfl
  rw [hA] at f8
  clear z u g0 g1 g2 g3 g4 HG f9
  go_upto_region 5 with (fail)
  have v2:(w2.alloc (.cells #[.int .u64 id,.int .u64 Y,.int .u64 G,.int .u64 J,.int .u64 pr] 163)).cell? ⟨w2.heap.size,2,none⟩=some (.int .u64 G):=by go_simp
  have v3:(w2.alloc (.cells #[.int .u64 id,.int .u64 Y,.int .u64 G,.int .u64 J,.int .u64 pr] 163)).cell? ⟨w2.heap.size,3,none⟩=some (.int .u64 J):=by go_simp
  have v4:(w2.alloc (.cells #[.int .u64 id,.int .u64 Y,.int .u64 G,.int .u64 J,.int .u64 pr] 163)).cell? ⟨w2.heap.size,4,none⟩=some (.int .u64 pr):=by go_simp
  have W:Below w2.heap.size w2 (w2.alloc (.cells #[.int .u64 id,.int .u64 Y,.int .u64 G,.int .u64 J,.int .u64 pr] 163)):=(Below.refl _ _).alloc (Nat.le_refl _) _
  have F:=Lh (a4.out.later W)
  have a5:=Lh (a0.out.trans (W.mono a0.out.size))
  clear W a4 a0 m0 m1 m2 m3 m4 f8
  generalize (w2.alloc (.cells #[.int .u64 id,.int .u64 Y,.int .u64 G,.int .u64 J,.int .u64 pr] 163))=W3 at *
  generalize w2.heap.size=q at *
  have n0:=F.out.cell 0 _ rfl
  have n1:=F.out.cell 1 _ rfl
  have n2:=F.out.cell 2 _ rfl
  have n3:=F.out.cell 3 _ rfl
  have n4:=F.out.cell 4 _ rfl
  have n5:=F.out.cell 5 _ rfl
  have n6:=F.out.cell 6 _ rfl
  have n7:=F.out.cell 7 _ rfl
  have af:=F.out.cell 21 _ rfl
  have ag:=F.out.cell 22 _ rfl
  go_wp2_with fail
  refine (aa.out _).mono ?_
  rintro e w4 ⟨rfl,b4⟩
  have a9:=Lh (a5.out.trans (b4.mono a5.out.size))
  clear b4
  go_wp2_with fail
  go_ret
  exact ⟨rfl,a9.out⟩
end
theorem col8_hi {a b c d e f g h k:Nat} (z1:a≤b) (z2:b≤c) (z3:c≤d) (z4:d≤e) (z:e≤f) (F:f≤g) (u:col8 a b c d e f g h k≠0):k < g∨k=h:=by
 by_cases h2:k < g
 ·exact .inl h2
 ·by_cases h3:k=h
  ·exact .inr h3
  ·exact absurd (by unfold col8; rw [if_neg (by omega),if_neg (by omega),if_neg (by omega),if_neg (by omega),if_neg (by omega),if_neg (by omega),if_neg (by omega),if_neg h3]) u
section
variable {w w':World} {base:Nat} {col col':Nat→Nat} {x x':Wp} {s:Ws}
def dead (col:Nat→Nat) (g:Nat):Nat:=if col g=0 then 0 else 8
theorem clone_stays (h:Wv base col' w x' s) (hi:∀ g,col g≠0→col' g=8) (u:Fw col w w'):Wv base col' w' x' s:=
 h.aside u (fun g _ e=>hi g e.1)
theorem wclone_any (w:World) (h:Wv base col w x s) (hD:s.D.length≤1000) (a7:s.sl.length≤1000) (hO:s.O.length≤1000) (hP:s.P.length≤1000) (a4:s.ev.length≤1000) :
  Calls Tryz.prog 9 #[ptr x.pw] w fun e w'=>∃ (x':Wp) (col':Nat→Nat),e=.returned (ptr x'.pw)∧Wv base col' w' x' s∧(∀ g,g < w.heap.size→col' g=dead col g)∧Below w.heap.size w w':=by
 have I:=Lh h
 have a0:=Lh h.base_le
 have a3:=Lh h.lo
 clear h
 go_enter Tryz.func9,Tryz.ntmps9
 go_wp2_with fail
 have u:Hid (Below w.heap.size w w.drew):=Lh (Below.refl _ _).drew
 refine reg_start 49 (fun w'=>Below w.heap.size w w') (by kernel_rfl) (by kernel_rfl) ?_
 intro a1
 have z:=Lh a1
 clear a1
 refine rq 0 z.out u.out rfl ?_
 refine rq 1 z.out u.out rfl ?_
 refine rq 2 z.out u.out rfl ?_
 go_simp
 refine rq 3 z.out u.out rfl ?_ (hv:=fun w' hw=>by (have k:=(I.out.later hw).cells; have k0:=k.c0; have k1:=k.c1; have k2:=k.c2; have k3:=k.c3; have k4:=k.c4; have k5:=k.c5; have k6:=k.c6; go_simp; exact rfl))
 refine rq 4 z.out u.out rfl ?_
 refine rq 5 z.out u.out rfl ?_
 go_simp
 refine rq 6 z.out u.out rfl ?_
 refine rq 7 z.out u.out rfl ?_ (hv:=fun w' hw=>by (have k:=(I.out.later hw).cells; have k7:=k.c7; go_simp; exact rfl))
 refine rq 8 z.out u.out rfl ?_
 go_simp
 refine rq 9 z.out u.out rfl ?_
 refine rq 10 z.out u.out rfl ?_
 refine rq 11 z.out u.out rfl ?_ (hv:=fun w' hw=>by (have k:=(I.out.later hw).cells; have k8:=k.c8; go_simp; exact rfl))
 go_simp
 refine rq 13 z.out u.out rfl ?_
 refine rq 14 z.out u.out rfl ?_
 refine rq 15 z.out u.out rfl ?_
 go_simp
 refine rq 16 z.out u.out rfl ?_ (hv:=fun w' hw=>by (have k:=(I.out.later hw).cells; have k9:=k.c9; go_simp; exact rfl))
 refine rq 18 z.out u.out rfl ?_
 refine rq 19 z.out u.out rfl ?_
 go_simp
 refine rq 20 z.out u.out rfl ?_
 refine rq 21 z.out u.out rfl ?_ (hv:=fun w' hw=>by (have k:=(I.out.later hw).cells; have ak:=k.c10; go_simp; exact rfl))
 refine rq 23 z.out u.out rfl ?_
 go_simp
 refine rq 24 z.out u.out rfl ?_
 refine rq 25 z.out u.out rfl ?_
 refine rq 26 z.out u.out rfl ?_ (hv:=fun w' hw=>by (have k:=(I.out.later hw).cells; have al:=k.c11; go_simp; exact rfl))
 go_simp
 refine rq 28 z.out u.out rfl ?_
 refine rq 29 z.out u.out rfl ?_
 refine rq 30 z.out u.out rfl ?_
 go_simp
 refine rq 31 z.out u.out rfl ?_ (hv:=fun w' hw=>by (have k:=(I.out.later hw).cells; have an:=k.c12; go_simp; exact rfl))
 refine rq 33 z.out u.out rfl ?_
 refine rq 34 z.out u.out rfl ?_
 go_simp
 refine rq 35 z.out u.out rfl ?_
 refine rq 36 z.out u.out rfl ?_ (hv:=fun w' hw=>by (have k:=(I.out.later hw).cells; have ao:=k.c13; go_simp; exact rfl))
 refine rq 38 z.out u.out rfl ?_
 go_simp
 refine rq 39 z.out u.out rfl ?_
 refine rq 40 z.out u.out rfl ?_
 refine rq 41 z.out u.out rfl ?_ (hv:=fun w' hw=>by (have k:=(I.out.later hw).cells; have aq:=k.c14; go_simp; exact rfl))
 go_simp
 refine rq 42 z.out u.out rfl ?_
 refine rq 43 z.out u.out rfl ?_
 refine rq 44 z.out u.out rfl ?_
 go_simp
 refine rq 45 z.out u.out rfl ?_ (hv:=fun w' hw=>by (have k:=(I.out.later hw).cells; have ar:=k.c15; go_simp; exact rfl))
 refine reg_only 12 rfl (by kernel_rfl) rfl ?_
 unfold Oper.wp
 go_simp
 refine (bclone_any w.drew x.pb x.ab s.D s.S (I.out.later u.out).bag hD).mono ?_
 rintro e w3 ⟨pb,ab,rfl,h3,b3⟩
 have G:=u.out.trans (b3.mono u.out.size)
 refine ⟨G,?_⟩
 have ad:=u
 clear u
 have u:=Lh G
 clear G
 refine reg_only 17 rfl (by kernel_rfl) rfl ?_
 unfold Oper.wp
 go_simp
 refine (Lc.clone_any (fun g=>g < w3.heap.size) _ w3 base x.pl s.loc (fun g F=>F) (I.out.later u.out).loc (Nat.le_trans a0.out u.out.size)).mono ?_
 rintro e w4 ⟨pl,rfl,h4,l4,b4⟩
 have G:=u.out.trans (b4.mono u.out.size)
 refine ⟨G,?_⟩
 have ae:=u
 clear u
 have u:=Lh G
 clear G
 obtain ⟨r0,a6⟩:=(I.out.later u.out).slots
 refine reg_only 22 rfl (by kernel_rfl) rfl ?_
 unfold Oper.wp
 go_simp
 refine (St.clone_any w4 base x.ps r0 s.sl a6 a7).mono ?_
 rintro e w5 ⟨ps,rs,rfl,h5,l5,a9,b5⟩
 have G:=u.out.trans (b5.mono u.out.size)
 refine ⟨G,?_⟩
 have af:=u
 clear u
 have u:=Lh G
 clear G
 refine reg_only 27 rfl (by kernel_rfl) rfl ?_
 unfold Oper.wp
 go_simp
 refine (Le.clone_book w5 x.bk s.leak s.L s.M s.T (I.out.later u.out).book).mono ?_
 rintro e w6 ⟨W,rfl,h6,b6,lp,la,lb,lq,lm⟩
 have G:=u.out.trans (b6.mono u.out.size)
 refine ⟨G,?_⟩
 have ag:=u
 clear u
 have u:=Lh G
 clear G
 refine reg_only 32 rfl (by kernel_rfl) rfl ?_
 unfold Oper.wp
 go_simp
 refine (Fc.fclone_any x.pF x.bF x.mF s.n s.O s.P s.C w6 (I.out.later u.out).fact hO hP).mono ?_
 rintro e w7 ⟨mF,pF,rfl,h7,b7⟩
 have G:=u.out.trans (b7.mono u.out.size)
 refine ⟨G,?_⟩
 have ah:=u
 clear u
 have u:=Lh G
 clear G
 obtain ⟨q0,a5⟩:=(I.out.later u.out).hist
 refine reg_only 37 rfl (by kernel_rfl) rfl ?_
 unfold Oper.wp
 go_simp
 refine (Hi.clone_any w7 base x.ph q0 s.step s.ev a5 a4).mono ?_
 rintro e Y ⟨ph,rh,rfl,h8,l8,aa,b8⟩
 have G:=u.out.trans (b8.mono u.out.size)
 refine ⟨G,?_⟩
 have ai:=u
 clear u
 have u:=Lh G
 clear G
 refine rq 46 z.out u.out rfl ?_
 refine reg_only 47 rfl (by kernel_rfl) rfl ?_
 unfold Oper.wp
 go_simp
 have G:=u.out.alloc u.out.size (.cells #[.int .i64 s.conf.max,.int .i64 s.conf.min,.int .u64 s.conf.idle,.int .u64 s.conf.life,.int .u64 s.conf.keep,.int .u64 s.conf.leak,.float .f64 s.conf.var,.int .u64 s.now,ptr pb,ptr pl,ptr ps,ptr W.p,ptr pF,ptr ph,.int .i64 s.live,.bool s.closed] 70)
 refine ⟨G,?_⟩
 have ac:=u
 clear u
 have u:=Lh G
 clear G
 refine rq 48 z.out u.out rfl ?_
 refine reg_done (by kernel_rfl) ?_
 go_wp2_with fail
 go_ret
 have t8:Below Y.heap.size Y (Y.alloc (.cells #[.int .i64 s.conf.max,.int .i64 s.conf.min,.int .u64 s.conf.idle,.int .u64 s.conf.life,.int .u64 s.conf.keep,.int .u64 s.conf.leak,.float .f64 s.conf.var,.int .u64 s.now,ptr pb,ptr pl,ptr ps,ptr W.p,ptr pF,ptr ph,.int .i64 s.live,.bool s.closed] 70)):=(Below.refl _ _).alloc (Nat.le_refl _) _
 have t7:=b8.trans (t8.mono b8.size)
 have t6:=b7.trans (t7.mono b7.size)
 have t5:=b6.trans (t6.mono b6.size)
 have t4:=b5.trans (t5.mono b5.size)
 have t3:=b4.trans (t4.mono b4.size)
 have z2:w.heap.size=w.drew.heap.size:=rfl
 have z3:=b3.size
 have z4:=b4.size
 have z5:=b5.size
 have z6:=b6.size
 have z7:=b7.size
 have z8:=b8.size
 have y4:=h4.lt
 have y5:=h5.lt
 have y6:=h6.lt
 have y7:=h7.in_
 have au:=h7.lo
 have av:=h7.lt
 have y8:=h8.lt
 obtain ⟨col',a2⟩:∃ c:Nat→Nat,c=fun g=>if g < w.heap.size then dead col g else col8 w.drew.heap.size w3.heap.size w4.heap.size w5.heap.size w6.heap.size w7.heap.size Y.heap.size Y.heap.size g:=⟨_,rfl⟩
 have cO:∀ g,g < w.heap.size→col' g=dead col g:=fun g F=>by rw [a2]; exact if_pos F
 have J:∀ g,w.heap.size≤g→col' g=col8 w.drew.heap.size w3.heap.size w4.heap.size w5.heap.size w6.heap.size w7.heap.size Y.heap.size Y.heap.size g:=fun g F=>by rw [a2]; exact if_neg (by omega)
 have cD:∀ g,g < w.heap.size→col' g=0∨col' g=8:=fun g F=>by rw [cO g F]; unfold dead; split <;> simp
 have aj:=a0.out
 have hX:∀ g,((col' g≠0∧col' g≠2)∨g < base)→g < w3.heap.size∨w4.heap.size≤g:=fun g F=>by
  by_cases e:g < w.heap.size
  ·exact .inl (by omega)
  ·rw [J g (by omega)] at F
   rcases F with F | F
   ·rcases col8_x z4 F with h | h
    ·exact .inl h.2
    ·exact .inr h
   ·exact .inl (by omega)
 refine ⟨⟨Y.heap.size,pb,ab,pl,ps,none,W,w6.heap.size,mF,pF,ph,none⟩,col',rfl,⟨rs,rh,⟨?_,?_,?_,?_,?_,?_,?_,?_,?_,?_,?_,?_,?_,?_⟩,?_⟩,cO,?_⟩
 ·refine ⟨?_,?_,?_,?_,?_,?_,?_,?_,?_,?_,?_,?_,?_,?_,?_,?_,?_⟩
  all_goals (first | (go_simp; done) | (intro o; simp [World.frozen?]))
 ·exact (h3.mono (fun g F hc=>by rw [J g (by have h9:w.drew.heap.size≤g:=hc; omega)]; exact col8_1 hc F) (fun g F hc=>by
   have h9:g < w.drew.heap.size:=hc.1
   refine ⟨?_,hc.2.2⟩
   rw [cO g (by omega)]
   unfold dead
   rw [if_pos hc.2.1]) (fun g h1 h2=>by rw [h1] at h2; cases h2.1)).later t3
 ·exact (h4.shun hX).later t4
 ·exact h5.later t5
 ·exact h6.later t6
 ·exact h7.later t7
 ·exact h8.later t8
 ·show col' pl=2; rw [J pl (by omega)]; exact col8_2 z3 l4 y4
 ·exact ⟨by show col' ps=3; rw [J ps (by omega)]; exact col8_3 z3 z4 l5 y5,fun g F=>by
   have h1:=a9 g F
   have h2:=(h5.rowlt g F).2
   rw [J g (by omega)]; exact col8_3 z3 z4 h1 h2⟩
 ·exact ⟨by show col' W.p=4; rw [J W.p (by omega)]; exact col8_4 z3 z4 z5 lp y6.1,by show col' W.a=4; rw [J W.a (by omega)]; exact col8_4 z3 z4 z5 la y6.2.1,by show col' W.b=4; rw [J W.b (by omega)]; exact col8_4 z3 z4 z5 lb y6.2.2.1,by show col' W.q=4; rw [J W.q (by omega)]; exact col8_4 z3 z4 z5 lq y6.2.2.2.1,by show col' W.m=4; rw [J W.m (by omega)]; exact col8_4 z3 z4 z5 lm y6.2.2.2.2⟩
 ·exact fun g h1 h2=>by
   have h1:w6.heap.size≤g:=h1
   have h2:g≤pF:=h2
   rw [J g (by omega)]; exact col8_5 z3 z4 z5 z6 h1 (by omega)
 ·exact ⟨by show col' ph=6; rw [J ph (by omega)]; exact col8_6 z3 z4 z5 z6 z7 l8 y8,fun g F=>by
   have h1:=aa g F
   have h2:=(h8.row g F).2
   rw [J g (by omega)]; exact col8_6 z3 z4 z5 z6 z7 h1 h2⟩
 ·show col' Y.heap.size=7; rw [J Y.heap.size (by omega)]; exact col8_7 z3 z4 z5 z6 z7 z8 rfl rfl
 ·exact fun g F=>by
   by_cases e:g < w.heap.size
   ·rw [cO g e] at F
    unfold dead at F
    split at F
    ·exact absurd rfl F
    ·next h0=>exact a3.out g h0
   ·omega
 ·exact fun g F=>by
   by_cases e:g < w.heap.size
   ·exact Nat.lt_of_lt_of_le (Nat.lt_of_lt_of_le e (show w.heap.size≤Y.heap.size by omega)) t8.size
   ·rw [J g (by omega)] at F
    have a8:(Y.alloc (.cells #[.int .i64 s.conf.max,.int .i64 s.conf.min,.int .u64 s.conf.idle,.int .u64 s.conf.life,.int .u64 s.conf.keep,.int .u64 s.conf.leak,.float .f64 s.conf.var,.int .u64 s.now,ptr pb,ptr pl,ptr ps,ptr W.p,ptr pF,ptr ph,.int .i64 s.live,.bool s.closed] 70)).heap.size=Y.heap.size+1:=by simp
    rw [a8]
    rcases col8_hi z3 z4 z5 z6 z7 z8 F with h | h <;> omega
 ·exact u.out
end
end Go.Proofs.YtaeemilldmhbnaaGreatDoor.Wo
namespace Go.Proofs.YtaeemilldmhbnaaGreatDoor.Rw
open Go Go.RowKit
section
variable {P:Program} {md:Region.Mode} {ops:Array Oper} {Q:Exit→Act→World→Prop} {n:Nat} {S S':World→Prop}
theorem wpAnyT.weaken (z:∀ w,S' w→S w):∀ (f:Nat) (F:Array Bool) (a:Act) (w:World),wpAnyT P md ops Q n S' f F a w→wpAnyT P md ops Q n S f F a w
 | 0,_,_,_,h=>h
 | f+1,_,_,_,h=>⟨h.1,fun i hi=>wpOp_mono (fun a' w' u=>⟨fun G=>z _ (u.1 G),wpAnyT.weaken z f _ a' w' u.2⟩) (h.2 i hi)⟩
end
end Go.Proofs.YtaeemilldmhbnaaGreatDoor.Rw
namespace Go.Proofs.YtaeemilldmhbnaaGreatDoor.Wo
open Go Go.ChangeShapes Go.WideShapes Go.ChangeAt Go.RowKit Go.Deep Go.Maps Rw Hi Mt Ba
open Cn (Cf cfE)
section
variable {W0 w w' w2:World} {base:Nat} {col col':Nat→Nat} {x x':Wp} {v:Dv} {d:Nat} {s:Ws} {N:List Int} {k:Nat} {y:Ay} {c:Cf}
theorem Wv.base0 (h:Wv base col w x s):Wv 0 col w x s:=by
 obtain ⟨r,q,h,hi⟩:=h
 refine ⟨r,q,⟨h.cells,h.bag.mono (fun g _ e=>e) (fun g _ e=>⟨e.1,Nat.zero_le _⟩) (fun g z u=>by have:=u.1; omega),?_,?_,h.book,h.fact,?_,h.kl,h.ks,h.kb,h.kf,h.kh,h.kw,fun _ _=>Nat.zero_le _⟩,hi⟩
 ·have:=h.loc.shun (X':=fun g=>(col g≠0∧col g≠2)∨g < 0) (fun g G=>.inl (G.imp id (fun e=>by omega)))
  exact ⟨this.at_,this.len,this.free,Nat.zero_le _,this.px⟩
 ·obtain ⟨A,c,z,u,F⟩:=h.slots.row
  exact ⟨⟨A,c,z,own_mono u (Nat.zero_le _),F⟩,h.slots.free0,Nat.zero_le _,h.slots.ne⟩
 ·obtain ⟨A,c,z,u,F⟩:=h.hist.evs
  exact ⟨h.hist.step,⟨A,c,z,own_mono u (Nat.zero_le _),F⟩,h.hist.free0,h.hist.free1,Nat.zero_le _,h.hist.ne⟩
theorem nx_len (O:List Bool):(Fc.nx O).2.length≤O.length:=by
 unfold Fc.nx
 cases O <;> simp
theorem play_keeps (s:Ws) (y:Ay):(playS s y).conf=s.conf∧(playS s y).sl=s.sl∧(playS s y).P=s.P∧(playS s y).closed=s.closed∧(playS s y).O.length≤s.O.length:=by
 have h:=nx_len s.O
 unfold playS
 (repeat' split) <;> first | exact ⟨rfl,rfl,rfl,rfl,Nat.le_refl _⟩ | exact ⟨rfl,rfl,rfl,rfl,h⟩
theorem act_keeps (s:Ws) (y:Ay):(actW (s,[]) y).2=[] ∧ (actW (s,[]) y).1.conf=s.conf∧(actW (s,[]) y).1.sl=s.sl∧(actW (s,[]) y).1.P=s.P∧(actW (s,[]) y).1.closed=s.closed∧(actW (s,[]) y).1.O.length≤s.O.length:=by
 unfold actW
 split
 ·split <;> exact ⟨rfl,rfl,rfl,rfl,rfl,Nat.le_refl _⟩
 split
 ·exact ⟨rfl,rfl,rfl,rfl,rfl,Nat.le_refl _⟩
 ·exact ⟨rfl,play_keeps s y⟩
theorem Pl.act (h:Pl s [] k) (hk:k≤900) (z:y.ok):Pl (actW (s,[]) y).1 [] (k+1):=by
 have G:=h.dl
 have Y:=h.sl
 have W:=h.nl
 have F:=h.cl
 have I:=h.el
 have J:=h.ll
 have a0:=h.tl
 have u:Pl s [] (k+1):=⟨h.mk_,h.mx,h.lv,h.nw,h.lk,by omega,by omega,by omega,by omega,by omega,by omega,by omega,h.ri,h.sd,h.cin⟩
 unfold actW
 split
 ·split
  ·refine ⟨rfl,u.mx,u.lv,u.nw,u.lk,?_,u.sl,u.nl,?_,?_,u.ll,u.tl,?_,u.sd,?_⟩
   ·show (up s.D y.id (exS (bW s.D y.id) 3 s.now)).length≤k+1
    rw [up_len]; omega
   ·show (clsC s.n s.C y.id).length≤k+1
    unfold clsC; split
    ·simp; omega
    ·omega
   ·show (s.ev ++ [_]).length≤k+1
    simp; omega
   ·exact h.ri.up _
   ·show ∀ i∈clsC s.n s.C y.id,1≤i∧i≤(s.n:Int)
    unfold clsC
    split
    ·next e=>
     intro i hi
     rcases List.mem_append.1 hi with hi | hi
     ·exact h.cin i hi
     ·have:i=y.id:=by simpa using hi
      subst this
      unfold Fc.kn at e
      split at e
      ·cases e
      ·have:=z.i.1
       omega
    ·exact h.cin
  ·exact u
 split
 ·refine ⟨u.mk_,u.mx,u.lv,u.nw,u.lk,?_,u.sl,u.nl,u.cl,u.el,u.ll,u.tl,h.ri.up _,u.sd,u.cin⟩
  show (up s.D y.id (exS (bW s.D y.id) y.st s.now)).length≤k+1
  rw [up_len]; omega
 ·exact h.play hk z
theorem playT7 (w:World) (h:Tw base col w x v d s N) (u:Pl s N k) (a1:k≤900) (Y:N.length≤900) (z:y.ok) (hk:y.do_ % 8=7):Plays2 w base col x (s,N) d y:=by
 have a0:=u.dl
 have F:U64 (bW s.D y.id):=bW_u64 w x.pb x.ab s.S h.wv.bag y.id
 have J:∀ p∈s.D,U64 p.2.word:=fun p u=>(h.wv.bag.ui p u).2.1
 unfold Plays2 actW
 rw [if_neg (by omega),if_pos hk]
 refine play7_core w h z hk _ rfl { s with D:=up s.D y.id (exS (bW s.D y.id) y.st s.now) } N (bV s.D y.id (bW s.D y.id) y.st) (bK s.D y.id (bW s.D y.id) y.st) (Lh fun K W I G=>?_) (Lh fun W hw=>?_)
 ·exact dswap_any W v s N I G y.id _ y.st u.ri.nd (by omega) J F z.s
 ·exact wswap W hw y.id _ y.st s.now z.i F u.nw
theorem play2_any (w:World) (h:Tw base col w x v d s []) (u:Pl s [] k) (hk:k≤900) (z:y.ok) (hc:s.closed=false):Plays2 w base col x (s,[]) d y:=by
 have F:([] : List Int).length≤900:=by simp
 have tr:y.do_ % 8 < 6→Plays w base col x s d y [] → Plays2 w base col x (s,[]) d y:=fun J I=>by
  unfold Plays2 actW
  rw [if_neg (by omega),if_neg (by omega)]
  exact I
 have G:y.do_ % 8=0∨y.do_ % 8=1∨y.do_ % 8=2∨y.do_ % 8=3∨y.do_ % 8=4∨y.do_ % 8=5∨y.do_ % 8=6∨y.do_ % 8=7:=by omega
 rcases G with e | e | e | e | e | e | e | e
 ·exact tr (by omega) (playT0 w h u z e)
 ·exact tr (by omega) (playT1 w h u z e)
 ·exact tr (by omega) (playT2 w h u z e)
 ·exact tr (by omega) (playT3 w h u hk F z e)
 ·exact tr (by omega) (playT4 w h u hk F z e hc)
 ·exact tr (by omega) (playT5 w h u hk F z e)
 ·exact playT6 w h u hk F z e
 ·exact playT7 w h u hk F z e
structure Lp (W0 w:World) (col:Nat→Nat) (x:Wp) (v:Dv) (d:Nat) (c:Cf) (s:Ws) (k:Nat):Prop where
 tw:Tw 0 col w x v d s []
 pl:Pl s [] k
 cf:s.conf=c
 sl:s.sl=[]
 ol:s.O.length≤60
 pp:s.P.length≤60
 cl:s.closed=false
 hi:∀ g,col g≠0→W0.heap.size≤g
 bl:Below W0.heap.size W0 w
theorem Tw.later {w':World} (h:Tw base col w x v d s N) (u:Below w.heap.size w w'):Tw base col w' x v d s N:=
 ⟨h.wv.later u,h.dw.later u,h.vw.later u,h.c8⟩
theorem Lp.later (h:Lp W0 w col x v d c s k) (u:Below w.heap.size w w'):Lp W0 w' col x v d c s k:=
 ⟨h.tw.later u,h.pl,h.cf,h.sl,h.ol,h.pp,h.cl,h.hi,h.bl.trans (u.mono h.bl.size)⟩
theorem Lp.act {F:Dv} (h:Lp W0 w col x v d c s k) (hk:k≤900) (hy:y.ok) (z:Tw 0 col' w' x F d (actW (s,[]) y).1 (actW (s,[]) y).2) (hz:Fp col d w w') (hl:El w col col'):Lp W0 w' col' x F d c (actW (s,[]) y).1 (k+1):=by
 obtain ⟨G,I,J,W,Y,e6⟩:=act_keeps s y
 rw [G] at z
 have hd:W0.heap.size≤d:=h.hi d (by have:=h.tw.c8; omega)
 refine ⟨z,h.pl.act hk hy,I.trans h.cf,J.trans h.sl,Nat.le_trans e6 h.ol,by rw [W]; exact h.pp,Y.trans h.cl,fun g u=>?_,?_⟩
 ·by_cases hs:g < w.heap.size
  ·rw [hl g hs] at u; exact h.hi g u
  ·have:=h.bl.size; omega
 ·exact h.bl.trans (hz.below h.bl.size (fun g u=>by
   rcases u with u | u
   ·exact h.hi g u.1
   ·omega))
theorem Lp.clone (h:Lp W0 w col x v d c s k) (J:Wv 0 col' w' x' s) (hc:∀ g,g < w.heap.size→col' g=dead col g) (G:Below w.heap.size w w') (z:Fw col w' w2):Lp W0 w2 col' x' v d c s k:=by
 have W:d < w.heap.size:=h.tw.vw.lt
 have F:∀ g,col g≠0→col' g=8:=fun g u=>by
  rw [hc g (h.tw.wv.hi g u)]
  unfold dead
  rw [if_neg u]
 have hv:=h.tw.vw.later G
 refine ⟨⟨clone_stays J F z,?_,hv.blk (z.block _ hv.lt (fun e=>e.2 h.tw.c8)),F d (by have:=h.tw.c8; omega)⟩,h.pl,h.cf,h.sl,h.ol,h.pp,h.cl,fun g u=>?_,?_⟩
 ·have d1:Dw (Kc 0 col') w v s []:=h.tw.dw.mono (fun g u e=>⟨by
   rw [hc g u]
   unfold dead
   exact if_pos e.1,Nat.zero_le _⟩)
  exact (d1.later G).fz z (fun g _ e I=>by
   have:=F g I.1
   have:=e.1
   omega)
 ·by_cases hs:g < w.heap.size
  ·rw [hc g hs] at u
   unfold dead at u
   split at u
   ·exact absurd rfl u
   ·next e=>exact h.hi g e
  ·have:=h.bl.size; omega
 ·have b1:=h.bl.trans (G.mono h.bl.size)
  exact b1.trans (z.below b1.size (fun g u=>h.hi g u.1))
end
theorem plays_long (c:Cf) (Ao:Option Addr) (h co:Nat) (Ap:Option Addr) (z cp:Nat) (A0:Option Addr) (n c0:Nat) (W:World) (J:Tb.Tabs W) (hm:h≤9223372036854775807) (a3:z≤9223372036854775807) (a2:n≤9223372036854775807) (I:60 < h∨60 < z∨80 < n) :
  Calls Tryz.prog 3 #[c.raw,.slice Ao h co,.slice Ap z cp,.slice A0 n c0] W fun e w'=>e=.returned (.bool true)∧Below W.heap.size W w':=by
 have G:=Lh J
 have u:Hid (Below W.heap.size W (W.alloc (.cells #[.int .i64 c.max,.int .i64 c.min,.int .u64 c.idle,.int .u64 c.life,.int .u64 c.keep,.int .u64 c.leak,.int .u64 c.var] 24))):=Lh ((Below.refl _ _).alloc (Nat.le_refl _) _)
 clear J
 by_cases h1:60 < h
 ·have Y:decide ((60:Int) < (h:Int))=true:=decide_eq_true (by omega)
  have a0:decide (60 < h)=true:=decide_eq_true (by omega)
  clear I
  go_enter Tryz.func3,Tryz.ntmps3
  go_upto_region 1 with (fail)
  generalize (W.alloc (.cells #[.int .i64 c.max,.int .i64 c.min,.int .u64 c.idle,.int .u64 c.life,.int .u64 c.keep,.int .u64 c.leak,.int .u64 c.var] 24))=W0 at *
  go_wp2_with fail
  refine (awake16_any W0 (G.out.below u.out)).mono ?_
  rintro e w1 ⟨rfl,b1⟩
  have F:=Lh b1
  clear b1
  go_wp2_with fail
  go_ret
  exact ⟨rfl,u.out.trans (F.out.mono u.out.size)⟩
 ·by_cases h2:60 < z
  ·have Y:decide ((60:Int) < (h:Int))=false:=decide_eq_false (by omega)
   have a0:decide (60 < h)=false:=decide_eq_false (by omega)
   have t1:decide ((60:Int) < (z:Int))=true:=decide_eq_true (by omega)
   have a1:decide (60 < z)=true:=decide_eq_true (by omega)
   clear I
   go_enter Tryz.func3,Tryz.ntmps3
   go_upto_region 1 with (fail)
   generalize (W.alloc (.cells #[.int .i64 c.max,.int .i64 c.min,.int .u64 c.idle,.int .u64 c.life,.int .u64 c.keep,.int .u64 c.leak,.int .u64 c.var] 24))=W0 at *
   go_wp2_with fail
   refine (awake16_any W0 (G.out.below u.out)).mono ?_
   rintro e w1 ⟨rfl,b1⟩
   have F:=Lh b1
   clear b1
   go_wp2_with fail
   go_ret
   exact ⟨rfl,u.out.trans (F.out.mono u.out.size)⟩
  ·have Y:decide ((60:Int) < (h:Int))=false:=decide_eq_false (by omega)
   have a0:decide (60 < h)=false:=decide_eq_false (by omega)
   have t1:decide ((60:Int) < (z:Int))=false:=decide_eq_false (by omega)
   have a1:decide (60 < z)=false:=decide_eq_false (by omega)
   have t2:decide ((80:Int) < (n:Int))=true:=decide_eq_true (by omega)
   have a4:decide (80 < n)=true:=decide_eq_true (by omega)
   clear I
   go_enter Tryz.func3,Tryz.ntmps3
   go_upto_region 1 with (fail)
   generalize (W.alloc (.cells #[.int .i64 c.max,.int .i64 c.min,.int .u64 c.idle,.int .u64 c.life,.int .u64 c.keep,.int .u64 c.leak,.int .u64 c.var] 24))=W0 at *
   go_wp2_with fail
   refine (awake16_any W0 (G.out.below u.out)).mono ?_
   rintro e w1 ⟨rfl,b1⟩
   have F:=Lh b1
   clear b1
   go_wp2_with fail
   go_ret
   exact ⟨rfl,u.out.trans (F.out.mono u.out.size)⟩
end Go.Proofs.YtaeemilldmhbnaaGreatDoor.Wo
