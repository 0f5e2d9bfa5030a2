/- A part of the claim: the texts BeginMath WorldN Begin. -/
import Derived.Test.YtoiklelghfckgaaGreatDoorZDocNew
import Derived.Test.YtoiklelghfckgaaGreatDoorZPlayT3
import Derived.Test.YtoiklelghfckgaaGreatDoorZGGive
import Derived.Test.YtoiklelghfckgaaGreatDoorZGWorld
import Derived.Deep.CutBlock
set_option maxRecDepth 100000
set_option maxHeartbeats 40000000
set_option linter.unusedVariables false
namespace Go.Proofs.YtoiklelghfckgaaGreatDoor.Wo
open Go Go.ChangeShapes Go.WideShapes Go.ChangeAt Go.RowKit Go.Deep Go.Maps Rw Hi Mt Ba
open Cn (Cf cfE)
def tri (i:Nat) (st:Int):List Ay:=[⟨1,0,0,0,0⟩,⟨3,0,0,0,st⟩,⟨4,(i:Int)+1,0,0,0⟩]
def acts1 (l:List Int) (k:Nat):List Ay:=(List.range k).flatMap fun i=>tri i (l.getD i 0 % 4)
def lsA (m:Int):Ay:=⟨5,m % 8+1,0,m % 8,0⟩
theorem acts1_succ (l:List Int) (k:Nat):acts1 l (k+1)=acts1 l k ++ tri k (l.getD k 0 % 4):=by
 unfold acts1; rw [List.range_succ,List.flatMap_append]; simp
theorem acts1_len (l:List Int) (k:Nat):(acts1 l k).length=3 * k:=by
 induction k with
 | zero=>rfl
 | succ k ih=>rw [acts1_succ,List.length_append,ih]; show 3 * k+3=_; omega
def parkW (s:Ws) (t:Int):Ws:={ s with sl:=St.parkL s.sl (t % 8) 9 }
def markW (q:Ws × List Int) (m:Int):Ws × List Int:=if 128≤m then q else ({ q.1 with M:=Le.mk (mrkN q.1.L q.2 (m % 8+1) (m % 8)) },mrkN q.1.L q.2 (m % 8+1) (m % 8))
abbrev c8:Cf:=⟨8,1,100,1000,50,200,4598175219545276416⟩
def bgnA (ss ms:List Int):List Ay:=acts1 ss ss.length ++ ms.map lsA
def bgn1 (ss ms:List Int):Ws:=(bgnA ss ms).foldl playS (newS c8 [] [])
def bgn2 (ss ws ms:List Int):Ws:=ws.foldl parkW (bgn1 ss ms)
def bgn3 (ss ws ms:List Int):Ws × List Int:=ms.foldl markW (bgn2 ss ws ms,[])
def bgnS (ss ws ms:List Int) (cl:Bool):Ws:={ (bgn3 ss ws ms).1 with closed:=cl }
def bgnN (ss ws ms:List Int):List Int:=(bgn3 ss ws ms).2
theorem foldl_take {α β:Type} (f:β→α→β) (b:β) {l:List α} {k:Nat} {x:α} (h:l[k]? = some x):(l.take (k+1)).foldl f b=f ((l.take k).foldl f b) x:=by
 rw [List.take_add_one,h,List.foldl_append]; rfl
def okA (y:Ay):Prop:=y.ok∧(y.do_ % 8=1∨y.do_ % 8=3∨y.do_ % 8=4∨y.do_ % 8=5)
theorem ay_ok {d i n t s:Int} (h:0≤d∧d≤255) (hi:0≤i∧i≤18446744073709551615) (hn:0≤n∧n≤18446744073709551615) (z:-9223372036854775808≤t∧t≤9223372036854775807) (u:-9223372036854775808≤s∧s≤9223372036854775807):(⟨d,i,n,t,s⟩:Ay).ok:=⟨h,hi,hn,z,u⟩
theorem tri_ok (i:Nat) (hi:i≤1000) (st:Int) (u:0≤st∧st < 4):∀ y∈tri i st,okA y:=by
 intro y h
 have:y=⟨1,0,0,0,0⟩∨y=⟨3,0,0,0,st⟩∨y=⟨4,(i:Int)+1,0,0,0⟩:=by simpa [tri] using h
 rcases this with rfl | rfl | rfl
 ·exact ⟨ay_ok (by decide) (by decide) (by decide) (by decide) (by decide),.inl (by decide)⟩
 ·exact ⟨ay_ok (by decide) (by decide) (by decide) (by decide) ⟨by omega,by omega⟩,.inr (.inl (show (3:Int) % 8=3 by decide))⟩
 ·exact ⟨ay_ok (by decide) ⟨by omega,by omega⟩ (by decide) (by decide) (by decide),.inr (.inr (.inl (show (4:Int) % 8=4 by decide)))⟩
theorem acts1_ok (l:List Int) (k:Nat) (hk:k≤1000):∀ y∈acts1 l k,okA y:=by
 intro y h
 obtain ⟨i,hi,h⟩:=List.mem_flatMap.1 h
 exact tri_ok i (by have:=List.mem_range.1 hi; omega) _ ⟨by omega,by omega⟩ y h
theorem lsA_ok (m:Int):okA (lsA m):=⟨ay_ok (by decide) ⟨by omega,by omega⟩ (by decide) ⟨by omega,by omega⟩ (by decide),.inr (.inr (.inr (show (5:Int) % 8=5 by decide)))⟩
theorem bgnA_ok (z F:List Int) (h:z.length≤1000):∀ y∈bgnA z F,okA y:=by
 intro y u
 rcases List.mem_append.1 u with u | u
 ·exact acts1_ok z _ h y u
 ·obtain ⟨m,_,rfl⟩:=List.mem_map.1 u
  exact lsA_ok m
theorem Pl.new:Pl (newS c8 [] []) [] 0:=
 ⟨rfl,by decide,by decide,⟨by decide,by decide⟩,⟨by decide,by decide⟩,Nat.le_refl _,Nat.le_refl _,Nat.le_refl _,Nat.le_refl _,Nat.le_refl _,Nat.le_refl _,Nat.le_refl _,List.Pairwise.nil,List.Pairwise.nil,fun i hi=>by cases hi⟩
theorem playS_cl {s:Ws} {y:Ay} : (playS s y).closed=s.closed:=by
 unfold playS
 repeat' split
 all_goals rfl
theorem acts_pl (l:List Ay) (z:∀ y∈l,okA y) (k:Nat) (hk:k≤l.length) (F:l.length≤900):Pl ((l.take k).foldl playS (newS c8 [] [])) [] k∧((l.take k).foldl playS (newS c8 [] [])).closed=false:=by
 induction k with
 | zero=>exact ⟨Pl.new,rfl⟩
 | succ k ih=>
  obtain ⟨h,u⟩:=ih (by omega)
  have hx:=List.getElem?_eq_getElem (show k < l.length by omega)
  rw [foldl_take playS _ hx]
  exact ⟨h.play (by omega) (z _ (List.getElem_mem _)).1,by rw [playS_cl]; exact u⟩
section
variable {w w':World} {base:Nat} {col col':Nat→Nat} {x:Wp} {s:Ws} {d:Nat} {v:Dv} {y:Ay} {N:List Int} {k:Nat}
theorem Tw.later (h:Tw base col w x v d s N) (u:Below w.heap.size w w'):Tw base col w' x v d s N:=⟨h.wv.later u,h.dw.later u,h.vw.later u,h.c8⟩
theorem play_ok (w:World) (h:Tw base col w x v d s N) (z:Pl s N k) (hk:k≤900) (F:N.length≤900) (u:okA y) (hc:s.closed=false):Plays w base col x s d y N:=by
 rcases u.2 with e | e | e | e
 ·exact playT1 w h z u.1 e
 ·exact playT3 w h z hk F u.1 e
 ·exact playT4 w h z hk F u.1 e hc
 ·exact playT5 w h z hk F u.1 e
theorem rs_of (w:World) {α:Type} {enc:α→List Value} {h:Nat} (I:∀ x,(enc x).length=h) (Y:0 < h) (xs:List α) (n:Nat) (hn:xs.length=n) (F:n≤9223372036854775807) (t:TypeId) {cs:Array Value} (G:cs.toList=flat enc xs):Rs enc h (w.alloc (.cells cs t)) (w.heap.size+1) (some ⟨w.heap.size,0,none⟩) n n xs:=by
 refine ⟨hn,Nat.le_refl _,F,fun _=>⟨w.heap.size,0,rfl,by omega,fun j x hx i u hi W=>?_⟩⟩
 have J:=flat_at I xs j x i hx hi
 have z:(w.alloc (.cells cs t)).heap[w.heap.size]? = some (.cells cs t):=heap_alloc_last _ _
 rw [Nat.zero_add,cell_of_row _ _ _ _ _ _ z,← Array.getElem?_toList,G,J]
 exact W
end
theorem encY_one:∀ y,∀ u∈encY y,u.oneCell'=true:=by
 intro y u h
 simp [encY] at h
 rcases h with rfl | rfl | rfl | rfl | rfl <;> rfl
theorem range_set0 {w:World} {g:Nat} {c:Cf} (h:w.rangeAt g 0 (ccs c)) (n:Int):(w.setCell ⟨g,0,none⟩ (.int .i64 n)).rangeAt g 0 (ccs { c with max:=n }):=by
 have k:∀ o u,o≠0→w.cell? ⟨g,o,none⟩=some u→(w.setCell ⟨g,0,none⟩ (.int .i64 n)).cell? ⟨g,o,none⟩=some u:=fun o u G F=>(World.cell?_setCell_other _ _ _ _ (fun e=>by injection e with _ e _; omega)).trans F
 have r:∀ j u,(ccs c)[j]? = some u→w.cell? ⟨g,j,none⟩=some u:=fun j u z=>by have:=h j u z; rwa [Nat.zero_add] at this
 intro j u z
 rw [Nat.zero_add]
 match j,z with
 | 0,z=>injection z with z; subst z; exact World.cell?_setCell_same _ _ _ (r 0 _ rfl)
 | 1,z=>exact k 1 u (by decide) (r 1 u z)
 | 2,z=>exact k 2 u (by decide) (r 2 u z)
 | 3,z=>exact k 3 u (by decide) (r 3 u z)
 | 4,z=>exact k 4 u (by decide) (r 4 u z)
 | 5,z=>exact k 5 u (by decide) (r 5 u z)
 | 6,z=>exact k 6 u (by decide) (r 6 u z)
end Go.Proofs.YtoiklelghfckgaaGreatDoor.Wo
namespace Go.Proofs.YtoiklelghfckgaaGreatDoor.Wo
open Go Go.ChangeShapes Go.WideShapes Go.ChangeAt Go.RowKit Go.Maps Rw Hi Mt Ba
open Cn (Cf cfE)
theorem new_ok2 (R base':Nat) (c:Cf) (hc:c.ok) (h0:cfE c=0) (A A':Option Addr) (k cp B k' a2 B':Nat) (O P:List Bool) (w:World) (an:R < w.heap.size) (ao:base'≤R) (hO:Rd Value.bool w B A k cp O) (hP:Rd Value.bool w B' A' k' a2 P) (hB:B≤w.heap.size) (a3:B'≤w.heap.size) (hk:k≤1000) (ad:k'≤1000) :
  Calls Tryz.prog 29 #[c.v,.slice A k cp,.slice A' k' a2] w fun e w'=>∃ (x:Wp) (col:Nat→Nat),e=.returned (.tuple #[ptr x.pw,.int .i64 0]) ∧
   Wo base' col w' x ⟨c,0,[],[],fun _=>[],[],c.leak,[],[],[],O,P,0,[],0,[],0,false⟩∧col R=8∧Below w.heap.size w w':=by
 have HC:=Lh hc
 have a1:=Lh (Cn.ccheck_any c hc (w.alloc (.cells #[.int .i64 c.max,.int .i64 c.min,.int .u64 c.idle,.int .u64 c.life,.int .u64 c.keep,.int .u64 c.leak,.float .f64 c.var] 50)))
 rw [h0] at a1
 have HO:=Lh hO
 have HP:=Lh hP
 have a6:=Lh hB
 have a7:=Lh a3
 clear h0 hc hO hP
 go_enter Tryz.func29,Tryz.ntmps29
 go_wp2_with fail
 refine a1.out.mono ?_
 rintro e w1 ⟨rfl,b1⟩
 have a5:Below w.heap.size w (w.alloc (.cells #[.int .i64 c.max,.int .i64 c.min,.int .u64 c.idle,.int .u64 c.life,.int .u64 c.keep,.int .u64 c.leak,.float .f64 c.var] 50)):=(Below.refl _ w).alloc (Nat.le_refl _) _
 have J:=Lh (a5.trans (b1.mono a5.size))
 have aa:=Lh (J.out.mono hB)
 have ac:=Lh (J.out.mono a3)
 have a9:w.heap.size < w1.heap.size:=by have:=b1.size; simp at this; omega
 have V0:=Lh ((b1.cell (p:=⟨w.heap.size,0,none⟩) (by simp)).trans (show _=some (.int .i64 c.max) by go_simp))
 have V1:=Lh ((b1.cell (p:=⟨w.heap.size,1,none⟩) (by simp)).trans (show _=some (.int .i64 c.min) by go_simp))
 have V2:=Lh ((b1.cell (p:=⟨w.heap.size,2,none⟩) (by simp)).trans (show _=some (.int .u64 c.idle) by go_simp))
 have V3:=Lh ((b1.cell (p:=⟨w.heap.size,3,none⟩) (by simp)).trans (show _=some (.int .u64 c.life) by go_simp))
 have V4:=Lh ((b1.cell (p:=⟨w.heap.size,4,none⟩) (by simp)).trans (show _=some (.int .u64 c.keep) by go_simp))
 have V5:=Lh ((b1.cell (p:=⟨w.heap.size,5,none⟩) (by simp)).trans (show _=some (.int .u64 c.leak) by go_simp))
 have V6:=Lh ((b1.cell (p:=⟨w.heap.size,6,none⟩) (by simp)).trans (show _=some (.float .f64 c.var) by go_simp))
 have HQ:=Lh a9
 clear b1 a5 a1
 go_wp2_with fail
 clear a9 hB a3
 have u:Hid (Below w1.heap.size w1 w1.drew):=Lh (Below.refl _ _).drew
 refine reg_start 16 (fun w'=>Below w1.heap.size w1 w') (by kernel_rfl) (by kernel_rfl) ?_
 intro a8
 have a0:=Lh a8
 clear a8
 refine rq 0 a0.out u.out rfl ?_ (hv:=fun w' hw=>by (have k0:=(hw.cell (p:=⟨w.heap.size,0,none⟩) HQ.out).trans V0.out; have k1:=(hw.cell (p:=⟨w.heap.size,1,none⟩) HQ.out).trans V1.out; have k2:=(hw.cell (p:=⟨w.heap.size,2,none⟩) HQ.out).trans V2.out; have k3:=(hw.cell (p:=⟨w.heap.size,3,none⟩) HQ.out).trans V3.out; have k4:=(hw.cell (p:=⟨w.heap.size,4,none⟩) HQ.out).trans V4.out; have k5:=(hw.cell (p:=⟨w.heap.size,5,none⟩) HQ.out).trans V5.out; have k6:=(hw.cell (p:=⟨w.heap.size,6,none⟩) HQ.out).trans V6.out; go_simp; exact rfl))
 refine rq 5 a0.out u.out rfl ?_
 refine rq 6 a0.out u.out rfl ?_ (hv:=fun w' hw=>by (have k5:=(hw.cell (p:=⟨w.heap.size,5,none⟩) HQ.out).trans V5.out; go_simp; exact rfl))
 refine rq 8 a0.out u.out rfl ?_
 refine rq 9 a0.out u.out rfl ?_
 refine reg_only 1 rfl (by kernel_rfl) rfl ?_
 unfold Oper.wp
 go_simp
 refine (at0 _).mono ?_
 rintro e Y ⟨rfl,b2⟩
 have z:=u.out.trans (b2.mono u.out.size)
 refine ⟨z,?_⟩
 have af:=u
 clear u
 have u:=Lh z
 clear z
 refine reg_only 2 rfl (by kernel_rfl) rfl ?_
 unfold Oper.wp
 go_simp
 refine (bnew_any Y).mono ?_
 rintro e w3 ⟨rfl,h3,b3⟩
 have z:=u.out.trans (b3.mono u.out.size)
 refine ⟨z,?_⟩
 have ag:=u
 clear u
 have u:=Lh z
 clear z
 refine reg_only 3 rfl (by kernel_rfl) rfl ?_
 unfold Oper.wp
 go_simp
 refine (Lc.new_any (fun g=>g < w3.heap.size) w3 base' (by have h1:=J.out.size; have h2:=u.out.size; omega) (fun g F=>F)).mono ?_
 rintro e w4 ⟨pl,rfl,h4,l4,b4⟩
 have z:=u.out.trans (b4.mono u.out.size)
 refine ⟨z,?_⟩
 have ah:=u
 clear u
 have u:=Lh z
 clear z
 refine reg_only 4 rfl (by kernel_rfl) rfl ?_
 unfold Oper.wp
 go_simp
 refine (St.new_any w4 base' (by have h1:=J.out.size; have h2:=u.out.size; omega)).mono ?_
 rintro e w5 ⟨ps,rfl,h5,l5,b5⟩
 have z:=u.out.trans (b5.mono u.out.size)
 refine ⟨z,?_⟩
 have ai:=u
 clear u
 have u:=Lh z
 clear z
 refine reg_only 7 rfl (by kernel_rfl) rfl ?_
 unfold Oper.wp
 go_simp
 refine (Le.new_any w5 c.leak).mono ?_
 rintro e w6 ⟨G,rfl,h6,b6,lp,la,lb,lq,lm⟩
 have z:=u.out.trans (b6.mono u.out.size)
 refine ⟨z,?_⟩
 have aj:=u
 clear u
 have u:=Lh z
 clear z
 refine reg_only 10 rfl (by kernel_rfl) rfl ?_
 unfold Oper.wp
 go_simp
 refine (Fc.new_any A k cp B O A' k' a2 B' P w6 (HO.out.below (aa.out.trans (u.out.mono (Nat.le_trans a6.out J.out.size)))) (HP.out.below (ac.out.trans (u.out.mono (Nat.le_trans a7.out J.out.size)))) (Nat.le_trans a6.out (Nat.le_trans J.out.size u.out.size)) (Nat.le_trans a7.out (Nat.le_trans J.out.size u.out.size)) hk ad).mono ?_
 rintro e w7 ⟨mF,pF,rfl,h7,b7⟩
 have z:=u.out.trans (b7.mono u.out.size)
 refine ⟨z,?_⟩
 have ak:=u
 clear u
 have u:=Lh z
 clear z
 refine reg_only 11 rfl (by kernel_rfl) rfl ?_
 unfold Oper.wp
 go_simp
 refine (Hi.new_any w7 base' (by have h1:=J.out.size; have h2:=u.out.size; omega)).mono ?_
 rintro e I ⟨ph,rfl,h8,l8,b8⟩
 have z:=u.out.trans (b8.mono u.out.size)
 refine ⟨z,?_⟩
 have al:=u
 clear u
 have u:=Lh z
 clear z
 refine rq 12 a0.out u.out rfl ?_
 refine reg_only 13 rfl (by kernel_rfl) rfl ?_
 unfold Oper.wp
 go_simp
 have z:=u.out.alloc u.out.size (.cells #[.int .i64 c.max,.int .i64 c.min,.int .u64 c.idle,.int .u64 c.life,.int .u64 c.keep,.int .u64 c.leak,.float .f64 c.var,.int .u64 0,ptr (Y.heap.size+1),ptr pl,ptr ps,ptr G.p,ptr pF,ptr ph,.int .i64 0,.bool false] 60)
 refine ⟨z,?_⟩
 have ae:=u
 clear u
 have u:=Lh z
 clear z
 refine rq 14 a0.out u.out rfl ?_
 refine rq 15 a0.out u.out rfl ?_
 refine reg_done (by kernel_rfl) ?_
 go_wp2_with fail
 go_ret2
 have t8:Below I.heap.size I (I.alloc (.cells #[.int .i64 c.max,.int .i64 c.min,.int .u64 c.idle,.int .u64 c.life,.int .u64 c.keep,.int .u64 c.leak,.float .f64 c.var,.int .u64 0,ptr (Y.heap.size+1),ptr pl,ptr ps,ptr G.p,ptr pF,ptr ph,.int .i64 0,.bool false] 60)):=(Below.refl _ _).alloc (Nat.le_refl _) _
 have t7:=b8.trans (t8.mono b8.size)
 have t6:=b7.trans (t7.mono b7.size)
 have t5:=b6.trans (t6.mono b6.size)
 have t4:=b5.trans (t5.mono b5.size)
 have t3:=b4.trans (t4.mono b4.size)
 have z1:=J.out.size
 have z2:w1.heap.size≤Y.heap.size:=b2.size
 have z3:=b3.size
 have z4:=b4.size
 have z5:=b5.size
 have z6:=b6.size
 have z7:=b7.size
 have z8:=b8.size
 have y3:=h3.lt
 have y4:=h4.lt
 have y5:=h5.lt
 have y6:=h6.lt
 have y7:=h7.in_
 have aq:=h7.lo
 have ar:=h7.lt
 have y8:=h8.lt
 obtain ⟨col,a4⟩:∃ col:Nat→Nat,col=fun g=>if g=R then 8 else col8 Y.heap.size w3.heap.size w4.heap.size w5.heap.size w6.heap.size w7.heap.size I.heap.size I.heap.size g:=⟨_,rfl⟩
 have cR:col R=8:=by rw [a4]; exact if_pos rfl
 have W:∀ g,w.heap.size≤g→col g=col8 Y.heap.size w3.heap.size w4.heap.size w5.heap.size w6.heap.size w7.heap.size I.heap.size I.heap.size g:=fun g F=>by rw [a4]; exact if_neg (by omega)
 have cA:∀ g,g≠R→col g=col8 Y.heap.size w3.heap.size w4.heap.size w5.heap.size w6.heap.size w7.heap.size I.heap.size I.heap.size g:=fun g F=>by rw [a4]; exact if_neg F
 have hX:∀ g,((col g≠0∧col g≠2)∨g < base')→g < w3.heap.size∨w4.heap.size≤g:=fun g F=>by
  by_cases e:g=R
  ·exact .inl (by omega)
  ·rw [cA g e] at F
   rcases F with F | F
   ·rcases col8_x z4 F with h | h
    ·exact .inl h.2
    ·exact .inr h
   ·exact .inl (by omega)
 refine ⟨⟨I.heap.size,Y.heap.size+1,Y.heap.size,pl,ps,none,G,w6.heap.size,mF,pF,ph,none⟩,col,rfl,⟨?_,?_,?_,?_,?_,?_,?_,?_,?_,?_,?_,?_,?_,?_⟩,cR,?_⟩
 ·refine ⟨?_,?_,?_,?_,?_,?_,?_,?_,?_,?_,?_,?_,?_,?_,?_,?_,?_⟩
  all_goals (first | (go_simp; done) | (intro o; simp [World.frozen?]))
 ·exact (h3.mono (fun g F hc=>by rw [W g (by have h9:Y.heap.size≤g:=hc; omega)]; exact col8_1 hc F) (fun g _ h=>h.elim) (fun g h1 h2=>by rw [h1] at h2; cases h2.1)).later t3
 ·exact (h4.shun hX).later t4
 ·exact h5.later t5
 ·exact h6.later t6
 ·exact h7.later t7
 ·exact h8.later t8
 ·show col pl=2; rw [W pl (by omega)]; exact col8_2 z3 l4 y4
 ·exact ⟨by show col ps=3; rw [W ps (by omega)]; exact col8_3 z3 z4 l5 y5,fun g F=>by cases F⟩
 ·exact ⟨by show col G.p=4; rw [W G.p (by omega)]; exact col8_4 z3 z4 z5 lp y6.1,by show col G.a=4; rw [W G.a (by omega)]; exact col8_4 z3 z4 z5 la y6.2.1,by show col G.b=4; rw [W G.b (by omega)]; exact col8_4 z3 z4 z5 lb y6.2.2.1,by show col G.q=4; rw [W G.q (by omega)]; exact col8_4 z3 z4 z5 lq y6.2.2.2.1,by show col G.m=4; rw [W G.m (by omega)]; exact col8_4 z3 z4 z5 lm y6.2.2.2.2⟩
 ·exact fun g h1 h2=>by
   have h1:w6.heap.size≤g:=h1
   have h2:g≤pF:=h2
   rw [W g (by omega)]; exact col8_5 z3 z4 z5 z6 h1 (by omega)
 ·exact ⟨by show col ph=6; rw [W ph (by omega)]; exact col8_6 z3 z4 z5 z6 z7 l8 y8,fun g F=>by cases F⟩
 ·show col I.heap.size=7; rw [W I.heap.size (by omega)]; exact col8_7 z3 z4 z5 z6 z7 z8 rfl rfl
 ·exact fun g F=>by
   by_cases e:g=R
   ·omega
   ·rw [cA g e] at F; have:=col8_lo F; omega
 ·exact J.out.trans (u.out.mono z1)
end Go.Proofs.YtoiklelghfckgaaGreatDoor.Wo
namespace Go.Proofs.YtoiklelghfckgaaGreatDoor.Wo
open Go Go.ChangeShapes Go.WideShapes Go.ChangeAt Go.RowKit Go.Deep Go.Maps Rw Hi Mt Ba
open Cn (Cf cfE)
theorem info_act:(Tryz.prog.info? 103).map (fun i=>(i.zero,i.size,i.bytes))=some (some (.agg #[.int .u8 0,.int .u64 0,.int .u64 0,.int .i64 0,.int .i64 0]),5,40):=by kernel_rfl
section
variable {ops:Array Oper} {rest:List Oper} {op:Oper} {a:Act} {w:World} {Q:Exit→Act→World→Prop}
theorem store_c2 (F:op.guard=none) (y z:Operand) (G:op.op=.store 50 y z) (g:Nat) (hx:a.eval y=.pointer (some ⟨g,0,none⟩)) (c:Cf) (I:a.eval z=c.v) (u:w.there g 0 7)
  (h:∀ w',w'.rangeAt g 0 (ccs c)→w'.there g 0 7→Fz (fun k=>k=g) w w'→wpList Tryz.prog ops Q rest (a.put op.dst undef) w'):wpList Tryz.prog ops Q (op :: rest) a w:=
 wpList_store_mid F 50 y z G g 0 (ccs c).toArray hx I u (by kernel_rfl) (by kernel_rfl) (h _ (World.rangeAt_setCells_same w g 0 _ u) (World.there_setCells u g 0 _) (fz_setCells _ _ _ _))
end
theorem res_wm {fn:Func} {p u x:Tmp} (z:Array Value) (w:World) (g:Nat) (v:Dv) (s:Ws) (h:fn.results=#[.tmp u,.cell p 46,.tmp x]) (F:z.getD p undef=.pointer (some ⟨g,0,none⟩)) (hv:Vw w g (v.cells s)):(results fn z).run Tryz.prog w=.ok (.tuple #[z.getD u undef,v.val s,z.getD x undef]) w:=by
 have I:=run_loadVar_mid (P:=Tryz.prog) w g 0 46 _ _ hv.at_ under_w row_w info_w
 have G:z[p]?.getD undef=.pointer (some ⟨g,0,none⟩):=by simpa using F
 simp [results,h,G,asAddr,I]
theorem c8_ok:c8.ok:=⟨⟨by decide,by decide⟩,⟨by decide,by decide⟩,⟨by decide,by decide⟩,⟨by decide,by decide⟩,by decide⟩
theorem c8_zero:cfE c8=0:=by kernel_rfl
section
variable {w w':World} {base:Nat} {col col':Nat→Nat} {x:Wp} {s:Ws} {d:Nat} {v:Dv} {N:List Int}
theorem Tw.there (h:Tw base col w x v d s N) {R:Nat} (z:col R=8) (F:R≠d) (G:Fp col d w w') (u:w.there R 0 23):w'.there R 0 23:=
 th_blk u (G.block R (th_lt u) (fun e=>by
  rcases e with e | e
  ·exact e.2 z
  ·exact F e))
theorem Wo.v2 (h:Wo base col w x s):∃ col',Wv base col' w x s∧El w col col':=by
 obtain ⟨col',G⟩:∃ col':Nat→Nat,col'=fun g=>if g < w.heap.size then col g else 0:=⟨_,rfl⟩
 have z:∀ g,g < w.heap.size→col' g=col g:=fun g u=>by rw [G]; exact if_pos u
 have F:∀ g,w.heap.size≤g→col' g=0:=fun g u=>by rw [G]; show (if g < w.heap.size then col g else 0)=0; rw [if_neg (by omega)]
 refine ⟨col',⟨x.rs,x.rh,h.recol z (fun g u=>?_),fun g u=>?_⟩,z⟩
 ·by_cases h3:g < w.heap.size
  ·exact h.lo g (by rw [← z g h3]; exact u)
  ·exact absurd (F g (by omega)) u
 ·by_cases h3:g < w.heap.size
  ·exact h3
  ·exact absurd (F g (by omega)) u
theorem Tw.low (h:Tw base col w x v d s N) (F:base≤d) (z:Fp col d w w'):Below base w w':=
 z.below h.wv.base_le (fun g u=>by
  rcases u with u | u
  ·exact h.wv.lo g u.1
  ·omega)
theorem rs_fp {α:Type} {enc:α→List Value} {F n c:Nat} {A:Option Addr} {xs:List α} (h:Rs enc F w w.heap.size A n c xs) (hk:Kn (Kc base col) n A) (hc:col d=8) (z:Fp col d w w'):Rs enc F w' w'.heap.size A n c xs:=
 rs_blk h z.size (kn_blk (rs_at h) hk z (fun g G e u=>by
  have e:col g=0:=e.1
  rcases u with u | u
  ·exact u.1 e
  ·subst u; omega))
theorem kn_el {α:Type} {enc:α→List Value} {F n c:Nat} {A:Option Addr} {xs:List α} (h:Rs enc F w w.heap.size A n c xs) (hk:Kn (Kc base col) n A) (z:El w col col'):Kn (Kc base col') n A:=
 kn_mono (rs_at h) hk (fun g u e=>⟨(z g u).trans e.1,e.2⟩)
end
theorem bgn1_facts (u h:List Int) (F:u.length≤6) (G:h.length≤5):Pl (bgn1 u h) [] (bgnA u h).length∧(bgn1 u h).closed=false:=by
 have z:(bgnA u h).length≤900:=by unfold bgnA; rw [List.length_append,acts1_len,List.length_map]; omega
 have:=acts_pl (bgnA u h) (bgnA_ok u h (by omega)) (bgnA u h).length (Nat.le_refl _) z
 rw [List.take_length] at this
 exact this
theorem foldS (f:Ws→Ay→Ws) (h:∀ s y,(f s y).sl=s.sl) (l:List Ay) (s:Ws):(l.foldl f s).sl=s.sl:=by
 induction l generalizing s with
 | nil=>rfl
 | cons a l ih=>rw [List.foldl_cons,ih,h]
theorem bgn1_sl (u h:List Int):(bgn1 u h).sl=[]:=by
 unfold bgn1
 rw [foldS playS (fun s y=>by unfold playS; (repeat' split); all_goals rfl)]
theorem park_len (l:List Int) (s:Ws):(l.foldl parkW s).sl.length≤s.sl.length+l.length:=by
 induction l generalizing s with
 | nil=>simp
 | cons a l ih=>
  rw [List.foldl_cons]
  have:=ih (parkW s a)
  have h:(parkW s a).sl.length≤s.sl.length+1:=by
   show (St.parkL s.sl (a % 8) 9).length≤_
   unfold St.parkL; split <;> simp
  simp only [List.length_cons]; omega
theorem park_rest (l:List Int) (s:Ws):(l.foldl parkW s).M=s.M∧(l.foldl parkW s).L=s.L∧(l.foldl parkW s).T=s.T:=by
 induction l generalizing s with
 | nil=>exact ⟨rfl,rfl,rfl⟩
 | cons a l ih=>rw [List.foldl_cons]; exact ih (parkW s a)
theorem bgn2_facts (z F u:List Int) (I:z.length≤6) (J:u.length≤5):(bgn2 z F u).M=Le.mk [] ∧ Le.Sd (bgn2 z F u).L∧(bgn2 z F u).L.length≤23∧(bgn2 z F u).T.length≤23:=by
 have h:=(bgn1_facts z u I J).1
 have W:(bgnA z u).length≤23:=by unfold bgnA; rw [List.length_append,acts1_len,List.length_map]; omega
 have G:=park_rest F (bgn1 z u)
 unfold bgn2
 rw [G.1,G.2.1,G.2.2]
 exact ⟨h.mk_,h.sd,by have:=h.ll; omega,by have:=h.tl; omega⟩
theorem mark_facts (l:List Int) (u:Ws) (h:u.M=Le.mk [] ∧ Le.Sd u.L∧u.L.length≤23∧u.T.length≤23):(l.foldl markW (u,[])).1.M=Le.mk (l.foldl markW (u,[])).2∧(l.foldl markW (u,[])).2.length≤l.length∧Le.Sd (l.foldl markW (u,[])).1.L∧(l.foldl markW (u,[])).1.L.length≤23∧(l.foldl markW (u,[])).1.T.length≤23:=by
 have key:∀ (l:List Int) (q:Ws × List Int) (n:Nat),(q.1.M=Le.mk q.2∧q.2.length≤n∧Le.Sd q.1.L∧q.1.L.length≤23∧q.1.T.length≤23)→((l.foldl markW q).1.M=Le.mk (l.foldl markW q).2∧(l.foldl markW q).2.length≤n+l.length∧Le.Sd (l.foldl markW q).1.L∧(l.foldl markW q).1.L.length≤23∧(l.foldl markW q).1.T.length≤23):=by
  intro l
  induction l with
  | nil=>intro q n z; exact z
  | cons a l ih=>
   intro q n z
   rw [List.foldl_cons]
   have:=ih (markW q a) (n+1) (by
    unfold markW
    split
    ·exact ⟨z.1,by omega,z.2.2⟩
    ·refine ⟨rfl,?_,z.2.2⟩
     show (mrkN q.1.L q.2 (a % 8+1) (a % 8)).length≤n+1
     unfold mrkN
     split
     ·have:=List.length_filter_le (· != (a % 8+1)) q.2; simp; omega
     ·omega)
   simp only [List.length_cons]
   exact ⟨this.1,by have:=this.2.1; omega,this.2.2⟩
 have:=key l (u,[]) 0 ⟨h.1,Nat.le_refl _,h.2⟩
 simpa using this
theorem begin_any (W:World) (As Aw Am:Option Addr) (ns cs nw cw nm cm:Nat) (F G u:List Int) (hs:Rd (Value.int .u8) W W.heap.size As ns cs F) (hw:Rd (Value.int .u8) W W.heap.size Aw nw cw G) (hm:Rd (Value.int .u8) W W.heap.size Am nm cm u)
  (us:∀ z∈F,0≤z∧z≤255) (uw:∀ z∈G,0≤z∧z≤255) (um:∀ z∈u,0≤z∧z≤255) (hn:ns≤6) (d6:nw≤5) (d5:nm≤5) (cl:Bool) :
  Calls Tryz.prog 6 #[.slice As ns cs,.slice Aw nw cw,.slice Am nm cm,.bool cl] W fun e w'=>∃ (base:Nat) (x:Wp) (col:Nat→Nat) (v:Dv),e=.returned (.tuple #[ptr x.pw,v.val (bgnS F G u cl),.bool true])∧W.heap.size≤base∧Wv base col w' x (bgnS F G u cl)∧Dw (Kc base col) w' v (bgnS F G u cl) (bgnN F G u)∧Below W.heap.size W w':=by
 obtain ⟨i0,hi,ct,cu,cv⟩:=info_parts info_act
 have bI:=Lh hs
 have bP:=Lh hw
 have aP:=Lh hm
 have cM:=Lh us
 have cN:=Lh uw
 have bO:=Lh um
 have aO:=Lh hs.len
 have cH:=Lh hw.len
 have aN:=Lh hm.len
 clear hs hw hm us uw um
 have bJ:Hid ((W.alloc (.cells #[.int .i64 0,.int .i64 0,.int .u64 0,.int .u64 0,.int .u64 0,.int .u64 0,.float .f64 0,.int .u64 0,.slice none 0 0,.slice none 0 0,.slice none 0 0,.slice none 0 0,.int .u64 0,.slice none 0 0,.slice none 0 0,.slice none 0 0,.slice none 0 0,.slice none 0 0,.slice none 0 0,.int .u64 0,.slice none 0 0,.int .i64 0,.bool false] 46)).there W.heap.size 0 23):=Lh (th_zero W)
 have aK:Hid (Below W.heap.size W (W.alloc (.cells #[.int .i64 0,.int .i64 0,.int .u64 0,.int .u64 0,.int .u64 0,.int .u64 0,.float .f64 0,.int .u64 0,.slice none 0 0,.slice none 0 0,.slice none 0 0,.slice none 0 0,.int .u64 0,.slice none 0 0,.slice none 0 0,.slice none 0 0,.slice none 0 0,.slice none 0 0,.slice none 0 0,.int .u64 0,.slice none 0 0,.int .i64 0,.bool false] 46))):=Lh ((Below.refl _ _).alloc (Nat.le_refl _) _)
 have cg:(W.alloc (.cells #[.int .i64 0,.int .i64 0,.int .u64 0,.int .u64 0,.int .u64 0,.int .u64 0,.float .f64 0,.int .u64 0,.slice none 0 0,.slice none 0 0,.slice none 0 0,.slice none 0 0,.int .u64 0,.slice none 0 0,.slice none 0 0,.slice none 0 0,.slice none 0 0,.slice none 0 0,.slice none 0 0,.int .u64 0,.slice none 0 0,.int .i64 0,.bool false] 46)).heap.size=W.heap.size+1:=by simp
 have cJ:=Lh cg
 clear cg
 go_enter Tryz.func6,Tryz.ntmps6
 go_upto_region 1 with (fail)
 generalize (W.alloc (.cells #[.int .i64 0,.int .i64 0,.int .u64 0,.int .u64 0,.int .u64 0,.int .u64 0,.float .f64 0,.int .u64 0,.slice none 0 0,.slice none 0 0,.slice none 0 0,.slice none 0 0,.int .u64 0,.slice none 0 0,.slice none 0 0,.slice none 0 0,.slice none 0 0,.slice none 0 0,.slice none 0 0,.int .u64 0,.slice none 0 0,.int .i64 0,.bool false] 46))=W0 at *
 go_wp2_with fail
 refine (Cn.default_any W0).mono ?_
 rintro e w1 ⟨rfl,b1⟩
 have a8:=Lh b1
 clear b1
 go_upto_region 2 with (first
  | (refine store_c2 rfl _ _ rfl w1.heap.size rfl ⟨4,1,100,1000,50,200,4598175219545276416⟩ rfl (th_conf w1) ?_; intro w2 aW ch ad; have aR:=Lh aW; have bb:=Lh ch; have an:Hid (Below w1.heap.size w1 w2):=Lh (((Below.refl _ _).alloc (Nat.le_refl _) _).trans (ad.below (by simp) (fun k hk=>by omega))); clear aW ch ad))
 obtain ⟨cb,aV⟩:∃ cb,w1.heap.size=cb:=⟨_,rfl⟩
 rw [aV] at aR bb
 rw [aV]
 have bz:=Lh aV
 clear aV
 have f0:w2.cell? ⟨cb,0,none⟩=some (.int .i64 4):=by have:=aR.out 0 _ rfl; rwa [Nat.zero_add] at this
 have g0:w2.frozen? ⟨cb,0,none⟩=false:=by have:=(bb.out 0 (by decide)).2; rwa [Nat.zero_add] at this
 go_upto_region 3 with (fail)
 have b6:Hid ((w2.setCell ⟨cb,0,none⟩ (.int .i64 8)).rangeAt cb 0 (ccs c8)):=Lh (range_set0 aR.out 8)
 have ae:Hid (Below w1.heap.size w1 (w2.setCell ⟨cb,0,none⟩ (.int .i64 8))):=Lh (an.out.setCell (p:=⟨cb,0,none⟩) (by have:=bz.out; show w1.heap.size≤cb; omega) _)
 generalize (w2.setCell ⟨cb,0,none⟩ (.int .i64 8))=w3 at *
 clear f0 g0 aR bb an
 have bw:Hid (Below W.heap.size W w3):=Lh ((aK.out.trans (a8.out.mono aK.out.size)).trans (ae.out.mono (Nat.le_trans aK.out.size a8.out.size)))
 have I:Hid (w3.there W.heap.size 0 23):=Lh (th_later bJ.out (a8.out.trans (ae.out.mono a8.out.size)))
 have ai:Hid (W.heap.size < w3.heap.size):=Lh (th_lt I.out)
 clear aK a8 ae bJ bz cJ
 go_wp2_with (first
  | (refine load_c rfl _ rfl cb rfl c8 b6.out ?_))
 refine (new_ok2 W.heap.size W.heap.size c8 c8_ok c8_zero none none 0 0 w3.heap.size 0 0 w3.heap.size [] [] w3 ai.out (Nat.le_refl _) Rd.nil_ Rd.nil_ (Nat.le_refl _) (Nat.le_refl _) (by omega) (by omega)).mono ?_
 rintro e w4 ⟨x,d2,rfl,h4,bR,b4⟩
 obtain ⟨col,h4,bX⟩:=h4.v2
 have bA:Hid (col W.heap.size=8):=Lh ((bX _ (by have h1:=ai.out; have h2:=b4.size; omega)).trans bR)
 have bh:=Lh h4
 have af:=Lh b4
 have bH:=Lh (range_later b6.out b4)
 clear h4 b4 b6 bX bR
 go_wp2_with (first
  | (refine load_c rfl _ rfl cb rfl c8 bH.out ?_))
 refine (dnew_any (K:=Kc W.heap.size col) w4 c8 c8_ok c8_zero bh.out.new0 none none 0 0 0 0 [] [] (Fk.Rn.nil_ _ _) (Fk.Rn.nil_ _ _)).mono ?_
 rintro e w5 ⟨v,rfl,bU,b5⟩
 have bB:=Lh bU
 have a9:=Lh b5
 clear bU b5 bH
 go_upto_region 5 with (first
  | (refine store_w rfl _ _ rfl w5.heap.size rfl v (newS c8 [] []) rfl (th_zero w5) ?_; intro w6 cp cx; have aT:=Lh cp; have aL:Hid (Below w5.heap.size w5 w6):=Lh (((Below.refl _ w5).alloc (Nat.le_refl _) _).trans (cx.below (by simp) (fun k hk=>by omega))); clear cp cx))
 obtain ⟨d,hd⟩:∃ d,w5.heap.size=d:=⟨_,rfl⟩
 rw [hd] at aT
 rw [hd]
 have bN:Hid (∃ al,Tw W.heap.size al w6 x v d (newS c8 [] []) [] ∧ al W.heap.size=8):=Lh (by
  have da:=a9.out.size
  obtain ⟨al,cZ,bZ,cV,cU⟩:=bh.out.var (a9.out.trans (aL.out.mono a9.out.size)) d (by omega) aT.out.lt
  refine ⟨al,⟨cZ,(bB.out.mono (fun g hg e=>?_)).later aL.out,aT.out,cV⟩,(bZ _ (by have h1:=ai.out; have h2:=af.out.size; omega)).trans bA.out⟩
  refine ⟨?_,e.2⟩
  by_cases h3:g < w4.heap.size
  ·exact (bZ g h3).trans e.1
  ·exact cU g (by omega) (by omega))
 have aY:Hid (Below w3.heap.size w3 w6):=Lh ((af.out.trans (a9.out.mono af.out.size)).trans (aL.out.mono (Nat.le_trans af.out.size a9.out.size)))
 have ao:Hid (W.heap.size≤d):=Lh (by have:=af.out.size; have:=a9.out.size; have:=ai.out; omega)
 have aj:Hid (W.heap.size≠d):=Lh (by have:=af.out.size; have:=a9.out.size; have:=ai.out; omega)
 clear bh af bB a9 aT aL hd
 obtain ⟨al,cj,bS⟩:=bN.out
 have bg:=Lh cj
 have Y:=Lh bS
 clear cj bS bN bA
 have ag:Hid (Below W.heap.size W w6):=Lh (bw.out.trans (aY.out.mono (Nat.le_of_lt ai.out)))
 have bM:Hid (w6.there W.heap.size 0 23):=Lh (th_blk I.out (aY.out.block _ ai.out))
 clear bw aY I
 go_upto_region 8 with (fail)
 go_wp2_with fail
 go_loopw [16,52] (fun a i wr=>∃ (k:Nat) (A:Option Addr) (c:Nat),k≤ns∧a=.slice A (3 * k) c∧i=.int .i64 k∧Hid (wr.ownsRow w6.heap.size 103 5 (.slice A (3 * k) c) (3 * k) (flat encY (acts1 F k)))∧Hid (Below w6.heap.size w6 wr)) (fun _ i _=>ns - (intOf i).toNat)
 case atStart=>exact ⟨0,none,0,Nat.zero_le _,rfl,rfl,Lh (World.ownsRow_nil _ _ _ _),Lh (Below.refl _ _)⟩
 case round=>
  obtain ⟨k,A,c,hk,rfl,rfl,HO,HB⟩:=hrel
  by_cases hkn:k < ns
  ·obtain ⟨b,o,z,rfl,hb,hz,hc⟩:=bI.out.get hkn
   have a1:=cM.out z (List.mem_of_getElem? hz)
   have d0:=((ag.out.trans (HB.out.mono ag.out.size)).cell (p:=⟨b,o+k,none⟩) hb).trans hc
   have bq:k < cs:=by have:=bI.out.cap; omega
   have t1:z.tmod 4=z % 4:=Int.tmod_eq_emod_of_nonneg a1.1
   have t2:IntKind.i64.wrap (z % 4)=z % 4:=by rw [IntKind.wrap_i64]; omega
   have t3:IntKind.i64.wrap ((k:Int)+1)=(k:Int)+1:=by rw [IntKind.wrap_i64]; omega
   have t4:IntKind.u64.wrap ((k:Int)+1)=(k:Int)+1:=by rw [IntKind.wrap_u64]; omega
   have be:Hid (acts1 F (k+1)=acts1 F k ++ tri k (z % 4)):=Lh (by rw [acts1_succ,List.getD_eq_getElem?_getD,hz]; rfl)
   have aH:=rs_of wr encY_len (by decide) (tri k (z % 4)) 3 rfl (by decide) 103 (cs:=#[.int .u8 1,.int .u64 0,.int .u64 0,.int .i64 0,.int .i64 0,.int .u8 3,.int .u64 0,.int .u64 0,.int .i64 0,.int .i64 (z % 4),.int .u8 4,.int .u64 ((k:Int)+1),.int .u64 0,.int .i64 0,.int .i64 0]) rfl
   have b7:=Lh aH
   have bp:=HB.out.size
   have ay:=Lh (HO.out.alloc (.cells #[.int .u8 1,.int .u64 0,.int .u64 0,.int .i64 0,.int .i64 0,.int .u8 3,.int .u64 0,.int .u64 0,.int .i64 0,.int .i64 (z % 4),.int .u8 4,.int .u64 ((k:Int)+1),.int .u64 0,.int .i64 0,.int .i64 0] 103))
   have an:=Lh (HB.out.alloc bp (.cells #[.int .u8 1,.int .u64 0,.int .u64 0,.int .i64 0,.int .i64 0,.int .u8 3,.int .u64 0,.int .u64 0,.int .i64 0,.int .i64 (z % 4),.int .u8 4,.int .u64 ((k:Int)+1),.int .u64 0,.int .i64 0,.int .i64 0] 103))
   clear hz hc aH HO HB a1
   go_wp2_with (
    at_builtin
    refine append_rs encY_len rfl _ _ 101 rfl w6.heap.size 103 i0 _ 40 Tryz.underlying101 hi ct cu cv rfl (by decide) (.slice A (3 * k) c) (3 * k) _ rfl ay.out _ _ 3 3 (tri k (z % 4)) rfl b7.out encY_one (3 * (k+1)) (by omega) (flat encY (acts1 F (k+1))) (by rw [be.out]; exact (flat_append _ _).symm) (by unfold maxLen; omega) (by omega) (by simp; omega) ?_
    intro A' c' w' a6 hg bo
    have b3:=Lh a6
    have ae:=Lh (an.out.grown hg (by simp; omega) (fun j hj=>(ay.out.lt j hj).1))
    clear a6 hg bo)
   go_roundw
   case rel=>exact ⟨k+1,A',c',by omega,rfl,by go_num,b3,ae⟩
   case measure=>simp [intOf]; omega
  ·obtain rfl:k=ns:=by omega
   clear hk hkn
   have bD:=HO
   have a8:=HB
   clear HO HB
   generalize wr=wa at *
   go_wp2_with fail
   go_loopw [16,72] (fun a i wr=>∃ (j:Nat) (A:Option Addr) (c:Nat),j≤nm∧a=.slice A (3 * k+j) c∧i=.int .i64 j∧Hid (wr.ownsRow w6.heap.size 103 5 (.slice A (3 * k+j) c) (3 * k+j) (flat encY (acts1 F k ++ (u.take j).map lsA)))∧Hid (Below w6.heap.size w6 wr)) (fun _ i _=>nm - (intOf i).toNat)
   case atStart=>exact ⟨0,A,c,Nat.zero_le _,rfl,rfl,Lh (by have:=bD.out; simpa using this),a8⟩
   case round=>
    clear bD a8
    obtain ⟨j,A,c,hj,rfl,rfl,HO,HB⟩:=hrel
    by_cases hjn:j < nm
    ·obtain ⟨b,o,z,rfl,hb,hz,hc⟩:=aP.out.get hjn
     have a1:=bO.out z (List.mem_of_getElem? hz)
     have d0:=((ag.out.trans (HB.out.mono ag.out.size)).cell (p:=⟨b,o+j,none⟩) hb).trans hc
     have bq:j < cm:=by have:=aP.out.cap; omega
     have t1:z.tmod 8=z % 8:=Int.tmod_eq_emod_of_nonneg a1.1
     have t2:IntKind.i64.wrap (z % 8)=z % 8:=by rw [IntKind.wrap_i64]; omega
     have t3:IntKind.u64.wrap (z % 8)=z % 8:=by rw [IntKind.wrap_u64]; omega
     have t4:IntKind.u64.wrap (z % 8+1)=z % 8+1:=by rw [IntKind.wrap_u64]; omega
     have be:Hid (acts1 F k ++ (u.take (j+1)).map lsA=(acts1 F k ++ (u.take j).map lsA) ++ [lsA z]):=Lh (by rw [List.take_add_one,hz,List.map_append,List.append_assoc]; rfl)
     have aH:=rs_one encY_len wr (lsA z) 103 (cs:=#[.int .u8 5,.int .u64 (z % 8+1),.int .u64 0,.int .i64 (z % 8),.int .i64 0]) rfl
     have b7:=Lh aH
     have bp:=HB.out.size
     have ay:=Lh (HO.out.alloc (.cells #[.int .u8 5,.int .u64 (z % 8+1),.int .u64 0,.int .i64 (z % 8),.int .i64 0] 103))
     have an:=Lh (HB.out.alloc bp (.cells #[.int .u8 5,.int .u64 (z % 8+1),.int .u64 0,.int .i64 (z % 8),.int .i64 0] 103))
     clear hz hc aH HO HB a1
     go_wp2_with (
      at_builtin
      refine append_rs encY_len rfl _ _ 101 rfl w6.heap.size 103 i0 _ 40 Tryz.underlying101 hi ct cu cv rfl (by decide) (.slice A (3 * k+j) c) (3 * k+j) _ rfl ay.out _ _ 1 1 [lsA z] rfl b7.out encY_one (3 * k+(j+1)) (by omega) (flat encY (acts1 F k ++ (u.take (j+1)).map lsA)) (by rw [be.out]; exact (flat_append _ _).symm) (by unfold maxLen; omega) (by omega) (by simp; omega) ?_
      intro A' c' w' a6 hg bo
      have b3:=Lh a6
      have ae:=Lh (an.out.grown hg (by simp; omega) (fun j hj=>(ay.out.lt j hj).1))
      clear a6 hg bo)
     go_roundw
     case rel=>exact ⟨j+1,A',c',by omega,rfl,by go_num,b3,ae⟩
     case measure=>simp [intOf]; omega
    ·obtain rfl:j=nm:=by omega
     clear hj hjn
     obtain ⟨L,hL⟩:∃ L,bgnA F u=L:=⟨_,rfl⟩
     obtain ⟨na,aG⟩:∃ na,3 * k+j=na:=⟨_,rfl⟩
     have bn:L.length=na:=by rw [← hL,← aG]; unfold bgnA; rw [List.length_append,acts1_len,List.length_map,aO.out,aN.out]
     have a6:=HO.out
     rw [show acts1 F k ++ (u.take j).map lsA=L by rw [← hL]; unfold bgnA; rw [aO.out,← aN.out,List.take_length]] at a6
     rw [aG] at a6
     rw [aG]
     have bY:Kn (Kc W.heap.size al) na A:=fun _ a e=>bg.out.wv.new0 _ (by subst e; exact (a6.lt _ rfl).1)
     have aa:=Lh (Rs.own_rs encY_len bn a6)
     have ah:=Lh bY
     have b2:=Lh bn
     have bC:=Lh (show ∀ y∈L,okA y from hL ▸ bgnA_ok F u (by have:=aO.out; omega))
     have d4:na≤23:=by omega
     have h:=Lh (bg.out.later HB.out)
     have J:Hid (Below W.heap.size W wr):=Lh (ag.out.trans (HB.out.mono ag.out.size))
     have I:=Lh (th_later bM.out HB.out)
     have cG:=Lh hL
     have d1:=Lh aG
     clear hL aG bn a6 bY HO HB bg ag bM
     generalize wr=wb at *
     go_wp2_with fail
     go_loopw [90] (fun i wr=>∃ (p:Nat) (col:Nat→Nat) (v:Dv),p≤na∧i=.int .i64 p∧Hid (Tw W.heap.size col wr x v d ((L.take p).foldl playS (newS c8 [] [])) [])∧Hid (Rs encY 5 wr wr.heap.size A na c L)∧Hid (Kn (Kc W.heap.size col) na A)∧Hid (Below W.heap.size W wr)∧Hid (wr.there W.heap.size 0 23)∧Hid (col W.heap.size=8)) (fun i _=>na - (intOf i).toNat)
     case atStart=>exact ⟨0,al,v,Nat.zero_le _,rfl,h,aa,ah,J,I,Y⟩
     case round=>
      clear h aa ah J I Y
      obtain ⟨p,col,v,hp,rfl,h,aa,ah,J,I,Y⟩:=hrel
      have bu:=acts_pl L bC.out p (by rw [b2.out]; exact hp) (by rw [b2.out]; omega)
      have aQ:=Lh bu.1
      have aM:=Lh bu.2
      clear bu
      by_cases hpn:p < na
      ·obtain ⟨b,o,y,rfl,hb,hy,e1,e2,e3,e4,e5⟩:=actY_at aa.out hpn
       have HY:=Lh (bC.out y (List.mem_of_getElem? hy))
       have a2:Hid ((L.take (p+1)).foldl playS (newS c8 [] [])=playS ((L.take p).foldl playS (newS c8 [] [])) y):=Lh (foldl_take playS _ hy)
       have d9:p < c:=by have:=aa.out.cap; omega
       have aC:Below wr.heap.size wr (wr.alloc (.cells #[.int .u8 y.do_,.int .u64 y.id,.int .u64 y.n,.int .i64 y.th,.int .i64 y.st] 103)):=(Below.refl _ _).alloc (Nat.le_refl _) _
       have ar:=Lh (h.out.later aC)
       have b9:=Lh (aa.out.later aC)
       have au:Hid (Below W.heap.size W (wr.alloc (.cells #[.int .u8 y.do_,.int .u64 y.id,.int .u64 y.n,.int .i64 y.th,.int .i64 y.st] 103))):=Lh (J.out.trans (aC.mono J.out.size))
       have az:=Lh (th_later I.out aC)
       have bi:=Lh (Yc.new wr y)
       clear aC hy
       go_upto_region 21 with (fail)
       obtain ⟨q,hq⟩:∃ q,wr.heap.size=q:=⟨_,rfl⟩
       rw [hq] at bi
       rw [hq]
       clear hq e1 e2 e3 e4 e5 hb h aa J I
       generalize (wr.alloc (.cells #[.int .u8 y.do_,.int .u64 y.id,.int .u64 y.n,.int .i64 y.th,.int .i64 y.st] 103))=w7 at *
       obtain ⟨z0,z1,z2,z3,z4⟩:=bi.out
       obtain ⟨s,hs⟩:∃ s,(L.take p).foldl playS (newS c8 [] [])=s:=⟨_,rfl⟩
       rw [hs] at ar aQ aM a2
       have bG:=Lh (play_ok w7 ar.out aQ.out (by omega) (by decide) HY.out aM.out)
       clear hs aQ aM
       go_wp2_with fail
       refine bG.out.mono ?_
       rintro e w8 ⟨rfl,col8,v8,ci,aX,br⟩
       have cL:Hid (Tw W.heap.size col8 w8 x v8 d ((L.take (p+1)).foldl playS (newS c8 [] [])) []):=Lh (by rw [a2.out]; exact ci)
       have cI:=Lh (rs_fp b9.out ah.out ar.out.c8 aX)
       have cF:=Lh (kn_el b9.out ah.out br)
       have cC:Hid (col8 W.heap.size=8):=Lh ((br _ (th_lt az.out)).trans Y.out)
       have a5:=ar.out.low ao.out aX
       have cy:Hid (Below W.heap.size W w8):=Lh (au.out.trans a5)
       have cK:Hid (w8.there W.heap.size 0 23):=Lh (ar.out.there Y.out aj.out aX az.out)
       clear ci aX br bG ar b9 ah au az z0 z1 z2 z3 z4 bi a5
       go_wp2_with fail
       go_roundw
       case rel=>exact ⟨p+1,col8,v8,by omega,by go_num,cL,cI,cF,cy,cK,cC⟩
       case measure=>simp [intOf]; omega
      ·obtain rfl:p=na:=by omega
       have ca:(L.take p).foldl playS (newS c8 [] [])=bgn1 F u:=by rw [← b2.out,List.take_length,← cG.out]; rfl
       rw [ca] at h aQ aM
       clear ca hp hpn aa ah
       generalize wr=wc at *
       go_wp2_with fail
       go_loopw [102] (fun i wr=>∃ (r:Nat) (col:Nat→Nat) (v:Dv),r≤nw∧i=.int .i64 r∧Hid (Tw W.heap.size col wr x v d ((G.take r).foldl parkW (bgn1 F u)) [])∧Hid (Below W.heap.size W wr)∧Hid (wr.there W.heap.size 0 23)∧Hid (col W.heap.size=8)) (fun i _=>nw - (intOf i).toNat)
       case atStart=>exact ⟨0,col,v,Nat.zero_le _,rfl,h,J,I,Y⟩
       case round=>
        clear h J I Y
        obtain ⟨r,col,v,hr,rfl,h,J,I,Y⟩:=hrel
        by_cases hrn:r < nw
        ·obtain ⟨b,o,z,rfl,hb,hz,hc⟩:=bP.out.get hrn
         have a1:=cN.out z (List.mem_of_getElem? hz)
         have d0:=(J.out.cell (p:=⟨b,o+r,none⟩) hb).trans hc
         have bq:r < cw:=by have:=bP.out.cap; omega
         have t1:z.tmod 8=z % 8:=Int.tmod_eq_emod_of_nonneg a1.1
         have t2:IntKind.i64.wrap (z % 8)=z % 8:=by rw [IntKind.wrap_i64]; omega
         have a2:Hid ((G.take (r+1)).foldl parkW (bgn1 F u)=parkW ((G.take r).foldl parkW (bgn1 F u)) z):=Lh (foldl_take parkW _ hz)
         have ba:Hid (((G.take r).foldl parkW (bgn1 F u)).sl.length≤1000):=Lh (by have:=park_len (G.take r) (bgn1 F u); rw [bgn1_sl,List.length_nil] at this; have h2:(G.take r).length≤5:=(by rw [List.length_take]; omega); omega)
         obtain ⟨s,hs⟩:∃ s,(G.take r).foldl parkW (bgn1 F u)=s:=⟨_,rfl⟩
         rw [hs] at h a2 ba
         clear hz hc hs a1
         have c10:=h.out.wv.cells.c10
         go_wp2_with (first
          | (refine load_w rfl _ rfl d rfl v s ac.out ?_))
         refine (wpark wr h.out.wv (z % 8) 9 ba.out).mono ?_
         rintro e w7 ⟨rfl,aU,h7,z7,l7⟩
         have a3:=Lh h7
         have aw:=Lh (h.out.dw.call z7 l7)
         have ac:=Lh (h.out.vw.blk (z7.block d h.out.vw.lt (fun e=>e.2 h.out.c8)))
         have a7:Hid (aU d=8):=Lh ((l7 d h.out.vw.lt).trans h.out.c8)
         have cB:Hid (aU W.heap.size=8):=Lh ((l7 _ (th_lt I.out)).trans Y.out)
         have a5:=h.out.low ao.out (fp_w (d:=d) z7)
         have av:Hid (Below W.heap.size W w7):=Lh (J.out.trans a5)
         have ak:Hid (w7.there W.heap.size 0 23):=Lh (h.out.there Y.out aj.out (fp_w (d:=d) z7) I.out)
         clear h7 z7 l7 h J I c10 a5
         go_wp2_with (first
          | (refine load_w rfl _ rfl d rfl v s ac.out ?_))
         refine (dpark_any w7 v s [] aw.out a3.out.new0 (z % 8) 9 ba.out).mono ?_
         rintro e w8 ⟨v8,rfl,aE,b8⟩
         have ax:=Lh aE
         have a0:=Lh b8
         have aA:=Lh (ac.out.later b8).th
         clear aE b8
         go_wp2_with (first
          | (refine store_w rfl _ _ rfl d rfl v8 { s with sl:=St.parkL s.sl (z % 8) 9 } rfl aA.out ?_; intro w9 aI aJ; have aB:=Lh aI; have a4:=Lh aJ; clear aI aJ))
         have bd:Hid (Tw W.heap.size aU w9 x v8 d ((G.take (r+1)).foldl parkW (bgn1 F u)) []):=Lh (by
          rw [a2.out]
          exact ⟨(a3.out.later a0.out).aside a4.out (fun g _ e=>e ▸ a7.out),ax.out.at_ a7.out a4.out,aB.out,a7.out⟩)
         have aD:Below W.heap.size w7 w9:=(a0.out.mono a3.out.base_le).trans (a4.out.below (Nat.le_trans a3.out.base_le a0.out.size) (fun g hg=>by have:=ao.out; omega))
         have aZ:Hid (Below W.heap.size W w9):=Lh (av.out.trans aD)
         have bc:Hid (w9.there W.heap.size 0 23):=Lh (th_blk (th_later ak.out a0.out) (a4.out.block _ (th_lt (th_later ak.out a0.out)) aj.out))
         clear a3 aw ac a7 av ak ax a0 aA aB a4 aD
         go_roundw
         case rel=>exact ⟨r+1,aU,v8,by omega,by go_num,bd,aZ,bc,cB⟩
         case measure=>simp [intOf]; omega
        ·obtain rfl:r=nw:=by omega
         have cd:(G.take r).foldl parkW (bgn1 F u)=bgn2 F G u:=by rw [← cH.out,List.take_length]; rfl
         rw [cd] at h
         clear cd hr hrn
         generalize wr=wd at *
         go_wp2_with fail
         go_loopw [122] (fun i wr=>∃ (r2:Nat) (col:Nat→Nat) (v:Dv),r2≤j∧i=.int .i64 r2∧Hid (Tw W.heap.size col wr x v d ((u.take r2).foldl markW (bgn2 F G u,[])).1 ((u.take r2).foldl markW (bgn2 F G u,[])).2)∧Hid (Below W.heap.size W wr)∧Hid (wr.there W.heap.size 0 23)∧Hid (col W.heap.size=8)) (fun i _=>j - (intOf i).toNat)
         case atStart=>exact ⟨0,col,v,Nat.zero_le _,rfl,h,J,I,Y⟩
         case round=>
          clear h J I Y
          obtain ⟨r2,col,v,aW,rfl,h,J,I,Y⟩:=hrel
          by_cases hrn:r2 < j
          ·obtain ⟨b,o,z,rfl,hb,hz,hc⟩:=aP.out.get hrn
           have a1:=bO.out z (List.mem_of_getElem? hz)
           have d0:=(J.out.cell (p:=⟨b,o+r2,none⟩) hb).trans hc
           have bq:r2 < cm:=by have:=aP.out.cap; omega
           have t1:z.tmod 8=z % 8:=Int.tmod_eq_emod_of_nonneg a1.1
           have t2:IntKind.i64.wrap (z % 8)=z % 8:=by rw [IntKind.wrap_i64]; omega
           have t3:IntKind.u64.wrap (z % 8)=z % 8:=by rw [IntKind.wrap_u64]; omega
           have t4:IntKind.u64.wrap (z % 8+1)=z % 8+1:=by rw [IntKind.wrap_u64]; omega
           have a2:Hid ((u.take (r2+1)).foldl markW (bgn2 F G u,[])=markW ((u.take r2).foldl markW (bgn2 F G u,[])) z):=Lh (foldl_take markW _ hz)
           have bt:=mark_facts (u.take r2) (bgn2 F G u) (bgn2_facts F G u (by have:=aO.out; omega) (by have:=aN.out; omega))
           have d3:(u.take r2).length≤5:=by rw [List.length_take]; omega
           obtain ⟨P,hP⟩:∃ P,(u.take r2).foldl markW (bgn2 F G u,[])=P:=⟨_,rfl⟩
           rw [hP] at h a2 bt
           obtain ⟨s,N⟩:=P
           have aq:=Lh bt
           clear hz hc hP bt
           by_cases h128:128≤z
           ·have q1:decide ((128:Int)≤z)=true:=decide_eq_true h128
            have aF:markW (s,N) z=(s,N):=if_pos h128
            rw [aF] at a2
            clear h128 aF a1
            go_wp2_with fail
            go_roundw
            case rel=>exact ⟨r2+1,col,v,by omega,by go_num,by rw [a2.out]; exact h,J,I,Y⟩
            case measure=>simp [intOf]; omega
           ·have q1:decide ((128:Int)≤z)=false:=decide_eq_false h128
            have aF:markW (s,N) z=({ s with M:=Le.mk (mrkN s.L N (z % 8+1) (z % 8)) },mrkN s.L N (z % 8+1) (z % 8)):=if_neg h128
            rw [aF] at a2
            clear h128 aF a1
            have c11:=h.out.wv.cells.c11
            go_wp2_with fail
            refine (wmark wr N h.out.wv aq.out.1 (z % 8+1) (z % 8) ⟨by omega,by omega⟩ (by have:=aq.out.2.1; simp at this; omega)).mono ?_
            rintro e w7 ⟨rfl,h7,z7⟩
            have a3:=Lh h7
            have aw:=Lh (h.out.dw.call z7 (El.refl _ _))
            have ac:=Lh (h.out.vw.blk (z7.block d h.out.vw.lt (fun e=>e.2 h.out.c8)))
            have a7:=Lh h.out.c8
            have a5:=h.out.low ao.out (fp_w (d:=d) z7)
            have av:Hid (Below W.heap.size W w7):=Lh (J.out.trans a5)
            have ak:Hid (w7.there W.heap.size 0 23):=Lh (h.out.there Y.out aj.out (fp_w (d:=d) z7) I.out)
            clear h7 z7 h J I c11 a5
            go_wp2_with (first
             | (refine load_w rfl _ rfl d rfl v s ac.out ?_))
            refine (dmark_any w7 v s N aw.out a3.out.new0 (z % 8+1) (z % 8) aq.out.2.2.1.nd (by have:=aq.out.2.2.2.1; omega) (by have:=aq.out.2.1; simp at this; omega) (by have:=aq.out.2.2.2.2; omega)).mono ?_
            rintro e w8 ⟨v8,rfl,aE,b8⟩
            have ax:=Lh aE
            have a0:=Lh b8
            have aA:=Lh (ac.out.later b8).th
            clear aE b8
            go_wp2_with (first
             | (refine store_w rfl _ _ rfl d rfl v8 s rfl aA.out ?_; intro w9 aI aJ; have aB:=Lh aI; have a4:=Lh aJ; clear aI aJ))
            have bd:Hid (Tw W.heap.size col w9 x v8 d ((u.take (r2+1)).foldl markW (bgn2 F G u,[])).1 ((u.take (r2+1)).foldl markW (bgn2 F G u,[])).2):=Lh (by
             rw [a2.out]
             have hd:=ax.out.at_ a7.out a4.out
             exact ⟨(a3.out.later a0.out).aside a4.out (fun g _ e=>e ▸ a7.out),⟨hd.bag,hd.loc,hd.sl,hd.sk,hd.book,hd.fact,hd.hist,hd.hk,hd.l8⟩,aB.out,a7.out⟩)
            have aD:Below W.heap.size w7 w9:=(a0.out.mono a3.out.base_le).trans (a4.out.below (Nat.le_trans a3.out.base_le a0.out.size) (fun g hg=>by have:=ao.out; omega))
            have aZ:Hid (Below W.heap.size W w9):=Lh (av.out.trans aD)
            have bc:Hid (w9.there W.heap.size 0 23):=Lh (th_blk (th_later ak.out a0.out) (a4.out.block _ (th_lt (th_later ak.out a0.out)) aj.out))
            clear a3 aw ac a7 av ak ax a0 aA aB a4 aD
            go_roundw
            case rel=>exact ⟨r2+1,col,v8,by omega,by go_num,bd,aZ,bc,Y⟩
            case measure=>simp [intOf]; omega
          ·obtain rfl:r2=j:=by omega
           have ce:(u.take r2).foldl markW (bgn2 F G u,[])=bgn3 F G u:=by rw [← aN.out,List.take_length]; rfl
           rw [ce] at h
           clear ce aW hrn
           obtain ⟨⟨s,N⟩,hP⟩:∃ P,bgn3 F G u=P:=⟨_,rfl⟩
           have b0:Hid (bgnS F G u cl = { s with closed:=cl }):=Lh (by unfold bgnS; rw [hP])
           have cz:Hid (bgnN F G u=N):=Lh (by unfold bgnN; rw [hP])
           rw [hP] at h
           clear hP
           generalize wr=we at *
           have cR:=h.out.wv.cells.fz 15
           have c15:=h.out.wv.cells.c15
           have cS:=h.out.vw.cell 22 _ rfl
           have cT:=h.out.vw.free 22 (by decide)
           have cX:x.pw≠d:=fun e=>by have h1:=h.out.wv.kw; have h2:=h.out.c8; rw [e] at h1; omega
           have cW:d≠x.pw:=fun e=>cX e.symm
           go_upto_region 38 with (fail)
           have h1:=wset15 we h.out.wv cl
           have cn:Vw (we.setCell ⟨x.pw,15,none⟩ (.bool cl)) d (v.cells s):=h.out.vw.blk (heap_setCell_other _ _ d _ cW)
           have co:=cn.set 22 (by simp [cells_len]) (.bool cl)
           have ad:Fz (fun k=>k=d) (we.setCell ⟨x.pw,15,none⟩ (.bool cl)) ((we.setCell ⟨x.pw,15,none⟩ (.bool cl)).setCell ⟨d,22,none⟩ (.bool cl)):=Fz.of_set (C:=fun k=>k=d) (a:=⟨d,22,none⟩) _ rfl
           have cO:Hid (Vw ((we.setCell ⟨x.pw,15,none⟩ (.bool cl)).setCell ⟨d,22,none⟩ (.bool cl)) d (v.cells { s with closed:=cl })):=Lh co
           have cQ:Hid (Wv W.heap.size col ((we.setCell ⟨x.pw,15,none⟩ (.bool cl)).setCell ⟨d,22,none⟩ (.bool cl)) x { s with closed:=cl }):=Lh (h1.1.aside ad (fun g _ e=>e ▸ h.out.c8))
           have cE:Hid (Dw (Kc W.heap.size col) ((we.setCell ⟨x.pw,15,none⟩ (.bool cl)).setCell ⟨d,22,none⟩ (.bool cl)) v { s with closed:=cl } N):=Lh (((h.out.dw.call h1.2 (El.refl _ _)).at_ h.out.c8 ad).own_ s.conf s.now s.live cl)
           have a5:=h.out.low ao.out ((fp_w (d:=d) h1.2).trans (fp_d ad))
           have au:Hid (Below W.heap.size W ((we.setCell ⟨x.pw,15,none⟩ (.bool cl)).setCell ⟨d,22,none⟩ (.bool cl))):=Lh (J.out.trans a5)
           have az:Hid (((we.setCell ⟨x.pw,15,none⟩ (.bool cl)).setCell ⟨d,22,none⟩ (.bool cl)).there W.heap.size 0 23):=Lh (h.out.there Y.out aj.out ((fp_w (d:=d) h1.2).trans (fp_d ad)) I.out)
           clear cR c15 cS cT h1 cn co ad a5 h J I
           generalize ((we.setCell ⟨x.pw,15,none⟩ (.bool cl)).setCell ⟨d,22,none⟩ (.bool cl))=wf at *
           go_wp2_with fail
           have HS:Hid (Vw wf.drew d (v.cells { s with closed:=cl })):=Lh (cO.out.blk rfl)
           refine reg_start 5 (fun w'=>Vw w' d (v.cells { s with closed:=cl })) (by kernel_rfl) (by kernel_rfl) ?_
           intro bQ
           have aS:=Lh bQ
           clear bQ
           refine rq 0 aS.out HS.out rfl ?_
           refine rl 1 aS.out HS.out rfl ?_
           apply Exists.intro
           refine ⟨fun w' hw=>exec_load_w _ _ _ rfl rfl hw,?_⟩
           refine rq 2 aS.out HS.out rfl ?_
           refine reg_only 3 rfl (by kernel_rfl) rfl ?_
           refine wp_store_w _ _ rfl W.heap.size rfl v { s with closed:=cl } rfl (th_blk az.out rfl) ?_
           intro wg cq bv
           have cY:W.heap.size≠d:=aj.out
           have hS:Vw wg d (v.cells { s with closed:=cl }):=HS.out.blk (bv.block d HS.out.lt (fun e=>cY e.symm))
           refine ⟨fun _=>hS,?_⟩
           clear HS
           have HS:=Lh hS
           have cP:=Lh cq
           have bj:Hid (Fz (fun k=>k=W.heap.size) wf wg):=Lh ((Fz.of_below (Below.refl _ _).drew).trans bv)
           clear hS cq bv
           refine rq 4 aS.out HS.out rfl ?_
           refine reg_done (by kernel_rfl) ?_
           go_wp2_with fail
           exact bodyPost_ret (v:=.tuple #[ptr x.pw,Dv.val v { s with closed:=cl },.bool true]) (res_wm _ _ W.heap.size _ _ Tryz.results6 rfl cP.out) rfl ⟨W.heap.size,x,col,v,by rw [b0.out],Nat.le_refl _,by rw [b0.out]; exact cQ.out.aside bj.out (fun g _ e=>e ▸ Y.out),by rw [b0.out,cz.out]; exact cE.out.at_ Y.out bj.out,au.out.trans (bj.out.below au.out.size (fun k hk=>by omega))⟩
end Go.Proofs.YtoiklelghfckgaaGreatDoor.Wo
