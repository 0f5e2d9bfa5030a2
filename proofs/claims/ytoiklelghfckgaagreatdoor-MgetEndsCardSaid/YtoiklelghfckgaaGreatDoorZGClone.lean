/- A part of the claim: the texts LocalClone BagClone. -/
import Derived.Test.YtoiklelghfckgaaGreatDoorZBase5
import Derived.Test.YtoiklelghfckgaaGreatDoorZGBag
import Derived.RangeFuncSeq
set_option maxRecDepth 100000
set_option maxHeartbeats 8000000
set_option linter.unusedVariables false
namespace Go.Proofs.YtoiklelghfckgaaGreatDoor.Lc
open Go.ChangeShapes Go.WideShapes Go.ChangeAt Go.RowKit Rw Hi Sl
def firstK (L:Nat→List Int) (k:Nat):Nat→List Int:=fun j=>if j < k then L j else []
theorem firstK_next (L:Nat→List Int) (k:Nat) (i:Nat):firstK L (k+1) i=upd (firstK L k) k (L k) i:=by
 unfold firstK upd
 by_cases e:i=k
 ·subst e; simp
 ·by_cases h:i < k
  ·simp [h,e,show i < k+1 by omega]
  ·simp [h,e,show ¬ i < k+1 by omega]
theorem clone_any (X Y:Nat→Prop) (w:World) (B p:Nat) (L:Nat→List Int) (hX:∀ g,X g→g < w.heap.size) (h:Lo Y w B p L) (hB:B≤w.heap.size) :
  Calls Tryz.prog 49 #[.pointer (some ⟨p,0,none⟩)] w fun e w'=>∃ p',e=.returned (.pointer (some ⟨p',0,none⟩))∧Lo X w' B p' L∧w.heap.size≤p'∧Below w.heap.size w w':=by
 obtain ⟨A0,n0,c0,k0,r0,_⟩:=h.at_ 0 (by omega)
 have ak:n0≤4:=by rw [← r0.len]; exact h.len 0 (by omega)
 have R0:=Lh r0
 obtain ⟨A1,n1,c1,k1,r1,_⟩:=h.at_ 1 (by omega)
 have al:n1≤4:=by rw [← r1.len]; exact h.len 1 (by omega)
 have R1:=Lh r1
 obtain ⟨A2,n2,c2,k2,r2,_⟩:=h.at_ 2 (by omega)
 have an:n2≤4:=by rw [← r2.len]; exact h.len 2 (by omega)
 have R2:=Lh r2
 obtain ⟨A3,n3,c3,k3,r3,_⟩:=h.at_ 3 (by omega)
 have ao:n3≤4:=by rw [← r3.len]; exact h.len 3 (by omega)
 have R3:=Lh r3
 obtain ⟨A4,n4,c4,k4,r4,_⟩:=h.at_ 4 (by omega)
 have aq:n4≤4:=by rw [← r4.len]; exact h.len 4 (by omega)
 have R4:=Lh r4
 obtain ⟨A5,n5,c5,k5,r5,_⟩:=h.at_ 5 (by omega)
 have ar:n5≤4:=by rw [← r5.len]; exact h.len 5 (by omega)
 have R5:=Lh r5
 obtain ⟨A6,n6,c6,k6,r6,_⟩:=h.at_ 6 (by omega)
 have au:n6≤4:=by rw [← r6.len]; exact h.len 6 (by omega)
 have R6:=Lh r6
 obtain ⟨A7,n7,c7,k7,r7,_⟩:=h.at_ 7 (by omega)
 have av:n7≤4:=by rw [← r7.len]; exact h.len 7 (by omega)
 have R7:=Lh r7
 have a3:=h.lt
 have HL:=Lh h.len
 have HX:=Lh hX
 clear h r0 r1 r2 r3 r4 r5 r6 r7 hX
 go_enter Tryz.func49,Tryz.ntmps49
 go_wp2_with fail
 refine (new_any X _ B hB HX.out).mono ?_
 rintro e w1 ⟨p',rfl,J,a2,a1⟩
 have k0:=(a1.cell (p:=⟨p,0,none⟩) a3).trans k0
 have k1:=(a1.cell (p:=⟨p,1,none⟩) a3).trans k1
 have k2:=(a1.cell (p:=⟨p,2,none⟩) a3).trans k2
 have k3:=(a1.cell (p:=⟨p,3,none⟩) a3).trans k3
 have k4:=(a1.cell (p:=⟨p,4,none⟩) a3).trans k4
 have k5:=(a1.cell (p:=⟨p,5,none⟩) a3).trans k5
 have k6:=(a1.cell (p:=⟨p,6,none⟩) a3).trans k6
 have k7:=(a1.cell (p:=⟨p,7,none⟩) a3).trans k7
 have L0:=Lh (show Lo X w1 B p' (firstK L 0) from J.same (fun i hi=>by simp [firstK]))
 have B0:=Lh a1
 clear J a1
 go_wp2_with fail
 clear k0 k1 k2 k3 k4 k5 k6 k7
 refine wp_loop_rounds 9 ?_
 have ac:∀ w:World,(Instr.index 193 (.agg #[.slice A0 n0 c0,.slice A1 n1 c1,.slice A2 n2 c2,.slice A3 n3 c3,.slice A4 n4 c4,.slice A5 n5 c5,.slice A6 n6 c6,.slice A7 n7 c7]) (.int .i64 0)).run Tryz.prog w=.ok (.slice A0 n0 c0) w:=fun _=>by kernel_rfl
 rw [rounds_succ]
 go_wp2_with fail
 refine reg_start 7 (fun w'=>Below w1.heap.size w1 w') (by kernel_rfl) (by kernel_rfl) ?_
 intro a0
 have z:=Lh a0
 have u:=Lh (show Below w1.heap.size w1 w1.drew from (Below.refl _ _).drew)
 clear a0 ac
 refine rq 0 z.out u.out rfl ?_
 refine rq 1 z.out u.out rfl ?_
 refine rq 2 z.out u.out rfl ?_
 refine rq 4 z.out u.out rfl ?_
 refine rq 5 z.out u.out rfl ?_
 refine reg_only 3 rfl (by kernel_rfl) rfl ?_
 unfold Oper.wp
 go_simp
 refine (Sl.clone_any A0 n0 c0 (L 0) w.heap.size _ (R0.out.below (B0.out.trans (u.out.mono B0.out.size))) (by have J:=B0.out.size; have h2:=u.out.size; omega) (by omega)).mono ?_
 rintro e x0 ⟨E0,d0,rfl,I,hb⟩
 have F:=Lh (u.out.trans (hb.mono u.out.size))
 have W:=Lh (Rd.own_rd I)
 have Q:=Lh (own_fresh I (X:=X) (fun g hg=>by have J:=HX.out g hg; have h2:=B0.out.size; have h3:=u.out.size; omega))
 clear hb I u
 refine ⟨F.out,?_⟩
 refine rq 6 z.out F.out rfl ?_
 have G:=L0.out.later F.out
 obtain ⟨q1,q2⟩:=G.store (i:=0) (by omega) W.out (HL.out 0 (by omega)) Q.out
 obtain ⟨Az,nz,cz,z0,_⟩:=G.at_ 0 (by omega)
 have zf:=G.free 0 (by omega)
 have L1:=Lh (q1.same (fun i hi=>firstK_next L 0 i))
 have B1:=Lh ((B0.out.trans (F.out.mono B0.out.size)).trans (fr_bel q2 (by have J:=B0.out.size; have h2:=F.out.size; omega) a2))
 clear G q1 q2 W Q L0 B0
 refine reg_only 7 rfl (by kernel_rfl) rfl ?_
 unfold Oper.wp
 go_simp
 refine reg_done (by kernel_rfl) ?_
 clear z0 zf F z
 generalize x0.setCell ⟨p',0,none⟩ (.slice E0 n0 d0)=a4 at *
 go_wp2_with fail
 have ad:∀ w:World,(Instr.index 193 (.agg #[.slice A0 n0 c0,.slice A1 n1 c1,.slice A2 n2 c2,.slice A3 n3 c3,.slice A4 n4 c4,.slice A5 n5 c5,.slice A6 n6 c6,.slice A7 n7 c7]) (.int .i64 1)).run Tryz.prog w=.ok (.slice A1 n1 c1) w:=fun _=>by kernel_rfl
 rw [rounds_succ]
 go_wp2_with fail
 refine reg_start 7 (fun w'=>Below a4.heap.size a4 w') (by kernel_rfl) (by kernel_rfl) ?_
 intro a0
 have z:=Lh a0
 have u:=Lh (show Below a4.heap.size a4 a4.drew from (Below.refl _ _).drew)
 clear a0 ad
 refine rq 0 z.out u.out rfl ?_
 refine rq 1 z.out u.out rfl ?_
 refine rq 2 z.out u.out rfl ?_
 refine rq 4 z.out u.out rfl ?_
 refine rq 5 z.out u.out rfl ?_
 refine reg_only 3 rfl (by kernel_rfl) rfl ?_
 unfold Oper.wp
 go_simp
 refine (Sl.clone_any A1 n1 c1 (L 1) w.heap.size _ (R1.out.below (B1.out.trans (u.out.mono B1.out.size))) (by have J:=B1.out.size; have h2:=u.out.size; omega) (by omega)).mono ?_
 rintro e x1 ⟨E1,d1,rfl,I,hb⟩
 have F:=Lh (u.out.trans (hb.mono u.out.size))
 have W:=Lh (Rd.own_rd I)
 have Q:=Lh (own_fresh I (X:=X) (fun g hg=>by have J:=HX.out g hg; have h2:=B1.out.size; have h3:=u.out.size; omega))
 clear hb I u
 refine ⟨F.out,?_⟩
 refine rq 6 z.out F.out rfl ?_
 have G:=L1.out.later F.out
 obtain ⟨q1,q2⟩:=G.store (i:=1) (by omega) W.out (HL.out 1 (by omega)) Q.out
 obtain ⟨Az,nz,cz,z0,_⟩:=G.at_ 1 (by omega)
 have zf:=G.free 1 (by omega)
 have L2:=Lh (q1.same (fun i hi=>firstK_next L 1 i))
 have B2:=Lh ((B1.out.trans (F.out.mono B1.out.size)).trans (fr_bel q2 (by have J:=B1.out.size; have h2:=F.out.size; omega) a2))
 clear G q1 q2 W Q L1 B1
 refine reg_only 7 rfl (by kernel_rfl) rfl ?_
 unfold Oper.wp
 go_simp
 refine reg_done (by kernel_rfl) ?_
 clear z0 zf F z
 generalize x1.setCell ⟨p',1,none⟩ (.slice E1 n1 d1)=a5 at *
 go_wp2_with fail
 have ae:∀ w:World,(Instr.index 193 (.agg #[.slice A0 n0 c0,.slice A1 n1 c1,.slice A2 n2 c2,.slice A3 n3 c3,.slice A4 n4 c4,.slice A5 n5 c5,.slice A6 n6 c6,.slice A7 n7 c7]) (.int .i64 2)).run Tryz.prog w=.ok (.slice A2 n2 c2) w:=fun _=>by kernel_rfl
 rw [rounds_succ]
 go_wp2_with fail
 refine reg_start 7 (fun w'=>Below a5.heap.size a5 w') (by kernel_rfl) (by kernel_rfl) ?_
 intro a0
 have z:=Lh a0
 have u:=Lh (show Below a5.heap.size a5 a5.drew from (Below.refl _ _).drew)
 clear a0 ae
 refine rq 0 z.out u.out rfl ?_
 refine rq 1 z.out u.out rfl ?_
 refine rq 2 z.out u.out rfl ?_
 refine rq 4 z.out u.out rfl ?_
 refine rq 5 z.out u.out rfl ?_
 refine reg_only 3 rfl (by kernel_rfl) rfl ?_
 unfold Oper.wp
 go_simp
 refine (Sl.clone_any A2 n2 c2 (L 2) w.heap.size _ (R2.out.below (B2.out.trans (u.out.mono B2.out.size))) (by have J:=B2.out.size; have h2:=u.out.size; omega) (by omega)).mono ?_
 rintro e x2 ⟨E2,d2,rfl,I,hb⟩
 have F:=Lh (u.out.trans (hb.mono u.out.size))
 have W:=Lh (Rd.own_rd I)
 have Q:=Lh (own_fresh I (X:=X) (fun g hg=>by have J:=HX.out g hg; have h2:=B2.out.size; have h3:=u.out.size; omega))
 clear hb I u
 refine ⟨F.out,?_⟩
 refine rq 6 z.out F.out rfl ?_
 have G:=L2.out.later F.out
 obtain ⟨q1,q2⟩:=G.store (i:=2) (by omega) W.out (HL.out 2 (by omega)) Q.out
 obtain ⟨Az,nz,cz,z0,_⟩:=G.at_ 2 (by omega)
 have zf:=G.free 2 (by omega)
 have L3:=Lh (q1.same (fun i hi=>firstK_next L 2 i))
 have B3:=Lh ((B2.out.trans (F.out.mono B2.out.size)).trans (fr_bel q2 (by have J:=B2.out.size; have h2:=F.out.size; omega) a2))
 clear G q1 q2 W Q L2 B2
 refine reg_only 7 rfl (by kernel_rfl) rfl ?_
 unfold Oper.wp
 go_simp
 refine reg_done (by kernel_rfl) ?_
 clear z0 zf F z
 generalize x2.setCell ⟨p',2,none⟩ (.slice E2 n2 d2)=a6 at *
 go_wp2_with fail
 have af:∀ w:World,(Instr.index 193 (.agg #[.slice A0 n0 c0,.slice A1 n1 c1,.slice A2 n2 c2,.slice A3 n3 c3,.slice A4 n4 c4,.slice A5 n5 c5,.slice A6 n6 c6,.slice A7 n7 c7]) (.int .i64 3)).run Tryz.prog w=.ok (.slice A3 n3 c3) w:=fun _=>by kernel_rfl
 rw [rounds_succ]
 go_wp2_with fail
 refine reg_start 7 (fun w'=>Below a6.heap.size a6 w') (by kernel_rfl) (by kernel_rfl) ?_
 intro a0
 have z:=Lh a0
 have u:=Lh (show Below a6.heap.size a6 a6.drew from (Below.refl _ _).drew)
 clear a0 af
 refine rq 0 z.out u.out rfl ?_
 refine rq 1 z.out u.out rfl ?_
 refine rq 2 z.out u.out rfl ?_
 refine rq 4 z.out u.out rfl ?_
 refine rq 5 z.out u.out rfl ?_
 refine reg_only 3 rfl (by kernel_rfl) rfl ?_
 unfold Oper.wp
 go_simp
 refine (Sl.clone_any A3 n3 c3 (L 3) w.heap.size _ (R3.out.below (B3.out.trans (u.out.mono B3.out.size))) (by have J:=B3.out.size; have h2:=u.out.size; omega) (by omega)).mono ?_
 rintro e x3 ⟨E3,d3,rfl,I,hb⟩
 have F:=Lh (u.out.trans (hb.mono u.out.size))
 have W:=Lh (Rd.own_rd I)
 have Q:=Lh (own_fresh I (X:=X) (fun g hg=>by have J:=HX.out g hg; have h2:=B3.out.size; have h3:=u.out.size; omega))
 clear hb I u
 refine ⟨F.out,?_⟩
 refine rq 6 z.out F.out rfl ?_
 have G:=L3.out.later F.out
 obtain ⟨q1,q2⟩:=G.store (i:=3) (by omega) W.out (HL.out 3 (by omega)) Q.out
 obtain ⟨Az,nz,cz,z0,_⟩:=G.at_ 3 (by omega)
 have zf:=G.free 3 (by omega)
 have L4:=Lh (q1.same (fun i hi=>firstK_next L 3 i))
 have B4:=Lh ((B3.out.trans (F.out.mono B3.out.size)).trans (fr_bel q2 (by have J:=B3.out.size; have h2:=F.out.size; omega) a2))
 clear G q1 q2 W Q L3 B3
 refine reg_only 7 rfl (by kernel_rfl) rfl ?_
 unfold Oper.wp
 go_simp
 refine reg_done (by kernel_rfl) ?_
 clear z0 zf F z
 generalize x3.setCell ⟨p',3,none⟩ (.slice E3 n3 d3)=a7 at *
 go_wp2_with fail
 have ag:∀ w:World,(Instr.index 193 (.agg #[.slice A0 n0 c0,.slice A1 n1 c1,.slice A2 n2 c2,.slice A3 n3 c3,.slice A4 n4 c4,.slice A5 n5 c5,.slice A6 n6 c6,.slice A7 n7 c7]) (.int .i64 4)).run Tryz.prog w=.ok (.slice A4 n4 c4) w:=fun _=>by kernel_rfl
 rw [rounds_succ]
 go_wp2_with fail
 refine reg_start 7 (fun w'=>Below a7.heap.size a7 w') (by kernel_rfl) (by kernel_rfl) ?_
 intro a0
 have z:=Lh a0
 have u:=Lh (show Below a7.heap.size a7 a7.drew from (Below.refl _ _).drew)
 clear a0 ag
 refine rq 0 z.out u.out rfl ?_
 refine rq 1 z.out u.out rfl ?_
 refine rq 2 z.out u.out rfl ?_
 refine rq 4 z.out u.out rfl ?_
 refine rq 5 z.out u.out rfl ?_
 refine reg_only 3 rfl (by kernel_rfl) rfl ?_
 unfold Oper.wp
 go_simp
 refine (Sl.clone_any A4 n4 c4 (L 4) w.heap.size _ (R4.out.below (B4.out.trans (u.out.mono B4.out.size))) (by have J:=B4.out.size; have h2:=u.out.size; omega) (by omega)).mono ?_
 rintro e x4 ⟨E4,d4,rfl,I,hb⟩
 have F:=Lh (u.out.trans (hb.mono u.out.size))
 have W:=Lh (Rd.own_rd I)
 have Q:=Lh (own_fresh I (X:=X) (fun g hg=>by have J:=HX.out g hg; have h2:=B4.out.size; have h3:=u.out.size; omega))
 clear hb I u
 refine ⟨F.out,?_⟩
 refine rq 6 z.out F.out rfl ?_
 have G:=L4.out.later F.out
 obtain ⟨q1,q2⟩:=G.store (i:=4) (by omega) W.out (HL.out 4 (by omega)) Q.out
 obtain ⟨Az,nz,cz,z0,_⟩:=G.at_ 4 (by omega)
 have zf:=G.free 4 (by omega)
 have L5:=Lh (q1.same (fun i hi=>firstK_next L 4 i))
 have B5:=Lh ((B4.out.trans (F.out.mono B4.out.size)).trans (fr_bel q2 (by have J:=B4.out.size; have h2:=F.out.size; omega) a2))
 clear G q1 q2 W Q L4 B4
 refine reg_only 7 rfl (by kernel_rfl) rfl ?_
 unfold Oper.wp
 go_simp
 refine reg_done (by kernel_rfl) ?_
 clear z0 zf F z
 generalize x4.setCell ⟨p',4,none⟩ (.slice E4 n4 d4)=a8 at *
 go_wp2_with fail
 have ah:∀ w:World,(Instr.index 193 (.agg #[.slice A0 n0 c0,.slice A1 n1 c1,.slice A2 n2 c2,.slice A3 n3 c3,.slice A4 n4 c4,.slice A5 n5 c5,.slice A6 n6 c6,.slice A7 n7 c7]) (.int .i64 5)).run Tryz.prog w=.ok (.slice A5 n5 c5) w:=fun _=>by kernel_rfl
 rw [rounds_succ]
 go_wp2_with fail
 refine reg_start 7 (fun w'=>Below a8.heap.size a8 w') (by kernel_rfl) (by kernel_rfl) ?_
 intro a0
 have z:=Lh a0
 have u:=Lh (show Below a8.heap.size a8 a8.drew from (Below.refl _ _).drew)
 clear a0 ah
 refine rq 0 z.out u.out rfl ?_
 refine rq 1 z.out u.out rfl ?_
 refine rq 2 z.out u.out rfl ?_
 refine rq 4 z.out u.out rfl ?_
 refine rq 5 z.out u.out rfl ?_
 refine reg_only 3 rfl (by kernel_rfl) rfl ?_
 unfold Oper.wp
 go_simp
 refine (Sl.clone_any A5 n5 c5 (L 5) w.heap.size _ (R5.out.below (B5.out.trans (u.out.mono B5.out.size))) (by have J:=B5.out.size; have h2:=u.out.size; omega) (by omega)).mono ?_
 rintro e x5 ⟨E5,d5,rfl,I,hb⟩
 have F:=Lh (u.out.trans (hb.mono u.out.size))
 have W:=Lh (Rd.own_rd I)
 have Q:=Lh (own_fresh I (X:=X) (fun g hg=>by have J:=HX.out g hg; have h2:=B5.out.size; have h3:=u.out.size; omega))
 clear hb I u
 refine ⟨F.out,?_⟩
 refine rq 6 z.out F.out rfl ?_
 have G:=L5.out.later F.out
 obtain ⟨q1,q2⟩:=G.store (i:=5) (by omega) W.out (HL.out 5 (by omega)) Q.out
 obtain ⟨Az,nz,cz,z0,_⟩:=G.at_ 5 (by omega)
 have zf:=G.free 5 (by omega)
 have L6:=Lh (q1.same (fun i hi=>firstK_next L 5 i))
 have B6:=Lh ((B5.out.trans (F.out.mono B5.out.size)).trans (fr_bel q2 (by have J:=B5.out.size; have h2:=F.out.size; omega) a2))
 clear G q1 q2 W Q L5 B5
 refine reg_only 7 rfl (by kernel_rfl) rfl ?_
 unfold Oper.wp
 go_simp
 refine reg_done (by kernel_rfl) ?_
 clear z0 zf F z
 generalize x5.setCell ⟨p',5,none⟩ (.slice E5 n5 d5)=a9 at *
 go_wp2_with fail
 have ai:∀ w:World,(Instr.index 193 (.agg #[.slice A0 n0 c0,.slice A1 n1 c1,.slice A2 n2 c2,.slice A3 n3 c3,.slice A4 n4 c4,.slice A5 n5 c5,.slice A6 n6 c6,.slice A7 n7 c7]) (.int .i64 6)).run Tryz.prog w=.ok (.slice A6 n6 c6) w:=fun _=>by kernel_rfl
 rw [rounds_succ]
 go_wp2_with fail
 refine reg_start 7 (fun w'=>Below a9.heap.size a9 w') (by kernel_rfl) (by kernel_rfl) ?_
 intro a0
 have z:=Lh a0
 have u:=Lh (show Below a9.heap.size a9 a9.drew from (Below.refl _ _).drew)
 clear a0 ai
 refine rq 0 z.out u.out rfl ?_
 refine rq 1 z.out u.out rfl ?_
 refine rq 2 z.out u.out rfl ?_
 refine rq 4 z.out u.out rfl ?_
 refine rq 5 z.out u.out rfl ?_
 refine reg_only 3 rfl (by kernel_rfl) rfl ?_
 unfold Oper.wp
 go_simp
 refine (Sl.clone_any A6 n6 c6 (L 6) w.heap.size _ (R6.out.below (B6.out.trans (u.out.mono B6.out.size))) (by have J:=B6.out.size; have h2:=u.out.size; omega) (by omega)).mono ?_
 rintro e x6 ⟨E6,d6,rfl,I,hb⟩
 have F:=Lh (u.out.trans (hb.mono u.out.size))
 have W:=Lh (Rd.own_rd I)
 have Q:=Lh (own_fresh I (X:=X) (fun g hg=>by have J:=HX.out g hg; have h2:=B6.out.size; have h3:=u.out.size; omega))
 clear hb I u
 refine ⟨F.out,?_⟩
 refine rq 6 z.out F.out rfl ?_
 have G:=L6.out.later F.out
 obtain ⟨q1,q2⟩:=G.store (i:=6) (by omega) W.out (HL.out 6 (by omega)) Q.out
 obtain ⟨Az,nz,cz,z0,_⟩:=G.at_ 6 (by omega)
 have zf:=G.free 6 (by omega)
 have L7:=Lh (q1.same (fun i hi=>firstK_next L 6 i))
 have B7:=Lh ((B6.out.trans (F.out.mono B6.out.size)).trans (fr_bel q2 (by have J:=B6.out.size; have h2:=F.out.size; omega) a2))
 clear G q1 q2 W Q L6 B6
 refine reg_only 7 rfl (by kernel_rfl) rfl ?_
 unfold Oper.wp
 go_simp
 refine reg_done (by kernel_rfl) ?_
 clear z0 zf F z
 generalize x6.setCell ⟨p',6,none⟩ (.slice E6 n6 d6)=aa at *
 go_wp2_with fail
 have aj:∀ w:World,(Instr.index 193 (.agg #[.slice A0 n0 c0,.slice A1 n1 c1,.slice A2 n2 c2,.slice A3 n3 c3,.slice A4 n4 c4,.slice A5 n5 c5,.slice A6 n6 c6,.slice A7 n7 c7]) (.int .i64 7)).run Tryz.prog w=.ok (.slice A7 n7 c7) w:=fun _=>by kernel_rfl
 rw [rounds_succ]
 go_wp2_with fail
 refine reg_start 7 (fun w'=>Below aa.heap.size aa w') (by kernel_rfl) (by kernel_rfl) ?_
 intro a0
 have z:=Lh a0
 have u:=Lh (show Below aa.heap.size aa aa.drew from (Below.refl _ _).drew)
 clear a0 aj
 refine rq 0 z.out u.out rfl ?_
 refine rq 1 z.out u.out rfl ?_
 refine rq 2 z.out u.out rfl ?_
 refine rq 4 z.out u.out rfl ?_
 refine rq 5 z.out u.out rfl ?_
 refine reg_only 3 rfl (by kernel_rfl) rfl ?_
 unfold Oper.wp
 go_simp
 refine (Sl.clone_any A7 n7 c7 (L 7) w.heap.size _ (R7.out.below (B7.out.trans (u.out.mono B7.out.size))) (by have J:=B7.out.size; have h2:=u.out.size; omega) (by omega)).mono ?_
 rintro e x7 ⟨E7,d7,rfl,I,hb⟩
 have F:=Lh (u.out.trans (hb.mono u.out.size))
 have W:=Lh (Rd.own_rd I)
 have Q:=Lh (own_fresh I (X:=X) (fun g hg=>by have J:=HX.out g hg; have h2:=B7.out.size; have h3:=u.out.size; omega))
 clear hb I u
 refine ⟨F.out,?_⟩
 refine rq 6 z.out F.out rfl ?_
 have G:=L7.out.later F.out
 obtain ⟨q1,q2⟩:=G.store (i:=7) (by omega) W.out (HL.out 7 (by omega)) Q.out
 obtain ⟨Az,nz,cz,z0,_⟩:=G.at_ 7 (by omega)
 have zf:=G.free 7 (by omega)
 have L8:=Lh (q1.same (fun i hi=>firstK_next L 7 i))
 have B8:=Lh ((B7.out.trans (F.out.mono B7.out.size)).trans (fr_bel q2 (by have J:=B7.out.size; have h2:=F.out.size; omega) a2))
 clear G q1 q2 W Q L7 B7
 refine reg_only 7 rfl (by kernel_rfl) rfl ?_
 unfold Oper.wp
 go_simp
 refine reg_done (by kernel_rfl) ?_
 clear z0 zf F z
 generalize x7.setCell ⟨p',7,none⟩ (.slice E7 n7 d7)=aw at *
 go_wp2_with fail
 rw [rounds_succ]
 go_wp2_with fail
 go_ret
 exact ⟨p',rfl,L8.out.same (fun i hi=>by simp [firstK,hi]),a2,B8.out⟩
end Go.Proofs.YtoiklelghfckgaaGreatDoor.Lc
namespace Go.Proofs.YtoiklelghfckgaaGreatDoor.Ba
open Go Go.ChangeShapes Go.WideShapes Go.ChangeAt Go.RowKit Go.Maps Rw Hi Mt
theorem ris_eq {β:Type} {a b:List (Int × β)} (F:a.Perm b) (ha:Ris a) (z:Ris b):a=b:=
 F.eq_of_pairwise (fun x y _ _ h u=>absurd (Int.lt_trans h u) (Int.lt_irrefl _)) ha z
theorem Bt.side {C R:Nat→Prop} {w w':World} {p a r:Nat} {L:List (Int × En)} {S:List Int} (h:Bt C R w p a L S) (Q:w.grownBy w' (some r)) (hr:∀ o v,w.cell? ⟨r,o,none⟩≠some v) (G:¬ C r):Bt C R w' p a L S:=by
 have hk:∀ g,g < w.heap.size→g≠r→w'.heap[g]? = w.heap[g]?:=fun g I u=>Q.block g I (fun e=>u (by injection e))
 have J:=hk p h.lt.1 (fun e=>G (e ▸ h.ip))
 obtain ⟨A,n,c,I,u,Y⟩:=h.row
 refine ⟨(World.cell?_of_block J).trans h.c0,(World.frozen?_of_block J).trans h.f1,⟨A,n,c,(World.cell?_of_block J).trans I,rd_blk u Q.size fun hn b o e=>?_,Y⟩,h.nd,h.us,h.mo.block (hk a h.lt.2 (fun e=>G (e ▸ h.ia))),fun q hq=>?_,h.ap,h.ri,h.ui,h.ip,h.ia,h.cr⟩
 ·obtain ⟨b',o',F,hb,hc⟩:=u.at_ hn
  rw [e] at F; injection F with F; injection F with e1 e2 _
  refine hk b (by omega) (fun W=>?_)
  have:=hc 0 _ (List.getElem?_eq_getElem (by rw [u.len]; exact hn))
  rw [← e1,W] at this
  exact hr _ _ this
 ·have z:=h.en q hq
  exact z.blk (hk _ z.lt.1 (fun e=>G (e ▸ z.ie))) (hk _ z.lt.2 (fun e=>G (e ▸ z.ic)))
theorem rgp_no_cell {P:Program} {k:TypeId} {w:World} {b r:Nat} {l left:List (Int × Option Nat)} (h:Rg P k eP w b r l left) (o:Nat) (v:Value):w.cell? ⟨r,o,none⟩≠some v:=fun hc=>by
 obtain ⟨⟨D,lf,cnt,F,I,J⟩,Q,W,Y⟩:=h
 obtain ⟨o1,z,f1⟩:=F.iter_walk
 obtain ⟨G,u,f2⟩:=not_walk_of_cell hc
 have u:w.heap[r]? = some G:=u
 rw [z] at u
 injection u with u
 rw [u,f2] at f1
 cases f1
theorem grown_below {w w':World} (h:Below w.heap.size w w'):w.grownBy w' none:=⟨h.os,h.tape,h.output,h.size,fun k hk _=>h.block k hk⟩
theorem not_seen {u left L:List (Int × En)} {y:Int} {x:En} (G:(u ++ left).Perm L) (F:Ris L) (hx:(y,x)∈left):y ∉ u.map Prod.fst:=by
 have h:=F.nd.perm G.symm
 unfold Nd at h
 rw [List.map_append,List.nodup_append] at h
 intro z
 exact h.2.2 y z y (List.mem_map.2 ⟨_,hx,rfl⟩) rfl
theorem cloneT_any {C R:Nat→Prop} (w:World) (p a:Nat) (L:List (Int × En)) (S:List Int) (h:Bt C R w p a L S) (hL:L.length≤1000) :
  Calls Tryz.prog 48 #[ptr p] w fun e w'=>∃ (Y a':Nat) (L':List (Int × En)),e=.returned (ptr Y)∧ab L'=ab L∧Bt (fresh w) (cut w R) w' Y a' L' S∧Below w.heap.size w w':=by
 have HK:=Lh h
 have aB:=h.lt
 have c0:=h.c0
 obtain ⟨A,n,c,r1,r2,r3⟩:=h.row
 have an:=Lh r2
 have b4:=Lh r3
 have b3:=Lh r1
 clear h r1 r2 r3
 go_enter Tryz.func48,Tryz.ntmps48
 go_wp2_with fail
 refine (new_any w).mono ?_
 rintro e w1 ⟨rfl,aD,a6⟩
 obtain ⟨Y,b8⟩:∃ q,w.heap.size+1=q:=⟨_,rfl⟩
 obtain ⟨a',b6⟩:∃ q,w.heap.size=q:=⟨_,rfl⟩
 have ae:=aD
 rw [b8] at ae ⊢
 have d0:=(a6.cell (p:=⟨p,0,none⟩) aB.1).trans c0
 have aW:=Lh (HK.out.mo.later a6)
 have af:Bt (fresh w) (cut w R) w1 Y w.heap.size [] []:=ae.mono (fun _ _ h=>h) (fun _ _ h=>h.elim) (fun g G I=>by have G:w.heap.size≤g:=G; have:=I.1; omega)
 have bn:=af.lt.1
 have a9:=Lh af
 have aj:=Lh a6
 have ba:=a6.size
 clear aD ae af a6
 go_wp2_with (at_range; refine range1 _ rfl _ 133 rfl 25 114 Tryz.underlying25 Tryz.underlying133 a (bl L) rfl aW.out ?_; intro w0 ah ay bq)
 go_frame
 have aa:Below w1.heap.size w1 w0:=(Below.refl _ w1).grown ay (Nat.le_refl _) (fun g hg=>by cases hg)
 obtain ⟨r,hr⟩:∃ r,w1.heap.size=r:=⟨_,rfl⟩
 rw [hr] at ah ⊢
 have bp:w.heap.size < r:=by omega
 have a3:=Lh (aj.out.trans (aa.mono ba))
 have ak:=Lh ((a9.out.mono (D:=fun g=>fresh w g∧g≠r) (T:=cut w R) (fun g hg hc=>⟨hc,by omega⟩) (fun _ _ h=>h) (fun g G I=>a9.out.cr g G.1 I)).later aa)
 clear ay a9 aj
 go_loopw [] (fun wr=>∃ (left a0 J:List (Int × En)),Rg Tryz.prog 25 eP wr a r (bl L) (bl left)∧Hid (Bt (fun g=>fresh w g∧g≠r) (cut w R) wr Y a' J [])∧Hid ((ab J).Perm (ab a0))∧Hid (Below w.heap.size w wr∧(a0 ++ left).Perm L)∧r < wr.heap.size)
  (fun wr=>wr.rangeLeft a r)
 case atStart=>exact ⟨L,[],[],ah,b6 ▸ ak,Lh (List.Perm.refl _),Lh ⟨a3.out,List.Perm.refl _⟩,by omega⟩
 case round=>
  clear ah a3 ak aa d0
  obtain ⟨left,a0,J,a7,HN,HP,W,bo⟩:=hrel
  go_wp2_with (at_next; refine nextP rfl _ rfl a r L left rfl a7 ?_ ?_)
  ·intro b7
   have ag:=W.out.2
   rw [b7,List.append_nil] at ag
   have HE:Hid (ab J=ab L):=Lh (ris_eq (HP.out.trans (ag.map _)) (by rw [ris_keys]; have:=ris_keys.1 HN.out.ri; simpa [ab,Function.comp_def] using this) (by rw [ris_keys]; have:=ris_keys.1 HK.out.ri; simpa [ab,Function.comp_def] using this))
   have Q:=Lh W.out.1
   have e1:=(W.out.1.cell (p:=⟨p,1,none⟩) aB.1).trans b3.out
   have e2:=HN.out.c0
   have e3:=HN.out.f1
   have aU:=Lh ((HN.out.mono (D:=fresh w) (T:=cut w R) (fun _ _ h=>h.1) (fun _ _ h=>h) (fun g G I=>by have G:w.heap.size≤g:=G; have:=I.1; omega)).list_put (Below.refl _ wr) (an.out.later W.out.1) HK.out.nd HK.out.us (fun hn b o e=>by
    obtain ⟨b',o',e',bi,_⟩:=an.out.at_ hn
    have h9:=b4.out hn b o e
    rw [e] at e'; injection e' with e'; injection e' with e3 _
    exact ⟨by omega,h9⟩))
   obtain ⟨A0,n0,bg,e4,-,-⟩:=HN.out.row
   clear a7 ag W HP
   go_wp2_with fail
   go_ret
   exact ⟨Y,a',J,rfl,HE.out,aU.out,Q.out.setCell (p:=⟨Y,1,none⟩) (by show w.heap.size≤Y; omega) _⟩
  ·intro y x u hx bd be aK aC ac bb bj
   have aE:∀ o v,wr.cell? ⟨r,o,none⟩≠some v:=fun o v=>rgp_no_cell a7 o v
   have aF:Nd left:=by
    have G:=a7.ndl
    unfold Nd at G ⊢
    rw [bl_keys] at G; exact G
   have aY:=Lh aF
   have HX:=Lh hx
   have a4:=Lh (HN.out.side ac aE (fun e=>e.2 rfl))
   have Q:=Lh (W.out.1.grown ac W.out.1.size (fun j hj=>by injection hj with hj; omega))
   have a5:=W.out.2
   have aO:(y,x)∈L:=a5.mem_iff.1 (List.mem_append_right _ hx)
   have hok:=HK.out.en _ aO
   have a1:=hok.lt
   have a8:=Q.out.size
   have HL:Hid (x.e < u.heap.size∧x.c < u.heap.size):=Lh ⟨Nat.lt_of_lt_of_le a1.1 a8,Nat.lt_of_lt_of_le a1.2 a8⟩
   have K0:=Lh ((Q.out.cell (p:=⟨x.e,0,none⟩) a1.1).trans hok.k0)
   have K1:=Lh ((Q.out.cell (p:=⟨x.e,1,none⟩) a1.1).trans hok.k1)
   have K2:=Lh ((Q.out.cell (p:=⟨x.e,2,none⟩) a1.1).trans hok.k2)
   have K3:=Lh ((Q.out.cell (p:=⟨x.e,3,none⟩) a1.1).trans hok.k3)
   have KC:=Lh ((Q.out.cell (p:=⟨x.c,0,none⟩) a1.2).trans hok.kc)
   have HU:=Lh (And.intro hok.uw (And.intro hok.ub (And.intro hok.us hok.up_)))
   have aZ:=Lh a4.out.lt.1
   have KP:=Lh a4.out.c0
   have HM:=Lh a4.out.mo
   have HI:Hid (U64 y):=Lh ⟨bd,be⟩
   have bh:J.length≤1000:=by
    have G:=HP.out.length_eq
    have I:=a5.length_eq
    simp [ab] at G I; omega
   have aT:Hid ((bl J).length < 4611686018427387904):=Lh (by simp [bl]; omega)
   have aG:fnd J y=none:=fnd_none (fun hm=>not_seen a5 HK.out.ri hx (by
    have G:y∈(ab J).map Prod.fst:=by simpa [ab,Function.comp_def] using hm
    have I:=(HP.out.map Prod.fst).mem_iff.1 G
    simpa [ab,Function.comp_def] using I))
   have al:=Lh aG
   have aV:=Lh aC
   have ao:=Lh aK
   have b2:=Lh a5
   have b9:r < u.heap.size:=by omega
   clear a7 aK ac hx aE aF aO hok a1 aG a5 aC W HN bb
   go_wp2_with fail
   have z:Hid (Below u.heap.size u u.drew):=Lh (Below.refl _ _).drew
   have a3:Hid (Below u.heap.size u u):=Lh (Below.refl _ _)
   refine reg_start 24 (fun w'=>Below u.heap.size u w') (by kernel_rfl) (by kernel_rfl) ?_
   intro ar
   have F:=Lh ar
   clear ar
   refine rq 0 F.out z.out rfl ?_
   refine rq 1 F.out z.out rfl ?_
   refine rq 2 F.out z.out rfl ?_
   refine rq 3 F.out z.out rfl ?_ (hv:=fun w' hw=>by (have k:=(hw.cell (p:=⟨Y,0,none⟩) aZ.out).trans KP.out; go_simp; exact rfl))
   refine rq 4 F.out z.out rfl ?_
   refine rq 5 F.out z.out rfl ?_
   refine rq 6 F.out z.out rfl ?_
   refine rq 7 F.out z.out rfl ?_
   refine rq 8 F.out z.out rfl ?_ (hv:=fun w' hw=>by (have k:=(hw.cell (p:=⟨x.e,0,none⟩) HL.out.1).trans K0.out; go_simp; exact rfl))
   refine rq 10 F.out z.out rfl ?_
   refine rq 11 F.out z.out rfl ?_
   refine rq 12 F.out z.out rfl ?_
   refine rq 13 F.out z.out rfl ?_ (hv:=fun w' hw=>by (have k:=(hw.cell (p:=⟨x.e,1,none⟩) HL.out.1).trans K1.out; go_simp; exact rfl))
   refine rq 14 F.out z.out rfl ?_
   refine rq 15 F.out z.out rfl ?_
   refine rq 16 F.out z.out rfl ?_
   refine rq 17 F.out z.out rfl ?_ (hv:=fun w' hw=>by (have k:=(hw.cell (p:=⟨x.e,2,none⟩) HL.out.1).trans K2.out; go_simp; exact rfl))
   refine rq 18 F.out z.out rfl ?_
   refine rq 19 F.out z.out rfl ?_
   refine rq 20 F.out z.out rfl ?_
   refine rq 21 F.out z.out rfl ?_ (hv:=fun w' hw=>by (have k:=(hw.cell (p:=⟨x.e,3,none⟩) HL.out.1).trans K3.out; go_simp; exact rfl))
   refine reg_only 9 rfl (by kernel_rfl) rfl ?_
   unfold Oper.wp
   go_simp
   refine (Wd.clone_any _ _ _ ((z.out.cell (p:=⟨x.c,0,none⟩) HL.out.2).trans KC.out)).mono ?_
   rintro e w9 ⟨rfl,rfl⟩
   refine and_keep (by (repeat' (first | exact z.out | exact a3.out | exact Below.refl _ _ | apply Below.setCell | apply Below.drew | apply Below.alloc)); all_goals (first | exact Nat.le_refl _ | omega | (simp; done) | (simp; omega))) ?_
   intro hS
   clear z
   have z:=Lh hS
   clear hS
   refine rq 22 F.out z.out rfl ?_
   refine reg_only 23 rfl (by kernel_rfl) rfl ?_
   unfold Oper.wp
   go_simp
   refine and_keep (by (repeat' (first | exact z.out | exact a3.out | exact Below.refl _ _ | apply Below.setCell | apply Below.drew | apply Below.alloc)); all_goals (first | exact Nat.le_refl _ | omega | (simp; done) | (simp; omega))) ?_
   intro hS
   clear z
   have z:=Lh hS
   clear hS
   refine reg_only 24 rfl (by kernel_rfl) rfl ?_
   unfold Oper.wp
   go_simp
   obtain ⟨w3,aM,aq,az⟩:=run_put (E:=eP) ((u.alloc (.cells #[.int .u64 x.word] 191)).alloc (.cells #[ptr u.heap.size,.int .u64 x.born,.int .u64 x.since,.int .u64 x.proved] 118)).drew Tryz.underlying25 Tryz.underlying133 (HM.out.later z.out) aT.out HI.out (some (u.heap.size+1))
   have aN:(Instr.mapUpdate 133 (.map (some a')) (.int .u64 y) (.pointer (some ⟨u.heap.size+1,0,none⟩))).run Tryz.prog ((u.alloc (.cells #[.int .u64 x.word] 191)).alloc (.cells #[.pointer (some ⟨u.heap.size,0,none⟩),.int .u64 x.born,.int .u64 x.since,.int .u64 x.proved] 118)).drew=.ok () w3:=aM
   rw [aN]
   go_simp
   refine reg_done (by kernel_rfl) ?_
   have aX:=Lh aq
   have aR:=Lh az
   clear aM aN aq az
   have hw:=aR.out
   have ad:=grown_below z.out
   have aJ:some r≠some a':=fun e=>by injection e with e; omega
   have au:some a≠some a':=fun e=>by injection e with e; omega
   have ai:=ao.out.kept ad (by simp) (by simp)
   have aL:=ai.kept hw au aJ
   have aA:w3.rangeLeft a r=u.rangeLeft a r:=by rw [ai.left_kept hw au aJ,ao.out.left_kept ad (by simp) (by simp)]
   have a2:∀ g,u.heap.size≤g→some g≠some a':=fun g hg e=>by injection e with e; omega
   have c1:∀ i v,((u.alloc (.cells #[.int .u64 x.word] 191)).alloc (.cells #[ptr u.heap.size,.int .u64 x.born,.int .u64 x.since,.int .u64 x.proved] 118)).drew.cell? ⟨u.heap.size+1,i,none⟩=some v→w3.cell? ⟨u.heap.size+1,i,none⟩=some v:=fun i v hv=>hw.cell hv (a2 _ (by show u.heap.size≤u.heap.size+1; omega))
   have aH:Ok (ext u (fun g=>fresh w g∧g≠r)) w3 ⟨u.heap.size+1,u.heap.size,x.word,x.born,x.since,x.proved⟩:=
    ⟨c1 0 _ (by go_simp),c1 1 _ (by go_simp),c1 2 _ (by go_simp),c1 3 _ (by go_simp),hw.cell (a:=⟨u.heap.size,0,none⟩) (by go_simp) (a2 _ (Nat.le_refl _)),
     (World.frozen?_of_block (hw.block _ (by simp) (a2 _ (by show u.heap.size≤u.heap.size+1; omega)))).trans (by go_simp),(World.frozen?_of_block (hw.block _ (by simp) (a2 _ (by show u.heap.size≤u.heap.size+1; omega)))).trans (by go_simp),(World.frozen?_of_block (hw.block _ (by simp; omega) (a2 _ (Nat.le_refl _)))).trans (by go_simp),
     .inr (by show u.heap.size≤u.heap.size+1; omega),.inr (Nat.le_refl _),HU.out.1,HU.out.2.1,HU.out.2.2.1,HU.out.2.2.2⟩
   have av:=a4.out.enter al.out HI.out z.out _ aH (by show u.heap.size≤u.heap.size+1; omega) (Nat.le_refl _) aX.out hw
   have aw:=av.mono (D:=fun g=>fresh w g∧g≠r) (T:=cut w R) (fun g _ hc=>by
    rcases hc with hc | hc
    ·exact hc.2
    ·exact ⟨Nat.le_trans a8 hc,by omega⟩) (fun g _ h=>h.2) (fun g G I=>by have G:w.heap.size≤g:=G.1; have:=I.1; omega)
   have aI:(ab (ins J y ⟨u.heap.size+1,u.heap.size,x.word,x.born,x.since,x.proved⟩)).Perm (ab (a0 ++ [(y,x)])):=by
    have G:=(ins_perm (id:=y) a4.out.ri (fnd_no al.out) (⟨u.heap.size+1,u.heap.size,x.word,x.born,x.since,x.proved⟩:En)).map (fun q=>(q.1,q.2.x))
    refine G.symm.trans ?_
    have I:ab (a0 ++ [(y,x)])=ab a0 ++ [(y,x.x)]:=by simp [ab]
    rw [I]
    exact (List.Perm.cons (y,x.x) HP.out).trans (List.perm_append_singleton (y,x.x) (ab a0)).symm
   have ax:Below w.heap.size w w3:=(Q.out.trans (z.out.mono a8)).grown hw (Nat.le_trans a8 z.out.size) (fun j hj=>by injection hj with hj; omega)
   have bc:r < w3.heap.size:=Nat.lt_of_lt_of_le b9 (Nat.le_trans z.out.size hw.size)
   have aP:=Lh aw
   have b0:=Lh aI
   have aQ:=Lh ax
   have b5:=Lh aL
   have aS:=Lh aA
   clear av aw aI ax aL aA ai ad aH c1 a2 hw
   go_wp2_with fail
   go_roundw
   case rel=>exact ⟨wo left y,a0 ++ [(y,x)],_,b5.out,aP,b0,Lh ⟨aQ.out,by rw [List.append_assoc]; exact (List.Perm.append_left a0 (perm_wo aY.out HX.out).symm).trans b2.out⟩,bc⟩
   case measure=>rw [aS.out]; exact aV.out
theorem bclone_any {C R:Nat→Prop} (w:World) (p a:Nat) (D:List (Int × Ex)) (S:List Int) (h:Bx C R w p a D S) (F:D.length≤1000) :
  Calls Tryz.prog 48 #[ptr p] w fun e w'=>∃ u a':Nat,e=.returned (ptr u)∧Bx (fresh w) (cut w R) w' u a' D S∧Below w.heap.size w w':=by
 obtain ⟨L,h,rfl⟩:=h
 refine (cloneT_any w p a L S h (by simpa [ab] using F)).mono ?_
 rintro e w' ⟨u,a',z,rfl,G,I,hw⟩
 exact ⟨u,a',rfl,⟨z,I,G⟩,hw⟩
end Go.Proofs.YtoiklelghfckgaaGreatDoor.Ba
