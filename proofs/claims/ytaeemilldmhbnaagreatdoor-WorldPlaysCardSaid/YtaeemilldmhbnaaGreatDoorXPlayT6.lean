/- A part of the claim: the texts PlayT6. -/
import Derived.Test.YtaeemilldmhbnaaGreatDoorXPlayT3
import Derived.Test.YtaeemilldmhbnaaGreatDoorXDocR
import Derived.Test.YtaeemilldmhbnaaGreatDoorXGBagG
import Derived.Test.YtaeemilldmhbnaaGreatDoorXBase1
set_option maxRecDepth 100000
set_option maxHeartbeats 8000000
set_option linter.unusedVariables false
namespace Go.Proofs.YtaeemilldmhbnaaGreatDoor.Wo
open Go Go.ChangeShapes Go.WideShapes Go.ChangeAt Go.RowKit Go.Maps Rw Hi Mt Ba
open Cn (Cf cfE)
def actW (q:Ws × List Int) (y:Ay):Ws × List Int:=
 if y.do_ % 8=6 then (if bK q.1.D y.id (bW q.1.D y.id) 3=true then (remS q.1 q.2 y.id (bW q.1.D y.id) y.th 1,q.2.filter (· != y.id)) else q)
 else if y.do_ % 8=7 then ({ q.1 with D:=up q.1.D y.id (exS (bW q.1.D y.id) y.st q.1.now) },q.2)
 else (playS q.1 y,q.2)
abbrev Plays2 (w:World) (base:Nat) (col:Nat→Nat) (x:Wp) (q:Ws × List Int) (d:Nat) (y:Ay):Prop:=
 Calls Tryz.prog 14 #[y.val,ptr x.pw,ptr d] w fun e w'=>e=.returned (.bool true) ∧ ∃ col' v',Tw base col' w' x v' d (actW q y).1 (actW q y).2∧Fp col d w w'∧El w col col'
section
variable (w:World) {base:Nat} {col:Nat→Nat} {x:Wp} {s:Ws} {d:Nat} {v:Dv} {y:Ay} {N:List Int} {k:Nat}
theorem play6_core (h:Tw base col w x v d s N) (hy:y.ok) (hk:y.do_ % 8=6) (old:Int) (aP:bW s.D y.id=old) (s4:Ws) (N4:List Int) (b0:Bool)
  (au:Hid (∀ (K:Nat→Prop) W,Dw K W v s N→(∀ g,W.heap.size≤g→K g)→Calls Tryz.prog 63 #[v.val s,.int .u64 y.id,.int .u64 old,.int .i64 y.th,.int .i64 1] W fun e w'=>∃ J:Dv,e=.returned (.tuple #[J.val s4,.bool b0])∧Dw K w' J s4 N4∧Below W.heap.size W w'))
  (av:Hid (∀ W,Wv base col W x s→Calls Tryz.prog 64 #[ptr x.pw,.int .u64 y.id,.int .u64 old,.int .i64 y.th,.int .i64 1] W fun e w'=>e=.returned (.bool b0) ∧ ∃ col',Wv base col' w' x s4∧Fw col W w'∧El W col col')) :
  Calls Tryz.prog 14 #[y.val,ptr x.pw,ptr d] w fun e w'=>e=.returned (.bool true) ∧ ∃ col' J,Tw base col' w' x J d s4 N4∧Fp col d w w'∧El w col col':=by
 have m0:(y.do_ % 8 == 0)=false:=by rw [hk]; rfl
 have b2:((y.do_).tmod 8 == 0)=false:=by rw [Int.tmod_eq_emod_of_nonneg hy.d.1,hk]; rfl
 have m1:(y.do_ % 8 == 1)=false:=by rw [hk]; rfl
 have b4:((y.do_).tmod 8 == 1)=false:=by rw [Int.tmod_eq_emod_of_nonneg hy.d.1,hk]; rfl
 have m2:(y.do_ % 8 == 2)=false:=by rw [hk]; rfl
 have b5:((y.do_).tmod 8 == 2)=false:=by rw [Int.tmod_eq_emod_of_nonneg hy.d.1,hk]; rfl
 have m3:(y.do_ % 8 == 3)=false:=by rw [hk]; rfl
 have b6:((y.do_).tmod 8 == 3)=false:=by rw [Int.tmod_eq_emod_of_nonneg hy.d.1,hk]; rfl
 have m4:(y.do_ % 8 == 4)=false:=by rw [hk]; rfl
 have b7:((y.do_).tmod 8 == 4)=false:=by rw [Int.tmod_eq_emod_of_nonneg hy.d.1,hk]; rfl
 have m5:(y.do_ % 8 == 5)=false:=by rw [hk]; rfl
 have b8:((y.do_).tmod 8 == 5)=false:=by rw [Int.tmod_eq_emod_of_nonneg hy.d.1,hk]; rfl
 have m6:(y.do_ % 8 == 6)=true:=by rw [hk]; rfl
 have b9:((y.do_).tmod 8 == 6)=true:=by rw [Int.tmod_eq_emod_of_nonneg hy.d.1,hk]; rfl
 have HT:=Lh h
 have HY:=Lh hy
 have ay:=Lh (Yc.new w y)
 have ae:Hid (Below w.heap.size w (w.alloc (.cells #[.int .u8 y.do_,.int .u64 y.id,.int .u64 y.n,.int .i64 y.th,.int .i64 y.st] 57))):=Lh ((Below.refl _ _).alloc (Nat.le_refl _) _)
 have aS:=Lh aP
 clear hk hy h aP
 go_enter Tryz.func14,Tryz.ntmps14
 go_upto_region 1 with (fail)
 generalize (w.alloc (.cells #[.int .u8 y.do_,.int .u64 y.id,.int .u64 y.n,.int .i64 y.th,.int .i64 y.st] 57))=W0 at *
 have aw:=Lh (HT.out.wv.later ae.out)
 have aM:=Lh (HT.out.vw.later ae.out)
 have aI:=Lh (HT.out.dw.later ae.out)
 obtain ⟨q,hq⟩:∃ q,w.heap.size=q:=⟨_,rfl⟩
 have aQ:q≠d:=fun e=>by have:=HT.out.vw.lt; omega
 have ba:w.heap.size≤q:=by omega
 rw [hq] at ay
 rw [hq]
 obtain ⟨z0,z1,z2,z3,z4⟩:=ay.out
 have aL:=Lh aQ
 clear hq aQ
 -- the bag's word
 have c8:=aw.out.cells.c8
 have aU:∀ u:After W0,u.1.cell? ⟨x.pw,8,none⟩=some (ptr x.pb):=fun u=>u.cell c8
 have aZ:∀ u:After W0,u.1.cell? ⟨q,1,none⟩=some (.int .u64 y.id):=fun u=>u.cell z1
 obtain ⟨is,aO⟩:∃ is,(fnd s.D y.id).isSome=is:=⟨_,rfl⟩
 have aK:Hid (∀ u:After W0,Calls Tryz.prog 62 #[ptr x.pb,.int .u64 y.id] u.1 fun e w'=>e=.returned (.tuple #[.int .u64 old,.bool is])∧u.1=w'):=Lh (fun u=>by
  have q:=load_any u.1 x.pb x.ab s.D s.S y.id (aw.out.bag.later u.2) HY.out.i
  rw [aS.out,aO] at q
  exact q)
 clear c8 aO
 go_wp2_with fail
 refine region_after (by kernel_rfl) (by kernel_rfl) ?_
 repeat (go_big_quiet_step (first
  | (go_at_call 62; exact After.same (aK.out _))))
 refine wpQuiet_nil ?_
 rintro F ⟨⟨_,af⟩,rfl⟩
 have ax:=Lh (aw.out.later af)
 have a7:=Lh (aM.out.later af)
 have aJ:=Lh (aI.out.later af)
 have G:=Lh (ay.out.later af)
 have ar:Hid (Below w.heap.size w F):=Lh (ae.out.trans (af.mono ae.out.size))
 clear af aU aZ aK aw aM aI ay ae z0 z1 z2 z3 z4 m0 b2 m1 b4 m2 b5 m3 b6 m4 b7 m5 b8 m6 b9
 go_wp2_with fail
 have a4:Below F.heap.size F F.drew:=(Below.refl _ _).drew
 have z:Hid (Vw F.drew d (v.cells s)∧F.drew.cell? ⟨q,1,none⟩=some (.int .u64 y.id)∧F.drew.cell? ⟨q,3,none⟩=some (.int .i64 y.th)):=Lh ⟨a7.out.later a4,(a4.cell (p:=⟨q,1,none⟩) G.out.lt).trans G.out.z1,(a4.cell (p:=⟨q,3,none⟩) G.out.lt).trans G.out.z3⟩
 refine reg_start 15 (fun w'=>Vw w' d (v.cells s)∧w'.cell? ⟨q,1,none⟩=some (.int .u64 y.id)∧w'.cell? ⟨q,3,none⟩=some (.int .i64 y.th)) (by kernel_rfl) (by kernel_rfl) ?_
 intro aN
 have Y:=Lh aN
 clear aN
 refine rq 0 Y.out z.out rfl ?_
 refine rq 1 Y.out z.out rfl ?_
 refine rl 2 Y.out z.out rfl ?_
 apply Exists.intro
 refine ⟨fun w' hw=>exec_load_w _ _ _ rfl rfl hw.1,?_⟩
 refine rq 3 Y.out z.out rfl ?_
 refine rq 4 Y.out z.out rfl ?_ (hv:=fun w' hw=>by (have kz:=hw.2.1; go_simp; exact rfl))
 refine rq 5 Y.out z.out rfl ?_
 refine rq 6 Y.out z.out rfl ?_
 refine rq 7 Y.out z.out rfl ?_ (hv:=fun w' hw=>by (have kz:=hw.2.2; go_simp; exact rfl))
 refine reg_two 8 12 rfl rfl (by kernel_rfl) rfl rfl ?_ ?_
 ·as_aux_lemma=>
   unfold Oper.wp
   go_simp
   refine (au.out (Kc base col) _ (aJ.out.later a4) (fun g hg=>ax.out.new0 g hg)).mono ?_
   rintro e I ⟨J,rfl,ak,b3⟩
   have a0:Below F.heap.size F I:=a4.trans (b3.mono (Nat.le_refl _))
   clear z
   have z:Hid (Vw I d (v.cells s)∧I.cell? ⟨q,1,none⟩=some (.int .u64 y.id)∧I.cell? ⟨q,3,none⟩=some (.int .i64 y.th)):=Lh ⟨a7.out.later a0,(a0.cell (p:=⟨q,1,none⟩) G.out.lt).trans G.out.z1,(a0.cell (p:=⟨q,3,none⟩) G.out.lt).trans G.out.z3⟩
   refine ⟨z.out,?_⟩
   have ah:=Lh ak
   clear ak b3
   refine rq 9 Y.out z.out rfl ?_
   refine rq 10 Y.out z.out rfl ?_
   refine rq 11 Y.out z.out rfl ?_
   refine reg_only 12 rfl (by kernel_rfl) rfl ?_
   unfold Oper.wp
   go_simp
   have ac:Below I.heap.size I (I.alloc (.cells #[.int .i64 0,.int .i64 0,.int .u64 0,.int .u64 0,.int .u64 0,.int .u64 0,.float .f64 0,.int .u64 0,.slice none 0 0,.slice none 0 0,.slice none 0 0,.slice none 0 0,.int .u64 0,.slice none 0 0,.slice none 0 0,.slice none 0 0,.slice none 0 0,.slice none 0 0,.slice none 0 0,.int .u64 0,.slice none 0 0,.int .i64 0,.bool false] 53)):=(Below.refl _ _).alloc (Nat.le_refl _) _
   have a1:Below F.heap.size F (I.alloc (.cells #[.int .i64 0,.int .i64 0,.int .u64 0,.int .u64 0,.int .u64 0,.int .u64 0,.float .f64 0,.int .u64 0,.slice none 0 0,.slice none 0 0,.slice none 0 0,.slice none 0 0,.int .u64 0,.slice none 0 0,.slice none 0 0,.slice none 0 0,.slice none 0 0,.slice none 0 0,.slice none 0 0,.int .u64 0,.slice none 0 0,.int .i64 0,.bool false] 53)):=a0.trans (ac.mono a0.size)
   clear z
   have z:Hid (Vw (I.alloc (.cells #[.int .i64 0,.int .i64 0,.int .u64 0,.int .u64 0,.int .u64 0,.int .u64 0,.float .f64 0,.int .u64 0,.slice none 0 0,.slice none 0 0,.slice none 0 0,.slice none 0 0,.int .u64 0,.slice none 0 0,.slice none 0 0,.slice none 0 0,.slice none 0 0,.slice none 0 0,.slice none 0 0,.int .u64 0,.slice none 0 0,.int .i64 0,.bool false] 53)) d (v.cells s)∧(I.alloc (.cells #[.int .i64 0,.int .i64 0,.int .u64 0,.int .u64 0,.int .u64 0,.int .u64 0,.float .f64 0,.int .u64 0,.slice none 0 0,.slice none 0 0,.slice none 0 0,.slice none 0 0,.int .u64 0,.slice none 0 0,.slice none 0 0,.slice none 0 0,.slice none 0 0,.slice none 0 0,.slice none 0 0,.int .u64 0,.slice none 0 0,.int .i64 0,.bool false] 53)).cell? ⟨q,1,none⟩=some (.int .u64 y.id)∧(I.alloc (.cells #[.int .i64 0,.int .i64 0,.int .u64 0,.int .u64 0,.int .u64 0,.int .u64 0,.float .f64 0,.int .u64 0,.slice none 0 0,.slice none 0 0,.slice none 0 0,.slice none 0 0,.int .u64 0,.slice none 0 0,.slice none 0 0,.slice none 0 0,.slice none 0 0,.slice none 0 0,.slice none 0 0,.int .u64 0,.slice none 0 0,.int .i64 0,.bool false] 53)).cell? ⟨q,3,none⟩=some (.int .i64 y.th)):=Lh ⟨a7.out.later a1,(a1.cell (p:=⟨q,1,none⟩) G.out.lt).trans G.out.z1,(a1.cell (p:=⟨q,3,none⟩) G.out.lt).trans G.out.z3⟩
   refine ⟨z.out,?_⟩
   refine reg_only 13 rfl (by kernel_rfl) rfl ?_
   refine wp_store_w _ _ rfl I.heap.size rfl J s4 rfl (th_zero I) ?_
   intro w4 an ag
   have aG:Below I.heap.size I w4:=ac.trans (ag.below ac.size (fun k hk=>by omega))
   have a2:Below F.heap.size F w4:=a0.trans (aG.mono a0.size)
   clear z
   have z:Hid (Vw w4 d (v.cells s)∧w4.cell? ⟨q,1,none⟩=some (.int .u64 y.id)∧w4.cell? ⟨q,3,none⟩=some (.int .i64 y.th)):=Lh ⟨a7.out.later a2,(a2.cell (p:=⟨q,1,none⟩) G.out.lt).trans G.out.z1,(a2.cell (p:=⟨q,3,none⟩) G.out.lt).trans G.out.z3⟩
   refine ⟨fun _=>z.out,?_⟩
   have ai:=Lh an
   have az:=Lh (ah.out.later aG)
   have a5:=Lh a2
   have aC:=Lh (ax.out.later a2)
   clear an ag a4 a0 ac a1 aG a2 ah
   obtain ⟨g,hg⟩:∃ g,I.heap.size=g:=⟨_,rfl⟩
   rw [hg] at ai
   rw [hg]
   clear hg
   refine rq 14 Y.out z.out rfl ?_
   refine reg_done (by kernel_rfl) ?_
   have aT:=Lh z.out.1
   have aB:=Lh z.out.1.th
   have a9:=Lh (G.out.later a5.out)
   obtain ⟨z0,z1,z2,z3,z4⟩:=a9.out
   clear z au
   go_wp2_with (first
    | (refine load_w rfl _ rfl g rfl J s4 ai.out ?_)
    | (refine store_w rfl _ _ rfl d rfl J s4 rfl aB.out ?_; intro w5 ao ad; have a8:=Lh ao; have a3:=Lh ad; have aF:=Lh (a9.out.blk (ad.block q a9.out.lt aL.out)); clear ao ad z0 z1 z2 z3 z4; obtain ⟨z0,z1,z2,z3,z4⟩:=aF.out))
   have aD:Hid (Wv base col w5 x s):=Lh (aC.out.aside a3.out (fun g _ e=>e ▸ HT.out.c8))
   have aA:Hid (Dw (Kc base col) w5 J s4 N4):=Lh (az.out.at_ HT.out.c8 a3.out)
   refine (av.out w5 aD.out).mono ?_
   rintro e w6 ⟨rfl,aj,h6,aq,al⟩
   have aE:=Lh h6
   have aa:=Lh aq
   have a6:=Lh al
   clear h6 aq al av
   go_wp2_with fail
   go_ret
   have aV:=ar.out.size
   have aW:=a5.out.size
   have aX:=a3.out.size
   have aH:aj d=8:=(a6.out d a8.out.lt).trans HT.out.c8
   refine ⟨by simp,aj,J,⟨aE.out,aA.out.call aa.out a6.out,a8.out.blk (aa.out.block d a8.out.lt (fun e=>e.2 HT.out.c8)),aH⟩,?_,fun k hk=>a6.out k (by omega)⟩
   exact (Fz.of_below ar.out).trans ((Fz.of_below a5.out).trans ((fp_d a3.out).trans (fp_w aa.out)))
 ·as_aux_lemma=>
   unfold Oper.wp
   go_simp
   have ac:Below F.drew.heap.size F.drew (F.drew.alloc (.cells #[.int .i64 0,.int .i64 0,.int .u64 0,.int .u64 0,.int .u64 0,.int .u64 0,.float .f64 0,.int .u64 0,.slice none 0 0,.slice none 0 0,.slice none 0 0,.slice none 0 0,.int .u64 0,.slice none 0 0,.slice none 0 0,.slice none 0 0,.slice none 0 0,.slice none 0 0,.slice none 0 0,.int .u64 0,.slice none 0 0,.int .i64 0,.bool false] 53)):=(Below.refl _ _).alloc (Nat.le_refl _) _
   have a1:Below F.heap.size F (F.drew.alloc (.cells #[.int .i64 0,.int .i64 0,.int .u64 0,.int .u64 0,.int .u64 0,.int .u64 0,.float .f64 0,.int .u64 0,.slice none 0 0,.slice none 0 0,.slice none 0 0,.slice none 0 0,.int .u64 0,.slice none 0 0,.slice none 0 0,.slice none 0 0,.slice none 0 0,.slice none 0 0,.slice none 0 0,.int .u64 0,.slice none 0 0,.int .i64 0,.bool false] 53)):=a4.trans (ac.mono (Nat.le_refl _))
   clear z
   have z:Hid (Vw (F.drew.alloc (.cells #[.int .i64 0,.int .i64 0,.int .u64 0,.int .u64 0,.int .u64 0,.int .u64 0,.float .f64 0,.int .u64 0,.slice none 0 0,.slice none 0 0,.slice none 0 0,.slice none 0 0,.int .u64 0,.slice none 0 0,.slice none 0 0,.slice none 0 0,.slice none 0 0,.slice none 0 0,.slice none 0 0,.int .u64 0,.slice none 0 0,.int .i64 0,.bool false] 53)) d (v.cells s)∧(F.drew.alloc (.cells #[.int .i64 0,.int .i64 0,.int .u64 0,.int .u64 0,.int .u64 0,.int .u64 0,.float .f64 0,.int .u64 0,.slice none 0 0,.slice none 0 0,.slice none 0 0,.slice none 0 0,.int .u64 0,.slice none 0 0,.slice none 0 0,.slice none 0 0,.slice none 0 0,.slice none 0 0,.slice none 0 0,.int .u64 0,.slice none 0 0,.int .i64 0,.bool false] 53)).cell? ⟨q,1,none⟩=some (.int .u64 y.id)∧(F.drew.alloc (.cells #[.int .i64 0,.int .i64 0,.int .u64 0,.int .u64 0,.int .u64 0,.int .u64 0,.float .f64 0,.int .u64 0,.slice none 0 0,.slice none 0 0,.slice none 0 0,.slice none 0 0,.int .u64 0,.slice none 0 0,.slice none 0 0,.slice none 0 0,.slice none 0 0,.slice none 0 0,.slice none 0 0,.int .u64 0,.slice none 0 0,.int .i64 0,.bool false] 53)).cell? ⟨q,3,none⟩=some (.int .i64 y.th)):=Lh ⟨a7.out.later a1,(a1.cell (p:=⟨q,1,none⟩) G.out.lt).trans G.out.z1,(a1.cell (p:=⟨q,3,none⟩) G.out.lt).trans G.out.z3⟩
   refine ⟨z.out,?_⟩
   have aY:(F.drew.alloc (.cells #[.int .i64 0,.int .i64 0,.int .u64 0,.int .u64 0,.int .u64 0,.int .u64 0,.float .f64 0,.int .u64 0,.slice none 0 0,.slice none 0 0,.slice none 0 0,.slice none 0 0,.int .u64 0,.slice none 0 0,.slice none 0 0,.slice none 0 0,.slice none 0 0,.slice none 0 0,.slice none 0 0,.int .u64 0,.slice none 0 0,.int .i64 0,.bool false] 53)).heap.size=F.heap.size+1:=by simp
   refine reg_only 8 rfl (by kernel_rfl) rfl ?_
   unfold Oper.wp
   go_simp
   refine (au.out (fun k=>Kc base col k∧k≠F.heap.size) _ ((aJ.out.mono (fun k hk e=>⟨e,by omega⟩)).later a1) (fun k hk=>⟨ax.out.new0 k (by have:=a1.size; omega),by rw [aY] at hk; omega⟩)).mono ?_
   rintro e I ⟨J,rfl,ak,b3⟩
   have a0:Below F.heap.size F I:=a1.trans (b3.mono a1.size)
   have aR:=th_later (th_zero F.drew) b3
   clear z
   have z:Hid (Vw I d (v.cells s)∧I.cell? ⟨q,1,none⟩=some (.int .u64 y.id)∧I.cell? ⟨q,3,none⟩=some (.int .i64 y.th)):=Lh ⟨a7.out.later a0,(a0.cell (p:=⟨q,1,none⟩) G.out.lt).trans G.out.z1,(a0.cell (p:=⟨q,3,none⟩) G.out.lt).trans G.out.z3⟩
   refine ⟨z.out,?_⟩
   have ah:=Lh ak
   clear ak b3
   refine rq 9 Y.out z.out rfl ?_
   refine rq 10 Y.out z.out rfl ?_
   refine rq 11 Y.out z.out rfl ?_
   refine reg_only 13 rfl (by kernel_rfl) rfl ?_
   refine wp_store_w _ _ rfl F.heap.size rfl J s4 rfl aR ?_
   intro w4 an ag
   have a2:Below F.heap.size F w4:=a0.trans (ag.below a0.size (fun k hk=>by omega))
   clear z
   have z:Hid (Vw w4 d (v.cells s)∧w4.cell? ⟨q,1,none⟩=some (.int .u64 y.id)∧w4.cell? ⟨q,3,none⟩=some (.int .i64 y.th)):=Lh ⟨a7.out.later a2,(a2.cell (p:=⟨q,1,none⟩) G.out.lt).trans G.out.z1,(a2.cell (p:=⟨q,3,none⟩) G.out.lt).trans G.out.z3⟩
   refine ⟨fun _=>z.out,?_⟩
   have ai:=Lh an
   have az:Hid (Dw (Kc base col) w4 J s4 N4):=Lh ((ah.out.fz ag (fun k hk e e2=>e.2 e2)).mono (fun k hk e=>e.1))
   have a5:=Lh a2
   have aC:=Lh (ax.out.later a2)
   clear an ag a4 a0 ac a1 a2 ah aR
   obtain ⟨g,hg⟩:∃ g,F.heap.size=g:=⟨_,rfl⟩
   rw [hg] at ai
   rw [hg]
   clear hg
   refine rq 14 Y.out z.out rfl ?_
   refine reg_done (by kernel_rfl) ?_
   have aT:=Lh z.out.1
   have aB:=Lh z.out.1.th
   have a9:=Lh (G.out.later a5.out)
   obtain ⟨z0,z1,z2,z3,z4⟩:=a9.out
   clear z au
   go_wp2_with (first
    | (refine load_w rfl _ rfl g rfl J s4 ai.out ?_)
    | (refine store_w rfl _ _ rfl d rfl J s4 rfl aB.out ?_; intro w5 ao ad; have a8:=Lh ao; have a3:=Lh ad; have aF:=Lh (a9.out.blk (ad.block q a9.out.lt aL.out)); clear ao ad z0 z1 z2 z3 z4; obtain ⟨z0,z1,z2,z3,z4⟩:=aF.out))
   have aD:Hid (Wv base col w5 x s):=Lh (aC.out.aside a3.out (fun g _ e=>e ▸ HT.out.c8))
   have aA:Hid (Dw (Kc base col) w5 J s4 N4):=Lh (az.out.at_ HT.out.c8 a3.out)
   refine (av.out w5 aD.out).mono ?_
   rintro e w6 ⟨rfl,aj,h6,aq,al⟩
   have aE:=Lh h6
   have aa:=Lh aq
   have a6:=Lh al
   clear h6 aq al av
   go_wp2_with fail
   go_ret
   have aV:=ar.out.size
   have aW:=a5.out.size
   have aX:=a3.out.size
   have aH:aj d=8:=(a6.out d a8.out.lt).trans HT.out.c8
   refine ⟨by simp,aj,J,⟨aE.out,aA.out.call aa.out a6.out,a8.out.blk (aa.out.block d a8.out.lt (fun e=>e.2 HT.out.c8)),aH⟩,?_,fun k hk=>a6.out k (by omega)⟩
   exact (Fz.of_below ar.out).trans ((Fz.of_below a5.out).trans ((fp_d a3.out).trans (fp_w aa.out)))
theorem playT6 (h:Tw base col w x v d s N) (u:Pl s N k) (a3:k≤900) (hN:N.length≤900) (z:y.ok) (hk:y.do_ % 8=6):Plays2 w base col x (s,N) d y:=by
 have a0:=u.cl
 have a2:=u.el
 have a1:=u.dl
 have a4:=u.nl
 have F:U64 (bW s.D y.id):=bW_u64 w x.pb x.ab s.S h.wv.bag y.id
 have Y:∀ p∈s.D,U64 p.2.word:=fun p u=>(h.wv.bag.ui p u).2.1
 unfold Plays2 actW
 rw [if_pos hk]
 by_cases hb:bK s.D y.id (bW s.D y.id) 3=true
 ·simp only [if_pos hb]
  refine play6_core w h z hk _ rfl _ _ true (Lh fun K W I G=>?_) (Lh fun W hw=>?_)
  ·exact drem_yes W v s N I G y.id _ y.th 1 z.i u.ri.nd (by omega) Y F (by omega) (by omega) (by omega) hb
  ·exact wrem_yes W N hw u.mk_ y.id _ y.th 1 z.i u.nw F hb (by omega) (by omega)
 ·have J:bK s.D y.id (bW s.D y.id) 3=false:=by simpa using hb
  simp only [if_neg hb]
  refine play6_core w h z hk _ rfl _ _ false (Lh fun K W I G=>?_) (Lh fun W hw=>?_)
  ·refine (drem_no W v s N I G y.id _ y.th 1 z.i u.ri.nd (by omega) Y F J).mono ?_
   rintro e w' ⟨rfl,h1,h2⟩
   exact ⟨v,rfl,h1,h2⟩
  ·exact wrem_no W N hw u.mk_ y.id _ y.th 1 z.i u.nw F J
end
end Go.Proofs.YtaeemilldmhbnaaGreatDoor.Wo
