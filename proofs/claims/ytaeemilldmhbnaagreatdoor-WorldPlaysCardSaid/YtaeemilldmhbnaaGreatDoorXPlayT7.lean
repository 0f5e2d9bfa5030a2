/- A part of the claim: the texts PlayT7. -/
import Derived.Test.YtaeemilldmhbnaaGreatDoorXPlayT3
import Derived.Test.YtaeemilldmhbnaaGreatDoorXDocR
import Derived.Test.YtaeemilldmhbnaaGreatDoorXGBagG
import Derived.Test.YtaeemilldmhbnaaGreatDoorXBase1
import Derived.Deep.CutRange
import Derived.Deep.CutBlock
set_option maxRecDepth 100000
set_option maxHeartbeats 8000000
set_option linter.unusedVariables false
namespace Go.Proofs.YtaeemilldmhbnaaGreatDoor.Wo
open Go Go.ChangeShapes Go.WideShapes Go.ChangeAt Go.RowKit Go.Maps Rw Hi Mt Ba
open Cn (Cf cfE)
section
variable (w:World) {base:Nat} {col:Nat→Nat} {x:Wp} {s:Ws} {d:Nat} {v:Dv} {y:Ay} {N:List Int} {k:Nat}
theorem play7_core (h:Tw base col w x v d s N) (hy:y.ok) (hk:y.do_ % 8=7) (old:Int) (aJ:bW s.D y.id=old) (s4:Ws) (N4:List Int) (bv:Int) (b0:Bool)
  (an:Hid (∀ (K:Nat→Prop) W,Dw K W v s N→(∀ g,W.heap.size≤g→K g)→Calls Tryz.prog 65 #[v.val s,.int .u64 y.id,.int .u64 old,.int .i64 y.st] W fun e w'=>∃ v':Dv,e=.returned (.tuple #[v'.val s4,.int .u64 bv,.bool b0])∧Dw K w' v' s4 N4∧Below W.heap.size W w'))
  (aC:Hid (∀ W,Wv base col W x s→Calls Tryz.prog 66 #[ptr x.pb,.int .u64 y.id,.int .u64 old,.int .i64 y.st,.int .u64 s.now] W fun e w'=>e=.returned (.tuple #[.int .u64 bv,.bool b0]) ∧ ∃ col',Wv base col' w' x s4∧Fw col W w'∧El W col col')) :
  Calls Tryz.prog 14 #[y.val,ptr x.pw,ptr d] w fun e w'=>e=.returned (.bool true) ∧ ∃ col' v',Tw base col' w' x v' d s4 N4∧Fp col d w w'∧El w col col':=by
 have m0:(y.do_ % 8 == 0)=false:=by rw [hk]; rfl
 have b2:((y.do_).tmod 8 == 0)=false:=by rw [Int.tmod_eq_emod_of_nonneg hy.d.1,hk]; rfl
 have m1:(y.do_ % 8 == 1)=false:=by rw [hk]; rfl
 have b4:((y.do_).tmod 8 == 1)=false:=by rw [Int.tmod_eq_emod_of_nonneg hy.d.1,hk]; rfl
 have m2:(y.do_ % 8 == 2)=false:=by rw [hk]; rfl
 have b5:((y.do_).tmod 8 == 2)=false:=by rw [Int.tmod_eq_emod_of_nonneg hy.d.1,hk]; rfl
 have m3:(y.do_ % 8 == 3)=false:=by rw [hk]; rfl
 have b6:((y.do_).tmod 8 == 3)=false:=by rw [Int.tmod_eq_emod_of_nonneg hy.d.1,hk]; rfl
 have m4:(y.do_ % 8 == 4)=false:=by rw [hk]; rfl
 have b8:((y.do_).tmod 8 == 4)=false:=by rw [Int.tmod_eq_emod_of_nonneg hy.d.1,hk]; rfl
 have m5:(y.do_ % 8 == 5)=false:=by rw [hk]; rfl
 have b9:((y.do_).tmod 8 == 5)=false:=by rw [Int.tmod_eq_emod_of_nonneg hy.d.1,hk]; rfl
 have m6:(y.do_ % 8 == 6)=false:=by rw [hk]; rfl
 have ba:((y.do_).tmod 8 == 6)=false:=by rw [Int.tmod_eq_emod_of_nonneg hy.d.1,hk]; rfl
 have HT:=Lh h
 have HY:=Lh hy
 have ak:=Lh (Yc.new w y)
 have a8:Hid (Below w.heap.size w (w.alloc (.cells #[.int .u8 y.do_,.int .u64 y.id,.int .u64 y.n,.int .i64 y.th,.int .i64 y.st] 57))):=Lh ((Below.refl _ _).alloc (Nat.le_refl _) _)
 have aQ:=Lh aJ
 clear hk hy h aJ
 go_enter Tryz.func14,Tryz.ntmps14
 go_upto_region 1 with (fail)
 generalize (w.alloc (.cells #[.int .u8 y.do_,.int .u64 y.id,.int .u64 y.n,.int .i64 y.th,.int .i64 y.st] 57))=W0 at *
 have ai:=Lh (HT.out.wv.later a8.out)
 have aD:=Lh (HT.out.vw.later a8.out)
 have az:=Lh (HT.out.dw.later a8.out)
 obtain ⟨q,hq⟩:∃ q,w.heap.size=q:=⟨_,rfl⟩
 have aK:q≠d:=fun e=>by have:=HT.out.vw.lt; omega
 have bj:w.heap.size≤q:=by omega
 rw [hq] at ak
 rw [hq]
 obtain ⟨z0,z1,z2,z3,z4⟩:=ak.out
 have aR:=Lh aK
 clear hq aK
 -- the bag's word
 have c8:=ai.out.cells.c8
 have aX:∀ u:After W0,u.1.cell? ⟨x.pw,8,none⟩=some (ptr x.pb):=fun u=>u.cell c8
 have aZ:∀ u:After W0,u.1.cell? ⟨q,1,none⟩=some (.int .u64 y.id):=fun u=>u.cell z1
 obtain ⟨is,aH⟩:∃ is,(fnd s.D y.id).isSome=is:=⟨_,rfl⟩
 have aB:Hid (∀ u:After W0,Calls Tryz.prog 62 #[ptr x.pb,.int .u64 y.id] u.1 fun e w'=>e=.returned (.tuple #[.int .u64 old,.bool is])∧u.1=w'):=Lh (fun u=>by
  have q:=load_any u.1 x.pb x.ab s.D s.S y.id (ai.out.bag.later u.2) HY.out.i
  rw [aQ.out,aH] at q
  exact q)
 clear c8 aH
 go_wp2_with fail
 refine region_after (by kernel_rfl) (by kernel_rfl) ?_
 repeat (go_big_quiet_step (first
  | (go_at_call 62; exact After.same (aB.out _))))
 refine wpQuiet_nil ?_
 rintro G ⟨⟨_,a9⟩,rfl⟩
 have aj:=Lh (ai.out.later a9)
 have a4:=Lh (aD.out.later a9)
 have aA:=Lh (az.out.later a9)
 have I:=Lh (ak.out.later a9)
 have ax:Hid (Below w.heap.size w G):=Lh (a8.out.trans (a9.mono a8.out.size))
 clear a9 aX aZ aB ai aD az ak a8 z0 z1 z2 z3 z4 m0 b2 m1 b4 m2 b5 m3 b6 m4 b8 m5 b9 m6 ba
 go_wp2_with fail
 go_cut [27,28,29] from 45 to 57 (fun bb bc bd wx=>∃ (g:Nat) (v':Dv),bb=ptr g∧bc=.int .u64 bv∧bd=.bool b0∧Hid (Vw wx g (v'.cells s4))∧Hid (Vw wx d (v.cells s))∧Hid (Yc wx q y)∧Hid (Dw (Kc base col) wx v' s4 N4)∧Hid (Wv base col wx x s)∧Hid (Below G.heap.size G wx))
 case first=>
  have a3:Below G.heap.size G G.drew:=(Below.refl _ _).drew
  have z:Hid (Vw G.drew d (v.cells s)∧G.drew.cell? ⟨q,1,none⟩=some (.int .u64 y.id)∧G.drew.cell? ⟨q,4,none⟩=some (.int .i64 y.st)):=Lh ⟨a4.out.later a3,(a3.cell (p:=⟨q,1,none⟩) I.out.lt).trans I.out.z1,(a3.cell (p:=⟨q,4,none⟩) I.out.lt).trans I.out.z4⟩
  refine reg_start 17 (fun w'=>Vw w' d (v.cells s)∧w'.cell? ⟨q,1,none⟩=some (.int .u64 y.id)∧w'.cell? ⟨q,4,none⟩=some (.int .i64 y.st)) (by kernel_rfl) (by kernel_rfl) ?_
  intro af
  have F:=Lh af
  clear af
  refine rq 0 F.out z.out rfl ?_
  refine rq 1 F.out z.out rfl ?_
  refine rl 2 F.out z.out rfl ?_
  apply Exists.intro
  refine ⟨fun w' hw=>exec_load_w _ _ _ rfl rfl hw.1,?_⟩
  refine rq 3 F.out z.out rfl ?_
  refine rq 4 F.out z.out rfl ?_ (hv:=fun w' hw=>by (have kz:=hw.2.1; go_simp; exact rfl))
  refine rq 5 F.out z.out rfl ?_
  refine rq 6 F.out z.out rfl ?_
  refine rq 7 F.out z.out rfl ?_ (hv:=fun w' hw=>by (have kz:=hw.2.2; go_simp; exact rfl))
  refine reg_two 8 13 rfl rfl (by kernel_rfl) rfl rfl ?_ ?_
  ·as_aux_lemma=>
    unfold Oper.wp
    go_simp
    refine (an.out (Kc base col) _ (aA.out.later a3) (fun g hg=>aj.out.new0 g hg)).mono ?_
    rintro e Y ⟨v',rfl,ag,b3⟩
    have a0:Below G.heap.size G Y:=a3.trans (b3.mono (Nat.le_refl _))
    clear z
    have z:Hid (Vw Y d (v.cells s)∧Y.cell? ⟨q,1,none⟩=some (.int .u64 y.id)∧Y.cell? ⟨q,4,none⟩=some (.int .i64 y.st)):=Lh ⟨a4.out.later a0,(a0.cell (p:=⟨q,1,none⟩) I.out.lt).trans I.out.z1,(a0.cell (p:=⟨q,4,none⟩) I.out.lt).trans I.out.z4⟩
    refine ⟨z.out,?_⟩
    have ac:=Lh ag
    clear ag b3
    refine rq 9 F.out z.out rfl ?_
    refine rq 10 F.out z.out rfl ?_
    refine rq 11 F.out z.out rfl ?_
    refine rq 12 F.out z.out rfl ?_
    refine reg_only 13 rfl (by kernel_rfl) rfl ?_
    unfold Oper.wp
    go_simp
    have a7:Below Y.heap.size Y (Y.alloc (.cells #[.int .i64 0,.int .i64 0,.int .u64 0,.int .u64 0,.int .u64 0,.int .u64 0,.float .f64 0,.int .u64 0,.slice none 0 0,.slice none 0 0,.slice none 0 0,.slice none 0 0,.int .u64 0,.slice none 0 0,.slice none 0 0,.slice none 0 0,.slice none 0 0,.slice none 0 0,.slice none 0 0,.int .u64 0,.slice none 0 0,.int .i64 0,.bool false] 53)):=(Below.refl _ _).alloc (Nat.le_refl _) _
    have a1:Below G.heap.size G (Y.alloc (.cells #[.int .i64 0,.int .i64 0,.int .u64 0,.int .u64 0,.int .u64 0,.int .u64 0,.float .f64 0,.int .u64 0,.slice none 0 0,.slice none 0 0,.slice none 0 0,.slice none 0 0,.int .u64 0,.slice none 0 0,.slice none 0 0,.slice none 0 0,.slice none 0 0,.slice none 0 0,.slice none 0 0,.int .u64 0,.slice none 0 0,.int .i64 0,.bool false] 53)):=a0.trans (a7.mono a0.size)
    clear z
    have z:Hid (Vw (Y.alloc (.cells #[.int .i64 0,.int .i64 0,.int .u64 0,.int .u64 0,.int .u64 0,.int .u64 0,.float .f64 0,.int .u64 0,.slice none 0 0,.slice none 0 0,.slice none 0 0,.slice none 0 0,.int .u64 0,.slice none 0 0,.slice none 0 0,.slice none 0 0,.slice none 0 0,.slice none 0 0,.slice none 0 0,.int .u64 0,.slice none 0 0,.int .i64 0,.bool false] 53)) d (v.cells s)∧(Y.alloc (.cells #[.int .i64 0,.int .i64 0,.int .u64 0,.int .u64 0,.int .u64 0,.int .u64 0,.float .f64 0,.int .u64 0,.slice none 0 0,.slice none 0 0,.slice none 0 0,.slice none 0 0,.int .u64 0,.slice none 0 0,.slice none 0 0,.slice none 0 0,.slice none 0 0,.slice none 0 0,.slice none 0 0,.int .u64 0,.slice none 0 0,.int .i64 0,.bool false] 53)).cell? ⟨q,1,none⟩=some (.int .u64 y.id)∧(Y.alloc (.cells #[.int .i64 0,.int .i64 0,.int .u64 0,.int .u64 0,.int .u64 0,.int .u64 0,.float .f64 0,.int .u64 0,.slice none 0 0,.slice none 0 0,.slice none 0 0,.slice none 0 0,.int .u64 0,.slice none 0 0,.slice none 0 0,.slice none 0 0,.slice none 0 0,.slice none 0 0,.slice none 0 0,.int .u64 0,.slice none 0 0,.int .i64 0,.bool false] 53)).cell? ⟨q,4,none⟩=some (.int .i64 y.st)):=Lh ⟨a4.out.later a1,(a1.cell (p:=⟨q,1,none⟩) I.out.lt).trans I.out.z1,(a1.cell (p:=⟨q,4,none⟩) I.out.lt).trans I.out.z4⟩
    refine ⟨z.out,?_⟩
    refine reg_only 14 rfl (by kernel_rfl) rfl ?_
    refine wp_store_w _ _ rfl Y.heap.size rfl v' s4 rfl (th_zero Y) ?_
    intro w4 ah aa
    have av:Below Y.heap.size Y w4:=a7.trans (aa.below a7.size (fun k hk=>by omega))
    have J:Below G.heap.size G w4:=a0.trans (av.mono a0.size)
    clear z
    have z:Hid (Vw w4 d (v.cells s)∧w4.cell? ⟨q,1,none⟩=some (.int .u64 y.id)∧w4.cell? ⟨q,4,none⟩=some (.int .i64 y.st)):=Lh ⟨a4.out.later J,(J.cell (p:=⟨q,1,none⟩) I.out.lt).trans I.out.z1,(J.cell (p:=⟨q,4,none⟩) I.out.lt).trans I.out.z4⟩
    refine ⟨fun _=>z.out,?_⟩
    have a5:=Lh ah
    have ad:=Lh (ac.out.later av)
    have a2:=Lh J
    have ae:=Lh (aj.out.later J)
    clear ah aa a3 a0 a7 a1 av J ac
    obtain ⟨g,hg⟩:∃ g,Y.heap.size=g:=⟨_,rfl⟩
    rw [hg] at a5
    rw [hg]
    clear hg
    refine rq 15 F.out z.out rfl ?_
    refine rq 16 F.out z.out rfl ?_
    refine reg_done (by kernel_rfl) ?_
    go_wp2_with fail
    go_meet
    case rel=>exact ⟨g,v',rfl,rfl,rfl,a5,Lh z.out.1,Lh (I.out.later a2.out),ad,ae,a2⟩
  ·as_aux_lemma=>
    unfold Oper.wp
    go_simp
    have a7:Below G.drew.heap.size G.drew (G.drew.alloc (.cells #[.int .i64 0,.int .i64 0,.int .u64 0,.int .u64 0,.int .u64 0,.int .u64 0,.float .f64 0,.int .u64 0,.slice none 0 0,.slice none 0 0,.slice none 0 0,.slice none 0 0,.int .u64 0,.slice none 0 0,.slice none 0 0,.slice none 0 0,.slice none 0 0,.slice none 0 0,.slice none 0 0,.int .u64 0,.slice none 0 0,.int .i64 0,.bool false] 53)):=(Below.refl _ _).alloc (Nat.le_refl _) _
    have a1:Below G.heap.size G (G.drew.alloc (.cells #[.int .i64 0,.int .i64 0,.int .u64 0,.int .u64 0,.int .u64 0,.int .u64 0,.float .f64 0,.int .u64 0,.slice none 0 0,.slice none 0 0,.slice none 0 0,.slice none 0 0,.int .u64 0,.slice none 0 0,.slice none 0 0,.slice none 0 0,.slice none 0 0,.slice none 0 0,.slice none 0 0,.int .u64 0,.slice none 0 0,.int .i64 0,.bool false] 53)):=a3.trans (a7.mono (Nat.le_refl _))
    clear z
    have z:Hid (Vw (G.drew.alloc (.cells #[.int .i64 0,.int .i64 0,.int .u64 0,.int .u64 0,.int .u64 0,.int .u64 0,.float .f64 0,.int .u64 0,.slice none 0 0,.slice none 0 0,.slice none 0 0,.slice none 0 0,.int .u64 0,.slice none 0 0,.slice none 0 0,.slice none 0 0,.slice none 0 0,.slice none 0 0,.slice none 0 0,.int .u64 0,.slice none 0 0,.int .i64 0,.bool false] 53)) d (v.cells s)∧(G.drew.alloc (.cells #[.int .i64 0,.int .i64 0,.int .u64 0,.int .u64 0,.int .u64 0,.int .u64 0,.float .f64 0,.int .u64 0,.slice none 0 0,.slice none 0 0,.slice none 0 0,.slice none 0 0,.int .u64 0,.slice none 0 0,.slice none 0 0,.slice none 0 0,.slice none 0 0,.slice none 0 0,.slice none 0 0,.int .u64 0,.slice none 0 0,.int .i64 0,.bool false] 53)).cell? ⟨q,1,none⟩=some (.int .u64 y.id)∧(G.drew.alloc (.cells #[.int .i64 0,.int .i64 0,.int .u64 0,.int .u64 0,.int .u64 0,.int .u64 0,.float .f64 0,.int .u64 0,.slice none 0 0,.slice none 0 0,.slice none 0 0,.slice none 0 0,.int .u64 0,.slice none 0 0,.slice none 0 0,.slice none 0 0,.slice none 0 0,.slice none 0 0,.slice none 0 0,.int .u64 0,.slice none 0 0,.int .i64 0,.bool false] 53)).cell? ⟨q,4,none⟩=some (.int .i64 y.st)):=Lh ⟨a4.out.later a1,(a1.cell (p:=⟨q,1,none⟩) I.out.lt).trans I.out.z1,(a1.cell (p:=⟨q,4,none⟩) I.out.lt).trans I.out.z4⟩
    refine ⟨z.out,?_⟩
    have aY:(G.drew.alloc (.cells #[.int .i64 0,.int .i64 0,.int .u64 0,.int .u64 0,.int .u64 0,.int .u64 0,.float .f64 0,.int .u64 0,.slice none 0 0,.slice none 0 0,.slice none 0 0,.slice none 0 0,.int .u64 0,.slice none 0 0,.slice none 0 0,.slice none 0 0,.slice none 0 0,.slice none 0 0,.slice none 0 0,.int .u64 0,.slice none 0 0,.int .i64 0,.bool false] 53)).heap.size=G.heap.size+1:=by simp
    refine reg_only 8 rfl (by kernel_rfl) rfl ?_
    unfold Oper.wp
    go_simp
    refine (an.out (fun k=>Kc base col k∧k≠G.heap.size) _ ((aA.out.mono (fun k hk e=>⟨e,by omega⟩)).later a1) (fun k hk=>⟨aj.out.new0 k (by have:=a1.size; omega),by rw [aY] at hk; omega⟩)).mono ?_
    rintro e Y ⟨v',rfl,ag,b3⟩
    have a0:Below G.heap.size G Y:=a1.trans (b3.mono a1.size)
    have aL:=th_later (th_zero G.drew) b3
    clear z
    have z:Hid (Vw Y d (v.cells s)∧Y.cell? ⟨q,1,none⟩=some (.int .u64 y.id)∧Y.cell? ⟨q,4,none⟩=some (.int .i64 y.st)):=Lh ⟨a4.out.later a0,(a0.cell (p:=⟨q,1,none⟩) I.out.lt).trans I.out.z1,(a0.cell (p:=⟨q,4,none⟩) I.out.lt).trans I.out.z4⟩
    refine ⟨z.out,?_⟩
    have ac:=Lh ag
    clear ag b3
    refine rq 9 F.out z.out rfl ?_
    refine rq 10 F.out z.out rfl ?_
    refine rq 11 F.out z.out rfl ?_
    refine rq 12 F.out z.out rfl ?_
    refine reg_only 14 rfl (by kernel_rfl) rfl ?_
    refine wp_store_w _ _ rfl G.heap.size rfl v' s4 rfl aL ?_
    intro w4 ah aa
    have J:Below G.heap.size G w4:=a0.trans (aa.below a0.size (fun k hk=>by omega))
    clear z
    have z:Hid (Vw w4 d (v.cells s)∧w4.cell? ⟨q,1,none⟩=some (.int .u64 y.id)∧w4.cell? ⟨q,4,none⟩=some (.int .i64 y.st)):=Lh ⟨a4.out.later J,(J.cell (p:=⟨q,1,none⟩) I.out.lt).trans I.out.z1,(J.cell (p:=⟨q,4,none⟩) I.out.lt).trans I.out.z4⟩
    refine ⟨fun _=>z.out,?_⟩
    have a5:=Lh ah
    have ad:Hid (Dw (Kc base col) w4 v' s4 N4):=Lh ((ac.out.fz aa (fun k hk e e2=>e.2 e2)).mono (fun k hk e=>e.1))
    have a2:=Lh J
    have ae:=Lh (aj.out.later J)
    clear ah aa a3 a0 a7 a1 J ac aL
    obtain ⟨g,hg⟩:∃ g,G.heap.size=g:=⟨_,rfl⟩
    rw [hg] at a5
    rw [hg]
    clear hg
    refine rq 15 F.out z.out rfl ?_
    refine rq 16 F.out z.out rfl ?_
    refine reg_done (by kernel_rfl) ?_
    go_wp2_with fail
    go_meet
    case rel=>exact ⟨g,v',rfl,rfl,rfl,a5,Lh z.out.1,Lh (I.out.later a2.out),ad,ae,a2⟩
 case rest=>
  obtain ⟨g,v',rfl,rfl,rfl,a5,aU,ar,ad,ae,a2⟩:=hcut
  generalize wc=w4 at *
  have aS:=Lh aU.out.th
  obtain ⟨z0,z1,z2,z3,z4⟩:=ar.out
  clear an
  go_upto_region 5 with (first
   | (refine load_w rfl _ rfl g rfl v' s4 a5.out ?_)
   | (refine store_w rfl _ _ rfl d rfl v' s4 rfl aS.out ?_; intro w5 aM aw; have aT:=Lh aM; have al:=Lh aw; have a6:=Lh (ar.out.blk (aw.block q ar.out.lt aR.out)); clear aM aw z0 z1 z2 z3 z4; obtain ⟨z0,z1,z2,z3,z4⟩:=a6.out))
  have aE:Hid (Wv base col w5 x s):=Lh (ae.out.aside al.out (fun g _ e=>e ▸ HT.out.c8))
  have aO:Hid (Dw (Kc base col) w5 v' s4 N4):=Lh (ad.out.at_ HT.out.c8 al.out)
  have z:Hid (Wc w5.drew x s∧w5.drew.cell? ⟨q,1,none⟩=some (.int .u64 y.id)∧w5.drew.cell? ⟨q,4,none⟩=some (.int .i64 y.st)):=Lh ⟨aE.out.cells.blk rfl,(a6.out.blk rfl).z1,(a6.out.blk rfl).z4⟩
  clear z0 z1 z2 z3 z4
  refine reg_start 11 (fun w'=>Wc w' x s∧w'.cell? ⟨q,1,none⟩=some (.int .u64 y.id)∧w'.cell? ⟨q,4,none⟩=some (.int .i64 y.st)) (by kernel_rfl) (by kernel_rfl) ?_
  intro af
  have F:=Lh af
  clear af
  refine rq 0 F.out z.out rfl ?_
  refine rq 1 F.out z.out rfl ?_
  refine rq 2 F.out z.out rfl ?_
  refine rq 3 F.out z.out rfl ?_ (hv:=fun w' hw=>by (have kz:=hw.1.c8; go_simp; exact rfl))
  refine rq 4 F.out z.out rfl ?_
  refine rq 5 F.out z.out rfl ?_ (hv:=fun w' hw=>by (have kz:=hw.2.1; go_simp; exact rfl))
  refine rq 6 F.out z.out rfl ?_
  refine rq 7 F.out z.out rfl ?_
  refine rq 8 F.out z.out rfl ?_ (hv:=fun w' hw=>by (have kz:=hw.2.2; go_simp; exact rfl))
  refine rq 9 F.out z.out rfl ?_
  refine reg_only 10 rfl (by kernel_rfl) rfl ?_
  unfold Oper.wp
  go_simp
  refine (wnow_any w5.drew z.out.1).mono ?_
  rintro e w7 ⟨rfl,b7⟩
  have J:Below w5.heap.size w5 w7:=(Below.refl _ _).drew.trans b7
  have aF:=Lh (aE.out.later J)
  have aP:=Lh (aO.out.later J)
  have aq:=Lh (aT.out.later J)
  have ay:=Lh J
  refine ⟨⟨aF.out.cells,(J.cell (p:=⟨q,1,none⟩) a6.out.lt).trans a6.out.z1,(J.cell (p:=⟨q,4,none⟩) a6.out.lt).trans a6.out.z4⟩,?_⟩
  clear b7 J z
  refine reg_only 11 rfl (by kernel_rfl) rfl ?_
  unfold Oper.wp
  go_simp
  refine (aC.out w7 aF.out).mono ?_
  rintro e w6 ⟨rfl,aG,h6,aN,aI⟩
  have aV:=Lh h6
  have au:=Lh aN
  have ao:=Lh aI
  clear h6 aN aI aC
  refine reg_pure 12 F.out rfl (by kernel_rfl) (fun _ _ _ _ h=>h) (fun h=>absurd h (by decide)) rfl ?_
  apply Exists.intro
  refine ⟨fun w'=>by (go_simp; exact rfl),?_⟩
  refine reg_pure 13 F.out rfl (by kernel_rfl) (fun _ _ _ _ h=>h) (fun h=>absurd h (by decide)) rfl ?_
  apply Exists.intro
  refine ⟨fun w'=>by (go_simp; exact rfl),?_⟩
  refine reg_pure 14 F.out rfl (by kernel_rfl) (fun _ _ _ _ h=>h) (fun h=>absurd h (by decide)) rfl ?_
  apply Exists.intro
  refine ⟨fun w'=>by (go_simp; exact rfl),?_⟩
  refine reg_pure 15 F.out rfl (by kernel_rfl) (fun _ _ _ _ h=>h) (fun h=>absurd h (by decide)) rfl ?_
  apply Exists.intro
  refine ⟨fun w'=>by (go_simp; exact rfl),?_⟩
  refine reg_pure 16 F.out rfl (by kernel_rfl) (fun _ _ _ _ h=>h) (fun h=>absurd h (by decide)) rfl ?_
  apply Exists.intro
  refine ⟨fun w'=>by (go_simp; exact rfl),?_⟩
  refine reg_done (by kernel_rfl) ?_
  have i1:(bv == bv)=true:=by simp
  have i2:(b0 == b0)=true:=by simp
  go_wp2_with fail
  go_ret
  have be:=ax.out.size
  have bg:=a2.out.size
  have bh:=al.out.size
  have bi:=ay.out.size
  have aW:aG d=8:=(ao.out d aq.out.lt).trans HT.out.c8
  refine ⟨by simp,aG,v',⟨aV.out,aP.out.call au.out ao.out,aq.out.blk (au.out.block d aq.out.lt (fun e=>e.2 HT.out.c8)),aW⟩,?_,fun k hk=>ao.out k (by omega)⟩
  exact (Fz.of_below ax.out).trans ((Fz.of_below a2.out).trans ((fp_d al.out).trans ((Fz.of_below ay.out).trans (fp_w au.out))))
end
end Go.Proofs.YtaeemilldmhbnaaGreatDoor.Wo
