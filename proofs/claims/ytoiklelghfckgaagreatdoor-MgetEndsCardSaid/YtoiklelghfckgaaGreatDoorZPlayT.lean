/- A part of the claim: the texts PlayT. -/
import Derived.Test.YtoiklelghfckgaaGreatDoorZGTwo
import Derived.Deep.CutBlock
set_option maxRecDepth 100000
set_option maxHeartbeats 8000000
set_option linter.unusedVariables false
namespace Go.Proofs.YtoiklelghfckgaaGreatDoor.Wo
open Go Go.ChangeShapes Go.WideShapes Go.ChangeAt Go.RowKit Go.Maps Rw Hi Mt Ba
open Cn (Cf cfE)
abbrev Kc (base:Nat) (col:Nat→Nat) (g:Nat):Prop:=col g=0∧base≤g
section
variable {w w':World} {base:Nat} {col col':Nat→Nat} {x:Wp} {s:Ws} {d:Nat} {v:Dv} {y:Ay} {N:List Int} {k:Nat}
theorem Dw.call (h:Dw (Kc base col) w v s N) (G:Fw col w w') (z:El w col col'):Dw (Kc base col') w' v s N:=
 (h.mono (L:=Kc base col') (fun g u e=>⟨(z g u).trans e.1,e.2⟩)).fz G (fun g u e F=>F.1 ((z g u).symm.trans e.1))
theorem Dw.at_ (h:Dw (Kc base col) w v s N) (hc:col d=8) (z:Fz (fun k=>k=d) w w'):Dw (Kc base col) w' v s N:=
 h.fz z (fun g F e u=>by subst u; have e:col g=0:=e.1; omega)
theorem Wv.new0 (h:Wv base col w x s):∀ g,w.heap.size≤g→Kc base col g:=fun g u=>⟨Classical.byContradiction fun e=>by have:=h.hi g e; omega,Nat.le_trans h.base_le u⟩
theorem Wv.permL (h:Wv base col w x s) {u:List (Int × Le.Ls)} (z:s.L.Perm u):Wv base col w x { s with L:=u }:=by
 obtain ⟨r,q,h,hi⟩:=h
 exact ⟨r,q,⟨h.cells.to rfl rfl rfl rfl rfl rfl rfl rfl rfl rfl rfl,h.bag,h.loc,h.slots,h.book.permL z,h.fact,h.hist,h.kl,h.ks,h.kb,h.kf,h.kh,h.kw,h.lo⟩,hi⟩
theorem playS1 (hk:y.do_ % 8=1):playS s y = { s with live:=grwV s.live s.conf.max }:=by unfold playS; rw [if_neg (by omega),if_pos hk]
theorem playS3 (hk:y.do_ % 8=3):playS s y = { s with O:=(Fc.nx s.O).2,n:=opnN s.O s.n,D:=entD s.D (opnI s.O s.n) y.st s.now }:=by unfold playS; rw [if_neg (by omega),if_neg (by omega),if_neg (by omega),if_pos hk]
theorem playS4 (hk:y.do_ % 8=4) (hc:s.closed=false):playS s y = { s with S:=pubS s.D s.S y.id }:=by unfold playS; rw [if_neg (by omega),if_neg (by omega),if_neg (by omega),if_neg (by omega),if_pos hk,hc]; rfl
theorem playS5 (hk:y.do_ % 8=5):playS s y = { s with L:=bLs s.L y.id y.th s.now,T:=Le.bT s.leak s.L s.T y.id y.th s.now }:=by unfold playS; rw [if_neg (by omega),if_neg (by omega),if_neg (by omega),if_neg (by omega),if_neg (by omega),if_pos hk]
end
structure Tw (base:Nat) (col:Nat→Nat) (w:World) (x:Wp) (v:Dv) (d:Nat) (s:Ws) (N:List Int):Prop where
 wv:Wv base col w x s
 dw:Dw (Kc base col) w v s N
 vw:Vw w d (v.cells s)
 c8:col d=8
section
variable (w:World) {base:Nat} {col:Nat→Nat} {x:Wp} {s:Ws} {d:Nat} {v:Dv} {y:Ay} {N:List Int} {k:Nat}
abbrev Plays (w:World) (base:Nat) (col:Nat→Nat) (x:Wp) (s:Ws) (d:Nat) (y:Ay) (N:List Int):Prop:=
 Calls Tryz.prog 34 #[y.val,ptr x.pw,ptr d] w fun e w'=>e=.returned (.bool true) ∧ ∃ col' v',Tw base col' w' x v' d (playS s y) N∧Fp col d w w'∧El w col col'
theorem Tw.fp {w':World} {z:Ws} (h:Tw base col w x v d s N) (F:Wv base col w' x z) (G:Vw w' d (v.cells z)) (J:Fp col d w w') (I:Dw (Kc base col) w' v s N→Dw (Kc base col) w' v z N):Tw base col w' x v d z N:=
 ⟨F,I (h.dw.fz J (fun g Q e u=>by
  have e:col g=0:=e.1
  rcases u with u | u
  ·exact u.1 e
  ·have:=h.c8; subst u; omega)),G,h.c8⟩
theorem playT1 (h:Tw base col w x v d s N) (u:Pl s N k) (I:y.ok) (hk:y.do_ % 8=1):Plays w base col x s d y N:=by
 refine (play1 w hk I h.wv h.vw h.c8 ⟨u.lv.1,by have:=u.mx; omega⟩ ⟨u.lv.1,by have:=u.mx; omega⟩).mono ?_
 rintro e w' ⟨rfl,F,G,z⟩
 exact ⟨by simp,col,v,by rw [playS1 hk]; exact h.fp w F G z (fun q=>q.own_ s.conf s.now _ s.closed),z,El.refl _ _⟩
theorem playT4 (h:Tw base col w x v d s N) (hp:Pl s N k) (aU:k≤900) (hN:N.length≤900) (hy:y.ok) (hk:y.do_ % 8=4) (aw:s.closed=false):Plays w base col x s d y N:=by
 unfold Plays
 rw [playS4 hk aw]
 have m0:(y.do_ % 8 == 0)=false:=by rw [hk]; rfl
 have aW:((y.do_).tmod 8 == 0)=false:=by rw [Int.tmod_eq_emod_of_nonneg hy.d.1,hk]; rfl
 have m1:(y.do_ % 8 == 1)=false:=by rw [hk]; rfl
 have aX:((y.do_).tmod 8 == 1)=false:=by rw [Int.tmod_eq_emod_of_nonneg hy.d.1,hk]; rfl
 have m2:(y.do_ % 8 == 2)=false:=by rw [hk]; rfl
 have aY:((y.do_).tmod 8 == 2)=false:=by rw [Int.tmod_eq_emod_of_nonneg hy.d.1,hk]; rfl
 have m3:(y.do_ % 8 == 3)=false:=by rw [hk]; rfl
 have aZ:((y.do_).tmod 8 == 3)=false:=by rw [Int.tmod_eq_emod_of_nonneg hy.d.1,hk]; rfl
 have m4:(y.do_ % 8 == 4)=true:=by rw [hk]; rfl
 have b2:((y.do_).tmod 8 == 4)=true:=by rw [Int.tmod_eq_emod_of_nonneg hy.d.1,hk]; rfl
 obtain ⟨J,af⟩:∃ J:Ws,({ s with S:=pubS s.D s.S y.id } : Ws)=J:=⟨_,rfl⟩
 have aM:=hp.dl
 have aQ:=hp.sl
 have aN:=hp.ll
 have aS:=hp.tl
 obtain ⟨b0,a1⟩:∃ b:Bool,(kn s.D y.id == 0)=b:=⟨_,rfl⟩
 have ar:=Lh (show ∀ (K:Nat→Prop) W,Dw K W v s N→(∀ g,W.heap.size≤g→K g)→Calls Tryz.prog 76 #[v.val s,.int .u64 y.id] W fun e w'=>∃ I:Dv,e=.returned (.tuple #[I.val J,.bool b0])∧Dw K w' I J N∧Below W.heap.size W w' from fun K W hd hK=>by
  have q:=dpublish_no W v s N hd hK y.id (by omega) (by omega) aw
  rw [af,a1] at q
  exact q)
 have au:=Lh (show ∀ W,Wv base col W x s→Calls Tryz.prog 77 #[ptr x.pw,.int .u64 y.id] W fun e w'=>e=.returned (.bool b0) ∧ ∃ col',Wv base col' w' x J∧Fw col W w'∧El W col col' from fun W hw=>by
  have q:=wpub_open W hw y.id hy.i (by omega) aw
  rw [af,a1] at q
  exact q)
 rw [af]
 have Q:=Lh h
 have F:=Lh (Yc.new w y)
 have a5:Hid (Below w.heap.size w (w.alloc (.cells #[.int .u8 y.do_,.int .u64 y.id,.int .u64 y.n,.int .i64 y.th,.int .i64 y.st] 103))):=Lh ((Below.refl _ _).alloc (Nat.le_refl _) _)
 clear a1
 clear hk hy h hp af aM aQ aN aS aw
 go_enter Tryz.func34,Tryz.ntmps34
 go_upto_region 1 with (fail)
 generalize (w.alloc (.cells #[.int .u8 y.do_,.int .u64 y.id,.int .u64 y.n,.int .i64 y.th,.int .i64 y.st] 103))=z at *
 have av:=Lh (Q.out.wv.later a5.out)
 have a8:=Lh (Q.out.vw.later a5.out)
 have aG:=Lh (Q.out.dw.later a5.out)
 obtain ⟨q,hq⟩:∃ q,w.heap.size=q:=⟨_,rfl⟩
 have aJ:q≠d:=fun e=>by have:=Q.out.vw.lt; omega
 have aV:w.heap.size≤q:=by omega
 rw [hq] at F
 rw [hq]
 obtain ⟨z0,z1,z2,z3,z4⟩:=F.out
 have aH:=Lh aJ
 have aT:Hid (col q=0):=Lh (Classical.byContradiction fun e=>by have:=Q.out.wv.hi q e; omega)
 clear hq aJ
 go_wp2_with fail
 have a1:Below z.heap.size z z.drew:=(Below.refl _ _).drew
 have u:Hid (Vw z.drew d (v.cells s)∧z.drew.cell? ⟨q,1,none⟩=some (.int .u64 y.id)):=Lh ⟨a8.out.later a1,(a1.cell (p:=⟨q,1,none⟩) F.out.lt).trans F.out.z1⟩
 clear z0 z1 z2 z3 z4
 refine reg_start 12 (fun w'=>Vw w' d (v.cells s)∧w'.cell? ⟨q,1,none⟩=some (.int .u64 y.id)) (by kernel_rfl) (by kernel_rfl) ?_
 intro aI
 have Y:=Lh aI
 clear aI
 refine rq 0 Y.out u.out rfl ?_
 refine rq 1 Y.out u.out rfl ?_
 refine rl 2 Y.out u.out rfl ?_
 apply Exists.intro
 refine ⟨fun w' hw=>exec_load_w _ _ _ rfl rfl hw.1,?_⟩
 refine rq 3 Y.out u.out rfl ?_
 refine rq 4 Y.out u.out rfl ?_ (hv:=fun w' hw=>by (have kz:=hw.2; go_simp; exact rfl))
 refine reg_two 5 9 rfl rfl (by kernel_rfl) rfl rfl ?_ ?_
 ·as_aux_lemma=>
   unfold Oper.wp
   go_simp
   refine (ar.out (Kc base col) _ (aG.out.later a1) (fun g hg=>av.out.new0 g hg)).mono ?_
   rintro e G ⟨I,rfl,ak,b3⟩
   have a0:Below z.heap.size z G:=a1.trans (b3.mono (Nat.le_refl _))
   clear u
   have u:Hid (Vw G d (v.cells s)∧G.cell? ⟨q,1,none⟩=some (.int .u64 y.id)):=Lh ⟨a8.out.later a0,(a0.cell (p:=⟨q,1,none⟩) F.out.lt).trans F.out.z1⟩
   refine ⟨u.out,?_⟩
   have ah:=Lh ak
   clear ak b3
   refine rq 6 Y.out u.out rfl ?_
   refine rq 7 Y.out u.out rfl ?_
   refine rq 8 Y.out u.out rfl ?_
   refine reg_only 9 rfl (by kernel_rfl) rfl ?_
   unfold Oper.wp
   go_simp
   have ad:Below G.heap.size G (G.alloc (.cells #[.int .i64 0,.int .i64 0,.int .u64 0,.int .u64 0,.int .u64 0,.int .u64 0,.float .f64 0,.int .u64 0,.slice none 0 0,.slice none 0 0,.slice none 0 0,.slice none 0 0,.int .u64 0,.slice none 0 0,.slice none 0 0,.slice none 0 0,.slice none 0 0,.slice none 0 0,.slice none 0 0,.int .u64 0,.slice none 0 0,.int .i64 0,.bool false] 46)):=(Below.refl _ _).alloc (Nat.le_refl _) _
   have a2:Below z.heap.size z (G.alloc (.cells #[.int .i64 0,.int .i64 0,.int .u64 0,.int .u64 0,.int .u64 0,.int .u64 0,.float .f64 0,.int .u64 0,.slice none 0 0,.slice none 0 0,.slice none 0 0,.slice none 0 0,.int .u64 0,.slice none 0 0,.slice none 0 0,.slice none 0 0,.slice none 0 0,.slice none 0 0,.slice none 0 0,.int .u64 0,.slice none 0 0,.int .i64 0,.bool false] 46)):=a0.trans (ad.mono a0.size)
   clear u
   have u:Hid (Vw (G.alloc (.cells #[.int .i64 0,.int .i64 0,.int .u64 0,.int .u64 0,.int .u64 0,.int .u64 0,.float .f64 0,.int .u64 0,.slice none 0 0,.slice none 0 0,.slice none 0 0,.slice none 0 0,.int .u64 0,.slice none 0 0,.slice none 0 0,.slice none 0 0,.slice none 0 0,.slice none 0 0,.slice none 0 0,.int .u64 0,.slice none 0 0,.int .i64 0,.bool false] 46)) d (v.cells s)∧(G.alloc (.cells #[.int .i64 0,.int .i64 0,.int .u64 0,.int .u64 0,.int .u64 0,.int .u64 0,.float .f64 0,.int .u64 0,.slice none 0 0,.slice none 0 0,.slice none 0 0,.slice none 0 0,.int .u64 0,.slice none 0 0,.slice none 0 0,.slice none 0 0,.slice none 0 0,.slice none 0 0,.slice none 0 0,.int .u64 0,.slice none 0 0,.int .i64 0,.bool false] 46)).cell? ⟨q,1,none⟩=some (.int .u64 y.id)):=Lh ⟨a8.out.later a2,(a2.cell (p:=⟨q,1,none⟩) F.out.lt).trans F.out.z1⟩
   refine ⟨u.out,?_⟩
   refine reg_only 10 rfl (by kernel_rfl) rfl ?_
   refine wp_store_w _ _ rfl G.heap.size rfl I J rfl (th_zero G) ?_
   intro w4 an ag
   have aE:Below G.heap.size G w4:=ad.trans (ag.below ad.size (fun k hk=>by omega))
   have a3:Below z.heap.size z w4:=a0.trans (aE.mono a0.size)
   clear u
   have u:Hid (Vw w4 d (v.cells s)∧w4.cell? ⟨q,1,none⟩=some (.int .u64 y.id)):=Lh ⟨a8.out.later a3,(a3.cell (p:=⟨q,1,none⟩) F.out.lt).trans F.out.z1⟩
   refine ⟨fun _=>u.out,?_⟩
   have ai:=Lh an
   have ax:=Lh (ah.out.later aE)
   have a6:=Lh a3
   have aA:=Lh (av.out.later a3)
   clear an ag a1 a0 ad a2 aE a3 ah
   obtain ⟨g,hg⟩:∃ g,G.heap.size=g:=⟨_,rfl⟩
   rw [hg] at ai
   rw [hg]
   clear hg
   refine rq 11 Y.out u.out rfl ?_
   refine reg_done (by kernel_rfl) ?_
   have aL:=Lh u.out.1
   have az:=Lh u.out.1.th
   have aa:=Lh (F.out.later a6.out)
   obtain ⟨z0,z1,z2,z3,z4⟩:=aa.out
   clear u ar
   go_wp2_with (first
    | (refine load_w rfl _ rfl g rfl I J ai.out ?_)
    | (refine store_w rfl _ _ rfl d rfl I J rfl az.out ?_; intro w5 ao ae; have a9:=Lh ao; have a4:=Lh ae; have aD:=Lh (aa.out.blk (ae.block q aa.out.lt aH.out)); clear ao ae z0 z1 z2 z3 z4; obtain ⟨z0,z1,z2,z3,z4⟩:=aD.out))
   have aB:Hid (Wv base col w5 x s):=Lh (aA.out.aside a4.out (fun g _ e=>e ▸ Q.out.c8))
   have ay:Hid (Dw (Kc base col) w5 I J N):=Lh (ax.out.at_ Q.out.c8 a4.out)
   refine (au.out w5 aB.out).mono ?_
   rintro e w6 ⟨rfl,aj,h6,aq,al⟩
   have aC:=Lh h6
   have ac:=Lh aq
   have a7:=Lh al
   clear h6 aq al au
   go_wp2_with fail
   go_ret
   have aO:=a5.out.size
   have af:=a6.out.size
   have aP:=a4.out.size
   have aF:aj d=8:=(a7.out d a9.out.lt).trans Q.out.c8
   refine ⟨by simp,aj,I,⟨aC.out,ay.out.call ac.out a7.out,a9.out.blk (ac.out.block d a9.out.lt (fun e=>e.2 Q.out.c8)),aF⟩,?_,fun k hk=>a7.out k (by omega)⟩
   exact (Fz.of_below a5.out).trans ((Fz.of_below a6.out).trans ((fp_d a4.out).trans (fp_w ac.out)))
 ·as_aux_lemma=>
   unfold Oper.wp
   go_simp
   have ad:Below z.drew.heap.size z.drew (z.drew.alloc (.cells #[.int .i64 0,.int .i64 0,.int .u64 0,.int .u64 0,.int .u64 0,.int .u64 0,.float .f64 0,.int .u64 0,.slice none 0 0,.slice none 0 0,.slice none 0 0,.slice none 0 0,.int .u64 0,.slice none 0 0,.slice none 0 0,.slice none 0 0,.slice none 0 0,.slice none 0 0,.slice none 0 0,.int .u64 0,.slice none 0 0,.int .i64 0,.bool false] 46)):=(Below.refl _ _).alloc (Nat.le_refl _) _
   have a2:Below z.heap.size z (z.drew.alloc (.cells #[.int .i64 0,.int .i64 0,.int .u64 0,.int .u64 0,.int .u64 0,.int .u64 0,.float .f64 0,.int .u64 0,.slice none 0 0,.slice none 0 0,.slice none 0 0,.slice none 0 0,.int .u64 0,.slice none 0 0,.slice none 0 0,.slice none 0 0,.slice none 0 0,.slice none 0 0,.slice none 0 0,.int .u64 0,.slice none 0 0,.int .i64 0,.bool false] 46)):=a1.trans (ad.mono (Nat.le_refl _))
   clear u
   have u:Hid (Vw (z.drew.alloc (.cells #[.int .i64 0,.int .i64 0,.int .u64 0,.int .u64 0,.int .u64 0,.int .u64 0,.float .f64 0,.int .u64 0,.slice none 0 0,.slice none 0 0,.slice none 0 0,.slice none 0 0,.int .u64 0,.slice none 0 0,.slice none 0 0,.slice none 0 0,.slice none 0 0,.slice none 0 0,.slice none 0 0,.int .u64 0,.slice none 0 0,.int .i64 0,.bool false] 46)) d (v.cells s)∧(z.drew.alloc (.cells #[.int .i64 0,.int .i64 0,.int .u64 0,.int .u64 0,.int .u64 0,.int .u64 0,.float .f64 0,.int .u64 0,.slice none 0 0,.slice none 0 0,.slice none 0 0,.slice none 0 0,.int .u64 0,.slice none 0 0,.slice none 0 0,.slice none 0 0,.slice none 0 0,.slice none 0 0,.slice none 0 0,.int .u64 0,.slice none 0 0,.int .i64 0,.bool false] 46)).cell? ⟨q,1,none⟩=some (.int .u64 y.id)):=Lh ⟨a8.out.later a2,(a2.cell (p:=⟨q,1,none⟩) F.out.lt).trans F.out.z1⟩
   refine ⟨u.out,?_⟩
   have aR:(z.drew.alloc (.cells #[.int .i64 0,.int .i64 0,.int .u64 0,.int .u64 0,.int .u64 0,.int .u64 0,.float .f64 0,.int .u64 0,.slice none 0 0,.slice none 0 0,.slice none 0 0,.slice none 0 0,.int .u64 0,.slice none 0 0,.slice none 0 0,.slice none 0 0,.slice none 0 0,.slice none 0 0,.slice none 0 0,.int .u64 0,.slice none 0 0,.int .i64 0,.bool false] 46)).heap.size=z.heap.size+1:=by simp
   refine reg_only 5 rfl (by kernel_rfl) rfl ?_
   unfold Oper.wp
   go_simp
   refine (ar.out (fun k=>Kc base col k∧k≠z.heap.size) _ ((aG.out.mono (fun k hk e=>⟨e,by omega⟩)).later a2) (fun k hk=>⟨av.out.new0 k (by have:=a2.size; omega),by rw [aR] at hk; omega⟩)).mono ?_
   rintro e G ⟨I,rfl,ak,b3⟩
   have a0:Below z.heap.size z G:=a2.trans (b3.mono a2.size)
   have aK:=th_later (th_zero z.drew) b3
   clear u
   have u:Hid (Vw G d (v.cells s)∧G.cell? ⟨q,1,none⟩=some (.int .u64 y.id)):=Lh ⟨a8.out.later a0,(a0.cell (p:=⟨q,1,none⟩) F.out.lt).trans F.out.z1⟩
   refine ⟨u.out,?_⟩
   have ah:=Lh ak
   clear ak b3
   refine rq 6 Y.out u.out rfl ?_
   refine rq 7 Y.out u.out rfl ?_
   refine rq 8 Y.out u.out rfl ?_
   refine reg_only 10 rfl (by kernel_rfl) rfl ?_
   refine wp_store_w _ _ rfl z.heap.size rfl I J rfl aK ?_
   intro w4 an ag
   have a3:Below z.heap.size z w4:=a0.trans (ag.below a0.size (fun k hk=>by omega))
   clear u
   have u:Hid (Vw w4 d (v.cells s)∧w4.cell? ⟨q,1,none⟩=some (.int .u64 y.id)):=Lh ⟨a8.out.later a3,(a3.cell (p:=⟨q,1,none⟩) F.out.lt).trans F.out.z1⟩
   refine ⟨fun _=>u.out,?_⟩
   have ai:=Lh an
   have ax:Hid (Dw (Kc base col) w4 I J N):=Lh ((ah.out.fz ag (fun k hk e e2=>e.2 e2)).mono (fun k hk e=>e.1))
   have a6:=Lh a3
   have aA:=Lh (av.out.later a3)
   clear an ag a1 a0 ad a2 a3 ah aK
   obtain ⟨g,hg⟩:∃ g,z.heap.size=g:=⟨_,rfl⟩
   rw [hg] at ai
   rw [hg]
   clear hg
   refine rq 11 Y.out u.out rfl ?_
   refine reg_done (by kernel_rfl) ?_
   have aL:=Lh u.out.1
   have az:=Lh u.out.1.th
   have aa:=Lh (F.out.later a6.out)
   obtain ⟨z0,z1,z2,z3,z4⟩:=aa.out
   clear u ar
   go_wp2_with (first
    | (refine load_w rfl _ rfl g rfl I J ai.out ?_)
    | (refine store_w rfl _ _ rfl d rfl I J rfl az.out ?_; intro w5 ao ae; have a9:=Lh ao; have a4:=Lh ae; have aD:=Lh (aa.out.blk (ae.block q aa.out.lt aH.out)); clear ao ae z0 z1 z2 z3 z4; obtain ⟨z0,z1,z2,z3,z4⟩:=aD.out))
   have aB:Hid (Wv base col w5 x s):=Lh (aA.out.aside a4.out (fun g _ e=>e ▸ Q.out.c8))
   have ay:Hid (Dw (Kc base col) w5 I J N):=Lh (ax.out.at_ Q.out.c8 a4.out)
   refine (au.out w5 aB.out).mono ?_
   rintro e w6 ⟨rfl,aj,h6,aq,al⟩
   have aC:=Lh h6
   have ac:=Lh aq
   have a7:=Lh al
   clear h6 aq al au
   go_wp2_with fail
   go_ret
   have aO:=a5.out.size
   have af:=a6.out.size
   have aP:=a4.out.size
   have aF:aj d=8:=(a7.out d a9.out.lt).trans Q.out.c8
   refine ⟨by simp,aj,I,⟨aC.out,ay.out.call ac.out a7.out,a9.out.blk (ac.out.block d a9.out.lt (fun e=>e.2 Q.out.c8)),aF⟩,?_,fun k hk=>a7.out k (by omega)⟩
   exact (Fz.of_below a5.out).trans ((Fz.of_below a6.out).trans ((fp_d a4.out).trans (fp_w ac.out)))
theorem playT5 (h:Tw base col w x v d s N) (hp:Pl s N k) (aS:k≤900) (hN:N.length≤900) (hy:y.ok) (hk:y.do_ % 8=5):Plays w base col x s d y N:=by
 unfold Plays
 rw [playS5 hk]
 have m0:(y.do_ % 8 == 0)=false:=by rw [hk]; rfl
 have aU:((y.do_).tmod 8 == 0)=false:=by rw [Int.tmod_eq_emod_of_nonneg hy.d.1,hk]; rfl
 have m1:(y.do_ % 8 == 1)=false:=by rw [hk]; rfl
 have aV:((y.do_).tmod 8 == 1)=false:=by rw [Int.tmod_eq_emod_of_nonneg hy.d.1,hk]; rfl
 have m2:(y.do_ % 8 == 2)=false:=by rw [hk]; rfl
 have aW:((y.do_).tmod 8 == 2)=false:=by rw [Int.tmod_eq_emod_of_nonneg hy.d.1,hk]; rfl
 have m3:(y.do_ % 8 == 3)=false:=by rw [hk]; rfl
 have aX:((y.do_).tmod 8 == 3)=false:=by rw [Int.tmod_eq_emod_of_nonneg hy.d.1,hk]; rfl
 have m4:(y.do_ % 8 == 4)=false:=by rw [hk]; rfl
 have aY:((y.do_).tmod 8 == 4)=false:=by rw [Int.tmod_eq_emod_of_nonneg hy.d.1,hk]; rfl
 have m5:(y.do_ % 8 == 5)=true:=by rw [hk]; rfl
 have aZ:((y.do_).tmod 8 == 5)=true:=by rw [Int.tmod_eq_emod_of_nonneg hy.d.1,hk]; rfl
 obtain ⟨Y,ae⟩:∃ Y:Ws,({ s with L:=bLs s.L y.id y.th s.now,T:=Le.bT s.leak s.L s.T y.id y.th s.now } : Ws)=Y:=⟨_,rfl⟩
 have aK:=hp.dl
 have aO:=hp.sl
 have aL:=hp.ll
 have aQ:=hp.tl
 obtain ⟨b0,a2⟩:∃ b:Int,Le.bE s.L y.id y.th=b:=⟨_,rfl⟩
 have aq:=Lh (show ∀ (K:Nat→Prop) W,Dw K W v s N→(∀ g,W.heap.size≤g→K g)→Calls Tryz.prog 78 #[v.val s,.int .u64 y.id,.int .i64 y.th] W fun e w'=>∃ I:Dv,e=.returned (.tuple #[I.val Y,.int .i64 b0])∧Dw K w' I Y N∧Below W.heap.size W w' from fun K W hd hK=>by
  refine (dlease_any W v s N hd hK y.id y.th hp.sd h.wv.book.wheel.tms hy.i hp.nw hp.lk (by omega) (by omega) (by omega)).mono ?_
  rintro e w' ⟨I,D',rfl,h1,h2,h3,h4⟩
  obtain rfl:=bLs_eq hp.sd h2 h3
  rw [ae] at h1 ⊢
  rw [a2]
  exact ⟨I,rfl,h1,h4⟩)
 have ar:=Lh (show ∀ W,Wv base col W x s→Calls Tryz.prog 79 #[ptr x.pw,.int .u64 y.id,.int .i64 y.th] W fun e w'=>e=.returned (.int .i64 b0) ∧ ∃ col',Wv base col' w' x Y∧Fw col W w'∧El W col col' from fun W hw=>by
  refine (wlease_any W N hw hp.mk_ y.id y.th hy.i hp.nw hp.lk (by omega) (by omega)).mono ?_
  rintro e w' ⟨rfl,h1,h2⟩
  have h3:=h1.permL (bLs_perm hp.sd y.id y.th s.now)
  rw [← ae,← a2]
  exact ⟨rfl,col,h3,h2,El.refl _ _⟩)
 rw [ae]
 have HT:=Lh h
 have z:=Lh (Yc.new w y)
 have a4:Hid (Below w.heap.size w (w.alloc (.cells #[.int .u8 y.do_,.int .u64 y.id,.int .u64 y.n,.int .i64 y.th,.int .i64 y.st] 103))):=Lh ((Below.refl _ _).alloc (Nat.le_refl _) _)
 clear a2
 clear hk hy h hp ae aK aO aL aQ
 go_enter Tryz.func34,Tryz.ntmps34
 go_upto_region 1 with (fail)
 generalize (w.alloc (.cells #[.int .u8 y.do_,.int .u64 y.id,.int .u64 y.n,.int .i64 y.th,.int .i64 y.st] 103))=F at *
 have au:=Lh (HT.out.wv.later a4.out)
 have a7:=Lh (HT.out.vw.later a4.out)
 have aE:=Lh (HT.out.dw.later a4.out)
 obtain ⟨q,hq⟩:∃ q,w.heap.size=q:=⟨_,rfl⟩
 have aH:q≠d:=fun e=>by have:=HT.out.vw.lt; omega
 have aT:w.heap.size≤q:=by omega
 rw [hq] at z
 rw [hq]
 obtain ⟨z0,z1,z2,z3,z4⟩:=z.out
 have aF:=Lh aH
 have aR:Hid (col q=0):=Lh (Classical.byContradiction fun e=>by have:=HT.out.wv.hi q e; omega)
 clear hq aH
 go_wp2_with fail
 have a2:Below F.heap.size F F.drew:=(Below.refl _ _).drew
 have u:Hid (Vw F.drew d (v.cells s)∧F.drew.cell? ⟨q,1,none⟩=some (.int .u64 y.id)∧F.drew.cell? ⟨q,3,none⟩=some (.int .i64 y.th)):=Lh ⟨a7.out.later a2,(a2.cell (p:=⟨q,1,none⟩) z.out.lt).trans z.out.z1,(a2.cell (p:=⟨q,3,none⟩) z.out.lt).trans z.out.z3⟩
 clear z0 z1 z2 z3 z4
 refine reg_start 14 (fun w'=>Vw w' d (v.cells s)∧w'.cell? ⟨q,1,none⟩=some (.int .u64 y.id)∧w'.cell? ⟨q,3,none⟩=some (.int .i64 y.th)) (by kernel_rfl) (by kernel_rfl) ?_
 intro aG
 have J:=Lh aG
 clear aG
 refine rq 0 J.out u.out rfl ?_
 refine rq 1 J.out u.out rfl ?_
 refine rl 2 J.out u.out rfl ?_
 apply Exists.intro
 refine ⟨fun w' hw=>exec_load_w _ _ _ rfl rfl hw.1,?_⟩
 refine rq 3 J.out u.out rfl ?_
 refine rq 4 J.out u.out rfl ?_ (hv:=fun w' hw=>by (have kz:=hw.2.1; go_simp; exact rfl))
 refine rq 5 J.out u.out rfl ?_
 refine rq 6 J.out u.out rfl ?_ (hv:=fun w' hw=>by (have kz:=hw.2.2; go_simp; exact rfl))
 refine reg_two 7 11 rfl rfl (by kernel_rfl) rfl rfl ?_ ?_
 ·as_aux_lemma=>
   unfold Oper.wp
   go_simp
   refine (aq.out (Kc base col) _ (aE.out.later a2) (fun g hg=>au.out.new0 g hg)).mono ?_
   rintro e G ⟨I,rfl,aj,b3⟩
   have Q:Below F.heap.size F G:=a2.trans (b3.mono (Nat.le_refl _))
   clear u
   have u:Hid (Vw G d (v.cells s)∧G.cell? ⟨q,1,none⟩=some (.int .u64 y.id)∧G.cell? ⟨q,3,none⟩=some (.int .i64 y.th)):=Lh ⟨a7.out.later Q,(Q.cell (p:=⟨q,1,none⟩) z.out.lt).trans z.out.z1,(Q.cell (p:=⟨q,3,none⟩) z.out.lt).trans z.out.z3⟩
   refine ⟨u.out,?_⟩
   have ag:=Lh aj
   clear aj b3
   refine rq 8 J.out u.out rfl ?_
   refine rq 9 J.out u.out rfl ?_
   refine rq 10 J.out u.out rfl ?_
   refine reg_only 11 rfl (by kernel_rfl) rfl ?_
   unfold Oper.wp
   go_simp
   have ac:Below G.heap.size G (G.alloc (.cells #[.int .i64 0,.int .i64 0,.int .u64 0,.int .u64 0,.int .u64 0,.int .u64 0,.float .f64 0,.int .u64 0,.slice none 0 0,.slice none 0 0,.slice none 0 0,.slice none 0 0,.int .u64 0,.slice none 0 0,.slice none 0 0,.slice none 0 0,.slice none 0 0,.slice none 0 0,.slice none 0 0,.int .u64 0,.slice none 0 0,.int .i64 0,.bool false] 46)):=(Below.refl _ _).alloc (Nat.le_refl _) _
   have a0:Below F.heap.size F (G.alloc (.cells #[.int .i64 0,.int .i64 0,.int .u64 0,.int .u64 0,.int .u64 0,.int .u64 0,.float .f64 0,.int .u64 0,.slice none 0 0,.slice none 0 0,.slice none 0 0,.slice none 0 0,.int .u64 0,.slice none 0 0,.slice none 0 0,.slice none 0 0,.slice none 0 0,.slice none 0 0,.slice none 0 0,.int .u64 0,.slice none 0 0,.int .i64 0,.bool false] 46)):=Q.trans (ac.mono Q.size)
   clear u
   have u:Hid (Vw (G.alloc (.cells #[.int .i64 0,.int .i64 0,.int .u64 0,.int .u64 0,.int .u64 0,.int .u64 0,.float .f64 0,.int .u64 0,.slice none 0 0,.slice none 0 0,.slice none 0 0,.slice none 0 0,.int .u64 0,.slice none 0 0,.slice none 0 0,.slice none 0 0,.slice none 0 0,.slice none 0 0,.slice none 0 0,.int .u64 0,.slice none 0 0,.int .i64 0,.bool false] 46)) d (v.cells s)∧(G.alloc (.cells #[.int .i64 0,.int .i64 0,.int .u64 0,.int .u64 0,.int .u64 0,.int .u64 0,.float .f64 0,.int .u64 0,.slice none 0 0,.slice none 0 0,.slice none 0 0,.slice none 0 0,.int .u64 0,.slice none 0 0,.slice none 0 0,.slice none 0 0,.slice none 0 0,.slice none 0 0,.slice none 0 0,.int .u64 0,.slice none 0 0,.int .i64 0,.bool false] 46)).cell? ⟨q,1,none⟩=some (.int .u64 y.id)∧(G.alloc (.cells #[.int .i64 0,.int .i64 0,.int .u64 0,.int .u64 0,.int .u64 0,.int .u64 0,.float .f64 0,.int .u64 0,.slice none 0 0,.slice none 0 0,.slice none 0 0,.slice none 0 0,.int .u64 0,.slice none 0 0,.slice none 0 0,.slice none 0 0,.slice none 0 0,.slice none 0 0,.slice none 0 0,.int .u64 0,.slice none 0 0,.int .i64 0,.bool false] 46)).cell? ⟨q,3,none⟩=some (.int .i64 y.th)):=Lh ⟨a7.out.later a0,(a0.cell (p:=⟨q,1,none⟩) z.out.lt).trans z.out.z1,(a0.cell (p:=⟨q,3,none⟩) z.out.lt).trans z.out.z3⟩
   refine ⟨u.out,?_⟩
   refine reg_only 12 rfl (by kernel_rfl) rfl ?_
   refine wp_store_w _ _ rfl G.heap.size rfl I Y rfl (th_zero G) ?_
   intro w4 al af
   have aC:Below G.heap.size G w4:=ac.trans (af.below ac.size (fun k hk=>by omega))
   have a1:Below F.heap.size F w4:=Q.trans (aC.mono Q.size)
   clear u
   have u:Hid (Vw w4 d (v.cells s)∧w4.cell? ⟨q,1,none⟩=some (.int .u64 y.id)∧w4.cell? ⟨q,3,none⟩=some (.int .i64 y.th)):=Lh ⟨a7.out.later a1,(a1.cell (p:=⟨q,1,none⟩) z.out.lt).trans z.out.z1,(a1.cell (p:=⟨q,3,none⟩) z.out.lt).trans z.out.z3⟩
   refine ⟨fun _=>u.out,?_⟩
   have ah:=Lh al
   have av:=Lh (ag.out.later aC)
   have a5:=Lh a1
   have ay:=Lh (au.out.later a1)
   clear al af a2 Q ac a0 aC a1 ag
   obtain ⟨g,hg⟩:∃ g,G.heap.size=g:=⟨_,rfl⟩
   rw [hg] at ah
   rw [hg]
   clear hg
   refine rq 13 J.out u.out rfl ?_
   refine reg_done (by kernel_rfl) ?_
   have aJ:=Lh u.out.1
   have ax:=Lh u.out.1.th
   have a9:=Lh (z.out.later a5.out)
   obtain ⟨z0,z1,z2,z3,z4⟩:=a9.out
   clear u aq
   go_wp2_with (first
    | (refine load_w rfl _ rfl g rfl I Y ah.out ?_)
    | (refine store_w rfl _ _ rfl d rfl I Y rfl ax.out ?_; intro w5 an ad; have a8:=Lh an; have a3:=Lh ad; have aB:=Lh (a9.out.blk (ad.block q a9.out.lt aF.out)); clear an ad z0 z1 z2 z3 z4; obtain ⟨z0,z1,z2,z3,z4⟩:=aB.out))
   have az:Hid (Wv base col w5 x s):=Lh (ay.out.aside a3.out (fun g _ e=>e ▸ HT.out.c8))
   have aw:Hid (Dw (Kc base col) w5 I Y N):=Lh (av.out.at_ HT.out.c8 a3.out)
   refine (ar.out w5 az.out).mono ?_
   rintro e w6 ⟨rfl,ai,h6,ao,ak⟩
   have aA:=Lh h6
   have aa:=Lh ao
   have a6:=Lh ak
   clear h6 ao ak ar
   go_wp2_with fail
   go_ret
   have aM:=a4.out.size
   have ae:=a5.out.size
   have aN:=a3.out.size
   have aD:ai d=8:=(a6.out d a8.out.lt).trans HT.out.c8
   refine ⟨by simp,ai,I,⟨aA.out,aw.out.call aa.out a6.out,a8.out.blk (aa.out.block d a8.out.lt (fun e=>e.2 HT.out.c8)),aD⟩,?_,fun k hk=>a6.out k (by omega)⟩
   exact (Fz.of_below a4.out).trans ((Fz.of_below a5.out).trans ((fp_d a3.out).trans (fp_w aa.out)))
 ·as_aux_lemma=>
   unfold Oper.wp
   go_simp
   have ac:Below F.drew.heap.size F.drew (F.drew.alloc (.cells #[.int .i64 0,.int .i64 0,.int .u64 0,.int .u64 0,.int .u64 0,.int .u64 0,.float .f64 0,.int .u64 0,.slice none 0 0,.slice none 0 0,.slice none 0 0,.slice none 0 0,.int .u64 0,.slice none 0 0,.slice none 0 0,.slice none 0 0,.slice none 0 0,.slice none 0 0,.slice none 0 0,.int .u64 0,.slice none 0 0,.int .i64 0,.bool false] 46)):=(Below.refl _ _).alloc (Nat.le_refl _) _
   have a0:Below F.heap.size F (F.drew.alloc (.cells #[.int .i64 0,.int .i64 0,.int .u64 0,.int .u64 0,.int .u64 0,.int .u64 0,.float .f64 0,.int .u64 0,.slice none 0 0,.slice none 0 0,.slice none 0 0,.slice none 0 0,.int .u64 0,.slice none 0 0,.slice none 0 0,.slice none 0 0,.slice none 0 0,.slice none 0 0,.slice none 0 0,.int .u64 0,.slice none 0 0,.int .i64 0,.bool false] 46)):=a2.trans (ac.mono (Nat.le_refl _))
   clear u
   have u:Hid (Vw (F.drew.alloc (.cells #[.int .i64 0,.int .i64 0,.int .u64 0,.int .u64 0,.int .u64 0,.int .u64 0,.float .f64 0,.int .u64 0,.slice none 0 0,.slice none 0 0,.slice none 0 0,.slice none 0 0,.int .u64 0,.slice none 0 0,.slice none 0 0,.slice none 0 0,.slice none 0 0,.slice none 0 0,.slice none 0 0,.int .u64 0,.slice none 0 0,.int .i64 0,.bool false] 46)) d (v.cells s)∧(F.drew.alloc (.cells #[.int .i64 0,.int .i64 0,.int .u64 0,.int .u64 0,.int .u64 0,.int .u64 0,.float .f64 0,.int .u64 0,.slice none 0 0,.slice none 0 0,.slice none 0 0,.slice none 0 0,.int .u64 0,.slice none 0 0,.slice none 0 0,.slice none 0 0,.slice none 0 0,.slice none 0 0,.slice none 0 0,.int .u64 0,.slice none 0 0,.int .i64 0,.bool false] 46)).cell? ⟨q,1,none⟩=some (.int .u64 y.id)∧(F.drew.alloc (.cells #[.int .i64 0,.int .i64 0,.int .u64 0,.int .u64 0,.int .u64 0,.int .u64 0,.float .f64 0,.int .u64 0,.slice none 0 0,.slice none 0 0,.slice none 0 0,.slice none 0 0,.int .u64 0,.slice none 0 0,.slice none 0 0,.slice none 0 0,.slice none 0 0,.slice none 0 0,.slice none 0 0,.int .u64 0,.slice none 0 0,.int .i64 0,.bool false] 46)).cell? ⟨q,3,none⟩=some (.int .i64 y.th)):=Lh ⟨a7.out.later a0,(a0.cell (p:=⟨q,1,none⟩) z.out.lt).trans z.out.z1,(a0.cell (p:=⟨q,3,none⟩) z.out.lt).trans z.out.z3⟩
   refine ⟨u.out,?_⟩
   have aP:(F.drew.alloc (.cells #[.int .i64 0,.int .i64 0,.int .u64 0,.int .u64 0,.int .u64 0,.int .u64 0,.float .f64 0,.int .u64 0,.slice none 0 0,.slice none 0 0,.slice none 0 0,.slice none 0 0,.int .u64 0,.slice none 0 0,.slice none 0 0,.slice none 0 0,.slice none 0 0,.slice none 0 0,.slice none 0 0,.int .u64 0,.slice none 0 0,.int .i64 0,.bool false] 46)).heap.size=F.heap.size+1:=by simp
   refine reg_only 7 rfl (by kernel_rfl) rfl ?_
   unfold Oper.wp
   go_simp
   refine (aq.out (fun k=>Kc base col k∧k≠F.heap.size) _ ((aE.out.mono (fun k hk e=>⟨e,by omega⟩)).later a0) (fun k hk=>⟨au.out.new0 k (by have:=a0.size; omega),by rw [aP] at hk; omega⟩)).mono ?_
   rintro e G ⟨I,rfl,aj,b3⟩
   have Q:Below F.heap.size F G:=a0.trans (b3.mono a0.size)
   have aI:=th_later (th_zero F.drew) b3
   clear u
   have u:Hid (Vw G d (v.cells s)∧G.cell? ⟨q,1,none⟩=some (.int .u64 y.id)∧G.cell? ⟨q,3,none⟩=some (.int .i64 y.th)):=Lh ⟨a7.out.later Q,(Q.cell (p:=⟨q,1,none⟩) z.out.lt).trans z.out.z1,(Q.cell (p:=⟨q,3,none⟩) z.out.lt).trans z.out.z3⟩
   refine ⟨u.out,?_⟩
   have ag:=Lh aj
   clear aj b3
   refine rq 8 J.out u.out rfl ?_
   refine rq 9 J.out u.out rfl ?_
   refine rq 10 J.out u.out rfl ?_
   refine reg_only 12 rfl (by kernel_rfl) rfl ?_
   refine wp_store_w _ _ rfl F.heap.size rfl I Y rfl aI ?_
   intro w4 al af
   have a1:Below F.heap.size F w4:=Q.trans (af.below Q.size (fun k hk=>by omega))
   clear u
   have u:Hid (Vw w4 d (v.cells s)∧w4.cell? ⟨q,1,none⟩=some (.int .u64 y.id)∧w4.cell? ⟨q,3,none⟩=some (.int .i64 y.th)):=Lh ⟨a7.out.later a1,(a1.cell (p:=⟨q,1,none⟩) z.out.lt).trans z.out.z1,(a1.cell (p:=⟨q,3,none⟩) z.out.lt).trans z.out.z3⟩
   refine ⟨fun _=>u.out,?_⟩
   have ah:=Lh al
   have av:Hid (Dw (Kc base col) w4 I Y N):=Lh ((ag.out.fz af (fun k hk e e2=>e.2 e2)).mono (fun k hk e=>e.1))
   have a5:=Lh a1
   have ay:=Lh (au.out.later a1)
   clear al af a2 Q ac a0 a1 ag aI
   obtain ⟨g,hg⟩:∃ g,F.heap.size=g:=⟨_,rfl⟩
   rw [hg] at ah
   rw [hg]
   clear hg
   refine rq 13 J.out u.out rfl ?_
   refine reg_done (by kernel_rfl) ?_
   have aJ:=Lh u.out.1
   have ax:=Lh u.out.1.th
   have a9:=Lh (z.out.later a5.out)
   obtain ⟨z0,z1,z2,z3,z4⟩:=a9.out
   clear u aq
   go_wp2_with (first
    | (refine load_w rfl _ rfl g rfl I Y ah.out ?_)
    | (refine store_w rfl _ _ rfl d rfl I Y rfl ax.out ?_; intro w5 an ad; have a8:=Lh an; have a3:=Lh ad; have aB:=Lh (a9.out.blk (ad.block q a9.out.lt aF.out)); clear an ad z0 z1 z2 z3 z4; obtain ⟨z0,z1,z2,z3,z4⟩:=aB.out))
   have az:Hid (Wv base col w5 x s):=Lh (ay.out.aside a3.out (fun g _ e=>e ▸ HT.out.c8))
   have aw:Hid (Dw (Kc base col) w5 I Y N):=Lh (av.out.at_ HT.out.c8 a3.out)
   refine (ar.out w5 az.out).mono ?_
   rintro e w6 ⟨rfl,ai,h6,ao,ak⟩
   have aA:=Lh h6
   have aa:=Lh ao
   have a6:=Lh ak
   clear h6 ao ak ar
   go_wp2_with fail
   go_ret
   have aM:=a4.out.size
   have ae:=a5.out.size
   have aN:=a3.out.size
   have aD:ai d=8:=(a6.out d a8.out.lt).trans HT.out.c8
   refine ⟨by simp,ai,I,⟨aA.out,aw.out.call aa.out a6.out,a8.out.blk (aa.out.block d a8.out.lt (fun e=>e.2 HT.out.c8)),aD⟩,?_,fun k hk=>a6.out k (by omega)⟩
   exact (Fz.of_below a4.out).trans ((Fz.of_below a5.out).trans ((fp_d a3.out).trans (fp_w aa.out)))
end
end Go.Proofs.YtoiklelghfckgaaGreatDoor.Wo
