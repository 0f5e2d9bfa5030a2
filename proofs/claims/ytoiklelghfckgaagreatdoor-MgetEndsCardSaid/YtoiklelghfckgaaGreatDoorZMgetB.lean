/- A part of the claim: the texts MgetB. -/
import Derived.Test.YtoiklelghfckgaaGreatDoorZMget
import Derived.Test.YtoiklelghfckgaaGreatDoorZTables
import Derived.Test.YtoiklelghfckgaaGreatDoorZGTwo
set_option maxRecDepth 100000
set_option maxHeartbeats 8000000
set_option linter.unusedVariables false
namespace Go.Proofs.YtoiklelghfckgaaGreatDoor.Wo
open Go Go.ChangeShapes Go.WideShapes Go.ChangeAt Go.RowKit Go.Deep Go.Maps Rw Hi Mt Ba
open Cn (Cf cfE)
theorem slotI_no {L:List St.Sx} {t:Int} (h:L.findIdx? (St.hit t)=none):slotI L t=0:=by unfold slotI; rw [h]
theorem slotI_is {L:List St.Sx} {t:Int} {k:Nat} {x:St.Sx} (h:L.findIdx? (St.hit t)=some k) (hx:L[k]? = some x):slotI L t=x.2.2:=by unfold slotI; rw [h]; simp only [hx]; rfl
theorem wof_any (w:World) {base:Nat} {F:Nat→Nat} {x:Wp} {s:Ws} (h:Wv base F w x s) (t:Int):Calls Tryz.prog 158 #[ptr x.ps,.int .i64 t] w fun e w'=>∃ a d b,e=.returned (.tuple #[.agg #[.int .i64 a,.int .u64 d,.int .u64 (slotI s.sl t)],.bool b])∧Below w.heap.size w w':=by
 obtain ⟨r,z⟩:=h.slots
 cases hf:s.sl.findIdx? (St.hit t) with
 | none=>
  refine (St.of_miss w base x.ps r s.sl t z hf).mono ?_
  rintro e w' ⟨rfl,u⟩
  exact ⟨0,0,false,by rw [slotI_no hf],u⟩
 | some k=>
  obtain ⟨hk,-,-⟩:=List.findIdx?_eq_some_iff_getElem.1 hf
  have hx:s.sl[k]? = some s.sl[k]:=List.getElem?_eq_getElem hk
  refine (St.of_hit w base x.ps r s.sl t k _ z hf hx).mono ?_
  rintro e w' ⟨rfl,u⟩
  exact ⟨_,_,true,by rw [slotI_is hf hx],u⟩
theorem gt_actR (w:World) {base:Nat} {z:Nat→Nat} {x:Wp} {s s':Ws} (q r:Gt) (h:Wv base z w x s) (hL:Lr base z w q.A q.n q.c q.S) (f:FuncId) (a1:actD_gt.atKey (.string q.st.data.toList) (.lit (.int .u64 0))=.lit (.int .u64 ((f:Nat)+1:Int))) (a3:q.st.size≤maxLen)
  (hK:∀ w,(callFunc f #[.agg q.cells.toArray,ptr x.pw]).run Tryz.prog w=.ok (.enter f #[.agg q.cells.toArray,ptr x.pw]) w)
  (hD:∀ (W:World) (z:Nat→Nat),Wv base z W x s→Lr base z W q.A q.n q.c q.S→Calls Tryz.prog f #[.agg q.cells.toArray,ptr x.pw] W (Mpost base z x W s' r.val)) :
  Calls Tryz.prog 9 #[q.val,ptr x.pw] w (Mpost base z x w s' r.val):=by
 obtain ⟨W1,ac,Y,Q,I,J⟩:=boxes_gt q w
 obtain ⟨ae,m1⟩:=Me.start h I J Y Q
 have M:=Lh m1
 have a8:=Lh a1
 have a7:=Lh hL
 clear hL
 have HZ:=Lh a3
 have a6:=Lh hD
 clear hD
 clear m1 Y Q I J h a1 a3
 go_enter Tryz.func9,Tryz.ntmps9
 go_upto_region 1 with (fail)
 clear ac
 go_wp2_with fail
 have M:=Lh (M.out.later (Below.refl _ _).drew)
 have u:Hid (Vb W1.drew w.heap.size 16 q.cells):=Lh M.out.vb
 refine reg_start 5 (fun w'=>Vb w' w.heap.size 16 q.cells) (by kernel_rfl) (by kernel_rfl) ?_
 intro a0
 have F:=Lh a0
 clear a0
 refine rq 1 F.out u.out rfl ?_
 refine rq 2 F.out u.out rfl ?_ (hv:=fun w' hw=>by (have kz:=hw.cell 2 _ rfl; go_simp; exact rfl))
 refine reg_only 0 rfl (by kernel_rfl) rfl ?_
 unfold Oper.wp
 go_simp
 refine (acts_gt _).mono ?_
 rintro e w2 ⟨m,rfl,⟨n,a2⟩,b2⟩
 have M:=Lh (M.out.later b2)
 refine ⟨M.out.vb,?_⟩
 clear u
 have u:=Lh M.out.vb
 obtain ⟨fv,ps,ad,G⟩:=a2.lookup lawS Tryz.underlying112 (zero_fn_gt w2) (show fnR .nilFunc=some (.lit (.int .u64 0),[]) from rfl) (WideMaps.keyOf_string_mk Tryz.underlying9 HZ.out)
 rw [a8.out] at G
 obtain rfl:=fnR_inv G
 clear a2 b2 G
 refine reg_only 3 rfl (by kernel_rfl) rfl ?_
 unfold Oper.wp
 go_simp
 refine ⟨u.out,?_⟩
 clear ad
 refine rq 4 F.out u.out rfl ?_
 refine reg_done (by kernel_rfl) ?_
 clear u
 have ag:=eq_fn_gt
 have ah:=eq_nil_gt
 go_wp2_with (first
  | (refine load_b rt_gt rfl _ rfl w.heap.size rfl q.cells M.out.vb ?_))
 refine (a6.out _ _ M.out.wv (a7.out.fw M.out.fw M.out.el)).mono ?_
 rintro e w3 ⟨rfl,af,h3,z3,l3⟩
 have M:=Lh (M.out.call h3 z3 l3)
 clear h3 z3 l3
 go_wp2_with (first
  | (refine store_b rt_gt rfl _ _ rfl (w.heap.size+1) rfl r.cells rfl M.out.tr rfl (by kernel_rfl) ?_; intro w9 a4 a5; have a9:=Lh a4; have aa:=Lh a5; clear a4 a5))
 refine bodyPost_ret (v:=r.val) (res_b rt_gt _ _ (w.heap.size+1) _ Tryz.results9 rfl a9.out) rfl ?_
 exact ⟨rfl,M.out.ret aa.out⟩
theorem reached_below (t x:Int) (w:World):Calls Tryz.prog 159 #[.agg #[.int .u64 t],.int .u64 x] w fun e w'=>e=.returned (.bool (decide (x≤t)))∧Below w.heap.size w w':=
 (Ck.reached_any t x w).mono (by rintro e w' ⟨rfl,rfl⟩; exact ⟨rfl,(Below.refl _ _).alloc (Nat.le_refl _) _⟩)
theorem rt_slot:RowT 179 3:=⟨by kernel_rfl,by kernel_rfl,by kernel_rfl⟩
theorem mwait_any (w:World) {base:Nat} {a5:Nat→Nat} {x:Wp} (m:Mg) (h:Wv base a5 w x m.s) (af:m.s.ev.length≤1000) :
  Calls Tryz.prog 101 #[m.q.val,ptr x.pw] w (Mpost base a5 x w (waitM m).s (waitM m).q.val):=by
 obtain ⟨r,Y⟩:∃ r,waitM m=r:=⟨_,rfl⟩
 have HR:=Lh Y
 rw [Y]
 clear Y
 obtain ⟨I,ai⟩:∃ I,slotI m.s.sl m.q.th=I:=⟨_,rfl⟩
 have a4:=Lh ai
 clear ai
 obtain ⟨sz,aj⟩:∃ sz,(I != 0)=sz:=⟨_,rfl⟩
 have a0:=Lh aj
 clear aj
 obtain ⟨cl,ae⟩:∃ cl,m.s.closed=cl:=⟨_,rfl⟩
 have a1:=Lh ae
 clear ae
 obtain ⟨rc,ah⟩:∃ rc,decide (m.q.dl≤m.s.now)=rc:=⟨_,rfl⟩
 have a9:=Lh ah
 clear ah
 obtain ⟨lv,ag⟩:∃ lv,decide (m.s.live < m.s.conf.max)=lv:=⟨_,rfl⟩
 have a8:=Lh ag
 clear ag
 have ac:Hid (∀ (w:World) (a5:Nat→Nat),Wv base a5 w x m.s→Calls Tryz.prog 158 #[ptr x.ps,.int .i64 m.q.th] w fun e w'=>∃ a d b,e=.returned (.tuple #[.agg #[.int .i64 a,.int .u64 d,.int .u64 I],.bool b])∧Below w.heap.size w w'):=Lh (fun w a5 h=>by have e:=wof_any w h m.q.th; rw [a4.out] at e; exact e)
 have ad:Hid (∀ w:World,Calls Tryz.prog 159 #[.agg #[.int .u64 m.s.now],.int .u64 m.q.dl] w fun e w'=>e=.returned (.bool rc)∧Below w.heap.size w w'):=Lh (fun w=>by have e:=reached_below m.s.now m.q.dl w; rw [a9.out] at e; exact e)
 obtain ⟨W1,al,V1,T1,B1,S1⟩:=boxes_gt m.q w
 obtain ⟨ak,m1⟩:=Me.start h B1 S1 V1 T1
 have M:=Lh m1
 clear m1 h
 clear V1 T1 B1 S1
 go_enter Tryz.func101,Tryz.ntmps101
 go_upto_region 1 with (fail)
 clear al
 go_wp2_with fail
 go_cut [5,6] from 7 to 17 (fun s5 s6 wx=>∃ (g:Nat) (ok:Bool),s5=ptr g∧s6=.bool ok∧wx.cell? ⟨g,2,none⟩=some (.int .u64 I)∧Hid (Me w base a5 x 15 w.heap.size (w.heap.size+1) wx ak m.s m.q.cells))
 case first=>
  have M:=Lh (M.out.later (Below.refl _ _).drew)
  have u:Hid (Vb W1.drew w.heap.size 16 m.q.cells∧Wc W1.drew x m.s):=Lh ⟨M.out.vb,M.out.wv.cells⟩
  refine reg_start 12 (fun w'=>Vb w' w.heap.size 16 m.q.cells∧Wc w' x m.s) (by kernel_rfl) (by kernel_rfl) ?_
  intro G
  have z:=Lh G
  clear G
  generalize W1.drew=J at *
  refine rq 0 z.out u.out rfl ?_ (hv:=fun w' hw=>by (skip; go_simp; exact rfl))
  refine rq 1 z.out u.out rfl ?_ (hv:=fun w' hw=>by (skip; go_simp; exact rfl))
  refine rq 2 z.out u.out rfl ?_ (hv:=fun w' hw=>by (skip; go_simp; exact rfl))
  go_simp
  refine rq 3 z.out u.out rfl ?_ (hv:=fun w' hw=>by (have c10:=hw.2.c10; go_simp; exact rfl))
  refine rq 4 z.out u.out rfl ?_ (hv:=fun w' hw=>by (skip; go_simp; exact rfl))
  refine rq 5 z.out u.out rfl ?_ (hv:=fun w' hw=>by (have z0:=hw.1.cell 0 _ rfl; go_simp; exact rfl))
  go_simp
  refine reg_two 6 10 rfl rfl (by kernel_rfl) rfl rfl ?_ ?_
  ·as_aux_lemma=>
    unfold Oper.wp
    go_simp
    refine (ac.out _ _ M.out.wv).mono ?_
    rintro e w3 ⟨a,d,b,rfl,F⟩
    have M:=Lh (M.out.later F)
    clear u
    have u:Hid (Vb w3 w.heap.size 16 m.q.cells∧Wc w3 x m.s):=Lh ⟨M.out.vb,M.out.wv.cells⟩
    refine ⟨u.out,?_⟩
    refine rq 7 z.out u.out rfl ?_ (hv:=fun w' hw=>by (skip; go_simp; exact rfl))
    refine rq 8 z.out u.out rfl ?_ (hv:=fun w' hw=>by (skip; go_simp; exact rfl))
    refine rq 9 z.out u.out rfl ?_ (hv:=fun w' hw=>by (skip; go_simp; exact rfl))
    go_simp
    refine reg_only 10 rfl (by kernel_rfl) rfl ?_
    unfold Oper.wp
    go_simp
    obtain ⟨w4,h4,v4,b4,s4⟩:=box_b 179 [.int .i64 0,.int .u64 0,.int .u64 0] w3 rfl
    have h4:w3.alloc (.cells #[.int .i64 0,.int .u64 0,.int .u64 0] 179)=w4:=h4
    rw [h4]
    clear h4
    have N0:=M
    have M:=Lh (M.out.later b4)
    have HZ:=Lh v4
    have HB:=Lh b4
    obtain ⟨g,hg⟩:∃ g,w3.heap.size=g:=⟨_,rfl⟩
    have HG:Hid (w3.heap.size≤g):=Lh (by rw [hg]; exact Nat.le_refl _)
    rw [hg] at HZ ⊢
    clear v4 b4 s4 hg u
    have u:Hid (Vb w4 w.heap.size 16 m.q.cells∧Wc w4 x m.s):=Lh ⟨M.out.vb,M.out.wv.cells⟩
    refine ⟨u.out,?_⟩
    refine reg_only 11 rfl (by kernel_rfl) rfl ?_
    refine wp_store_b rt_slot _ _ rfl g rfl [.int .i64 a,.int .u64 d,.int .u64 I] rfl HZ.out.th rfl (by kernel_rfl) ?_
    intro w5 a6 a7
    have M:=Lh (N0.out.later (HB.out.trans (a7.below HB.out.size (fun k hk=>hk ▸ HG.out))))
    clear u N0 HB
    have u:Hid (Vb w5 w.heap.size 16 m.q.cells∧Wc w5 x m.s):=Lh ⟨M.out.vb,M.out.wv.cells⟩
    have z2:=a6.cell 2 _ rfl
    clear a6 a7 HZ HG
    refine ⟨fun _=>u.out,?_⟩
    go_simp
    refine reg_pure 12 z.out rfl (by kernel_rfl) (fun _ _ _ _ h=>h) (fun h=>absurd h (by decide)) rfl ?_
    apply Exists.intro
    refine ⟨fun w'=>by (go_simp; exact rfl),?_⟩
    refine reg_done (by kernel_rfl) ?_
    go_wp2_with fail
    go_meet
    case rel=>exact ⟨g,b,rfl,rfl,z2,M⟩
  ·as_aux_lemma=>
    unfold Oper.wp
    go_simp
    obtain ⟨w4,h4,v4,b4,s4⟩:=box_b 179 [.int .i64 0,.int .u64 0,.int .u64 0] J rfl
    have h4:J.alloc (.cells #[.int .i64 0,.int .u64 0,.int .u64 0] 179)=w4:=h4
    rw [h4]
    clear h4
    have N0:=M
    have M:=Lh (M.out.later b4)
    have HZ:=Lh v4
    have HB:=Lh b4
    obtain ⟨g,hg⟩:∃ g,J.heap.size=g:=⟨_,rfl⟩
    have HG:Hid (J.heap.size≤g):=Lh (by rw [hg]; exact Nat.le_refl _)
    rw [hg] at HZ ⊢
    clear v4 b4 s4 hg u
    have u:Hid (Vb w4 w.heap.size 16 m.q.cells∧Wc w4 x m.s):=Lh ⟨M.out.vb,M.out.wv.cells⟩
    refine ⟨u.out,?_⟩
    refine reg_only 6 rfl (by kernel_rfl) rfl ?_
    unfold Oper.wp
    go_simp
    refine (ac.out _ _ M.out.wv).mono ?_
    rintro e w3 ⟨a,d,b,rfl,F⟩
    have M:=Lh (M.out.later F)
    have HZ:=Lh (HZ.out.later F)
    have HB:=Lh (HB.out.trans (F.mono HB.out.size))
    clear u
    have u:Hid (Vb w3 w.heap.size 16 m.q.cells∧Wc w3 x m.s):=Lh ⟨M.out.vb,M.out.wv.cells⟩
    refine ⟨u.out,?_⟩
    refine rq 7 z.out u.out rfl ?_ (hv:=fun w' hw=>by (skip; go_simp; exact rfl))
    refine rq 8 z.out u.out rfl ?_ (hv:=fun w' hw=>by (skip; go_simp; exact rfl))
    refine rq 9 z.out u.out rfl ?_ (hv:=fun w' hw=>by (skip; go_simp; exact rfl))
    go_simp
    refine reg_only 11 rfl (by kernel_rfl) rfl ?_
    refine wp_store_b rt_slot _ _ rfl g rfl [.int .i64 a,.int .u64 d,.int .u64 I] rfl HZ.out.th rfl (by kernel_rfl) ?_
    intro w5 a6 a7
    have M:=Lh (N0.out.later (HB.out.trans (a7.below HB.out.size (fun k hk=>hk ▸ HG.out))))
    clear u N0 HB
    have u:Hid (Vb w5 w.heap.size 16 m.q.cells∧Wc w5 x m.s):=Lh ⟨M.out.vb,M.out.wv.cells⟩
    have z2:=a6.cell 2 _ rfl
    clear a6 a7 HZ HG
    refine ⟨fun _=>u.out,?_⟩
    go_simp
    refine reg_pure 12 z.out rfl (by kernel_rfl) (fun _ _ _ _ h=>h) (fun h=>absurd h (by decide)) rfl ?_
    apply Exists.intro
    refine ⟨fun w'=>by (go_simp; exact rfl),?_⟩
    refine reg_done (by kernel_rfl) ?_
    go_wp2_with fail
    go_meet
    case rel=>exact ⟨g,b,rfl,rfl,z2,M⟩
 clear M ac
 obtain ⟨g,ok,rfl,rfl,z2,M⟩:=hcut
 generalize wc=wx at *
 cases sz with
 | false=>
  cases cl with
  | false=>
   cases rc with
   | false=>
    cases lv with
    | false=>
     have Y:m=r:=by rw [← HR.out]; symm; unfold waitM; rw [a4.out,a1.out]; rw [if_neg (show ¬ I≠0 from (by have h9:=a0.out; simpa using h9))]; rw [if_neg (by decide),if_neg (of_decide_eq_false a9.out),if_neg (of_decide_eq_false a8.out)]
     subst Y
     have q1:(I != 0)=false:=a0.out
     go_upto_region 4 with (fail)
     clear z2 q1
     have c15:wx.cell? ⟨x.pw,15,none⟩=some (.bool false):=(M.out.wv.cells.c15).trans (congrArg (fun b=>some (Value.bool b)) a1.out)
     go_upto_region 6 with (fail)
     clear c15
     go_wp2_with fail
     have M:=Lh (M.out.later (Below.refl _ _).drew)
     have u:Hid (Vb wx.drew w.heap.size 16 (m.q.cells)∧Wc wx.drew x m.s):=Lh ⟨M.out.vb,M.out.wv.cells⟩
     refine reg_start 6 (fun w'=>Vb w' w.heap.size 16 (m.q.cells)∧Wc w' x m.s) (by kernel_rfl) (by kernel_rfl) ?_
     intro G
     have z:=Lh G
     clear G
     refine rq 0 z.out u.out rfl ?_
     refine rq 1 z.out u.out rfl ?_
     refine rq 2 z.out u.out rfl ?_
     go_simp
     refine rq 3 z.out u.out rfl ?_ (hv:=fun w' hw=>by (have c7:=hw.2.c7; go_simp; exact rfl))
     refine rq 4 z.out u.out rfl ?_
     refine rq 5 z.out u.out rfl ?_ (hv:=fun w' hw=>by (have z1:=hw.1.cell 1 _ rfl; go_simp; exact rfl))
     go_simp
     refine reg_only 6 rfl (by kernel_rfl) rfl ?_
     unfold Oper.wp
     go_simp
     refine (ad.out _).mono ?_
     rintro e J ⟨rfl,F⟩
     have M:=Lh (M.out.later F)
     clear F
     clear u
     refine reg_pure 7 z.out rfl (by kernel_rfl) (fun _ _ _ _ h=>h) (fun h=>absurd h (by decide)) rfl ?_
     apply Exists.intro
     refine ⟨fun w'=>by (go_simp; exact rfl),?_⟩
     refine reg_done (by kernel_rfl) ?_
     go_upto_region 8 with (fail)
     have q1:decide (m.s.live < m.s.conf.max)=false:=a8.out
     go_wp2_with fail
     have M:=Lh (M.out.later (Below.refl _ _).drew)
     have u:Hid (J.drew.cell? ⟨x.pw,0,none⟩=some (.int .i64 m.s.conf.max)∧J.drew.cell? ⟨x.pw,14,none⟩=some (.int .i64 m.s.live)):=Lh ⟨(M.out.wv.cells.c0),(M.out.wv.cells.c14)⟩
     refine reg_start 11 (fun w'=>w'.cell? ⟨x.pw,0,none⟩=some (.int .i64 m.s.conf.max)∧w'.cell? ⟨x.pw,14,none⟩=some (.int .i64 m.s.live)) (by kernel_rfl) (by kernel_rfl) ?_
     intro G
     have z:=Lh G
     clear G
     refine rq 0 z.out u.out rfl ?_ (hv:=fun w' hw=>by (skip; go_simp; exact rfl))
     refine rq 1 z.out u.out rfl ?_ (hv:=fun w' hw=>by (skip; go_simp; exact rfl))
     refine rq 2 z.out u.out rfl ?_ (hv:=fun w' hw=>by (skip; go_simp; exact rfl))
     go_simp
     refine rq 3 z.out u.out rfl ?_ (hv:=fun w' hw=>by (have y0:=hw.1; have y1:=hw.2; go_simp; exact rfl))
     refine rq 4 z.out u.out rfl ?_ (hv:=fun w' hw=>by (skip; go_simp; exact rfl))
     refine rq 5 z.out u.out rfl ?_ (hv:=fun w' hw=>by (skip; go_simp; exact rfl))
     go_simp
     refine rq 6 z.out u.out rfl ?_ (hv:=fun w' hw=>by (skip; go_simp; exact rfl))
     refine rq 7 z.out u.out rfl ?_ (hv:=fun w' hw=>by (skip; go_simp; exact rfl))
     refine rq 8 z.out u.out rfl ?_ (hv:=fun w' hw=>by (have y0:=hw.1; have y1:=hw.2; go_simp; exact rfl))
     go_simp
     refine rq 9 z.out u.out rfl ?_ (hv:=fun w' hw=>by (skip; go_simp; exact rfl))
     refine rq 10 z.out u.out rfl ?_ (hv:=fun w' hw=>by (skip; go_simp; exact rfl))
     refine reg_done (by kernel_rfl) ?_
     clear u
     generalize J.drew=w3 at *
     go_upto_region 10 with (fail)
     clear q1
     go_wp2_with (first
      | (refine load_b rt_gt rfl _ rfl w.heap.size rfl (m.q.cells) M.out.vb ?_)
      | (refine store_b rt_gt rfl _ _ rfl (w.heap.size+1) rfl (Gt.cells m.q) rfl M.out.tr rfl (by kernel_rfl) ?_; intro aa Q W; have a2:=Lh Q; have a3:=Lh W; clear Q W))
     refine bodyPost_ret (v:=m.q.val) (res_b rt_gt _ _ (w.heap.size+1) _ Tryz.results101 rfl a2.out) rfl ?_
     exact ⟨rfl,M.out.ret a3.out⟩
    | true=>
     have Y:r=m.to gGrow:=by rw [← HR.out]; unfold waitM; rw [a4.out,a1.out]; rw [if_neg (show ¬ I≠0 from (by have h9:=a0.out; simpa using h9))]; rw [if_neg (by decide),if_neg (of_decide_eq_false a9.out),if_pos (of_decide_eq_true a8.out)]
     subst Y
     have q1:(I != 0)=false:=a0.out
     go_upto_region 4 with (fail)
     clear z2 q1
     have c15:wx.cell? ⟨x.pw,15,none⟩=some (.bool false):=(M.out.wv.cells.c15).trans (congrArg (fun b=>some (Value.bool b)) a1.out)
     go_upto_region 6 with (fail)
     clear c15
     go_wp2_with fail
     have M:=Lh (M.out.later (Below.refl _ _).drew)
     have u:Hid (Vb wx.drew w.heap.size 16 (m.q.cells)∧Wc wx.drew x m.s):=Lh ⟨M.out.vb,M.out.wv.cells⟩
     refine reg_start 6 (fun w'=>Vb w' w.heap.size 16 (m.q.cells)∧Wc w' x m.s) (by kernel_rfl) (by kernel_rfl) ?_
     intro G
     have z:=Lh G
     clear G
     refine rq 0 z.out u.out rfl ?_
     refine rq 1 z.out u.out rfl ?_
     refine rq 2 z.out u.out rfl ?_
     go_simp
     refine rq 3 z.out u.out rfl ?_ (hv:=fun w' hw=>by (have c7:=hw.2.c7; go_simp; exact rfl))
     refine rq 4 z.out u.out rfl ?_
     refine rq 5 z.out u.out rfl ?_ (hv:=fun w' hw=>by (have z1:=hw.1.cell 1 _ rfl; go_simp; exact rfl))
     go_simp
     refine reg_only 6 rfl (by kernel_rfl) rfl ?_
     unfold Oper.wp
     go_simp
     refine (ad.out _).mono ?_
     rintro e J ⟨rfl,F⟩
     have M:=Lh (M.out.later F)
     clear F
     clear u
     refine reg_pure 7 z.out rfl (by kernel_rfl) (fun _ _ _ _ h=>h) (fun h=>absurd h (by decide)) rfl ?_
     apply Exists.intro
     refine ⟨fun w'=>by (go_simp; exact rfl),?_⟩
     refine reg_done (by kernel_rfl) ?_
     go_upto_region 8 with (fail)
     have q1:decide (m.s.live < m.s.conf.max)=true:=a8.out
     go_wp2_with fail
     have M:=Lh (M.out.later (Below.refl _ _).drew)
     have u:Hid (J.drew.cell? ⟨x.pw,0,none⟩=some (.int .i64 m.s.conf.max)∧J.drew.cell? ⟨x.pw,14,none⟩=some (.int .i64 m.s.live)):=Lh ⟨(M.out.wv.cells.c0),(M.out.wv.cells.c14)⟩
     refine reg_start 11 (fun w'=>w'.cell? ⟨x.pw,0,none⟩=some (.int .i64 m.s.conf.max)∧w'.cell? ⟨x.pw,14,none⟩=some (.int .i64 m.s.live)) (by kernel_rfl) (by kernel_rfl) ?_
     intro G
     have z:=Lh G
     clear G
     refine rq 0 z.out u.out rfl ?_ (hv:=fun w' hw=>by (skip; go_simp; exact rfl))
     refine rq 1 z.out u.out rfl ?_ (hv:=fun w' hw=>by (skip; go_simp; exact rfl))
     refine rq 2 z.out u.out rfl ?_ (hv:=fun w' hw=>by (skip; go_simp; exact rfl))
     go_simp
     refine rq 3 z.out u.out rfl ?_ (hv:=fun w' hw=>by (have y0:=hw.1; have y1:=hw.2; go_simp; exact rfl))
     refine rq 4 z.out u.out rfl ?_ (hv:=fun w' hw=>by (skip; go_simp; exact rfl))
     refine rq 5 z.out u.out rfl ?_ (hv:=fun w' hw=>by (skip; go_simp; exact rfl))
     go_simp
     refine rq 6 z.out u.out rfl ?_ (hv:=fun w' hw=>by (skip; go_simp; exact rfl))
     refine rq 7 z.out u.out rfl ?_ (hv:=fun w' hw=>by (skip; go_simp; exact rfl))
     refine rq 8 z.out u.out rfl ?_ (hv:=fun w' hw=>by (have y0:=hw.1; have y1:=hw.2; go_simp; exact rfl))
     go_simp
     refine rq 9 z.out u.out rfl ?_ (hv:=fun w' hw=>by (skip; go_simp; exact rfl))
     refine rq 10 z.out u.out rfl ?_ (hv:=fun w' hw=>by (skip; go_simp; exact rfl))
     refine reg_done (by kernel_rfl) ?_
     clear u
     generalize J.drew=w3 at *
     go_upto_region 9 with (fail)
     clear q1
     go_wp2_with (first
      | (refine load_b rt_gt rfl _ rfl w.heap.size rfl (m.q.cells) M.out.vb ?_))
     refine (mto_any m.q gGrow _).mono ?_
     rintro e w4 ⟨rfl,b4⟩
     have M:=Lh (M.out.later b4)
     clear b4
     go_wp2_with (first
      | (refine load_b rt_gt rfl _ rfl w.heap.size rfl (m.q.cells) M.out.vb ?_)
      | (refine store_b rt_gt rfl _ _ rfl (w.heap.size+1) rfl (Gt.cells (m.q.to gGrow)) rfl M.out.tr rfl (by kernel_rfl) ?_; intro aa Q W; have a2:=Lh Q; have a3:=Lh W; clear Q W))
     refine bodyPost_ret (v:=(m.q.to gGrow).val) (res_b rt_gt _ _ (w.heap.size+1) _ Tryz.results101 rfl a2.out) rfl ?_
     exact ⟨rfl,M.out.ret a3.out⟩
   | true=>
    have Y:r=upM m 7:=by rw [← HR.out]; unfold waitM; rw [a4.out,a1.out]; rw [if_neg (show ¬ I≠0 from (by have h9:=a0.out; simpa using h9))]; rw [if_neg (by decide),if_pos (of_decide_eq_true a9.out)]
    subst Y
    have q1:(I != 0)=false:=a0.out
    go_upto_region 4 with (fail)
    clear z2 q1
    have c15:wx.cell? ⟨x.pw,15,none⟩=some (.bool false):=(M.out.wv.cells.c15).trans (congrArg (fun b=>some (Value.bool b)) a1.out)
    go_upto_region 6 with (fail)
    clear c15
    go_wp2_with fail
    have M:=Lh (M.out.later (Below.refl _ _).drew)
    have u:Hid (Vb wx.drew w.heap.size 16 (m.q.cells)∧Wc wx.drew x m.s):=Lh ⟨M.out.vb,M.out.wv.cells⟩
    refine reg_start 6 (fun w'=>Vb w' w.heap.size 16 (m.q.cells)∧Wc w' x m.s) (by kernel_rfl) (by kernel_rfl) ?_
    intro G
    have z:=Lh G
    clear G
    refine rq 0 z.out u.out rfl ?_
    refine rq 1 z.out u.out rfl ?_
    refine rq 2 z.out u.out rfl ?_
    go_simp
    refine rq 3 z.out u.out rfl ?_ (hv:=fun w' hw=>by (have c7:=hw.2.c7; go_simp; exact rfl))
    refine rq 4 z.out u.out rfl ?_
    refine rq 5 z.out u.out rfl ?_ (hv:=fun w' hw=>by (have z1:=hw.1.cell 1 _ rfl; go_simp; exact rfl))
    go_simp
    refine reg_only 6 rfl (by kernel_rfl) rfl ?_
    unfold Oper.wp
    go_simp
    refine (ad.out _).mono ?_
    rintro e J ⟨rfl,F⟩
    have M:=Lh (M.out.later F)
    clear F
    clear u
    refine reg_pure 7 z.out rfl (by kernel_rfl) (fun _ _ _ _ h=>h) (fun h=>absurd h (by decide)) rfl ?_
    apply Exists.intro
    refine ⟨fun w'=>by (go_simp; exact rfl),?_⟩
    refine reg_done (by kernel_rfl) ?_
    go_upto_region 7 with (fail)
    go_wp2_with (first
     | (refine load_b rt_gt rfl _ rfl w.heap.size rfl (m.q.cells) M.out.vb ?_))
    refine (mup_any _ m M.out.wv 7 af).mono ?_
    rintro e w3 ⟨rfl,ao,h3,y3,l3⟩
    have M:=Lh (M.out.call h3 y3 l3)
    clear h3 y3 l3
    go_wp2_with (first
     | (refine load_b rt_gt rfl _ rfl w.heap.size rfl (m.q.cells) M.out.vb ?_)
     | (refine store_b rt_gt rfl _ _ rfl (w.heap.size+1) rfl (Gt.cells (upM m 7).q) rfl M.out.tr rfl (by kernel_rfl) ?_; intro aa Q W; have a2:=Lh Q; have a3:=Lh W; clear Q W))
    refine bodyPost_ret (v:=(upM m 7).q.val) (res_b rt_gt _ _ (w.heap.size+1) _ Tryz.results101 rfl a2.out) rfl ?_
    exact ⟨rfl,M.out.ret a3.out⟩
  | true=>
   have Y:r=upM m 6:=by rw [← HR.out]; unfold waitM; rw [a4.out,a1.out]; rw [if_neg (show ¬ I≠0 from (by have h9:=a0.out; simpa using h9))]; rw [if_pos rfl]
   subst Y
   have q1:(I != 0)=false:=a0.out
   go_upto_region 4 with (fail)
   clear z2 q1
   have c15:wx.cell? ⟨x.pw,15,none⟩=some (.bool true):=(M.out.wv.cells.c15).trans (congrArg (fun b=>some (Value.bool b)) a1.out)
   go_upto_region 5 with (fail)
   clear c15
   go_wp2_with (first
    | (refine load_b rt_gt rfl _ rfl w.heap.size rfl (m.q.cells) M.out.vb ?_))
   refine (mup_any _ m M.out.wv 6 af).mono ?_
   rintro e J ⟨rfl,an,h2,y2,l2⟩
   have M:=Lh (M.out.call h2 y2 l2)
   clear h2 y2 l2
   go_wp2_with (first
    | (refine load_b rt_gt rfl _ rfl w.heap.size rfl (m.q.cells) M.out.vb ?_)
    | (refine store_b rt_gt rfl _ _ rfl (w.heap.size+1) rfl (Gt.cells (upM m 6).q) rfl M.out.tr rfl (by kernel_rfl) ?_; intro aa Q W; have a2:=Lh Q; have a3:=Lh W; clear Q W))
   refine bodyPost_ret (v:=(upM m 6).q.val) (res_b rt_gt _ _ (w.heap.size+1) _ Tryz.results101 rfl a2.out) rfl ?_
   exact ⟨rfl,M.out.ret a3.out⟩
 | true=>
  have Y:r=m.to gLeave:=by rw [← HR.out]; unfold waitM; rw [a4.out,a1.out]; rw [if_pos (show I≠0 from (by have h9:=a0.out; simpa using h9))]
  subst Y
  have q1:(I != 0)=true:=a0.out
  go_upto_region 3 with (fail)
  clear z2 q1
  go_wp2_with (first
   | (refine load_b rt_gt rfl _ rfl w.heap.size rfl (m.q.cells) M.out.vb ?_))
  refine (mto_any m.q gLeave _).mono ?_
  rintro e J ⟨rfl,F⟩
  have M:=Lh (M.out.later F)
  clear F
  go_wp2_with (first
   | (refine load_b rt_gt rfl _ rfl w.heap.size rfl (m.q.cells) M.out.vb ?_)
   | (refine store_b rt_gt rfl _ _ rfl (w.heap.size+1) rfl (Gt.cells (m.q.to gLeave)) rfl M.out.tr rfl (by kernel_rfl) ?_; intro aa Q W; have a2:=Lh Q; have a3:=Lh W; clear Q W))
  refine bodyPost_ret (v:=(m.q.to gLeave).val) (res_b rt_gt _ _ (w.heap.size+1) _ Tryz.results101 rfl a2.out) rfl ?_
  exact ⟨rfl,M.out.ret a3.out⟩
theorem mleave_any (w:World) {base:Nat} {W:Nat→Nat} {x:Wp} (m:Mg) (h:Wv base W w x m.s) (ho:Hok m) (a4:U64 (St.takeR m.s.sl m.q.th).2.1) :
  Calls Tryz.prog 102 #[m.q.val,ptr x.pw] w (Mpost base W x w (leaveM m).s (leaveM m).q.val):=by
 obtain ⟨r,G⟩:∃ r,leaveM m=r:=⟨_,rfl⟩
 have HR:=Lh G
 rw [G]
 clear G
 obtain ⟨u,a4⟩:∃ u,(St.takeR m.s.sl m.q.th).2.1=u:=⟨_,rfl⟩
 have a2:=Lh a4
 clear a4
 obtain ⟨tb,ad⟩:∃ tb,(St.takeR m.s.sl m.q.th).2.2=tb:=⟨_,rfl⟩
 have ah:=Lh ad
 clear ad
 obtain ⟨iz,ac⟩:∃ iz,(u != 0)=iz:=⟨_,rfl⟩
 have Q:=Lh ac
 clear ac
 obtain ⟨gz,aa⟩:∃ gz,(m.q.got != 0)=gz:=⟨_,rfl⟩
 have Y:=Lh aa
 clear aa
 obtain ⟨wd,ae⟩:∃ wd,bW m.s.D u=wd:=⟨_,rfl⟩
 have a3:=Lh ae
 clear ae
 obtain ⟨ok,hok⟩:∃ ok,(fnd m.s.D u).isSome=ok:=⟨_,rfl⟩
 have ag:=Lh hok
 clear hok
 have a7:Hid (U64 u):=Lh (by rw [← a2.out]; exact a4)
 have HC:Hid (∀ (w:World) (W:Nat→Nat),Wv base W w x m.s→Calls Tryz.prog 160 #[ptr x.ps,.int .i64 m.q.th] w fun e w'=>e=.returned (.tuple #[.int .u64 u,.bool tb]) ∧ ∃ col',Wv base col' w' x { m.s with sl:=(St.takeR m.s.sl m.q.th).1 } ∧ Fw W w w'∧El w W col'):=Lh (fun w W h=>by have e:=wtake w h m.q.th; rw [a2.out,ah.out] at e; exact e)
 have af:Hid (∀ (w:World) (W:Nat→Nat),Wv base W w x { m.s with sl:=(St.takeR m.s.sl m.q.th).1 } → Calls Tryz.prog 13 #[ptr x.pb,.int .u64 u] w fun e w'=>e=.returned (.tuple #[.int .u64 wd,.bool ok])∧w=w'):=Lh (fun w W h=>by have e:=load_any w x.pb x.ab m.s.D m.s.S u h.bag a7.out; rw [a3.out,ag.out] at e; exact e)
 obtain ⟨W1,aj,V1,T1,B1,S1⟩:=boxes_gt m.q w
 obtain ⟨ak,m1⟩:=Me.start h B1 S1 V1 T1
 have M:=Lh m1
 clear m1 h
 clear V1 T1 B1 S1
 go_enter Tryz.func102,Tryz.ntmps102
 go_upto_region 1 with (fail)
 clear aj
 go_wp2_with fail
 have M:=Lh (M.out.later (Below.refl _ _).drew)
 have HS:Hid (Vb W1.drew w.heap.size 16 (m.q.cells)∧Wc W1.drew x m.s):=Lh ⟨M.out.vb,M.out.wv.cells⟩
 refine reg_start 6 (fun w'=>Vb w' w.heap.size 16 (m.q.cells)∧Wc w' x m.s) (by kernel_rfl) (by kernel_rfl) ?_
 intro a9
 have F:=Lh a9
 clear a9
 refine rq 0 F.out HS.out rfl ?_
 refine rq 1 F.out HS.out rfl ?_
 refine rq 2 F.out HS.out rfl ?_
 go_simp
 refine rq 3 F.out HS.out rfl ?_ (hv:=fun w' hw=>by (have c10:=hw.2.c10; go_simp; exact rfl))
 refine rq 4 F.out HS.out rfl ?_
 refine rq 5 F.out HS.out rfl ?_ (hv:=fun w' hw=>by (have z0:=hw.1.cell 0 _ rfl; go_simp; exact rfl))
 go_simp
 refine reg_only 6 rfl (by kernel_rfl) rfl ?_
 unfold Oper.wp
 go_simp
 refine (HC.out _ _ M.out.wv).mono ?_
 rintro e w2 ⟨rfl,al,h2,y2,l2⟩
 have M:=Lh (M.out.call h2 y2 l2)
 clear h2 y2 l2
 clear HS
 refine reg_pure 7 F.out rfl (by kernel_rfl) (fun _ _ _ _ h=>h) (fun h=>absurd h (by decide)) rfl ?_
 apply Exists.intro
 refine ⟨fun w'=>by (go_simp; exact rfl),?_⟩
 refine reg_pure 8 F.out rfl (by kernel_rfl) (fun _ _ _ _ h=>h) (fun h=>absurd h (by decide)) rfl ?_
 apply Exists.intro
 refine ⟨fun w'=>by (go_simp; exact rfl),?_⟩
 refine reg_pure 9 F.out rfl (by kernel_rfl) (fun _ _ _ _ h=>h) (fun h=>absurd h (by decide)) rfl ?_
 apply Exists.intro
 refine ⟨fun w'=>by (go_simp; exact rfl),?_⟩
 refine reg_pure 10 F.out rfl (by kernel_rfl) (fun _ _ _ _ h=>h) (fun h=>absurd h (by decide)) rfl ?_
 apply Exists.intro
 refine ⟨fun w'=>by (go_simp; exact rfl),?_⟩
 refine reg_pure 11 F.out rfl (by kernel_rfl) (fun _ _ _ _ h=>h) (fun h=>absurd h (by decide)) rfl ?_
 apply Exists.intro
 refine ⟨fun w'=>by (go_simp; exact rfl),?_⟩
 refine reg_done (by kernel_rfl) ?_
 have z8:=M.out.vb.cell 8 _ rfl
 have f8:=M.out.free 8 (by decide)
 go_upto_region 3 with (fail)
 have M:=Lh (M.out.set 8 (by decide) (.bool false))
 clear z8 f8
 generalize (w2.setCell ⟨w.heap.size,8,none⟩ (.bool false))=w3 at *
 have a5:=M.out.vb.cell 10 _ rfl
 cases iz with
 | false=>
  cases gz with
  | false=>
   have G:r=endsM { m with q:={ m.q with parked:=false },s:={ m.s with sl:=(St.takeR m.s.sl m.q.th).1 } } m.q.wish:=by rw [← HR.out]; unfold leaveM; simp only [a2.out,a3.out]; rw [if_neg (fun h=>absurd h.1 (show ¬ u≠0 from (by have z:=Q.out; simpa using z))),if_neg (show ¬ u≠0 from (by have z:=Q.out; simpa using z)),if_neg (show ¬ m.q.got≠0 from (by have z:=Y.out; simpa using z))]
   subst G
   have q1:(u != 0)=false:=Q.out
   have q2:(m.q.got != 0)=false:=Y.out
   go_upto_region 11 with (fail)
   clear q1 q2 a5
   have z9:=M.out.vb.cell 9 _ rfl
   go_wp2_with (first
    | (refine load_b rt_gt rfl _ rfl w.heap.size rfl (Gt.cells { m.q with parked:=false }) M.out.vb ?_))
   refine (mends_any _ { m with q:={ m.q with parked:=false },s:={ m.s with sl:=(St.takeR m.s.sl m.q.th).1 } } M.out.wv m.q.wish ho.ev).mono ?_
   rintro e w4 ⟨rfl,ai,h4,y4,l4⟩
   have M:=Lh (M.out.call h4 y4 l4)
   clear h4 y4 l4
   go_wp2_with (first
    | (refine load_b rt_gt rfl _ rfl w.heap.size rfl (Gt.cells { m.q with parked:=false }) M.out.vb ?_)
    | (refine store_b rt_gt rfl _ _ rfl (w.heap.size+1) rfl (Gt.cells (endsM { m with q:={ m.q with parked:=false },s:={ m.s with sl:=(St.takeR m.s.sl m.q.th).1 } } m.q.wish).q) rfl M.out.tr rfl (by kernel_rfl) ?_; intro a6 I J; have a0:=Lh I; have a1:=Lh J; clear I J))
   refine bodyPost_ret (v:=(endsM { m with q:={ m.q with parked:=false },s:={ m.s with sl:=(St.takeR m.s.sl m.q.th).1 } } m.q.wish).q.val) (res_b rt_gt _ _ (w.heap.size+1) _ Tryz.results102 rfl a0.out) rfl ?_
   exact ⟨rfl,M.out.ret a1.out⟩
  | true=>
   have G:r=Mg.to { m with q:={ m.q with parked:=false },s:={ m.s with sl:=(St.takeR m.s.sl m.q.th).1 } } gDone:=by rw [← HR.out]; unfold leaveM; simp only [a2.out,a3.out]; rw [if_neg (fun h=>absurd h.1 (show ¬ u≠0 from (by have z:=Q.out; simpa using z))),if_neg (show ¬ u≠0 from (by have z:=Q.out; simpa using z)),if_pos (show m.q.got≠0 from (by have z:=Y.out; simpa using z))]
   subst G
   have q1:(u != 0)=false:=Q.out
   have q2:(m.q.got != 0)=true:=Y.out
   go_upto_region 10 with (fail)
   clear q1 q2 a5
   go_wp2_with (first
    | (refine load_b rt_gt rfl _ rfl w.heap.size rfl (Gt.cells { m.q with parked:=false }) M.out.vb ?_))
   refine (mto_any { m.q with parked:=false } gDone _).mono ?_
   rintro e w4 ⟨rfl,b4⟩
   have M:=Lh (M.out.later b4)
   clear b4
   go_wp2_with (first
    | (refine load_b rt_gt rfl _ rfl w.heap.size rfl (Gt.cells { m.q with parked:=false }) M.out.vb ?_)
    | (refine store_b rt_gt rfl _ _ rfl (w.heap.size+1) rfl (Gt.cells (Gt.to { m.q with parked:=false } gDone)) rfl M.out.tr rfl (by kernel_rfl) ?_; intro a6 I J; have a0:=Lh I; have a1:=Lh J; clear I J))
   refine bodyPost_ret (v:=(Gt.to { m.q with parked:=false } gDone).val) (res_b rt_gt _ _ (w.heap.size+1) _ Tryz.results102 rfl a0.out) rfl ?_
   exact ⟨rfl,M.out.ret a1.out⟩
 | true=>
  cases gz with
  | false=>
   have G:r=hasM { m with q:={ m.q with parked:=false },s:={ m.s with sl:=(St.takeR m.s.sl m.q.th).1 } } u:=by rw [← HR.out]; unfold leaveM; simp only [a2.out,a3.out]; rw [if_neg (fun h=>absurd h.2 (show ¬ m.q.got≠0 from (by have z:=Y.out; simpa using z))),if_pos (show u≠0 from (by have z:=Q.out; simpa using z))]
   subst G
   have q1:(u != 0)=true:=Q.out
   have q2:(m.q.got != 0)=false:=Y.out
   go_upto_region 8 with (fail)
   clear q1 q2 a5
   go_wp2_with (first
    | (refine load_b rt_gt rfl _ rfl w.heap.size rfl (Gt.cells { m.q with parked:=false }) M.out.vb ?_))
   refine (mhas_any _ { m with q:={ m.q with parked:=false },s:={ m.s with sl:=(St.takeR m.s.sl m.q.th).1 } } M.out.wv ⟨ho.mk_,ho.ev,ho.ll,ho.tl,ho.lk,ho.nw⟩ u a7.out).mono ?_
   rintro e w4 ⟨rfl,ai,h4,y4,l4⟩
   have M:=Lh (M.out.call h4 y4 l4)
   clear h4 y4 l4
   go_wp2_with (first
    | (refine load_b rt_gt rfl _ rfl w.heap.size rfl (Gt.cells { m.q with parked:=false }) M.out.vb ?_)
    | (refine store_b rt_gt rfl _ _ rfl (w.heap.size+1) rfl (Gt.cells (hasM { m with q:={ m.q with parked:=false },s:={ m.s with sl:=(St.takeR m.s.sl m.q.th).1 } } u).q) rfl M.out.tr rfl (by kernel_rfl) ?_; intro a6 I J; have a0:=Lh I; have a1:=Lh J; clear I J))
   refine bodyPost_ret (v:=(hasM { m with q:={ m.q with parked:=false },s:={ m.s with sl:=(St.takeR m.s.sl m.q.th).1 } } u).q.val) (res_b rt_gt _ _ (w.heap.size+1) _ Tryz.results102 rfl a0.out) rfl ?_
   exact ⟨rfl,M.out.ret a1.out⟩
  | true=>
   have G:r = { m with q:={ m.q with parked:=false,g:=⟨m.q.th,0,u,wd,sOffer⟩,st:=gExtra },s:={ m.s with sl:=(St.takeR m.s.sl m.q.th).1 } }:=by rw [← HR.out]; unfold leaveM; simp only [a2.out,a3.out]; rw [if_pos ⟨(show u≠0 from (by have z:=Q.out; simpa using z)),(show m.q.got≠0 from (by have z:=Y.out; simpa using z))⟩]
   subst G
   have q1:(u != 0)=true:=Q.out
   have q2:(m.q.got != 0)=true:=Y.out
   go_upto_region 4 with (fail)
   clear q1 q2 a5
   have c8:=M.out.wv.cells.c8
   go_wp2_with fail
   refine (af.out _ _ M.out.wv).mono ?_
   rintro e w7 ⟨rfl,rfl⟩
   clear c8
   have z0:=M.out.vb.cell 0 _ rfl
   go_wp2_with fail
   refine (goff_any m.q.th 0 u wd _).mono ?_
   rintro e w4 ⟨rfl,b4⟩
   have M:=Lh (M.out.later b4)
   clear b4
   clear z0
   go_upto_region 6 with (first
    | (refine store_s rt_give rfl _ _ rfl w.heap.size 11 rfl (Gv.cells ⟨m.q.th,0,u,wd,sOffer⟩) rfl (th_sub M.out.vb.th 11 5 (by decide)) rfl (by kernel_rfl) ?_; intro an a8; have M:=Lh (M.out.sets (Gv.cells ⟨m.q.th,0,u,wd,sOffer⟩) 11 _ _ (by show 11+5≤16; decide)); rw [← a8] at M; clear a8))
   go_wp2_with (first
    | (refine load_b rt_gt rfl _ rfl w.heap.size rfl (Gt.cells { m.q with parked:=false,g:=⟨m.q.th,0,u,wd,sOffer⟩ }) M.out.vb ?_))
   refine (mto_any { m.q with parked:=false,g:=⟨m.q.th,0,u,wd,sOffer⟩ } gExtra _).mono ?_
   rintro e w5 ⟨rfl,b5⟩
   have M:=Lh (M.out.later b5)
   clear b5
   go_wp2_with (first
    | (refine load_b rt_gt rfl _ rfl w.heap.size rfl (Gt.cells { m.q with parked:=false,g:=⟨m.q.th,0,u,wd,sOffer⟩ }) M.out.vb ?_)
    | (refine store_b rt_gt rfl _ _ rfl (w.heap.size+1) rfl (Gt.cells { m.q with parked:=false,g:=⟨m.q.th,0,u,wd,sOffer⟩,st:=gExtra }) rfl M.out.tr rfl (by kernel_rfl) ?_; intro a6 I J; have a0:=Lh I; have a1:=Lh J; clear I J))
   refine bodyPost_ret (v:=Gt.val { m.q with parked:=false,g:=⟨m.q.th,0,u,wd,sOffer⟩,st:=gExtra }) (res_b rt_gt _ _ (w.heap.size+1) _ Tryz.results102 rfl a0.out) rfl ?_
   exact ⟨rfl,M.out.ret a1.out⟩
theorem mextra_any (w:World) {base:Nat} {z:Nat→Nat} {x:Wp} (m:Mg) (h:Wv base z w x m.s) (hg:Gon base x m.q.g m.s m.N) :
  Calls Tryz.prog 103 #[m.q.val,ptr x.pw] w (Mpost base z x w (extraM m).s (extraM m).q.val):=by
 obtain ⟨r,F⟩:∃ r,extraM m=r:=⟨_,rfl⟩
 have HR:=Lh F
 rw [F]
 clear F
 obtain ⟨u,a3⟩:∃ u,stepG ⟨m.q.g,m.s,m.N⟩=u:=⟨_,rfl⟩
 have W:=Lh a3
 clear a3
 obtain ⟨J,a2⟩:∃ J,dnB u.g=J:=⟨_,rfl⟩
 have Q:=Lh a2
 clear a2
 have HG:Hid (∀ w (z:Nat→Nat),Wv base z w x m.s→Calls Tryz.prog 124 #[.agg (Gv.cells m.q.g).toArray,ptr x.pw] w fun e w'=>e=.returned (.agg (Gv.cells u.g).toArray) ∧ ∃ col',Wv base col' w' x u.s∧Fw z w w'∧El w z col'):=Lh (fun w z h=>by have e:=hg w z h; rw [W.out] at e; exact e)
 have HD:Hid (∀ w,Calls Tryz.prog 123 #[.agg (Gv.cells u.g).toArray] w fun e w'=>e=.returned (.bool J)∧Below w.heap.size w w'):=Lh (fun w=>by have e:=gdn_any u.g w; rw [Q.out] at e; exact e)
 obtain ⟨W1,a4,V1,T1,B1,S1⟩:=boxes_gt m.q w
 obtain ⟨a6,m1⟩:=Me.start h B1 S1 V1 T1
 have M:=Lh m1
 clear m1 h
 clear V1 T1 B1 S1
 go_enter Tryz.func103,Tryz.ntmps103
 go_upto_region 1 with (fail)
 clear a4
 go_wp2_with (first
  | (refine load_s rt_give rfl _ rfl w.heap.size 11 rfl (Gv.cells m.q.g) (ra_sub M.out.vb.at_ 11 _ 5 rfl) rfl ?_))
 refine (HG.out _ _ M.out.wv).mono ?_
 rintro e w2 ⟨rfl,a7,h2,y2,l2⟩
 have M:=Lh (M.out.call h2 y2 l2)
 clear h2 y2 l2
 go_upto_region 2 with (first
  | (refine store_s rt_give rfl _ _ rfl w.heap.size 11 rfl (Gv.cells u.g) rfl (th_sub M.out.vb.th 11 5 (by decide)) rfl (by kernel_rfl) ?_; intro a8 a1; have M:=Lh (M.out.sets (Gv.cells u.g) 11 _ _ (by show 11+5≤16; decide)); rw [← a1] at M; clear a1))
 go_wp2_with (first
  | (refine load_s rt_give rfl _ rfl w.heap.size 11 rfl (Gv.cells u.g) (ra_sub M.out.vb.at_ 11 _ 5 rfl) rfl ?_))
 refine (HD.out _).mono ?_
 rintro e w3 ⟨rfl,b3⟩
 have M:=Lh (M.out.later b3)
 clear b3
 cases J with
 | false=>
  have F:r = { q:={ m.q with g:=u.g },s:=u.s,N:=u.N }:=by rw [← HR.out]; unfold extraM; simp only [W.out,Q.out]; rfl
  subst F
  go_wp2_with (first
   | (refine load_b rt_gt rfl _ rfl w.heap.size rfl (Gt.cells { m.q with g:=u.g }) M.out.vb ?_)
   | (refine store_b rt_gt rfl _ _ rfl (w.heap.size+1) rfl (Gt.cells { m.q with g:=u.g }) rfl M.out.tr rfl (by kernel_rfl) ?_; intro a5 G I; have Y:=Lh G; have a0:=Lh I; clear G I))
  refine bodyPost_ret (v:=Gt.val { m.q with g:=u.g }) (res_b rt_gt _ _ (w.heap.size+1) _ Tryz.results103 rfl Y.out) rfl ?_
  exact ⟨rfl,M.out.ret a0.out⟩
 | true=>
  have F:r = { q:={ m.q with g:=u.g,st:=gDone },s:=u.s,N:=u.N }:=by rw [← HR.out]; unfold extraM; simp only [W.out,Q.out]; rfl
  subst F
  go_wp2_with (first
   | (refine load_b rt_gt rfl _ rfl w.heap.size rfl (Gt.cells { m.q with g:=u.g }) M.out.vb ?_))
  refine (mto_any { m.q with g:=u.g } gDone _).mono ?_
  rintro e w4 ⟨rfl,b4⟩
  have M:=Lh (M.out.later b4)
  clear b4
  go_wp2_with (first
   | (refine load_b rt_gt rfl _ rfl w.heap.size rfl (Gt.cells { m.q with g:=u.g }) M.out.vb ?_)
   | (refine store_b rt_gt rfl _ _ rfl (w.heap.size+1) rfl (Gt.cells { m.q with g:=u.g,st:=gDone }) rfl M.out.tr rfl (by kernel_rfl) ?_; intro a5 G I; have Y:=Lh G; have a0:=Lh I; clear G I))
  refine bodyPost_ret (v:=Gt.val { m.q with g:=u.g,st:=gDone }) (res_b rt_gt _ _ (w.heap.size+1) _ Tryz.results103 rfl Y.out) rfl ?_
  exact ⟨rfl,M.out.ret a0.out⟩
end Go.Proofs.YtoiklelghfckgaaGreatDoor.Wo
