/- A part of the claim: the texts Mget. -/
import Derived.Test.YtoiklelghfckgaaGreatDoorZGMeth
import Derived.Test.YtoiklelghfckgaaGreatDoorZMgetMath
import Derived.Test.YtoiklelghfckgaaGreatDoorZGGive
set_option maxRecDepth 100000
set_option maxHeartbeats 8000000
set_option linter.unusedVariables false
namespace Go.Proofs.YtoiklelghfckgaaGreatDoor.Wo
open Go Go.ChangeShapes Go.WideShapes Go.ChangeAt Go.RowKit Go.Deep Go.Maps Rw Hi Mt Ba
open Cn (Cf cfE)
theorem rt_gt:RowT 68 16:=⟨by kernel_rfl,by kernel_rfl,by kernel_rfl⟩
theorem boxes_gt (q:Gt) (w:World):∃ W,(w.alloc (.cells q.cells.toArray 68)).alloc (.cells #[.int .i64 0,.int .u64 0,.string ⟨#[]⟩,.int .u64 0,.int .u64 0,.bool false,.slice none 0 0,.int .i64 0,.bool false,.int .i64 0,.int .u64 0,.int .i64 0,.int .i64 0,.int .u64 0,.int .u64 0,.string ⟨#[]⟩] 68)=W ∧
  Vb W w.heap.size 16 q.cells∧W.there (w.heap.size+1) 0 16∧Below w.heap.size w W∧W.heap.size=w.heap.size+2:=boxes_b 68 q.cells [.int .i64 0,.int .u64 0,.string ⟨#[]⟩,.int .u64 0,.int .u64 0,.bool false,.slice none 0 0,.int .i64 0,.bool false,.int .i64 0,.int .u64 0,.int .i64 0,.int .i64 0,.int .u64 0,.int .u64 0,.string ⟨#[]⟩] w rfl rfl
theorem box_gt (q:Gt) (w:World):∃ W,w.alloc (.cells q.cells.toArray 68)=W∧Vb W w.heap.size 16 q.cells∧Below w.heap.size w W∧W.heap.size=w.heap.size+1:=box_b 68 q.cells w rfl
def actD_gt:DataW Unit:=(DataW.put (DataW.put (DataW.put (DataW.put (DataW.put (DataW.put (DataW.put (DataW.put (DataW.put (DataW.put (DataW.put (DataW.put (DataW.put (DataW.put (DataW.put (.map [] : DataW Unit) (.string [115,116,97,114,116]) (.lit (.int .u64 ((89:Nat)+1:Int)))) (.string [110,101,97,114]) (.lit (.int .u64 ((90:Nat)+1:Int)))) (.string [115,110,97,112]) (.lit (.int .u64 ((91:Nat)+1:Int)))) (.string [108,111,97,100]) (.lit (.int .u64 ((92:Nat)+1:Int)))) (.string [115,119,97,112]) (.lit (.int .u64 ((93:Nat)+1:Int)))) (.string [103,114,111,119]) (.lit (.int .u64 ((94:Nat)+1:Int)))) (.string [111,112,101,110]) (.lit (.int .u64 ((95:Nat)+1:Int)))) (.string [115,104,114,105,110,107]) (.lit (.int .u64 ((96:Nat)+1:Int)))) (.string [112,117,98,108,105,115,104]) (.lit (.int .u64 ((97:Nat)+1:Int)))) (.string [100,114,111,112]) (.lit (.int .u64 ((98:Nat)+1:Int)))) (.string [117,110,108,105,118,101]) (.lit (.int .u64 ((99:Nat)+1:Int)))) (.string [112,97,114,107]) (.lit (.int .u64 ((100:Nat)+1:Int)))) (.string [119,97,105,116]) (.lit (.int .u64 ((101:Nat)+1:Int)))) (.string [108,101,97,118,101]) (.lit (.int .u64 ((102:Nat)+1:Int)))) (.string [101,120,116,114,97]) (.lit (.int .u64 ((103:Nat)+1:Int))))
theorem acts_gt (w:World):Calls Tryz.prog 40 #[] w fun e w'=>∃ m,e=.returned (.map (some m))∧(∃ n,w'.ownsMap Tryz.prog 9 fnR m n actD_gt)∧Below w.heap.size w w':=by
 have b0:=@run_makeMap Tryz.prog
 have hk:∀ s:ByteArray,s.size≤maxLen→keyOf Tryz.prog 9 (.string s)=some (.string s.data.toList):=fun s hs=>WideMaps.keyOf_string_mk Tryz.underlying9 hs
 go_enter Tryz.func40,Tryz.ntmps40
 have al:Hid (Below w.heap.size w (w.alloc (.map #[] 0))):=Lh ((Below.refl _ _).alloc (Nat.le_refl _) _)
 have aF:Hid ((w.alloc (.map #[] 0)).ownsMap Tryz.prog 9 fnR w.heap.size 0 (.map [] : DataW Unit)):=Lh (World.ownsMap_made w _ _ _)
 go_wp2_with (first
  | (refine insert_own (w.alloc (.map #[] 0)) rfl _ _ _ _ rfl 9 111 lawS Tryz.underlying112 w.heap.size 0 _ rfl aF.out (by decide) _ _ _ rfl rfl (hk _ (by decide)) (.lit (.int .u64 ((89:Nat)+1:Int))) [] rfl ?_; intro v1 a5 h; have aG:=Lh a5; have an:=Lh (grown_low al.out h (Nat.le_refl _)); clear a5 h)
  | (refine insert_own v1 rfl _ _ _ _ rfl 9 111 lawS Tryz.underlying112 w.heap.size 1 _ rfl aG.out (by decide) _ _ _ rfl rfl (hk _ (by decide)) (.lit (.int .u64 ((90:Nat)+1:Int))) [] rfl ?_; intro v2 ad Q; have aN:=Lh ad; have ax:=Lh (grown_low an.out Q (Nat.le_refl _)); clear ad Q)
  | (refine insert_own v2 rfl _ _ _ _ rfl 9 111 lawS Tryz.underlying112 w.heap.size 2 _ rfl aN.out (by decide) _ _ _ rfl rfl (hk _ (by decide)) (.lit (.int .u64 ((91:Nat)+1:Int))) [] rfl ?_; intro v3 ae W; have aO:=Lh ae; have ay:=Lh (grown_low ax.out W (Nat.le_refl _)); clear ae W)
  | (refine insert_own v3 rfl _ _ _ _ rfl 9 111 lawS Tryz.underlying112 w.heap.size 3 _ rfl aO.out (by decide) _ _ _ rfl rfl (hk _ (by decide)) (.lit (.int .u64 ((92:Nat)+1:Int))) [] rfl ?_; intro v4 af Y; have aP:=Lh af; have az:=Lh (grown_low ay.out Y (Nat.le_refl _)); clear af Y)
  | (refine insert_own v4 rfl _ _ _ _ rfl 9 111 lawS Tryz.underlying112 w.heap.size 4 _ rfl aP.out (by decide) _ _ _ rfl rfl (hk _ (by decide)) (.lit (.int .u64 ((93:Nat)+1:Int))) [] rfl ?_; intro v5 ag a0; have aQ:=Lh ag; have aA:=Lh (grown_low az.out a0 (Nat.le_refl _)); clear ag a0)
  | (refine insert_own v5 rfl _ _ _ _ rfl 9 111 lawS Tryz.underlying112 w.heap.size 5 _ rfl aQ.out (by decide) _ _ _ rfl rfl (hk _ (by decide)) (.lit (.int .u64 ((94:Nat)+1:Int))) [] rfl ?_; intro v6 ah a1; have aR:=Lh ah; have aB:=Lh (grown_low aA.out a1 (Nat.le_refl _)); clear ah a1)
  | (refine insert_own v6 rfl _ _ _ _ rfl 9 111 lawS Tryz.underlying112 w.heap.size 6 _ rfl aR.out (by decide) _ _ _ rfl rfl (hk _ (by decide)) (.lit (.int .u64 ((95:Nat)+1:Int))) [] rfl ?_; intro v7 ai a2; have aS:=Lh ai; have aC:=Lh (grown_low aB.out a2 (Nat.le_refl _)); clear ai a2)
  | (refine insert_own v7 rfl _ _ _ _ rfl 9 111 lawS Tryz.underlying112 w.heap.size 7 _ rfl aS.out (by decide) _ _ _ rfl rfl (hk _ (by decide)) (.lit (.int .u64 ((96:Nat)+1:Int))) [] rfl ?_; intro v8 aj a3; have aT:=Lh aj; have aD:=Lh (grown_low aC.out a3 (Nat.le_refl _)); clear aj a3)
  | (refine insert_own v8 rfl _ _ _ _ rfl 9 111 lawS Tryz.underlying112 w.heap.size 8 _ rfl aT.out (by decide) _ _ _ rfl rfl (hk _ (by decide)) (.lit (.int .u64 ((97:Nat)+1:Int))) [] rfl ?_; intro v9 ak a4; have aU:=Lh ak; have aE:=Lh (grown_low aD.out a4 (Nat.le_refl _)); clear ak a4)
  | (refine insert_own v9 rfl _ _ _ _ rfl 9 111 lawS Tryz.underlying112 w.heap.size 9 _ rfl aU.out (by decide) _ _ _ rfl rfl (hk _ (by decide)) (.lit (.int .u64 ((98:Nat)+1:Int))) [] rfl ?_; intro aV a6 u; have aH:=Lh a6; have ao:=Lh (grown_low aE.out u (Nat.le_refl _)); clear a6 u)
  | (refine insert_own aV rfl _ _ _ _ rfl 9 111 lawS Tryz.underlying112 w.heap.size 10 _ rfl aH.out (by decide) _ _ _ rfl rfl (hk _ (by decide)) (.lit (.int .u64 ((99:Nat)+1:Int))) [] rfl ?_; intro aW a7 z; have aI:=Lh a7; have aq:=Lh (grown_low ao.out z (Nat.le_refl _)); clear a7 z)
  | (refine insert_own aW rfl _ _ _ _ rfl 9 111 lawS Tryz.underlying112 w.heap.size 11 _ rfl aI.out (by decide) _ _ _ rfl rfl (hk _ (by decide)) (.lit (.int .u64 ((100:Nat)+1:Int))) [] rfl ?_; intro aX a8 F; have aJ:=Lh a8; have ar:=Lh (grown_low aq.out F (Nat.le_refl _)); clear a8 F)
  | (refine insert_own aX rfl _ _ _ _ rfl 9 111 lawS Tryz.underlying112 w.heap.size 12 _ rfl aJ.out (by decide) _ _ _ rfl rfl (hk _ (by decide)) (.lit (.int .u64 ((101:Nat)+1:Int))) [] rfl ?_; intro aY a9 G; have aK:=Lh a9; have au:=Lh (grown_low ar.out G (Nat.le_refl _)); clear a9 G)
  | (refine insert_own aY rfl _ _ _ _ rfl 9 111 lawS Tryz.underlying112 w.heap.size 13 _ rfl aK.out (by decide) _ _ _ rfl rfl (hk _ (by decide)) (.lit (.int .u64 ((102:Nat)+1:Int))) [] rfl ?_; intro aZ aa I; have aL:=Lh aa; have av:=Lh (grown_low au.out I (Nat.le_refl _)); clear aa I)
  | (refine insert_own aZ rfl _ _ _ _ rfl 9 111 lawS Tryz.underlying112 w.heap.size 14 _ rfl aL.out (by decide) _ _ _ rfl rfl (hk _ (by decide)) (.lit (.int .u64 ((103:Nat)+1:Int))) [] rfl ?_; intro b2 ac J; have aM:=Lh ac; have aw:=Lh (grown_low av.out J (Nat.le_refl _)); clear ac J))
 go_wp2_with fail
 go_ret
 exact ⟨_,rfl,⟨_,aM.out⟩,aw.out⟩
theorem eq_fn_gt (w:World) (h:Fn) (first cap:Array Value):(binOp .eql 111 (.func h first cap) .nilFunc).run Tryz.prog w=.ok (.bool false) w:=by kernel_rfl
theorem eq_nil_gt (w:World):(binOp .eql 111 .nilFunc .nilFunc).run Tryz.prog w=.ok (.bool true) w:=by kernel_rfl
theorem zero_fn_gt (w:World):(zeroValue 111).run Tryz.prog w=.ok .nilFunc w:=by kernel_rfl
theorem gt_act (w:World) {base:Nat} {z:Nat→Nat} {x:Wp} {s s':Ws} (q r:Gt) (h:Wv base z w x s) (f:FuncId) (a1:actD_gt.atKey (.string q.st.data.toList) (.lit (.int .u64 0))=.lit (.int .u64 ((f:Nat)+1:Int))) (a3:q.st.size≤maxLen)
  (hK:∀ w,(callFunc f #[.agg q.cells.toArray,ptr x.pw]).run Tryz.prog w=.ok (.enter f #[.agg q.cells.toArray,ptr x.pw]) w)
  (hD:∀ (W:World) (z:Nat→Nat),Wv base z W x s→Calls Tryz.prog f #[.agg q.cells.toArray,ptr x.pw] W (Mpost base z x W s' r.val)) :
  Calls Tryz.prog 9 #[q.val,ptr x.pw] w (Mpost base z x w s' r.val):=by
 obtain ⟨W1,aa,Y,Q,I,J⟩:=boxes_gt q w
 obtain ⟨ad,m1⟩:=Me.start h I J Y Q
 have M:=Lh m1
 have a7:=Lh a1
 have HZ:=Lh a3
 have a6:=Lh hD
 clear hD
 clear m1 Y Q I J h a1 a3
 go_enter Tryz.func9,Tryz.ntmps9
 go_upto_region 1 with (fail)
 clear aa
 go_wp2_with fail
 have M:=Lh (M.out.later (Below.refl _ _).drew)
 have u:Hid (Vb W1.drew w.heap.size 16 q.cells):=Lh M.out.vb
 refine reg_start 5 (fun w'=>Vb w' w.heap.size 16 q.cells) (by kernel_rfl) (by kernel_rfl) ?_
 intro a0
 have F:=Lh a0
 clear a0
 refine rq 1 F.out u.out rfl ?_
 refine rq 2 F.out u.out rfl ?_ (hv:=fun w' hw=>by (have kz:=hw.cell 2 _ rfl; go_simp; exact rfl))
 refine reg_only 0 rfl (by kernel_rfl) rfl ?_
 unfold Oper.wp
 go_simp
 refine (acts_gt _).mono ?_
 rintro e w2 ⟨m,rfl,⟨n,a2⟩,b2⟩
 have M:=Lh (M.out.later b2)
 refine ⟨M.out.vb,?_⟩
 clear u
 have u:=Lh M.out.vb
 obtain ⟨fv,ps,ac,G⟩:=a2.lookup lawS Tryz.underlying112 (zero_fn_gt w2) (show fnR .nilFunc=some (.lit (.int .u64 0),[]) from rfl) (WideMaps.keyOf_string_mk Tryz.underlying9 HZ.out)
 rw [a7.out] at G
 obtain rfl:=fnR_inv G
 clear a2 b2 G
 refine reg_only 3 rfl (by kernel_rfl) rfl ?_
 unfold Oper.wp
 go_simp
 refine ⟨u.out,?_⟩
 clear ac
 refine rq 4 F.out u.out rfl ?_
 refine reg_done (by kernel_rfl) ?_
 clear u
 have af:=eq_fn_gt
 have ag:=eq_nil_gt
 go_wp2_with (first
  | (refine load_b rt_gt rfl _ rfl w.heap.size rfl q.cells M.out.vb ?_))
 refine (a6.out _ _ M.out.wv).mono ?_
 rintro e w3 ⟨rfl,ae,h3,z3,l3⟩
 have M:=Lh (M.out.call h3 z3 l3)
 clear h3 z3 l3
 go_wp2_with (first
  | (refine store_b rt_gt rfl _ _ rfl (w.heap.size+1) rfl r.cells rfl M.out.tr rfl (by kernel_rfl) ?_; intro w9 a4 a5; have a8:=Lh a4; have a9:=Lh a5; clear a4 a5))
 refine bodyPost_ret (v:=r.val) (res_b rt_gt _ _ (w.heap.size+1) _ Tryz.results9 rfl a8.out) rfl ?_
 exact ⟨rfl,M.out.ret a9.out⟩
theorem gt_none (w:World) {base:Nat} {Y:Nat→Nat} {x:Wp} {s:Ws} (q:Gt) (h:Wv base Y w x s) (a1:actD_gt.atKey (.string q.st.data.toList) (.lit (.int .u64 0))=.lit (.int .u64 0)) (a3:q.st.size≤maxLen) :
  Calls Tryz.prog 9 #[q.val,ptr x.pw] w (Mpost base Y x w s q.val):=by
 obtain ⟨W1,a9,Q,J,G,I⟩:=boxes_gt q w
 obtain ⟨ac,m1⟩:=Me.start h G I Q J
 have M:=Lh m1
 have a6:=Lh a1
 have HZ:=Lh a3
 skip
 clear m1 Q J G I h a1 a3
 go_enter Tryz.func9,Tryz.ntmps9
 go_upto_region 1 with (fail)
 clear a9
 go_wp2_with fail
 have M:=Lh (M.out.later (Below.refl _ _).drew)
 have u:Hid (Vb W1.drew w.heap.size 16 q.cells):=Lh M.out.vb
 refine reg_start 5 (fun w'=>Vb w' w.heap.size 16 q.cells) (by kernel_rfl) (by kernel_rfl) ?_
 intro a0
 have z:=Lh a0
 clear a0
 refine rq 1 z.out u.out rfl ?_
 refine rq 2 z.out u.out rfl ?_ (hv:=fun w' hw=>by (have kz:=hw.cell 2 _ rfl; go_simp; exact rfl))
 refine reg_only 0 rfl (by kernel_rfl) rfl ?_
 unfold Oper.wp
 go_simp
 refine (acts_gt _).mono ?_
 rintro e w2 ⟨m,rfl,⟨n,a2⟩,W⟩
 have M:=Lh (M.out.later W)
 refine ⟨M.out.vb,?_⟩
 clear u
 have u:=Lh M.out.vb
 obtain ⟨fv,ps,aa,F⟩:=a2.lookup lawS Tryz.underlying112 (zero_fn_gt w2) (show fnR .nilFunc=some (.lit (.int .u64 0),[]) from rfl) (WideMaps.keyOf_string_mk Tryz.underlying9 HZ.out)
 rw [a6.out] at F
 obtain rfl:=fnR_nil F
 clear a2 W F
 refine reg_only 3 rfl (by kernel_rfl) rfl ?_
 unfold Oper.wp
 go_simp
 refine ⟨u.out,?_⟩
 clear aa
 refine rq 4 z.out u.out rfl ?_
 refine reg_done (by kernel_rfl) ?_
 clear u
 have ad:=eq_fn_gt
 have ae:=eq_nil_gt
 go_wp2_with (first
  | (refine load_b rt_gt rfl _ rfl w.heap.size rfl q.cells M.out.vb ?_)
  | (refine store_b rt_gt rfl _ _ rfl (w.heap.size+1) rfl q.cells rfl M.out.tr rfl (by kernel_rfl) ?_; intro w9 a4 a5; have a7:=Lh a4; have a8:=Lh a5; clear a4 a5))
 refine bodyPost_ret (v:=q.val) (res_b rt_gt _ _ (w.heap.size+1) _ Tryz.results9 rfl a7.out) rfl ?_
 exact ⟨rfl,M.out.ret a8.out⟩
theorem gt_actL (w:World) {base:Nat} {z:Nat→Nat} {x:Wp} {s s':Ws} (q:Gt) (r:Option Addr→Nat→Nat→Gt) (h:Wv base z w x s) {S:List Int} (f:FuncId) (a1:actD_gt.atKey (.string q.st.data.toList) (.lit (.int .u64 0))=.lit (.int .u64 ((f:Nat)+1:Int))) (a3:q.st.size≤maxLen)
  (hK:∀ w,(callFunc f #[.agg q.cells.toArray,ptr x.pw]).run Tryz.prog w=.ok (.enter f #[.agg q.cells.toArray,ptr x.pw]) w)
  (hD:∀ (W:World) (z:Nat→Nat),Wv base z W x s→Calls Tryz.prog f #[.agg q.cells.toArray,ptr x.pw] W (Lpost base z x W s' S fun A n c=>(r A n c).val)) :
  Calls Tryz.prog 9 #[q.val,ptr x.pw] w (Lpost base z x w s' S fun A n c=>(r A n c).val):=by
 obtain ⟨W1,aa,Y,Q,I,J⟩:=boxes_gt q w
 obtain ⟨ad,m1⟩:=Me.start h I J Y Q
 have M:=Lh m1
 have a7:=Lh a1
 have HZ:=Lh a3
 have a6:=Lh hD
 clear hD
 clear m1 Y Q I J h a1 a3
 go_enter Tryz.func9,Tryz.ntmps9
 go_upto_region 1 with (fail)
 clear aa
 go_wp2_with fail
 have M:=Lh (M.out.later (Below.refl _ _).drew)
 have u:Hid (Vb W1.drew w.heap.size 16 q.cells):=Lh M.out.vb
 refine reg_start 5 (fun w'=>Vb w' w.heap.size 16 q.cells) (by kernel_rfl) (by kernel_rfl) ?_
 intro a0
 have F:=Lh a0
 clear a0
 refine rq 1 F.out u.out rfl ?_
 refine rq 2 F.out u.out rfl ?_ (hv:=fun w' hw=>by (have kz:=hw.cell 2 _ rfl; go_simp; exact rfl))
 refine reg_only 0 rfl (by kernel_rfl) rfl ?_
 unfold Oper.wp
 go_simp
 refine (acts_gt _).mono ?_
 rintro e w2 ⟨m,rfl,⟨n,a2⟩,b2⟩
 have M:=Lh (M.out.later b2)
 refine ⟨M.out.vb,?_⟩
 clear u
 have u:=Lh M.out.vb
 obtain ⟨fv,ps,ac,G⟩:=a2.lookup lawS Tryz.underlying112 (zero_fn_gt w2) (show fnR .nilFunc=some (.lit (.int .u64 0),[]) from rfl) (WideMaps.keyOf_string_mk Tryz.underlying9 HZ.out)
 rw [a7.out] at G
 obtain rfl:=fnR_inv G
 clear a2 b2 G
 refine reg_only 3 rfl (by kernel_rfl) rfl ?_
 unfold Oper.wp
 go_simp
 refine ⟨u.out,?_⟩
 clear ac
 refine rq 4 F.out u.out rfl ?_
 refine reg_done (by kernel_rfl) ?_
 clear u
 have af:=eq_fn_gt
 have ag:=eq_nil_gt
 go_wp2_with (first
  | (refine load_b rt_gt rfl _ rfl w.heap.size rfl q.cells M.out.vb ?_))
 refine (a6.out _ _ M.out.wv).mono ?_
 rintro e w3 ⟨A,n,c,rfl,ae,h3,z3,l3,hL⟩
 have M:=Lh (M.out.call h3 z3 l3)
 have HL:=Lh hL
 clear h3 z3 l3 hL
 go_wp2_with (first
  | (refine store_b rt_gt rfl _ _ rfl (w.heap.size+1) rfl (r A n c).cells rfl M.out.tr rfl (by kernel_rfl) ?_; intro w9 a4 a5; have a8:=Lh a4; have a9:=Lh a5; clear a4 a5))
 refine bodyPost_ret (v:=(r A n c).val) (res_b rt_gt _ _ (w.heap.size+1) _ Tryz.results9 rfl a8.out) rfl ?_
 exact ⟨A,n,c,rfl,M.out.retL a9.out HL.out⟩
structure Hok (m:Mg):Prop where
 mk_:m.s.M=Le.mk m.N
 ev:m.s.ev.length≤1000
 ll:m.s.L.length≤1000
 tl:m.s.T.length≤1000
 lk:U64 m.s.leak
 nw:U64 m.s.now
theorem mto_any (q:Gt) (t:ByteArray) (w:World) :
  Calls Tryz.prog 152 #[q.val,.string t] w (fun e w'=>e=.returned (q.to t).val∧Below w.heap.size w w'):=by
 obtain ⟨W,Y,F,z,h,u⟩:=boxes_gt q w
 have M:=Lh (Mp.start h u F z)
 clear F z h u
 go_enter Tryz.func152,Tryz.ntmps152
 go_upto_region 1 with (fail)
 clear Y
 have z2:=M.out.vb.cell 2 _ rfl
 have f2:=M.out.free 2 (by decide)
 go_upto_region 2 with (fail)
 have M:=Lh (M.out.set 2 (by decide) (.string t))
 clear z2 f2
 generalize (W.setCell ⟨w.heap.size,2,none⟩ (.string t))=w2 at *
 go_wp2_with (first
  | (refine load_b rt_gt rfl _ rfl w.heap.size rfl (Gt.cells (q.to t)) M.out.vb ?_)
  | (refine store_b rt_gt rfl _ _ rfl (w.heap.size+1) rfl (Gt.cells (q.to t)) rfl M.out.tr rfl (by kernel_rfl) ?_; intro a0 G I; have J:=Lh G; have Q:=Lh I; clear G I))
 refine bodyPost_ret (v:=(q.to t).val) (res_b rt_gt _ _ (w.heap.size+1) _ Tryz.results152 rfl J.out) rfl ?_
 exact ⟨rfl,M.out.ret Q.out⟩
theorem lookM_yes {q:Gt} {p:Int} (h:atB q.S p=true):lookM q p = { q with place:=p,id:=atI q.S p,st:=gLoad }:=by
 have h:=of_decide_eq_true h
 unfold lookM atI
 rw [if_pos h,if_pos h]
theorem lookM_no {q:Gt} {p:Int} (h:atB q.S p=false):lookM q p = { q with place:=p,st:=if q.parked=true then gWait else gGrow }:=by
 have h:=of_decide_eq_false h
 unfold lookM
 rw [if_neg h]
 split <;> rfl
theorem mlook_any (w:World) {base:Nat} {a1:Nat→Nat} (q:Gt) (p:Int) (hL:Lr base a1 w q.A q.n q.c q.S) :
  Calls Tryz.prog 154 #[q.val,.int .i64 p] w (fun e w'=>e=.returned (lookM q p).val∧Below w.heap.size w w'):=by
 have HL:=Lh hL
 clear hL
 obtain ⟨r,z⟩:∃ r,lookM q p=r:=⟨_,rfl⟩
 have HR:=Lh z
 rw [z]
 clear z
 obtain ⟨u,a2⟩:∃ u,atI q.S p=u:=⟨_,rfl⟩
 have a0:=Lh a2
 clear a2
 obtain ⟨bk,a3⟩:∃ bk,atB q.S p=bk:=⟨_,rfl⟩
 have W:=Lh a3
 clear a3
 obtain ⟨pk,a4⟩:∃ pk,q.parked=pk:=⟨_,rfl⟩
 have Y:=Lh a4
 clear a4
 have HC:Hid (∀ w',Lr base a1 w' q.A q.n q.c q.S→Calls Tryz.prog 192 #[.agg #[.slice q.A q.n q.c],.int .i64 p] w' fun e a7=>e=.returned (.tuple #[.int .u64 u,.bool bk])∧Below w'.heap.size w' a7):=Lh (fun w' h=>by have e:=sat_any w' h p; rw [a0.out,W.out] at e; exact e)
 obtain ⟨W1,a6,V1,T1,B1,S1⟩:=boxes_gt q w
 have M:=Lh (Mp.start B1 S1 V1 T1)
 clear V1 T1 B1 S1
 go_enter Tryz.func154,Tryz.ntmps154
 go_upto_region 1 with (fail)
 clear a6
 have z7:=M.out.vb.cell 7 _ rfl
 have f7:=M.out.free 7 (by decide)
 go_upto_region 2 with (fail)
 have M:=Lh (M.out.set 7 (by decide) (.int .i64 p))
 clear z7 f7
 generalize (W1.setCell ⟨w.heap.size,7,none⟩ (.int .i64 p))=w2 at *
 have z6:=M.out.vb.cell 6 _ rfl
 go_wp2_with (first
  | (refine load_b rt_gt rfl _ rfl w.heap.size rfl (Gt.cells { q with place:=p }) M.out.vb ?_))
 refine (HC.out _ (HL.out.later M.out.bl)).mono ?_
 rintro e w3 ⟨rfl,b3⟩
 have M:=Lh (M.out.later b3)
 clear b3
 clear z6
 have z6:=M.out.vb.cell 6 _ rfl
 clear z6
 cases bk with
 | false=>
  cases pk with
  | false=>
   have z:r = { q with place:=p,st:=gGrow }:=by rw [← HR.out]; rw [lookM_no W.out,Y.out]; rfl
   subst z
   have z8:w3.cell? ⟨w.heap.size,8,none⟩=some (.bool false):=(M.out.vb.cell 8 _ rfl).trans (congrArg (fun b=>some (Value.bool b)) Y.out)
   go_wp2_with (first
    | (refine load_b rt_gt rfl _ rfl w.heap.size rfl (Gt.cells { q with place:=p }) M.out.vb ?_))
   refine (mto_any { q with place:=p } gGrow _).mono ?_
   rintro e w4 ⟨rfl,Q⟩
   have M:=Lh (M.out.later Q)
   clear Q
   go_wp2_with (first
    | (refine load_b rt_gt rfl _ rfl w.heap.size rfl (Gt.cells { q with place:=p }) M.out.vb ?_)
    | (refine store_b rt_gt rfl _ _ rfl (w.heap.size+1) rfl (Gt.cells { q with place:=p,st:=gGrow }) rfl M.out.tr rfl (by kernel_rfl) ?_; intro a5 F G; have I:=Lh F; have J:=Lh G; clear F G))
   refine bodyPost_ret (v:=Gt.val { q with place:=p,st:=gGrow }) (res_b rt_gt _ _ (w.heap.size+1) _ Tryz.results154 rfl I.out) rfl ?_
   exact ⟨rfl,M.out.ret J.out⟩
  | true=>
   have z:r = { q with place:=p,st:=gWait }:=by rw [← HR.out]; rw [lookM_no W.out,Y.out]; rfl
   subst z
   have z8:w3.cell? ⟨w.heap.size,8,none⟩=some (.bool true):=(M.out.vb.cell 8 _ rfl).trans (congrArg (fun b=>some (Value.bool b)) Y.out)
   go_wp2_with (first
    | (refine load_b rt_gt rfl _ rfl w.heap.size rfl (Gt.cells { q with place:=p }) M.out.vb ?_))
   refine (mto_any { q with place:=p } gWait _).mono ?_
   rintro e w4 ⟨rfl,Q⟩
   have M:=Lh (M.out.later Q)
   clear Q
   go_wp2_with (first
    | (refine load_b rt_gt rfl _ rfl w.heap.size rfl (Gt.cells { q with place:=p }) M.out.vb ?_)
    | (refine store_b rt_gt rfl _ _ rfl (w.heap.size+1) rfl (Gt.cells { q with place:=p,st:=gWait }) rfl M.out.tr rfl (by kernel_rfl) ?_; intro a5 F G; have I:=Lh F; have J:=Lh G; clear F G))
   refine bodyPost_ret (v:=Gt.val { q with place:=p,st:=gWait }) (res_b rt_gt _ _ (w.heap.size+1) _ Tryz.results154 rfl I.out) rfl ?_
   exact ⟨rfl,M.out.ret J.out⟩
 | true=>
  have z:r = { q with place:=p,id:=u,st:=gLoad }:=by rw [← HR.out]; rw [lookM_yes W.out,a0.out]
  subst z
  have z3:=M.out.vb.cell 3 _ rfl
  have f3:=M.out.free 3 (by decide)
  go_upto_region 5 with (fail)
  have M:=Lh (M.out.set 3 (by decide) (.int .u64 u))
  clear z3 f3
  generalize (w3.setCell ⟨w.heap.size,3,none⟩ (.int .u64 u))=w4 at *
  go_wp2_with (first
   | (refine load_b rt_gt rfl _ rfl w.heap.size rfl (Gt.cells { q with place:=p,id:=u }) M.out.vb ?_))
  refine (mto_any { q with place:=p,id:=u } gLoad _).mono ?_
  rintro e w5 ⟨rfl,b5⟩
  have M:=Lh (M.out.later b5)
  clear b5
  go_wp2_with (first
   | (refine load_b rt_gt rfl _ rfl w.heap.size rfl (Gt.cells { q with place:=p,id:=u }) M.out.vb ?_)
   | (refine store_b rt_gt rfl _ _ rfl (w.heap.size+1) rfl (Gt.cells { q with place:=p,id:=u,st:=gLoad }) rfl M.out.tr rfl (by kernel_rfl) ?_; intro a5 F G; have I:=Lh F; have J:=Lh G; clear F G))
  refine bodyPost_ret (v:=Gt.val { q with place:=p,id:=u,st:=gLoad }) (res_b rt_gt _ _ (w.heap.size+1) _ Tryz.results154 rfl I.out) rfl ?_
  exact ⟨rfl,M.out.ret J.out⟩
theorem mnext_any (w:World) {base:Nat} {a1:Nat→Nat} (q:Gt) (hL:Lr base a1 w q.A q.n q.c q.S) :
  Calls Tryz.prog 155 #[q.val] w (fun e w'=>e=.returned (nextM q).val∧Below w.heap.size w w'):=by
 have HL:=Lh hL
 clear hL
 obtain ⟨r,h⟩:∃ r,nextM q=r:=⟨_,rfl⟩
 have W:=Lh h
 rw [h]
 clear h
 obtain ⟨nr,a0⟩:∃ nr,q.near=nr:=⟨_,rfl⟩
 have G:=Lh a0
 clear a0
 obtain ⟨W1,a2,V1,T1,Q,Y⟩:=boxes_gt q w
 have M:=Lh (Mp.start Q Y V1 T1)
 clear V1 T1 Q Y
 go_enter Tryz.func155,Tryz.ntmps155
 go_upto_region 1 with (fail)
 clear a2
 cases nr with
 | false=>
  have h:r=lookM q (wrap64 (q.place+1)):=by rw [← W.out]; unfold nextM; rw [G.out]; rfl
  subst h
  have z5:W1.cell? ⟨w.heap.size,5,none⟩=some (.bool false):=(M.out.vb.cell 5 _ rfl).trans (congrArg (fun b=>some (Value.bool b)) G.out)
  have z7:=M.out.vb.cell 7 _ rfl
  go_wp2_with (first
   | (refine load_b rt_gt rfl _ rfl w.heap.size rfl (q.cells) M.out.vb ?_))
  refine (mlook_any _ q (wrap64 (q.place+1)) (HL.out.later M.out.bl)).mono ?_
  rintro e w2 ⟨rfl,u⟩
  have M:=Lh (M.out.later u)
  clear u
  go_wp2_with (first
   | (refine load_b rt_gt rfl _ rfl w.heap.size rfl (q.cells) M.out.vb ?_)
   | (refine store_b rt_gt rfl _ _ rfl (w.heap.size+1) rfl (Gt.cells (lookM q (wrap64 (q.place+1)))) rfl M.out.tr rfl (by kernel_rfl) ?_; intro a3 z F; have I:=Lh z; have J:=Lh F; clear z F))
  refine bodyPost_ret (v:=Gt.val (lookM q (wrap64 (q.place+1)))) (res_b rt_gt _ _ (w.heap.size+1) _ Tryz.results155 rfl I.out) rfl ?_
  exact ⟨rfl,M.out.ret J.out⟩
 | true=>
  have h:r=q.to gNear:=by rw [← W.out]; unfold nextM; rw [G.out]; rfl
  subst h
  have z5:W1.cell? ⟨w.heap.size,5,none⟩=some (.bool true):=(M.out.vb.cell 5 _ rfl).trans (congrArg (fun b=>some (Value.bool b)) G.out)
  go_wp2_with (first
   | (refine load_b rt_gt rfl _ rfl w.heap.size rfl (q.cells) M.out.vb ?_))
  refine (mto_any q gNear _).mono ?_
  rintro e w2 ⟨rfl,u⟩
  have M:=Lh (M.out.later u)
  clear u
  go_wp2_with (first
   | (refine load_b rt_gt rfl _ rfl w.heap.size rfl (q.cells) M.out.vb ?_)
   | (refine store_b rt_gt rfl _ _ rfl (w.heap.size+1) rfl (Gt.cells (q.to gNear)) rfl M.out.tr rfl (by kernel_rfl) ?_; intro a3 z F; have I:=Lh z; have J:=Lh F; clear z F))
  refine bodyPost_ret (v:=Gt.val (q.to gNear)) (res_b rt_gt _ _ (w.heap.size+1) _ Tryz.results155 rfl I.out) rfl ?_
  exact ⟨rfl,M.out.ret J.out⟩
theorem mends_any (w:World) {base:Nat} {Y:Nat→Nat} {x:Wp} (m:Mg) (h:Wv base Y w x m.s) (e:Int) (a6:m.s.ev.length≤1000) :
  Calls Tryz.prog 151 #[m.q.val,ptr x.pw,.int .i64 e] w (Mpost base Y x w (endsM m e).s (endsM m e).q.val):=by
 obtain ⟨Q,a5,J,I,F,G⟩:=boxes_gt m.q w
 obtain ⟨a7,m1⟩:=Me.start h F G J I
 have M:=Lh m1
 clear m1 h
 clear J I F G
 go_enter Tryz.func151,Tryz.ntmps151
 go_upto_region 1 with (fail)
 clear a5
 go_wp2_with fail
 have M:=Lh (M.out.later (Below.refl _ _).drew)
 have u:Hid (Vb Q.drew w.heap.size 16 (m.q.cells)∧Wc Q.drew x m.s):=Lh ⟨M.out.vb,M.out.wv.cells⟩
 refine reg_start 7 (fun w'=>Vb w' w.heap.size 16 (m.q.cells)∧Wc w' x m.s) (by kernel_rfl) (by kernel_rfl) ?_
 intro a0
 have z:=Lh a0
 clear a0
 refine rq 0 z.out u.out rfl ?_
 refine rq 1 z.out u.out rfl ?_
 refine rq 2 z.out u.out rfl ?_
 go_simp
 refine rq 3 z.out u.out rfl ?_ (hv:=fun w' hw=>by (have c13:=hw.2.c13; go_simp; exact rfl))
 refine rq 4 z.out u.out rfl ?_
 refine rq 5 z.out u.out rfl ?_ (hv:=fun w' hw=>by (have z0:=hw.1.cell 0 _ rfl; go_simp; exact rfl))
 go_simp
 refine rq 6 z.out u.out rfl ?_
 refine reg_only 7 rfl (by kernel_rfl) rfl ?_
 unfold Oper.wp
 go_simp
 refine (wadd _ M.out.wv m.q.th 1 0 0 e a6).mono ?_
 rintro e w2 ⟨rfl,a8,h2,y2,l2⟩
 have M:=Lh (M.out.call h2 y2 l2)
 clear h2 y2 l2
 clear u
 refine reg_done (by kernel_rfl) ?_
 have z9:=M.out.vb.cell 9 _ rfl
 have f9:=M.out.free 9 (by decide)
 go_upto_region 3 with (fail)
 have M:=Lh (M.out.set 9 (by decide) (.int .i64 e))
 clear z9 f9
 generalize (w2.setCell ⟨w.heap.size,9,none⟩ (.int .i64 e))=w3 at *
 go_wp2_with (first
  | (refine load_b rt_gt rfl _ rfl w.heap.size rfl (Gt.cells { m.q with wish:=e }) M.out.vb ?_))
 refine (mto_any { m.q with wish:=e } gDone _).mono ?_
 rintro e w4 ⟨rfl,W⟩
 have M:=Lh (M.out.later W)
 clear W
 go_wp2_with (first
  | (refine load_b rt_gt rfl _ rfl w.heap.size rfl (Gt.cells { m.q with wish:=e }) M.out.vb ?_)
  | (refine store_b rt_gt rfl _ _ rfl (w.heap.size+1) rfl (Gt.cells (endsM m e).q) rfl M.out.tr rfl (by kernel_rfl) ?_; intro a9 a1 a2; have a3:=Lh a1; have a4:=Lh a2; clear a1 a2))
 refine bodyPost_ret (v:=(endsM m e).q.val) (res_b rt_gt _ _ (w.heap.size+1) _ Tryz.results151 rfl a3.out) rfl ?_
 exact ⟨rfl,M.out.ret a4.out⟩
theorem mup_any (w:World) {base:Nat} {a0:Nat→Nat} {x:Wp} (m:Mg) (h:Wv base a0 w x m.s) (e:Int) (a3:m.s.ev.length≤1000) :
  Calls Tryz.prog 157 #[m.q.val,ptr x.pw,.int .i64 e] w (Mpost base a0 x w (upM m e).s (upM m e).q.val):=by
 obtain ⟨r,u⟩:∃ r,upM m e=r:=⟨_,rfl⟩
 have Y:=Lh u
 rw [u]
 clear u
 obtain ⟨pk,a1⟩:∃ pk,m.q.parked=pk:=⟨_,rfl⟩
 have G:=Lh a1
 clear a1
 obtain ⟨Q,a2,V1,T1,W,S1⟩:=boxes_gt m.q w
 obtain ⟨a5,m1⟩:=Me.start h W S1 V1 T1
 have M:=Lh m1
 clear m1 h
 clear V1 T1 W S1
 go_enter Tryz.func157,Tryz.ntmps157
 go_upto_region 1 with (fail)
 clear a2
 cases pk with
 | false=>
  have u:r=endsM m e:=by rw [← Y.out]; unfold upM; rw [G.out]; rfl
  subst u
  have z8:Q.cell? ⟨w.heap.size,8,none⟩=some (.bool false):=(M.out.vb.cell 8 _ rfl).trans (congrArg (fun b=>some (Value.bool b)) G.out)
  go_wp2_with (first
   | (refine load_b rt_gt rfl _ rfl w.heap.size rfl (m.q.cells) M.out.vb ?_))
  refine (mends_any _ m M.out.wv e a3).mono ?_
  rintro e w2 ⟨rfl,a6,h2,y2,l2⟩
  have M:=Lh (M.out.call h2 y2 l2)
  clear h2 y2 l2
  go_wp2_with (first
   | (refine load_b rt_gt rfl _ rfl w.heap.size rfl (m.q.cells) M.out.vb ?_)
   | (refine store_b rt_gt rfl _ _ rfl (w.heap.size+1) rfl (Gt.cells (endsM m e).q) rfl M.out.tr rfl (by kernel_rfl) ?_; intro a4 z F; have I:=Lh z; have J:=Lh F; clear z F))
  refine bodyPost_ret (v:=(endsM m e).q.val) (res_b rt_gt _ _ (w.heap.size+1) _ Tryz.results157 rfl I.out) rfl ?_
  exact ⟨rfl,M.out.ret J.out⟩
 | true=>
  have u:r = { m with q:={ m.q with wish:=e,st:=gLeave } }:=by rw [← Y.out]; unfold upM; rw [G.out]; rfl
  subst u
  have z8:Q.cell? ⟨w.heap.size,8,none⟩=some (.bool true):=(M.out.vb.cell 8 _ rfl).trans (congrArg (fun b=>some (Value.bool b)) G.out)
  have z9:=M.out.vb.cell 9 _ rfl
  have f9:=M.out.free 9 (by decide)
  go_upto_region 4 with (fail)
  have M:=Lh (M.out.set 9 (by decide) (.int .i64 e))
  clear z9 f9
  generalize (Q.setCell ⟨w.heap.size,9,none⟩ (.int .i64 e))=w2 at *
  go_wp2_with (first
   | (refine load_b rt_gt rfl _ rfl w.heap.size rfl (Gt.cells { m.q with wish:=e }) M.out.vb ?_))
  refine (mto_any { m.q with wish:=e } gLeave _).mono ?_
  rintro e w3 ⟨rfl,b3⟩
  have M:=Lh (M.out.later b3)
  clear b3
  go_wp2_with (first
   | (refine load_b rt_gt rfl _ rfl w.heap.size rfl (Gt.cells { m.q with wish:=e }) M.out.vb ?_)
   | (refine store_b rt_gt rfl _ _ rfl (w.heap.size+1) rfl (Gt.cells { m.q with wish:=e,st:=gLeave }) rfl M.out.tr rfl (by kernel_rfl) ?_; intro a4 z F; have I:=Lh z; have J:=Lh F; clear z F))
  refine bodyPost_ret (v:=Gt.val { m.q with wish:=e,st:=gLeave }) (res_b rt_gt _ _ (w.heap.size+1) _ Tryz.results157 rfl I.out) rfl ?_
  exact ⟨rfl,M.out.ret J.out⟩
theorem mhas_any (w:World) {base:Nat} {Y:Nat→Nat} {x:Wp} (m:Mg) (h:Wv base Y w x m.s) (F:Hok m) (id:Int) (hid:U64 id) :
  Calls Tryz.prog 161 #[m.q.val,ptr x.pw,.int .u64 id] w (Mpost base Y x w (hasM m id).s (hasM m id).q.val):=by
 obtain ⟨W1,a6,Q,J,G,I⟩:=boxes_gt m.q w
 obtain ⟨a8,m1⟩:=Me.start h G I Q J
 have M:=Lh m1
 clear m1 h
 clear Q J G I
 go_enter Tryz.func161,Tryz.ntmps161
 go_upto_region 1 with (fail)
 clear a6
 have z0:=M.out.vb.cell 0 _ rfl
 go_wp2_with (first
  | (refine load_b rt_gt rfl _ rfl w.heap.size rfl (m.q.cells) M.out.vb ?_))
 refine (wlease_any _ (N:=m.N) M.out.wv F.mk_ id m.q.th hid F.nw F.lk F.ll F.tl).mono ?_
 rintro e w2 ⟨rfl,h2,y2⟩
 have M:=Lh (M.out.call0 h2 y2)
 clear h2 y2
 clear z0
 have z0:=M.out.vb.cell 0 _ rfl
 clear z0
 go_wp2_with fail
 have M:=Lh (M.out.later (Below.refl _ _).drew)
 have u:Hid (Vb w2.drew w.heap.size 16 (m.q.cells)∧Wc w2.drew x { m.s with L:=Le.bL m.s.L id m.q.th m.s.now,T:=Le.bT m.s.leak m.s.L m.s.T id m.q.th m.s.now }):=Lh ⟨M.out.vb,M.out.wv.cells⟩
 refine reg_start 7 (fun w'=>Vb w' w.heap.size 16 (m.q.cells)∧Wc w' x { m.s with L:=Le.bL m.s.L id m.q.th m.s.now,T:=Le.bT m.s.leak m.s.L m.s.T id m.q.th m.s.now }) (by kernel_rfl) (by kernel_rfl) ?_
 intro a0
 have z:=Lh a0
 clear a0
 refine rq 0 z.out u.out rfl ?_
 refine rq 1 z.out u.out rfl ?_
 refine rq 2 z.out u.out rfl ?_
 go_simp
 refine rq 3 z.out u.out rfl ?_ (hv:=fun w' hw=>by (have c13:=hw.2.c13; go_simp; exact rfl))
 refine rq 4 z.out u.out rfl ?_
 refine rq 5 z.out u.out rfl ?_ (hv:=fun w' hw=>by (have z0:=hw.1.cell 0 _ rfl; go_simp; exact rfl))
 go_simp
 refine rq 6 z.out u.out rfl ?_
 refine reg_only 7 rfl (by kernel_rfl) rfl ?_
 unfold Oper.wp
 go_simp
 refine (wadd _ M.out.wv m.q.th 1 0 id 0 F.ev).mono ?_
 rintro e w3 ⟨rfl,a9,h3,y3,l3⟩
 have M:=Lh (M.out.call h3 y3 l3)
 clear h3 y3 l3
 clear u
 refine reg_done (by kernel_rfl) ?_
 have a7:=M.out.vb.cell 10 _ rfl
 have a5:=M.out.free 10 (by decide)
 go_upto_region 4 with (fail)
 have M:=Lh (M.out.set 10 (by decide) (.int .u64 id))
 clear a7 a5
 generalize (w3.setCell ⟨w.heap.size,10,none⟩ (.int .u64 id))=w4 at *
 go_wp2_with (first
  | (refine load_b rt_gt rfl _ rfl w.heap.size rfl (Gt.cells { m.q with got:=id }) M.out.vb ?_))
 refine (mto_any { m.q with got:=id } gDone _).mono ?_
 rintro e w5 ⟨rfl,W⟩
 have M:=Lh (M.out.later W)
 clear W
 go_wp2_with (first
  | (refine load_b rt_gt rfl _ rfl w.heap.size rfl (Gt.cells { m.q with got:=id }) M.out.vb ?_)
  | (refine store_b rt_gt rfl _ _ rfl (w.heap.size+1) rfl (Gt.cells (hasM m id).q) rfl M.out.tr rfl (by kernel_rfl) ?_; intro aa a1 a2; have a3:=Lh a1; have a4:=Lh a2; clear a1 a2))
 refine bodyPost_ret (v:=(hasM m id).q.val) (res_b rt_gt _ _ (w.heap.size+1) _ Tryz.results161 rfl a3.out) rfl ?_
 exact ⟨rfl,M.out.ret a4.out⟩
theorem mown_any (w:World) {base:Nat} {a0:Nat→Nat} {x:Wp} (m:Mg) (h:Wv base a0 w x m.s) (ho:Hok m) (hid:U64 m.q.id) :
  Calls Tryz.prog 156 #[m.q.val,ptr x.pw] w (Mpost base a0 x w (ownM m).s (ownM m).q.val):=by
 obtain ⟨r,u⟩:∃ r,ownM m=r:=⟨_,rfl⟩
 have W:=Lh u
 rw [u]
 clear u
 obtain ⟨pk,a1⟩:∃ pk,m.q.parked=pk:=⟨_,rfl⟩
 have G:=Lh a1
 clear a1
 obtain ⟨W1,a5,V1,T1,Q,Y⟩:=boxes_gt m.q w
 obtain ⟨a7,m1⟩:=Me.start h Q Y V1 T1
 have M:=Lh m1
 clear m1 h
 clear V1 T1 Q Y
 go_enter Tryz.func156,Tryz.ntmps156
 go_upto_region 1 with (fail)
 clear a5
 have z3:=M.out.vb.cell 3 _ rfl
 go_wp2_with (first
  | (refine load_b rt_gt rfl _ rfl w.heap.size rfl (m.q.cells) M.out.vb ?_))
 refine (mhas_any _ m M.out.wv ho m.q.id hid).mono ?_
 rintro e w2 ⟨rfl,a8,h2,y2,l2⟩
 have M:=Lh (M.out.call h2 y2 l2)
 clear h2 y2 l2
 clear z3
 go_upto_region 2 with (first
  | (refine store_b rt_gt rfl _ _ rfl w.heap.size rfl (Gt.cells (hasM m m.q.id).q) rfl M.out.vb.th rfl (by kernel_rfl) ?_; intro a4 a2 a3; have M:=Lh (M.out.put a2 a3); clear a2 a3)
  | (refine load_b rt_gt rfl _ rfl w.heap.size rfl (m.q.cells) M.out.vb ?_))
 cases pk with
 | false=>
  have u:r=hasM m m.q.id:=by rw [← W.out]; unfold ownM; rw [G.out]; rfl
  subst u
  have z8:a4.cell? ⟨w.heap.size,8,none⟩=some (.bool false):=(M.out.vb.cell 8 _ rfl).trans (congrArg (fun b=>some (Value.bool b)) G.out)
  go_wp2_with (first
   | (refine load_b rt_gt rfl _ rfl w.heap.size rfl (Gt.cells (hasM m m.q.id).q) M.out.vb ?_)
   | (refine store_b rt_gt rfl _ _ rfl (w.heap.size+1) rfl (Gt.cells (hasM m m.q.id).q) rfl M.out.tr rfl (by kernel_rfl) ?_; intro a6 z F; have I:=Lh z; have J:=Lh F; clear z F))
  refine bodyPost_ret (v:=(hasM m m.q.id).q.val) (res_b rt_gt _ _ (w.heap.size+1) _ Tryz.results156 rfl I.out) rfl ?_
  exact ⟨rfl,M.out.ret J.out⟩
 | true=>
  have u:r=(hasM m m.q.id).to gLeave:=by rw [← W.out]; unfold ownM; rw [G.out]; rfl
  subst u
  have z8:a4.cell? ⟨w.heap.size,8,none⟩=some (.bool true):=(M.out.vb.cell 8 _ rfl).trans (congrArg (fun b=>some (Value.bool b)) G.out)
  go_wp2_with (first
   | (refine load_b rt_gt rfl _ rfl w.heap.size rfl (Gt.cells (hasM m m.q.id).q) M.out.vb ?_))
  refine (mto_any (hasM m m.q.id).q gLeave _).mono ?_
  rintro e w3 ⟨rfl,b3⟩
  have M:=Lh (M.out.later b3)
  clear b3
  go_wp2_with (first
   | (refine load_b rt_gt rfl _ rfl w.heap.size rfl (Gt.cells (hasM m m.q.id).q) M.out.vb ?_)
   | (refine store_b rt_gt rfl _ _ rfl (w.heap.size+1) rfl (Gt.cells ((hasM m m.q.id).q.to gLeave)) rfl M.out.tr rfl (by kernel_rfl) ?_; intro a6 z F; have I:=Lh z; have J:=Lh F; clear z F))
  refine bodyPost_ret (v:=((hasM m m.q.id).q.to gLeave).val) (res_b rt_gt _ _ (w.heap.size+1) _ Tryz.results156 rfl I.out) rfl ?_
  exact ⟨rfl,M.out.ret J.out⟩
theorem mstart_any (w:World) {base:Nat} {a0:Nat→Nat} {x:Wp} (m:Mg) (h:Wv base a0 w x m.s) (a3:m.s.ev.length≤1000) :
  Calls Tryz.prog 89 #[m.q.val,ptr x.pw] w (Mpost base a0 x w (startM m).s (startM m).q.val):=by
 obtain ⟨r,u⟩:∃ r,startM m=r:=⟨_,rfl⟩
 have W:=Lh u
 rw [u]
 clear u
 obtain ⟨cl,a1⟩:∃ cl,m.s.closed=cl:=⟨_,rfl⟩
 have G:=Lh a1
 clear a1
 obtain ⟨W1,a2,V1,T1,Q,Y⟩:=boxes_gt m.q w
 obtain ⟨a5,m1⟩:=Me.start h Q Y V1 T1
 have M:=Lh m1
 clear m1 h
 clear V1 T1 Q Y
 go_enter Tryz.func89,Tryz.ntmps89
 go_upto_region 1 with (fail)
 clear a2
 cases cl with
 | false=>
  have u:r=m.to gNear:=by rw [← W.out]; unfold startM; rw [G.out]; rfl
  subst u
  have c15:W1.cell? ⟨x.pw,15,none⟩=some (.bool false):=(M.out.wv.cells.c15).trans (congrArg (fun b=>some (Value.bool b)) G.out)
  go_wp2_with (first
   | (refine load_b rt_gt rfl _ rfl w.heap.size rfl (m.q.cells) M.out.vb ?_))
  refine (mto_any m.q gNear _).mono ?_
  rintro e w2 ⟨rfl,b2⟩
  have M:=Lh (M.out.later b2)
  clear b2
  go_wp2_with (first
   | (refine load_b rt_gt rfl _ rfl w.heap.size rfl (m.q.cells) M.out.vb ?_)
   | (refine store_b rt_gt rfl _ _ rfl (w.heap.size+1) rfl (Gt.cells (m.q.to gNear)) rfl M.out.tr rfl (by kernel_rfl) ?_; intro a4 z F; have I:=Lh z; have J:=Lh F; clear z F))
  refine bodyPost_ret (v:=(m.q.to gNear).val) (res_b rt_gt _ _ (w.heap.size+1) _ Tryz.results89 rfl I.out) rfl ?_
  exact ⟨rfl,M.out.ret J.out⟩
 | true=>
  have u:r=endsM m 6:=by rw [← W.out]; unfold startM; rw [G.out]; rfl
  subst u
  have c15:W1.cell? ⟨x.pw,15,none⟩=some (.bool true):=(M.out.wv.cells.c15).trans (congrArg (fun b=>some (Value.bool b)) G.out)
  go_wp2_with (first
   | (refine load_b rt_gt rfl _ rfl w.heap.size rfl (m.q.cells) M.out.vb ?_))
  refine (mends_any _ m M.out.wv 6 a3).mono ?_
  rintro e w2 ⟨rfl,a6,h2,y2,l2⟩
  have M:=Lh (M.out.call h2 y2 l2)
  clear h2 y2 l2
  go_wp2_with (first
   | (refine load_b rt_gt rfl _ rfl w.heap.size rfl (m.q.cells) M.out.vb ?_)
   | (refine store_b rt_gt rfl _ _ rfl (w.heap.size+1) rfl (Gt.cells (endsM m 6).q) rfl M.out.tr rfl (by kernel_rfl) ?_; intro a4 z F; have I:=Lh z; have J:=Lh F; clear z F))
  refine bodyPost_ret (v:=(endsM m 6).q.val) (res_b rt_gt _ _ (w.heap.size+1) _ Tryz.results89 rfl I.out) rfl ?_
  exact ⟨rfl,M.out.ret J.out⟩
theorem mnear_any (w:World) {base:Nat} {G:Nat→Nat} {x:Wp} (m:Mg) (h:Wv base G w x m.s) :
  Calls Tryz.prog 90 #[m.q.val,ptr x.pw] w (Mpost base G x w (nearM m).s (nearM m).q.val):=by
 obtain ⟨r,I⟩:∃ r,nearM m=r:=⟨_,rfl⟩
 have HR:=Lh I
 rw [I]
 clear I
 obtain ⟨z,a3⟩:∃ z,(Lc.takeR m.s.loc m.q.th).2.1=z:=⟨_,rfl⟩
 have a1:=Lh a3
 clear a3
 obtain ⟨bk,a4⟩:∃ bk,(Lc.takeR m.s.loc m.q.th).2.2=bk:=⟨_,rfl⟩
 have W:=Lh a4
 clear a4
 have HC:Hid (∀ w (G:Nat→Nat),Wv base G w x m.s→Calls Tryz.prog 153 #[ptr x.pl,.int .i64 m.q.th] w fun e w'=>e=.returned (.tuple #[.int .u64 z,.bool bk])∧Wv base G w' x { m.s with loc:=(Lc.takeR m.s.loc m.q.th).1 } ∧ Fw G w w'):=Lh (fun w G h=>by have e:=wltake w h m.q.th; rw [a1.out,W.out] at e; exact e)
 obtain ⟨W1,a5,V1,T1,B1,S1⟩:=boxes_gt m.q w
 obtain ⟨a7,m1⟩:=Me.start h B1 S1 V1 T1
 have M:=Lh m1
 clear m1 h
 clear V1 T1 B1 S1
 go_enter Tryz.func90,Tryz.ntmps90
 go_upto_region 1 with (fail)
 clear a5
 go_wp2_with fail
 have M:=Lh (M.out.later (Below.refl _ _).drew)
 have F:Hid (Vb W1.drew w.heap.size 16 (m.q.cells)∧Wc W1.drew x m.s):=Lh ⟨M.out.vb,M.out.wv.cells⟩
 refine reg_start 6 (fun w'=>Vb w' w.heap.size 16 (m.q.cells)∧Wc w' x m.s) (by kernel_rfl) (by kernel_rfl) ?_
 intro a2
 have u:=Lh a2
 clear a2
 refine rq 0 u.out F.out rfl ?_
 refine rq 1 u.out F.out rfl ?_
 refine rq 2 u.out F.out rfl ?_
 go_simp
 refine rq 3 u.out F.out rfl ?_ (hv:=fun w' hw=>by (have c9:=hw.2.c9; go_simp; exact rfl))
 refine rq 4 u.out F.out rfl ?_
 refine rq 5 u.out F.out rfl ?_ (hv:=fun w' hw=>by (have z0:=hw.1.cell 0 _ rfl; go_simp; exact rfl))
 go_simp
 refine reg_only 6 rfl (by kernel_rfl) rfl ?_
 unfold Oper.wp
 go_simp
 refine (HC.out _ _ M.out.wv).mono ?_
 rintro e w2 ⟨rfl,h2,y2⟩
 have M:=Lh (M.out.call0 h2 y2)
 clear h2 y2
 clear F
 refine reg_pure 7 u.out rfl (by kernel_rfl) (fun _ _ _ _ h=>h) (fun h=>absurd h (by decide)) rfl ?_
 apply Exists.intro
 refine ⟨fun w'=>by (go_simp; exact rfl),?_⟩
 refine reg_pure 8 u.out rfl (by kernel_rfl) (fun _ _ _ _ h=>h) (fun h=>absurd h (by decide)) rfl ?_
 apply Exists.intro
 refine ⟨fun w'=>by (go_simp; exact rfl),?_⟩
 refine reg_pure 9 u.out rfl (by kernel_rfl) (fun _ _ _ _ h=>h) (fun h=>absurd h (by decide)) rfl ?_
 apply Exists.intro
 refine ⟨fun w'=>by (go_simp; exact rfl),?_⟩
 refine reg_pure 10 u.out rfl (by kernel_rfl) (fun _ _ _ _ h=>h) (fun h=>absurd h (by decide)) rfl ?_
 apply Exists.intro
 refine ⟨fun w'=>by (go_simp; exact rfl),?_⟩
 refine reg_pure 11 u.out rfl (by kernel_rfl) (fun _ _ _ _ h=>h) (fun h=>absurd h (by decide)) rfl ?_
 apply Exists.intro
 refine ⟨fun w'=>by (go_simp; exact rfl),?_⟩
 refine reg_done (by kernel_rfl) ?_
 cases bk with
 | false=>
  have I:r = { m with q:=m.q.to gSnap,s:={ m.s with loc:=(Lc.takeR m.s.loc m.q.th).1 } }:=by rw [← HR.out]; unfold nearM; rw [W.out]; rfl
  subst I
  go_wp2_with (first
   | (refine load_b rt_gt rfl _ rfl w.heap.size rfl (m.q.cells) M.out.vb ?_))
  refine (mto_any m.q gSnap _).mono ?_
  rintro e w3 ⟨rfl,b3⟩
  have M:=Lh (M.out.later b3)
  clear b3
  go_wp2_with (first
   | (refine load_b rt_gt rfl _ rfl w.heap.size rfl (m.q.cells) M.out.vb ?_)
   | (refine store_b rt_gt rfl _ _ rfl (w.heap.size+1) rfl (Gt.cells (m.q.to gSnap)) rfl M.out.tr rfl (by kernel_rfl) ?_; intro a6 J Q; have Y:=Lh J; have a0:=Lh Q; clear J Q))
  refine bodyPost_ret (v:=(m.q.to gSnap).val) (res_b rt_gt _ _ (w.heap.size+1) _ Tryz.results90 rfl Y.out) rfl ?_
  exact ⟨rfl,M.out.ret a0.out⟩
 | true=>
  have I:r = { m with q:={ m.q with id:=z,near:=true,st:=gLoad },s:={ m.s with loc:=(Lc.takeR m.s.loc m.q.th).1 } }:=by rw [← HR.out]; unfold nearM; rw [W.out,a1.out]; rfl
  subst I
  have z3:=M.out.vb.cell 3 _ rfl
  have f3:=M.out.free 3 (by decide)
  have z5:=M.out.vb.cell 5 _ rfl
  have f5:=M.out.free 5 (by decide)
  go_upto_region 5 with (fail)
  have M:=Lh ((M.out.set 3 (by decide) (.int .u64 z)).set 5 (by decide) (.bool true))
  clear z3 f3 z5 f5
  generalize ((w2.setCell ⟨w.heap.size,3,none⟩ (.int .u64 z)).setCell ⟨w.heap.size,5,none⟩ (.bool true))=w3 at *
  go_wp2_with (first
   | (refine load_b rt_gt rfl _ rfl w.heap.size rfl (Gt.cells { m.q with id:=z,near:=true }) M.out.vb ?_))
  refine (mto_any { m.q with id:=z,near:=true } gLoad _).mono ?_
  rintro e w4 ⟨rfl,b4⟩
  have M:=Lh (M.out.later b4)
  clear b4
  go_wp2_with (first
   | (refine load_b rt_gt rfl _ rfl w.heap.size rfl (Gt.cells { m.q with id:=z,near:=true }) M.out.vb ?_)
   | (refine store_b rt_gt rfl _ _ rfl (w.heap.size+1) rfl (Gt.cells { m.q with id:=z,near:=true,st:=gLoad }) rfl M.out.tr rfl (by kernel_rfl) ?_; intro a6 J Q; have Y:=Lh J; have a0:=Lh Q; clear J Q))
  refine bodyPost_ret (v:=Gt.val { m.q with id:=z,near:=true,st:=gLoad }) (res_b rt_gt _ _ (w.heap.size+1) _ Tryz.results90 rfl Y.out) rfl ?_
  exact ⟨rfl,M.out.ret a0.out⟩
theorem Me.kcol {z w:World} {base:Nat} {F u:Nat→Nat} {x:Wp} {n b r:Nat} {s:Ws} {cs:List Value} (h:Me z base F x n b r w u s cs) {g:Nat} (e:g=b):u g≠0:=by rw [e,h.cb]; decide
theorem msnap_any (w:World) {base:Nat} {Y:Nat→Nat} {x:Wp} (m:Mg) (h:Wv base Y w x m.s) :
  Calls Tryz.prog 91 #[m.q.val,ptr x.pw] w (Lpost base Y x w m.s m.s.S fun A n c=>(snapM m A n c).q.val):=by
 obtain ⟨W1,a5,Q,J,G,I⟩:=boxes_gt m.q w
 obtain ⟨a6,m1⟩:=Me.start h G I Q J
 have M:=Lh m1
 clear m1 h
 clear Q J G I
 go_enter Tryz.func91,Tryz.ntmps91
 go_upto_region 1 with (fail)
 clear a5
 have c8:=M.out.wv.cells.c8
 go_wp2_with (first
  | (refine load_b rt_gt rfl _ rfl w.heap.size rfl (m.q.cells) M.out.vb ?_))
 refine (wlist_any M.out.wv).mono ?_
 rintro e w2 ⟨A,n,c,rfl,a0,W⟩
 have u:=Lh a0
 have M:=Lh (M.out.later W)
 clear W a0
 clear c8
 have z6:=M.out.vb.cell 6 _ rfl
 have f6:=M.out.free 6 (by decide)
 have z5:=M.out.vb.cell 5 _ rfl
 have f5:=M.out.free 5 (by decide)
 go_upto_region 2 with (fail)
 have z:=Lh M.out
 have u:=Lh ((u.out.fz (Fz.of_set (C:=fun k=>k=w.heap.size) (a:=⟨w.heap.size,6,none⟩) (.slice A n c) rfl) (fun g e=>z.out.kcol e)).fz (Fz.of_set (C:=fun k=>k=w.heap.size) (a:=⟨w.heap.size,5,none⟩) (.bool false) rfl) (fun g e=>z.out.kcol e))
 clear z
 have M:=Lh ((M.out.set 6 (by decide) (.slice A n c)).set 5 (by decide) (.bool false))
 clear z6 f6 z5 f5
 generalize ((w2.setCell ⟨w.heap.size,6,none⟩ (.slice A n c)).setCell ⟨w.heap.size,5,none⟩ (.bool false))=w3 at *
 go_wp2_with (first
  | (refine load_b rt_gt rfl _ rfl w.heap.size rfl (Gt.cells { m.q with A:=A,n:=n,c:=c,near:=false }) M.out.vb ?_))
 refine (mlook_any _ { m.q with A:=A,n:=n,c:=c,S:=m.s.S,near:=false } 0 u.out).mono ?_
 rintro e w4 ⟨rfl,F⟩
 have M:=Lh (M.out.later F)
 have u:=Lh (u.out.later F)
 clear F
 go_wp2_with (first
  | (refine load_b rt_gt rfl _ rfl w.heap.size rfl (Gt.cells { m.q with A:=A,n:=n,c:=c,near:=false }) M.out.vb ?_)
  | (refine store_b rt_gt rfl _ _ rfl (w.heap.size+1) rfl (Gt.cells (lookM { m.q with A:=A,n:=n,c:=c,S:=m.s.S,near:=false } 0)) rfl M.out.tr rfl (by kernel_rfl) ?_; intro a7 a1 a2; have a3:=Lh a1; have a4:=Lh a2; clear a1 a2))
 refine bodyPost_ret (v:=(lookM { m.q with A:=A,n:=n,c:=c,S:=m.s.S,near:=false } 0).val) (res_b rt_gt _ _ (w.heap.size+1) _ Tryz.results91 rfl a3.out) rfl ?_
 exact ⟨A,n,c,rfl,M.out.retL a4.out u.out⟩
theorem mload_any (w:World) {base:Nat} {J:Nat→Nat} {x:Wp} (m:Mg) (h:Wv base J w x m.s) (hid:U64 m.q.id) (hL:Lr base J w m.q.A m.q.n m.q.c m.q.S) :
  Calls Tryz.prog 92 #[m.q.val,ptr x.pw] w (Mpost base J x w (loadM m).s (loadM m).q.val):=by
 have HL:=Lh hL
 clear hL
 have Q:Hid (U64 (bW m.s.D m.q.id)):=Lh (bW_u64 w x.pb x.ab m.s.S h.bag m.q.id)
 obtain ⟨r,z⟩:∃ r,loadM m=r:=⟨_,rfl⟩
 have HR:=Lh z
 rw [z]
 clear z
 obtain ⟨wd,a5⟩:∃ wd,bW m.s.D m.q.id=wd:=⟨_,rfl⟩
 have a1:=Lh a5
 clear a5
 obtain ⟨ok,hok⟩:∃ ok,(fnd m.s.D m.q.id).isSome=ok:=⟨_,rfl⟩
 have a2:=Lh hok
 clear hok
 rw [a1.out] at Q
 obtain ⟨fr,a4⟩:∃ fr,(wd % 4 != 0)=fr:=⟨_,rfl⟩
 have a0:=Lh a4
 clear a4
 have HC:Hid (∀ w (J:Nat→Nat),Wv base J w x m.s→Calls Tryz.prog 13 #[ptr x.pb,.int .u64 m.q.id] w fun e w'=>e=.returned (.tuple #[.int .u64 wd,.bool ok])∧w=w'):=Lh (fun w J h=>by have e:=load_any w x.pb x.ab m.s.D m.s.S m.q.id h.bag hid; rw [a1.out,a2.out] at e; exact e)
 obtain ⟨W1,a7,V1,T1,B1,S1⟩:=boxes_gt m.q w
 obtain ⟨a8,m1⟩:=Me.start h B1 S1 V1 T1
 have M:=Lh m1
 clear m1 h
 clear V1 T1 B1 S1
 go_enter Tryz.func92,Tryz.ntmps92
 go_upto_region 1 with (fail)
 clear a7
 go_wp2_with fail
 have M:=Lh (M.out.later (Below.refl _ _).drew)
 have I:Hid (Vb W1.drew w.heap.size 16 (m.q.cells)∧Wc W1.drew x m.s):=Lh ⟨M.out.vb,M.out.wv.cells⟩
 refine reg_start 6 (fun w'=>Vb w' w.heap.size 16 (m.q.cells)∧Wc w' x m.s) (by kernel_rfl) (by kernel_rfl) ?_
 intro a3
 have u:=Lh a3
 clear a3
 refine rq 0 u.out I.out rfl ?_
 refine rq 1 u.out I.out rfl ?_
 refine rq 2 u.out I.out rfl ?_
 go_simp
 refine rq 3 u.out I.out rfl ?_ (hv:=fun w' hw=>by (have c8:=hw.2.c8; go_simp; exact rfl))
 refine rq 4 u.out I.out rfl ?_
 refine rq 5 u.out I.out rfl ?_ (hv:=fun w' hw=>by (have z3:=hw.1.cell 3 _ rfl; go_simp; exact rfl))
 go_simp
 refine reg_only 6 rfl (by kernel_rfl) rfl ?_
 unfold Oper.wp
 go_simp
 refine (HC.out _ _ M.out.wv).mono ?_
 rintro e w2 ⟨rfl,rfl⟩
 clear I
 refine reg_pure 7 u.out rfl (by kernel_rfl) (fun _ _ _ _ h=>h) (fun h=>absurd h (by decide)) rfl ?_
 apply Exists.intro
 refine ⟨fun w'=>by (go_simp; exact rfl),?_⟩
 refine reg_pure 8 u.out rfl (by kernel_rfl) (fun _ _ _ _ h=>h) (fun h=>absurd h (by decide)) rfl ?_
 apply Exists.intro
 refine ⟨fun w'=>by (go_simp; exact rfl),?_⟩
 refine reg_pure 9 u.out rfl (by kernel_rfl) (fun _ _ _ _ h=>h) (fun h=>absurd h (by decide)) rfl ?_
 apply Exists.intro
 refine ⟨fun w'=>by (go_simp; exact rfl),?_⟩
 refine reg_pure 10 u.out rfl (by kernel_rfl) (fun _ _ _ _ h=>h) (fun h=>absurd h (by decide)) rfl ?_
 apply Exists.intro
 refine ⟨fun w'=>by (go_simp; exact rfl),?_⟩
 refine reg_pure 11 u.out rfl (by kernel_rfl) (fun _ _ _ _ h=>h) (fun h=>absurd h (by decide)) rfl ?_
 apply Exists.intro
 refine ⟨fun w'=>by (go_simp; exact rfl),?_⟩
 refine reg_done (by kernel_rfl) ?_
 generalize W1.drew=w3 at *
 cases ok with
 | false=>
  have z:r = { m with q:=nextM m.q }:=by rw [← HR.out]; unfold loadM; rw [a2.out]; exact if_neg (fun e=>absurd e.1 (by decide))
  subst z
  go_wp2_with (first
   | (refine load_b rt_gt rfl _ rfl w.heap.size rfl (m.q.cells) M.out.vb ?_))
  refine (mnext_any _ m.q (HL.out.fw M.out.fw M.out.el)).mono ?_
  rintro e w4 ⟨rfl,b4⟩
  have M:=Lh (M.out.later b4)
  clear b4
  go_wp2_with (first
   | (refine load_b rt_gt rfl _ rfl w.heap.size rfl (m.q.cells) M.out.vb ?_)
   | (refine store_b rt_gt rfl _ _ rfl (w.heap.size+1) rfl (Gt.cells (nextM m.q)) rfl M.out.tr rfl (by kernel_rfl) ?_; intro a6 F G; have W:=Lh F; have Y:=Lh G; clear F G))
  refine bodyPost_ret (v:=(nextM m.q).val) (res_b rt_gt _ _ (w.heap.size+1) _ Tryz.results92 rfl W.out) rfl ?_
  exact ⟨rfl,M.out.ret Y.out⟩
 | true=>
  cases fr with
  | false=>
   have z:r = { m with q:={ m.q with word:=wd,st:=gSwap } }:=by rw [← HR.out]; unfold loadM; rw [a1.out]; exact if_pos ⟨a2.out,by have h9:=a0.out; simpa using h9⟩
   subst z
   go_wp2_with (first
    | (refine load_b rt_gt rfl _ rfl w.heap.size rfl (m.q.cells) M.out.vb ?_))
   refine (Wd.state_any wd _ Q.out.1 Q.out.2).mono ?_
   rintro e w5 ⟨rfl,rfl⟩
   have hq:(wd % 4 != 0)=false:=a0.out
   have z4:=M.out.vb.cell 4 _ rfl
   have f4:=M.out.free 4 (by decide)
   go_upto_region 5 with (fail)
   have M:=Lh (M.out.set 4 (by decide) (.int .u64 wd))
   clear z4 f4 hq
   generalize (w3.setCell ⟨w.heap.size,4,none⟩ (.int .u64 wd))=w4 at *
   go_wp2_with (first
    | (refine load_b rt_gt rfl _ rfl w.heap.size rfl (Gt.cells { m.q with word:=wd }) M.out.vb ?_))
   refine (mto_any { m.q with word:=wd } gSwap _).mono ?_
   rintro e w5 ⟨rfl,b5⟩
   have M:=Lh (M.out.later b5)
   clear b5
   go_wp2_with (first
    | (refine load_b rt_gt rfl _ rfl w.heap.size rfl (Gt.cells { m.q with word:=wd }) M.out.vb ?_)
    | (refine store_b rt_gt rfl _ _ rfl (w.heap.size+1) rfl (Gt.cells { m.q with word:=wd,st:=gSwap }) rfl M.out.tr rfl (by kernel_rfl) ?_; intro a6 F G; have W:=Lh F; have Y:=Lh G; clear F G))
   refine bodyPost_ret (v:=Gt.val { m.q with word:=wd,st:=gSwap }) (res_b rt_gt _ _ (w.heap.size+1) _ Tryz.results92 rfl W.out) rfl ?_
   exact ⟨rfl,M.out.ret Y.out⟩
  | true=>
   have z:r = { m with q:=nextM m.q }:=by rw [← HR.out]; unfold loadM; rw [a1.out]; exact if_neg (fun e=>by have h9:=a0.out; rw [e.2] at h9; exact absurd h9 (by decide))
   subst z
   go_wp2_with (first
    | (refine load_b rt_gt rfl _ rfl w.heap.size rfl (m.q.cells) M.out.vb ?_))
   refine (Wd.state_any wd _ Q.out.1 Q.out.2).mono ?_
   rintro e w5 ⟨rfl,rfl⟩
   have hq:(wd % 4 != 0)=true:=a0.out
   go_wp2_with (first
    | (refine load_b rt_gt rfl _ rfl w.heap.size rfl (m.q.cells) M.out.vb ?_))
   refine (mnext_any _ m.q (HL.out.fw M.out.fw M.out.el)).mono ?_
   rintro e w4 ⟨rfl,b4⟩
   have M:=Lh (M.out.later b4)
   clear b4
   go_wp2_with (first
    | (refine load_b rt_gt rfl _ rfl w.heap.size rfl (m.q.cells) M.out.vb ?_)
    | (refine store_b rt_gt rfl _ _ rfl (w.heap.size+1) rfl (Gt.cells (nextM m.q)) rfl M.out.tr rfl (by kernel_rfl) ?_; intro a6 F G; have W:=Lh F; have Y:=Lh G; clear F G))
   refine bodyPost_ret (v:=(nextM m.q).val) (res_b rt_gt _ _ (w.heap.size+1) _ Tryz.results92 rfl W.out) rfl ?_
   exact ⟨rfl,M.out.ret Y.out⟩
theorem mswap_any (w:World) {base:Nat} {G:Nat→Nat} {x:Wp} (m:Mg) (h:Wv base G w x m.s) (I:Hok m) (hid:U64 m.q.id) (a7:U64 m.q.word) (hL:Lr base G w m.q.A m.q.n m.q.c m.q.S) :
  Calls Tryz.prog 93 #[m.q.val,ptr x.pw] w (Mpost base G x w (swapM m).s (swapM m).q.val):=by
 have HL:=Lh hL
 clear hL
 obtain ⟨r,J⟩:∃ r,swapM m=r:=⟨_,rfl⟩
 have HR:=Lh J
 rw [J]
 clear J
 obtain ⟨F,a5⟩:∃ F,bV m.s.D m.q.id m.q.word 1=F:=⟨_,rfl⟩
 have a2:=Lh a5
 clear a5
 obtain ⟨bk,a4⟩:∃ bk,bK m.s.D m.q.id m.q.word 1=bk:=⟨_,rfl⟩
 have Y:=Lh a4
 clear a4
 have HC:Hid (∀ w (G:Nat→Nat),Wv base G w x m.s→Calls Tryz.prog 83 #[ptr x.pb,.int .u64 m.q.id,.int .u64 m.q.word,.int .i64 1,.int .u64 m.s.now] w fun e w'=>e=.returned (.tuple #[.int .u64 F,.bool bk]) ∧ ∃ col',Wv base col' w' x { m.s with D:=up m.s.D m.q.id (exS m.q.word 1 m.s.now) } ∧ Fw G w w'∧El w G col'):=Lh (fun w G h=>by have e:=wswap w h m.q.id m.q.word 1 m.s.now hid a7 I.nw; rw [a2.out,Y.out] at e; exact e)
 obtain ⟨W1,a6,V1,T1,B1,S1⟩:=boxes_gt m.q w
 obtain ⟨a9,m1⟩:=Me.start h B1 S1 V1 T1
 have M:=Lh m1
 clear m1 h
 clear V1 T1 B1 S1
 go_enter Tryz.func93,Tryz.ntmps93
 go_upto_region 1 with (fail)
 clear a6
 go_wp2_with fail
 have M:=Lh (M.out.later (Below.refl _ _).drew)
 have u:Hid (Vb W1.drew w.heap.size 16 (m.q.cells)∧Wc W1.drew x m.s):=Lh ⟨M.out.vb,M.out.wv.cells⟩
 refine reg_start 10 (fun w'=>Vb w' w.heap.size 16 (m.q.cells)∧Wc w' x m.s) (by kernel_rfl) (by kernel_rfl) ?_
 intro a3
 have z:=Lh a3
 clear a3
 refine rq 0 z.out u.out rfl ?_
 refine rq 1 z.out u.out rfl ?_
 refine rq 2 z.out u.out rfl ?_
 go_simp
 refine rq 3 z.out u.out rfl ?_ (hv:=fun w' hw=>by (have c8:=hw.2.c8; go_simp; exact rfl))
 refine rq 4 z.out u.out rfl ?_
 refine rq 5 z.out u.out rfl ?_ (hv:=fun w' hw=>by (have z3:=hw.1.cell 3 _ rfl; go_simp; exact rfl))
 go_simp
 refine rq 6 z.out u.out rfl ?_
 refine rq 7 z.out u.out rfl ?_ (hv:=fun w' hw=>by (have z4:=hw.1.cell 4 _ rfl; go_simp; exact rfl))
 refine rq 8 z.out u.out rfl ?_
 go_simp
 refine reg_only 9 rfl (by kernel_rfl) rfl ?_
 unfold Oper.wp
 go_simp
 refine (wnow_any _ u.out.2).mono ?_
 rintro e w2 ⟨rfl,b2⟩
 have M:=Lh (M.out.later b2)
 clear b2
 clear u
 have u:Hid (Vb w2 w.heap.size 16 (m.q.cells)∧Wc w2 x m.s):=Lh ⟨M.out.vb,M.out.wv.cells⟩
 refine ⟨u.out,?_⟩
 refine reg_only 10 rfl (by kernel_rfl) rfl ?_
 unfold Oper.wp
 go_simp
 refine (HC.out _ _ M.out.wv).mono ?_
 rintro e w3 ⟨rfl,aa,h3,y3,l3⟩
 have M:=Lh (M.out.call h3 y3 l3)
 clear h3 y3 l3
 clear u
 refine reg_pure 11 z.out rfl (by kernel_rfl) (fun _ _ _ _ h=>h) (fun h=>absurd h (by decide)) rfl ?_
 apply Exists.intro
 refine ⟨fun w'=>by (go_simp; exact rfl),?_⟩
 refine reg_pure 12 z.out rfl (by kernel_rfl) (fun _ _ _ _ h=>h) (fun h=>absurd h (by decide)) rfl ?_
 apply Exists.intro
 refine ⟨fun w'=>by (go_simp; exact rfl),?_⟩
 refine reg_pure 13 z.out rfl (by kernel_rfl) (fun _ _ _ _ h=>h) (fun h=>absurd h (by decide)) rfl ?_
 apply Exists.intro
 refine ⟨fun w'=>by (go_simp; exact rfl),?_⟩
 refine reg_pure 14 z.out rfl (by kernel_rfl) (fun _ _ _ _ h=>h) (fun h=>absurd h (by decide)) rfl ?_
 apply Exists.intro
 refine ⟨fun w'=>by (go_simp; exact rfl),?_⟩
 refine reg_pure 15 z.out rfl (by kernel_rfl) (fun _ _ _ _ h=>h) (fun h=>absurd h (by decide)) rfl ?_
 apply Exists.intro
 refine ⟨fun w'=>by (go_simp; exact rfl),?_⟩
 refine reg_done (by kernel_rfl) ?_
 cases bk with
 | false=>
  have J:r = { m with q:=nextM m.q,s:={ m.s with D:=up m.s.D m.q.id (exS m.q.word 1 m.s.now) } }:=by rw [← HR.out]; unfold swapM; rw [Y.out]; rfl
  subst J
  go_wp2_with (first
   | (refine load_b rt_gt rfl _ rfl w.heap.size rfl (m.q.cells) M.out.vb ?_))
  refine (mnext_any _ m.q (HL.out.fw M.out.fw M.out.el)).mono ?_
  rintro e w4 ⟨rfl,b4⟩
  have M:=Lh (M.out.later b4)
  clear b4
  go_wp2_with (first
   | (refine load_b rt_gt rfl _ rfl w.heap.size rfl (m.q.cells) M.out.vb ?_)
   | (refine store_b rt_gt rfl _ _ rfl (w.heap.size+1) rfl (Gt.cells (nextM m.q)) rfl M.out.tr rfl (by kernel_rfl) ?_; intro a8 Q W; have a0:=Lh Q; have a1:=Lh W; clear Q W))
  refine bodyPost_ret (v:=(nextM m.q).val) (res_b rt_gt _ _ (w.heap.size+1) _ Tryz.results93 rfl a0.out) rfl ?_
  exact ⟨rfl,M.out.ret a1.out⟩
 | true=>
  have J:r=ownM { m with q:={ m.q with word:=F },s:={ m.s with D:=up m.s.D m.q.id (exS m.q.word 1 m.s.now) } }:=by rw [← HR.out]; unfold swapM; rw [Y.out,a2.out]; rfl
  subst J
  have z4:=M.out.vb.cell 4 _ rfl
  have f4:=M.out.free 4 (by decide)
  go_upto_region 5 with (fail)
  have M:=Lh (M.out.set 4 (by decide) (.int .u64 F))
  clear z4 f4
  generalize (w3.setCell ⟨w.heap.size,4,none⟩ (.int .u64 F))=w4 at *
  go_wp2_with (first
   | (refine load_b rt_gt rfl _ rfl w.heap.size rfl (Gt.cells { m.q with word:=F }) M.out.vb ?_))
  refine (mown_any _ { m with q:={ m.q with word:=F },s:={ m.s with D:=up m.s.D m.q.id (exS m.q.word 1 m.s.now) } } M.out.wv ⟨I.mk_,I.ev,I.ll,I.tl,I.lk,I.nw⟩ hid).mono ?_
  rintro e w5 ⟨rfl,ac,h5,y5,l5⟩
  have M:=Lh (M.out.call h5 y5 l5)
  clear h5 y5 l5
  go_wp2_with (first
   | (refine load_b rt_gt rfl _ rfl w.heap.size rfl (Gt.cells { m.q with word:=F }) M.out.vb ?_)
   | (refine store_b rt_gt rfl _ _ rfl (w.heap.size+1) rfl (Gt.cells (ownM { m with q:={ m.q with word:=F },s:={ m.s with D:=up m.s.D m.q.id (exS m.q.word 1 m.s.now) } }).q) rfl M.out.tr rfl (by kernel_rfl) ?_; intro a8 Q W; have a0:=Lh Q; have a1:=Lh W; clear Q W))
  refine bodyPost_ret (v:=(ownM { m with q:={ m.q with word:=F },s:={ m.s with D:=up m.s.D m.q.id (exS m.q.word 1 m.s.now) } }).q.val) (res_b rt_gt _ _ (w.heap.size+1) _ Tryz.results93 rfl a0.out) rfl ?_
  exact ⟨rfl,M.out.ret a1.out⟩
theorem mgrow_any (w:World) {base:Nat} {I:Nat→Nat} {x:Wp} (m:Mg) (h:Wv base I w x m.s) (a4:0≤m.s.live) (a5:m.s.conf.max≤1000000) :
  Calls Tryz.prog 94 #[m.q.val,ptr x.pw] w (Mpost base I x w (growM m).s (growM m).q.val):=by
 obtain ⟨r,u⟩:∃ r,growM m=r:=⟨_,rfl⟩
 have HR:=Lh u
 rw [u]
 clear u
 obtain ⟨bk,a0⟩:∃ bk,decide (m.s.live < m.s.conf.max)=bk:=⟨_,rfl⟩
 have W:=Lh a0
 clear a0
 obtain ⟨pk,a1⟩:∃ pk,m.q.parked=pk:=⟨_,rfl⟩
 have Y:=Lh a1
 clear a1
 have HC:Hid (∀ w (I:Nat→Nat),Wv base I w x m.s→Calls Tryz.prog 68 #[ptr x.pw] w fun e w'=>e=.returned (.bool bk)∧Wv base I w' x { m.s with live:=grwV m.s.live m.s.conf.max } ∧ Fw I w w'):=Lh (fun w I h=>by have e:=wgrow_any w h a4 a5; rw [W.out] at e; exact e)
 obtain ⟨W1,a3,V1,T1,B1,S1⟩:=boxes_gt m.q w
 obtain ⟨a6,m1⟩:=Me.start h B1 S1 V1 T1
 have M:=Lh m1
 clear m1 h
 clear V1 T1 B1 S1
 go_enter Tryz.func94,Tryz.ntmps94
 go_upto_region 1 with (fail)
 clear a3
 go_wp2_with (first
  | (refine load_b rt_gt rfl _ rfl w.heap.size rfl (m.q.cells) M.out.vb ?_))
 refine (HC.out _ _ M.out.wv).mono ?_
 rintro e w2 ⟨rfl,h2,y2⟩
 have M:=Lh (M.out.call0 h2 y2)
 clear h2 y2
 cases bk with
 | false=>
  cases pk with
  | false=>
   have u:r = { m with q:=m.q.to gPark,s:={ m.s with live:=grwV m.s.live m.s.conf.max } }:=by rw [← HR.out]; unfold growM; rw [Y.out]; exact if_neg (of_decide_eq_false W.out)
   subst u
   have z8:w2.cell? ⟨w.heap.size,8,none⟩=some (.bool false):=(M.out.vb.cell 8 _ rfl).trans (congrArg (fun b=>some (Value.bool b)) Y.out)
   go_wp2_with (first
    | (refine load_b rt_gt rfl _ rfl w.heap.size rfl (m.q.cells) M.out.vb ?_))
   refine (mto_any m.q gPark _).mono ?_
   rintro e w3 ⟨rfl,z⟩
   have M:=Lh (M.out.later z)
   clear z
   go_wp2_with (first
    | (refine load_b rt_gt rfl _ rfl w.heap.size rfl (m.q.cells) M.out.vb ?_)
    | (refine store_b rt_gt rfl _ _ rfl (w.heap.size+1) rfl (Gt.cells (m.q.to gPark)) rfl M.out.tr rfl (by kernel_rfl) ?_; intro a2 F G; have J:=Lh F; have Q:=Lh G; clear F G))
   refine bodyPost_ret (v:=(m.q.to gPark).val) (res_b rt_gt _ _ (w.heap.size+1) _ Tryz.results94 rfl J.out) rfl ?_
   exact ⟨rfl,M.out.ret Q.out⟩
  | true=>
   have u:r = { m with q:=m.q.to gWait,s:={ m.s with live:=grwV m.s.live m.s.conf.max } }:=by rw [← HR.out]; unfold growM; rw [Y.out]; exact if_neg (of_decide_eq_false W.out)
   subst u
   have z8:w2.cell? ⟨w.heap.size,8,none⟩=some (.bool true):=(M.out.vb.cell 8 _ rfl).trans (congrArg (fun b=>some (Value.bool b)) Y.out)
   go_wp2_with (first
    | (refine load_b rt_gt rfl _ rfl w.heap.size rfl (m.q.cells) M.out.vb ?_))
   refine (mto_any m.q gWait _).mono ?_
   rintro e w3 ⟨rfl,z⟩
   have M:=Lh (M.out.later z)
   clear z
   go_wp2_with (first
    | (refine load_b rt_gt rfl _ rfl w.heap.size rfl (m.q.cells) M.out.vb ?_)
    | (refine store_b rt_gt rfl _ _ rfl (w.heap.size+1) rfl (Gt.cells (m.q.to gWait)) rfl M.out.tr rfl (by kernel_rfl) ?_; intro a2 F G; have J:=Lh F; have Q:=Lh G; clear F G))
   refine bodyPost_ret (v:=(m.q.to gWait).val) (res_b rt_gt _ _ (w.heap.size+1) _ Tryz.results94 rfl J.out) rfl ?_
   exact ⟨rfl,M.out.ret Q.out⟩
 | true=>
  have u:r = { m with q:=m.q.to gOpen,s:={ m.s with live:=grwV m.s.live m.s.conf.max } }:=by rw [← HR.out]; unfold growM; exact if_pos (of_decide_eq_true W.out)
  subst u
  go_wp2_with (first
   | (refine load_b rt_gt rfl _ rfl w.heap.size rfl (m.q.cells) M.out.vb ?_))
  refine (mto_any m.q gOpen _).mono ?_
  rintro e w3 ⟨rfl,z⟩
  have M:=Lh (M.out.later z)
  clear z
  go_wp2_with (first
   | (refine load_b rt_gt rfl _ rfl w.heap.size rfl (m.q.cells) M.out.vb ?_)
   | (refine store_b rt_gt rfl _ _ rfl (w.heap.size+1) rfl (Gt.cells (m.q.to gOpen)) rfl M.out.tr rfl (by kernel_rfl) ?_; intro a2 F G; have J:=Lh F; have Q:=Lh G; clear F G))
  refine bodyPost_ret (v:=(m.q.to gOpen).val) (res_b rt_gt _ _ (w.heap.size+1) _ Tryz.results94 rfl J.out) rfl ?_
  exact ⟨rfl,M.out.ret Q.out⟩
theorem mopen_any (w:World) {base:Nat} {F:Nat→Nat} {x:Wp} (m:Mg) (h:Wv base F w x m.s) (hn:m.s.n < 18446744073709551615) (a9:U64 m.s.now) (a8:m.s.D.length < 1000000) :
  Calls Tryz.prog 95 #[m.q.val,ptr x.pw] w (Mpost base F x w (openM m).s (openM m).q.val):=by
 obtain ⟨r,G⟩:∃ r,openM m=r:=⟨_,rfl⟩
 have HR:=Lh G
 rw [G]
 clear G
 have HU:Hid (U64 (opnI m.s.O m.s.n)):=Lh (by unfold opnI; split <;> constructor <;> omega)
 obtain ⟨u,a5⟩:∃ u,opnI m.s.O m.s.n=u:=⟨_,rfl⟩
 have a0:=Lh a5
 clear a5
 rw [a0.out] at HU
 obtain ⟨bk,a4⟩:∃ bk,(Fc.nx m.s.O).1=bk:=⟨_,rfl⟩
 have Y:=Lh a4
 clear a4
 have HC:Hid (∀ w (F:Nat→Nat),Wv base F w x m.s→Calls Tryz.prog 71 #[ptr x.pF] w fun e w'=>e=.returned (.tuple #[.int .u64 u,.bool bk])∧Wv base F w' x { m.s with O:=(Fc.nx m.s.O).2,n:=opnN m.s.O m.s.n } ∧ Fw F w w'):=Lh (fun w F h=>by have e:=wopen w h hn; rw [Y.out,a0.out] at e; exact e)
 have a6:Hid (∀ w,Calls Tryz.prog 23 #[.int .i64 1,.int .u64 0] w fun e w'=>e=.returned (.int .u64 1)∧w=w'):=Lh (fun w=>Wd.of_any 1 0 w (by decide) (by decide))
 obtain ⟨W1,a7,V1,T1,B1,S1⟩:=boxes_gt m.q w
 obtain ⟨ac,m1⟩:=Me.start h B1 S1 V1 T1
 have M:=Lh m1
 clear m1 h
 clear V1 T1 B1 S1
 go_enter Tryz.func95,Tryz.ntmps95
 go_upto_region 1 with (fail)
 clear a7
 have c12:=M.out.wv.cells.c12
 go_wp2_with (first
  | (refine load_b rt_gt rfl _ rfl w.heap.size rfl (m.q.cells) M.out.vb ?_))
 refine (HC.out _ _ M.out.wv).mono ?_
 rintro e w2 ⟨rfl,h2,y2⟩
 have M:=Lh (M.out.call0 h2 y2)
 clear h2 y2
 clear c12
 have c12:=M.out.wv.cells.c12
 clear c12
 cases bk with
 | false=>
  have G:r = { m with q:=m.q.to gShrink,s:={ m.s with O:=(Fc.nx m.s.O).2,n:=opnN m.s.O m.s.n } }:=by rw [← HR.out]; unfold openM; rw [Y.out]; rfl
  subst G
  go_wp2_with (first
   | (refine load_b rt_gt rfl _ rfl w.heap.size rfl (m.q.cells) M.out.vb ?_))
  refine (mto_any m.q gShrink _).mono ?_
  rintro e w3 ⟨rfl,J⟩
  have M:=Lh (M.out.later J)
  clear J
  go_wp2_with (first
   | (refine load_b rt_gt rfl _ rfl w.heap.size rfl (m.q.cells) M.out.vb ?_)
   | (refine store_b rt_gt rfl _ _ rfl (w.heap.size+1) rfl (Gt.cells (m.q.to gShrink)) rfl M.out.tr rfl (by kernel_rfl) ?_; intro aa Q W; have a1:=Lh Q; have a2:=Lh W; clear Q W))
  refine bodyPost_ret (v:=(m.q.to gShrink).val) (res_b rt_gt _ _ (w.heap.size+1) _ Tryz.results95 rfl a1.out) rfl ?_
  exact ⟨rfl,M.out.ret a2.out⟩
 | true=>
  have G:r = { m with q:={ m.q with id:=u,word:=1,st:=gPublish },s:={ m.s with O:=(Fc.nx m.s.O).2,n:=opnN m.s.O m.s.n,D:=entD m.s.D u 1 m.s.now } }:=by rw [← HR.out]; unfold openM; rw [Y.out,a0.out]; rfl
  subst G
  go_wp2_with fail
  have M:=Lh (M.out.later (Below.refl _ _).drew)
  have z:Hid (Vb w2.drew w.heap.size 16 (m.q.cells)∧Wc w2.drew x { m.s with O:=(Fc.nx m.s.O).2,n:=opnN m.s.O m.s.n }):=Lh ⟨M.out.vb,M.out.wv.cells⟩
  refine reg_start 7 (fun w'=>Vb w' w.heap.size 16 (m.q.cells)∧Wc w' x { m.s with O:=(Fc.nx m.s.O).2,n:=opnN m.s.O m.s.n }) (by kernel_rfl) (by kernel_rfl) ?_
  intro a3
  have I:=Lh a3
  clear a3
  refine rq 0 I.out z.out rfl ?_
  refine rq 1 I.out z.out rfl ?_
  refine rq 2 I.out z.out rfl ?_
  go_simp
  refine rq 3 I.out z.out rfl ?_ (hv:=fun w' hw=>by (have c8:=hw.2.c8; go_simp; exact rfl))
  refine rq 4 I.out z.out rfl ?_
  refine rq 5 I.out z.out rfl ?_
  go_simp
  refine reg_only 6 rfl (by kernel_rfl) rfl ?_
  unfold Oper.wp
  go_simp
  refine (wnow_any _ z.out.2).mono ?_
  rintro e w3 ⟨rfl,J⟩
  have M:=Lh (M.out.later J)
  clear J
  clear z
  have z:Hid (Vb w3 w.heap.size 16 (m.q.cells)∧Wc w3 x { m.s with O:=(Fc.nx m.s.O).2,n:=opnN m.s.O m.s.n }):=Lh ⟨M.out.vb,M.out.wv.cells⟩
  refine ⟨z.out,?_⟩
  refine reg_only 7 rfl (by kernel_rfl) rfl ?_
  unfold Oper.wp
  go_simp
  refine (wenter _ M.out.wv u 1 m.s.now HU.out a9 a8).mono ?_
  rintro e w4 ⟨rfl,ad,h4,y4,l4⟩
  have M:=Lh (M.out.call h4 y4 l4)
  clear h4 y4 l4
  clear z
  refine reg_done (by kernel_rfl) ?_
  go_wp2_with (first
   | (refine load_b rt_gt rfl _ rfl w.heap.size rfl (m.q.cells) M.out.vb ?_))
  refine (a6.out _).mono ?_
  rintro e w8 ⟨rfl,rfl⟩
  have z3:=M.out.vb.cell 3 _ rfl
  have f3:=M.out.free 3 (by decide)
  have z4:=M.out.vb.cell 4 _ rfl
  have f4:=M.out.free 4 (by decide)
  go_upto_region 6 with (fail)
  have M:=Lh ((M.out.set 3 (by decide) (.int .u64 u)).set 4 (by decide) (.int .u64 1))
  clear z3 f3 z4 f4
  generalize ((w4.setCell ⟨w.heap.size,3,none⟩ (.int .u64 u)).setCell ⟨w.heap.size,4,none⟩ (.int .u64 1))=w5 at *
  go_wp2_with (first
   | (refine load_b rt_gt rfl _ rfl w.heap.size rfl (Gt.cells { m.q with id:=u,word:=1 }) M.out.vb ?_))
  refine (mto_any { m.q with id:=u,word:=1 } gPublish _).mono ?_
  rintro e w6 ⟨rfl,b6⟩
  have M:=Lh (M.out.later b6)
  clear b6
  go_wp2_with (first
   | (refine load_b rt_gt rfl _ rfl w.heap.size rfl (Gt.cells { m.q with id:=u,word:=1 }) M.out.vb ?_)
   | (refine store_b rt_gt rfl _ _ rfl (w.heap.size+1) rfl (Gt.cells { m.q with id:=u,word:=1,st:=gPublish }) rfl M.out.tr rfl (by kernel_rfl) ?_; intro aa Q W; have a1:=Lh Q; have a2:=Lh W; clear Q W))
  refine bodyPost_ret (v:=Gt.val { m.q with id:=u,word:=1,st:=gPublish }) (res_b rt_gt _ _ (w.heap.size+1) _ Tryz.results95 rfl a1.out) rfl ?_
  exact ⟨rfl,M.out.ret a2.out⟩
theorem mshrink_any (w:World) {base:Nat} {I:Nat→Nat} {x:Wp} (m:Mg) (h:Wv base I w x m.s) (a4:m.s.ev.length≤1000) (W:0≤m.s.live∧m.s.live≤1000000) :
  Calls Tryz.prog 96 #[m.q.val,ptr x.pw] w (Mpost base I x w (shrinkM m).s (shrinkM m).q.val):=by
 obtain ⟨W1,a3,G,F,u,z⟩:=boxes_gt m.q w
 obtain ⟨a5,m1⟩:=Me.start h u z G F
 have M:=Lh m1
 clear m1 h
 clear G F u z
 go_enter Tryz.func96,Tryz.ntmps96
 go_upto_region 1 with (fail)
 clear a3
 go_wp2_with (first
  | (refine load_b rt_gt rfl _ rfl w.heap.size rfl (m.q.cells) M.out.vb ?_))
 refine (wshrink_any _ M.out.wv W.1 W.2).mono ?_
 rintro e w2 ⟨rfl,J,y2⟩
 have M:=Lh (M.out.call0 J y2)
 clear J y2
 go_wp2_with (first
  | (refine load_b rt_gt rfl _ rfl w.heap.size rfl (m.q.cells) M.out.vb ?_))
 refine (mup_any _ { m with s:={ m.s with live:=shrV m.s.live } } M.out.wv 8 a4).mono ?_
 rintro e w3 ⟨rfl,a6,Q,y3,l3⟩
 have M:=Lh (M.out.call Q y3 l3)
 clear Q y3 l3
 go_wp2_with (first
  | (refine load_b rt_gt rfl _ rfl w.heap.size rfl (m.q.cells) M.out.vb ?_)
  | (refine store_b rt_gt rfl _ _ rfl (w.heap.size+1) rfl (Gt.cells (shrinkM m).q) rfl M.out.tr rfl (by kernel_rfl) ?_; intro a7 Y a0; have a1:=Lh Y; have a2:=Lh a0; clear Y a0))
 refine bodyPost_ret (v:=(shrinkM m).q.val) (res_b rt_gt _ _ (w.heap.size+1) _ Tryz.results96 rfl a1.out) rfl ?_
 exact ⟨rfl,M.out.ret a2.out⟩
theorem munlive_any (w:World) {base:Nat} {I:Nat→Nat} {x:Wp} (m:Mg) (h:Wv base I w x m.s) (a4:m.s.ev.length≤1000) (W:0≤m.s.live∧m.s.live≤1000000) :
  Calls Tryz.prog 99 #[m.q.val,ptr x.pw] w (Mpost base I x w (unliveM m).s (unliveM m).q.val):=by
 obtain ⟨W1,a3,G,F,u,z⟩:=boxes_gt m.q w
 obtain ⟨a5,m1⟩:=Me.start h u z G F
 have M:=Lh m1
 clear m1 h
 clear G F u z
 go_enter Tryz.func99,Tryz.ntmps99
 go_upto_region 1 with (fail)
 clear a3
 go_wp2_with (first
  | (refine load_b rt_gt rfl _ rfl w.heap.size rfl (m.q.cells) M.out.vb ?_))
 refine (wshrink_any _ M.out.wv W.1 W.2).mono ?_
 rintro e w2 ⟨rfl,J,y2⟩
 have M:=Lh (M.out.call0 J y2)
 clear J y2
 go_wp2_with (first
  | (refine load_b rt_gt rfl _ rfl w.heap.size rfl (m.q.cells) M.out.vb ?_))
 refine (mup_any _ { m with s:={ m.s with live:=shrV m.s.live } } M.out.wv 6 a4).mono ?_
 rintro e w3 ⟨rfl,a6,Q,y3,l3⟩
 have M:=Lh (M.out.call Q y3 l3)
 clear Q y3 l3
 go_wp2_with (first
  | (refine load_b rt_gt rfl _ rfl w.heap.size rfl (m.q.cells) M.out.vb ?_)
  | (refine store_b rt_gt rfl _ _ rfl (w.heap.size+1) rfl (Gt.cells (unliveM m).q) rfl M.out.tr rfl (by kernel_rfl) ?_; intro a7 Y a0; have a1:=Lh Y; have a2:=Lh a0; clear Y a0))
 refine bodyPost_ret (v:=(unliveM m).q.val) (res_b rt_gt _ _ (w.heap.size+1) _ Tryz.results99 rfl a1.out) rfl ?_
 exact ⟨rfl,M.out.ret a2.out⟩
theorem wpub_no {w:World} {base:Nat} {u:Nat→Nat} {x:Wp} {s:Ws} (h:Wv base u w x s) (id:Int) (hid:U64 id) (Q:s.S.length≤1000000) (hc:s.closed=true∨(fnd s.D id).isSome=false):Calls Tryz.prog 77 #[ptr x.pw,.int .u64 id] w fun e w'=>e=.returned (.bool false) ∧ ∃ col',Wv base col' w' x s∧Fw u w w'∧El w u col':=by
 cases hcl:s.closed with
 | true=>
  refine (wpub_closed w h id hcl).mono ?_
  rintro e w' ⟨rfl,rfl⟩
  exact ⟨rfl,u,h,Fz.refl _ _,El.refl _ _⟩
 | false=>
  have F:(fnd s.D id).isSome=false:=by
   rcases hc with hc | hc
   ·rw [hcl] at hc; cases hc
   ·exact hc
  refine (wpub_open w h id hid Q hcl).mono ?_
  rintro e w' ⟨rfl,col',z,I,J⟩
  refine ⟨by unfold kn; rw [F]; rfl,col',?_,I,J⟩
  have G:pubS s.D s.S id=s.S:=by unfold pubS; rw [F]; rfl
  rw [G] at z
  exact z
theorem wpub_yes {w:World} {base:Nat} {u:Nat→Nat} {x:Wp} {s:Ws} (h:Wv base u w x s) (id:Int) (hid:U64 id) (F:s.S.length≤1000000) (hc:s.closed=false∧(fnd s.D id).isSome=true):Calls Tryz.prog 77 #[ptr x.pw,.int .u64 id] w fun e w'=>e=.returned (.bool true) ∧ ∃ col',Wv base col' w' x { s with S:=pubS s.D s.S id } ∧ Fw u w w'∧El w u col':=by
 refine (wpub_open w h id hid F hc.1).mono ?_
 rintro e w' ⟨rfl,z⟩
 exact ⟨by unfold kn; rw [hc.2]; rfl,z⟩
theorem mpublish_any (w:World) {base:Nat} {a0:Nat→Nat} {x:Wp} (m:Mg) (h:Wv base a0 w x m.s) (F:Hok m) (hid:U64 m.q.id) (hS:m.s.S.length≤1000000) :
  Calls Tryz.prog 97 #[m.q.val,ptr x.pw] w (Mpost base a0 x w (publishM m).s (publishM m).q.val):=by
 obtain ⟨r,z⟩:∃ r,publishM m=r:=⟨_,rfl⟩
 have HR:=Lh z
 rw [z]
 clear z
 obtain ⟨W1,a4,V1,T1,B1,S1⟩:=boxes_gt m.q w
 obtain ⟨a6,m1⟩:=Me.start h B1 S1 V1 T1
 have M:=Lh m1
 clear m1 h
 clear V1 T1 B1 S1
 go_enter Tryz.func97,Tryz.ntmps97
 go_upto_region 1 with (fail)
 clear a4
 by_cases hc:m.s.closed=false∧(fnd m.s.D m.q.id).isSome=true
 ·have a1:=Lh hc
  have z:r=ownM { m with s:={ m.s with S:=pubS m.s.D m.s.S m.q.id } }:=by rw [← HR.out]; unfold publishM; exact if_pos hc
  subst z
  clear hc
  have z3:=M.out.vb.cell 3 _ rfl
  go_wp2_with (first
   | (refine load_b rt_gt rfl _ rfl w.heap.size rfl (m.q.cells) M.out.vb ?_))
  refine (wpub_yes M.out.wv m.q.id hid hS a1.out).mono ?_
  rintro e w2 ⟨rfl,a3,u,Q,J⟩
  have M:=Lh (M.out.call u Q J)
  clear u Q J
  clear z3
  have z3:=M.out.vb.cell 3 _ rfl
  clear z3
  go_wp2_with (first
   | (refine load_b rt_gt rfl _ rfl w.heap.size rfl (m.q.cells) M.out.vb ?_))
  refine (mown_any _ { m with s:={ m.s with S:=pubS m.s.D m.s.S m.q.id } } M.out.wv ⟨F.mk_,F.ev,F.ll,F.tl,F.lk,F.nw⟩ hid).mono ?_
  rintro e w3 ⟨rfl,a7,h3,y3,l3⟩
  have M:=Lh (M.out.call h3 y3 l3)
  clear h3 y3 l3
  go_wp2_with (first
   | (refine load_b rt_gt rfl _ rfl w.heap.size rfl (m.q.cells) M.out.vb ?_)
   | (refine store_b rt_gt rfl _ _ rfl (w.heap.size+1) rfl (Gt.cells (ownM { m with s:={ m.s with S:=pubS m.s.D m.s.S m.q.id } }).q) rfl M.out.tr rfl (by kernel_rfl) ?_; intro a5 G I; have W:=Lh G; have Y:=Lh I; clear G I))
  refine bodyPost_ret (v:=(ownM { m with s:={ m.s with S:=pubS m.s.D m.s.S m.q.id } }).q.val) (res_b rt_gt _ _ (w.heap.size+1) _ Tryz.results97 rfl W.out) rfl ?_
  exact ⟨rfl,M.out.ret Y.out⟩
 ·have a2:Hid (m.s.closed=true∨(fnd m.s.D m.q.id).isSome=false):=Lh (by cases h1:m.s.closed with | true=>exact .inl rfl | false=>cases u:(fnd m.s.D m.q.id).isSome with | false=>exact .inr rfl | true=>exact absurd ⟨h1,u⟩ hc)
  have z:r=m.to gDrop:=by rw [← HR.out]; unfold publishM; exact if_neg hc
  subst z
  clear hc
  have z3:=M.out.vb.cell 3 _ rfl
  go_wp2_with (first
   | (refine load_b rt_gt rfl _ rfl w.heap.size rfl (m.q.cells) M.out.vb ?_))
  refine (wpub_no M.out.wv m.q.id hid hS a2.out).mono ?_
  rintro e w2 ⟨rfl,a3,u,Q,J⟩
  have M:=Lh (M.out.call u Q J)
  clear u Q J
  clear z3
  have z3:=M.out.vb.cell 3 _ rfl
  clear z3
  go_wp2_with (first
   | (refine load_b rt_gt rfl _ rfl w.heap.size rfl (m.q.cells) M.out.vb ?_))
  refine (mto_any m.q gDrop _).mono ?_
  rintro e w3 ⟨rfl,b3⟩
  have M:=Lh (M.out.later b3)
  clear b3
  go_wp2_with (first
   | (refine load_b rt_gt rfl _ rfl w.heap.size rfl (m.q.cells) M.out.vb ?_)
   | (refine store_b rt_gt rfl _ _ rfl (w.heap.size+1) rfl (Gt.cells (m.q.to gDrop)) rfl M.out.tr rfl (by kernel_rfl) ?_; intro a5 G I; have W:=Lh G; have Y:=Lh I; clear G I))
  refine bodyPost_ret (v:=(m.q.to gDrop).val) (res_b rt_gt _ _ (w.heap.size+1) _ Tryz.results97 rfl W.out) rfl ?_
  exact ⟨rfl,M.out.ret Y.out⟩
theorem mdrop_any (w:World) {base:Nat} {a2:Nat→Nat} {x:Wp} (m:Mg) (h:Wv base a2 w x m.s) (G:Hok m) (hid:U64 m.q.id) (a4:U64 m.q.word) (hC:m.s.C.length < 1000) :
  Calls Tryz.prog 98 #[m.q.val,ptr x.pw] w (Mpost base a2 x w (dropM m).s (dropM m).q.val):=by
 obtain ⟨r,u⟩:∃ r,dropM m=r:=⟨_,rfl⟩
 have HR:=Lh u
 rw [u]
 clear u
 obtain ⟨bk,a3⟩:∃ bk,bK m.s.D m.q.id m.q.word 3=bk:=⟨_,rfl⟩
 have Y:=Lh a3
 clear a3
 obtain ⟨W1,a6,V1,T1,B1,S1⟩:=boxes_gt m.q w
 obtain ⟨a8,m1⟩:=Me.start h B1 S1 V1 T1
 have M:=Lh m1
 clear m1 h
 clear V1 T1 B1 S1
 go_enter Tryz.func98,Tryz.ntmps98
 go_upto_region 1 with (fail)
 clear a6
 cases bk with
 | false=>
  have u:r=m.to gUnlive:=by rw [← HR.out]; unfold dropM; rw [Y.out]; rfl
  subst u
  have z3:=M.out.vb.cell 3 _ rfl
  have z4:=M.out.vb.cell 4 _ rfl
  have z0:=M.out.vb.cell 0 _ rfl
  go_wp2_with (first
   | (refine load_b rt_gt rfl _ rfl w.heap.size rfl (m.q.cells) M.out.vb ?_))
  refine (wrem_no _ (N:=m.N) M.out.wv G.mk_ m.q.id m.q.word m.q.th 0 hid G.nw a4 Y.out).mono ?_
  rintro e w2 ⟨rfl,a5,F,W,Q⟩
  have M:=Lh (M.out.call F W Q)
  clear F W Q
  clear z3 z4 z0
  have z3:=M.out.vb.cell 3 _ rfl
  have z4:=M.out.vb.cell 4 _ rfl
  have z0:=M.out.vb.cell 0 _ rfl
  clear z3 z4 z0
  go_wp2_with (first
   | (refine load_b rt_gt rfl _ rfl w.heap.size rfl (m.q.cells) M.out.vb ?_))
  refine (mto_any m.q gUnlive _).mono ?_
  rintro e w3 ⟨rfl,z⟩
  have M:=Lh (M.out.later z)
  clear z
  go_wp2_with (first
   | (refine load_b rt_gt rfl _ rfl w.heap.size rfl (m.q.cells) M.out.vb ?_)
   | (refine store_b rt_gt rfl _ _ rfl (w.heap.size+1) rfl (Gt.cells (m.q.to gUnlive)) rfl M.out.tr rfl (by kernel_rfl) ?_; intro a7 I J; have a0:=Lh I; have a1:=Lh J; clear I J))
  refine bodyPost_ret (v:=(m.q.to gUnlive).val) (res_b rt_gt _ _ (w.heap.size+1) _ Tryz.results98 rfl a0.out) rfl ?_
  exact ⟨rfl,M.out.ret a1.out⟩
 | true=>
  have u:r = { q:=m.q.to gUnlive,s:=remS m.s m.N m.q.id m.q.word m.q.th 0,N:=m.N.filter (· != m.q.id) }:=by rw [← HR.out]; unfold dropM; rw [Y.out]; rfl
  subst u
  have z3:=M.out.vb.cell 3 _ rfl
  have z4:=M.out.vb.cell 4 _ rfl
  have z0:=M.out.vb.cell 0 _ rfl
  go_wp2_with (first
   | (refine load_b rt_gt rfl _ rfl w.heap.size rfl (m.q.cells) M.out.vb ?_))
  refine (wrem_yes _ (N:=m.N) M.out.wv G.mk_ m.q.id m.q.word m.q.th 0 hid G.nw a4 Y.out hC G.ev).mono ?_
  rintro e w2 ⟨rfl,a5,F,W,Q⟩
  have M:=Lh (M.out.call F W Q)
  clear F W Q
  clear z3 z4 z0
  have z3:=M.out.vb.cell 3 _ rfl
  have z4:=M.out.vb.cell 4 _ rfl
  have z0:=M.out.vb.cell 0 _ rfl
  clear z3 z4 z0
  go_wp2_with (first
   | (refine load_b rt_gt rfl _ rfl w.heap.size rfl (m.q.cells) M.out.vb ?_))
  refine (mto_any m.q gUnlive _).mono ?_
  rintro e w3 ⟨rfl,z⟩
  have M:=Lh (M.out.later z)
  clear z
  go_wp2_with (first
   | (refine load_b rt_gt rfl _ rfl w.heap.size rfl (m.q.cells) M.out.vb ?_)
   | (refine store_b rt_gt rfl _ _ rfl (w.heap.size+1) rfl (Gt.cells (m.q.to gUnlive)) rfl M.out.tr rfl (by kernel_rfl) ?_; intro a7 I J; have a0:=Lh I; have a1:=Lh J; clear I J))
  refine bodyPost_ret (v:=(m.q.to gUnlive).val) (res_b rt_gt _ _ (w.heap.size+1) _ Tryz.results98 rfl a0.out) rfl ?_
  exact ⟨rfl,M.out.ret a1.out⟩
theorem mpark_any (w:World) {base:Nat} {Y:Nat→Nat} {x:Wp} (m:Mg) (h:Wv base Y w x m.s) (a6:m.s.sl.length≤1000) :
  Calls Tryz.prog 100 #[m.q.val,ptr x.pw] w (Mpost base Y x w (parkM m).s (parkM m).q.val):=by
 obtain ⟨Q,a5,J,I,F,G⟩:=boxes_gt m.q w
 obtain ⟨a7,m1⟩:=Me.start h F G J I
 have M:=Lh m1
 clear m1 h
 clear J I F G
 go_enter Tryz.func100,Tryz.ntmps100
 go_upto_region 1 with (fail)
 clear a5
 go_wp2_with fail
 have M:=Lh (M.out.later (Below.refl _ _).drew)
 have u:Hid (Vb Q.drew w.heap.size 16 (m.q.cells)∧Wc Q.drew x m.s):=Lh ⟨M.out.vb,M.out.wv.cells⟩
 refine reg_start 8 (fun w'=>Vb w' w.heap.size 16 (m.q.cells)∧Wc w' x m.s) (by kernel_rfl) (by kernel_rfl) ?_
 intro a0
 have z:=Lh a0
 clear a0
 refine rq 0 z.out u.out rfl ?_
 refine rq 1 z.out u.out rfl ?_
 refine rq 2 z.out u.out rfl ?_
 go_simp
 refine rq 3 z.out u.out rfl ?_ (hv:=fun w' hw=>by (have c10:=hw.2.c10; go_simp; exact rfl))
 refine rq 4 z.out u.out rfl ?_
 refine rq 5 z.out u.out rfl ?_ (hv:=fun w' hw=>by (have z0:=hw.1.cell 0 _ rfl; go_simp; exact rfl))
 go_simp
 refine rq 6 z.out u.out rfl ?_
 refine rq 7 z.out u.out rfl ?_ (hv:=fun w' hw=>by (have z1:=hw.1.cell 1 _ rfl; go_simp; exact rfl))
 refine reg_only 8 rfl (by kernel_rfl) rfl ?_
 unfold Oper.wp
 go_simp
 refine (wpark _ M.out.wv m.q.th m.q.dl a6).mono ?_
 rintro e w2 ⟨rfl,a8,h2,y2,l2⟩
 have M:=Lh (M.out.call h2 y2 l2)
 clear h2 y2 l2
 clear u
 refine reg_done (by kernel_rfl) ?_
 have z8:=M.out.vb.cell 8 _ rfl
 have f8:=M.out.free 8 (by decide)
 go_upto_region 3 with (fail)
 have M:=Lh (M.out.set 8 (by decide) (.bool true))
 clear z8 f8
 generalize (w2.setCell ⟨w.heap.size,8,none⟩ (.bool true))=w3 at *
 go_wp2_with (first
  | (refine load_b rt_gt rfl _ rfl w.heap.size rfl (Gt.cells { m.q with parked:=true }) M.out.vb ?_))
 refine (mto_any { m.q with parked:=true } gSnap _).mono ?_
 rintro e w4 ⟨rfl,W⟩
 have M:=Lh (M.out.later W)
 clear W
 go_wp2_with (first
  | (refine load_b rt_gt rfl _ rfl w.heap.size rfl (Gt.cells { m.q with parked:=true }) M.out.vb ?_)
  | (refine store_b rt_gt rfl _ _ rfl (w.heap.size+1) rfl (Gt.cells (parkM m).q) rfl M.out.tr rfl (by kernel_rfl) ?_; intro a9 a1 a2; have a3:=Lh a1; have a4:=Lh a2; clear a1 a2))
 refine bodyPost_ret (v:=(parkM m).q.val) (res_b rt_gt _ _ (w.heap.size+1) _ Tryz.results100 rfl a3.out) rfl ?_
 exact ⟨rfl,M.out.ret a4.out⟩
end Go.Proofs.YtoiklelghfckgaaGreatDoor.Wo
