/- A part of the claim: the texts DocNew. -/
import Derived.Test.YtoiklelghfckgaaGreatDoorZPlayT
import Derived.Test.YtoiklelghfckgaaGreatDoorZGMisc
import Derived.Test.YtoiklelghfckgaaGreatDoorZGAwK
set_option maxRecDepth 100000
set_option maxHeartbeats 8000000
set_option linter.unusedVariables false
namespace Go.Proofs.YtoiklelghfckgaaGreatDoor.Wo
open Go Go.ChangeShapes Go.WideShapes Go.ChangeAt Go.RowKit Go.Deep Go.Maps Rw Hi Mt Ba
open Cn (Cf cfE)
theorem under_rc:Tryz.prog.underlying 28=some (Tryz.prog.underlying 28).get!:=by kernel_rfl
theorem row_rc:((Tryz.prog.underlying 28).get!).isRow=true:=by kernel_rfl
theorem info_rc:(Tryz.prog.info? 28).map (·.size)=some 7:=by kernel_rfl
theorem exec_load_rc (h:Oper) (ev:Operand→Value) (y:Operand) (u:h.op=.load 28 y) {g:Nat} (hx:ev y=.pointer (some ⟨g,0,none⟩)) {w:World} {c:Cf} (hv:w.rangeAt g 0 (ccs c)):(execOp ev h).run Tryz.prog w=.ok (.value c.v) w:=by
 unfold execOp
 simp only [u,hx,Instr.loadAt,Instr.sureAddr,Sem.run_bind,Sem.run_pure,Result.andThen_ok,run_loadVar_mid (P:=Tryz.prog) w g 0 28 _ _ hv under_rc row_rc info_rc]
section
variable {ops:Array Oper} {rest:List Oper} {op:Oper} {a:Act} {w:World} {Q:Exit→Act→World→Prop}
theorem load_rc (u:op.guard=none) (y:Operand) (z:op.op=.load 28 y) (g:Nat) (hx:a.eval y=.pointer (some ⟨g,0,none⟩)) (c:Cf) (hv:w.rangeAt g 0 (ccs c))
  (h:wpList Tryz.prog ops Q rest (a.put op.dst c.v) w):wpList Tryz.prog ops Q (op :: rest) a w:=
 wpList_load_mid u 28 y z g 0 hx _ _ hv under_rc row_rc info_rc h
end
theorem range_blk {w w':World} {g:Nat} {cs:List Value} (h:w.rangeAt g 0 cs) (z:w'.heap[g]? = w.heap[g]?):w'.rangeAt g 0 cs:=fun j u F=>(World.cell?_of_block z).trans (h j u F)
theorem range_later {w w':World} {g:Nat} {c:Cf} (h:w.rangeAt g 0 (ccs c)) (u:Below w.heap.size w w'):w'.rangeAt g 0 (ccs c):=range_blk h (u.block _ (hr3lt h))
def ZW:List Value:=[.int .i64 0,.int .i64 0,.int .u64 0,.int .u64 0,.int .u64 0,.int .u64 0,.float .f64 0,.int .u64 0,.slice none 0 0,.slice none 0 0,.slice none 0 0,.slice none 0 0,.int .u64 0,.slice none 0 0,.slice none 0 0,.slice none 0 0,.slice none 0 0,.slice none 0 0,.slice none 0 0,.int .u64 0,.slice none 0 0,.int .i64 0,.bool false]
theorem boxes_n (c:Cf) (w:World):∃ W,(w.alloc (.cells #[.int .i64 c.max,.int .i64 c.min,.int .u64 c.idle,.int .u64 c.life,.int .u64 c.keep,.int .u64 c.leak,.float .f64 c.var] 28)).alloc (.cells #[.int .i64 0,.int .i64 0,.int .u64 0,.int .u64 0,.int .u64 0,.int .u64 0,.float .f64 0,.int .u64 0,.slice none 0 0,.slice none 0 0,.slice none 0 0,.slice none 0 0,.int .u64 0,.slice none 0 0,.slice none 0 0,.slice none 0 0,.slice none 0 0,.slice none 0 0,.slice none 0 0,.int .u64 0,.slice none 0 0,.int .i64 0,.bool false] 46)=W ∧
  W.rangeAt w.heap.size 0 (ccs c)∧W.there (w.heap.size+1) 0 23∧Below w.heap.size w W∧W.heap.size=w.heap.size+2:=by
 obtain ⟨h,z⟩:∃ h,w.alloc (.cells #[.int .i64 c.max,.int .i64 c.min,.int .u64 c.idle,.int .u64 c.life,.int .u64 c.keep,.int .u64 c.leak,.float .f64 c.var] 28)=h:=⟨_,rfl⟩
 have Y:h.heap[w.heap.size]? = some (.cells #[.int .i64 c.max,.int .i64 c.min,.int .u64 c.idle,.int .u64 c.life,.int .u64 c.keep,.int .u64 c.leak,.float .f64 c.var] 28):=z ▸ heap_alloc_last _ _
 have hr:h.rangeAt w.heap.size 0 (ccs c):=fun j u hj=>by
  rw [cell_of_row _ _ _ _ _ _ Y]; simpa using hj
 have b1:Below w.heap.size w h:=z ▸ (Below.refl _ _).alloc (Nat.le_refl _) _
 have s1:h.heap.size=w.heap.size+1:=by rw [← z]; simp
 rw [z]
 obtain ⟨I,J,G,F,s2⟩:=box_w ZW h rfl
 rw [s1] at G
 exact ⟨I,J,range_later hr F,G.th,b1.trans (F.mono b1.size),by omega⟩
abbrev newS (c:Cf) (O P:List Bool):Ws:=⟨c,0,[],[],fun _=>[],[],c.leak,[],[],[],O,P,0,[],0,[],0,false⟩
end Go.Proofs.YtoiklelghfckgaaGreatDoor.Wo
namespace Go.Proofs.YtoiklelghfckgaaGreatDoor.St
open Go.ChangeShapes Go.WideShapes Go.ChangeAt Go.RowKit Go.Deep Rw Hi
theorem rparkK_any (w:World) {K:Nat→Prop} (a1:∀ g,w.heap.size≤g→K g) (A:Option Addr) (n c:Nat) (l:List Sx) (t d:Int) (hk:Kn K n A) (h:Rs enc3 3 w w.heap.size A n c l) (hn:n≤1000) :
  Calls Tryz.prog 85 #[.slice A n c,.int .i64 t,.int .u64 d] w fun e w'=>∃ A' n' c',e=.returned (.tuple #[.slice A' n' c',.int .i64 (parkE l t)])∧Rs enc3 3 w' w'.heap.size A' n' c' (parkL l t d)∧Kn K n' A'∧Below w.heap.size w w':=by
 obtain ⟨i0,hi,a7,a8,a9⟩:=info_parts info_rslot
 have z:=Lh h
 have ad:=Lh h.len
 clear h
 have ac:=Lh a1
 clear a1
 cases hf:l.findIdx? (hit t) with
 | some k=>
  obtain ⟨F,G⟩:=park_hit (d:=d) hf
  have J:=Lh (ixZ_some hf)
  rw [F,G]
  clear F G hf
  go_enter Tryz.func85,Tryz.ntmps85
  go_wp2_with fail
  refine (rof_any A n c _ l t w z.out (Nat.le_refl _)).mono ?_
  rw [J.out]
  rintro e w1 ⟨rfl,u⟩
  go_wp2_with fail
  go_ret2
  exact ⟨A,n,c,rfl,z.out.later u,hk,u⟩
 | none=>
  obtain ⟨F,G⟩:=park_miss (d:=d) hf
  have J:=Lh (ixZ_none hf)
  rw [F,G]
  clear F G hf
  go_enter Tryz.func85,Tryz.ntmps85
  go_wp2_with fail
  refine (rof_any A n c _ l t w z.out (Nat.le_refl _)).mono ?_
  rw [J.out]
  rintro e w1 ⟨rfl,u⟩
  have a6:=u.size
  have R1:=Lh (z.out.later u)
  have B1:=Lh u
  clear u z
  go_wp2_with (
   at_builtin
   refine append_rs enc3_len rfl _ _ 34 rfl w.heap.size 231 i0 _ 24 Tryz.underlying34 hi a7 a8 a9 rfl (by decide) (.slice none 0 0) 0 [] rfl (World.ownsRow_nil _ _ _ _) _ A n c l rfl R1.out enc3_one n (Nat.zero_add _) (flat enc3 l) rfl (by unfold maxLen; omega) (by omega) a6 ?_
   intro A2 c2 I a4 a2 ah
   refine Hid.out ?_)
  refine Lh ?_
  have B2:=Lh (B1.out.grown a2 a6 (fun j W=>by cases W))
  have aj:=B2.out.size
  have a0:=Lh (a4.alloc (.cells #[.int .i64 t,.int .u64 d,.int .u64 0] 231))
  have B3:=Lh (B2.out.alloc aj (.cells #[.int .i64 t,.int .u64 d,.int .u64 0] 231))
  have a5:Rs enc3 3 (I.alloc (.cells #[.int .i64 t,.int .u64 d,.int .u64 0] 231)) (I.heap.size+1) (some ⟨I.heap.size,0,none⟩) 1 1 [(t,d,0)]:=rs_one enc3_len I (t,d,0) 231 (cs:=#[.int .i64 t,.int .u64 d,.int .u64 0]) rfl
  have ag:=Lh a5
  clear a4 a2 ah a5 B1 R1
  go_wp2_with (
   at_builtin
   refine append_rs enc3_len rfl _ _ 34 rfl w.heap.size 231 i0 _ 24 Tryz.underlying34 hi a7 a8 a9 rfl (by decide) (.slice A2 n c2) n _ rfl a0.out _ _ 1 1 [(t,d,0)] rfl ag.out enc3_one (n+1) rfl (flat enc3 (l ++ [(t,d,0)])) (flat_append _ _).symm (by unfold maxLen; omega) (by omega) (by simp; omega) ?_
   intro A3 c3 w3 Y a3 ai
   have af:=Lh (Rs.own_rs enc3_len (xs:=l ++ [(t,d,0)]) (by simp [ad.out]) Y)
   have ae:=Lh Y.lt
   have aa:=Lh (B3.out.grown a3 (by simp; omega) (fun j W=>(a0.out.lt j W).1))
   clear Y a3 ai)
  go_ret2
  exact ⟨A3,n+1,c3,rfl,af.out,(fun _ a e=>ac.out _ (by subst e; exact (ae.out _ rfl).1)),aa.out⟩
end Go.Proofs.YtoiklelghfckgaaGreatDoor.St
namespace Go.Proofs.YtoiklelghfckgaaGreatDoor.Wo
open Go Go.ChangeShapes Go.WideShapes Go.ChangeAt Go.RowKit Go.Deep Go.Maps Rw Hi Mt Ba
open Cn (Cf cfE)
theorem dnew_dw {K:Nat→Prop} {w:World} {c:Cf} {G:Option Addr} {cl:Nat} {vs:List Lc.Sv} {h Ap:Option Addr} {no u F z:Nat} {O P:List Bool} (W:Lk.Dc K w G cl vs (fun _=>[])) (I:Fk.Rn K w h no u O) (J:Fk.Rn K w Ap F z P) :
  Dw K w ⟨⟨none,0,0,none,0,0⟩,G,8,cl,vs,none,0,0,⟨none,0,0,none,0,0,none,0,0⟩,h,no,u,Ap,F,z,none,0,none,0,0⟩ (newS c O P) []:=by
 exact ⟨Dq.nil_,W,Rs.nil_,Kn.nil_,⟨Rs.nil_,Rd.nil_,Rs.nil_,.inl ⟨rfl,rfl⟩,.inl ⟨rfl,rfl⟩,Kn.nil_,Kn.nil_,Kn.nil_⟩,⟨⟨h,no,u,Ap,F,z,none,0,[],rfl,I,J,Fk.Rn.nil_ _ _,Fc.Sh.nil_⟩⟩,Rs.nil_,Kn.nil_,rfl⟩
section
variable {K:Nat→Prop} (w:World)
theorem dnew_any (c:Cf) (hc:c.ok) (h0:cfE c=0) (ak:∀ g,w.heap.size≤g→K g) (G Ap:Option Addr) (no I Y J:Nat) (O P:List Bool) (hO:Fk.Rn K w G no I O) (hP:Fk.Rn K w Ap Y J P) :
  Calls Tryz.prog 33 #[c.v,.slice G no I,.slice Ap Y J] w fun e w'=>∃ v':Dv,e=.returned (.tuple #[v'.val (newS c O P),.int .i64 0])∧Dw K w' v' (newS c O P) [] ∧ Below w.heap.size w w':=by
 obtain ⟨z,al,V1,T1,B1,S1⟩:=boxes_n c w
 have ad:Hid (∀ g,z.heap.size≤g→Ks K w g):=Lh (fun g W=>⟨ak g (by omega),by omega,by omega⟩)
 have af:Hid (Fk.Rn (Ks K w) z G no I O):=Lh ((rn_mono hO (fun g W hk=>⟨hk,by omega,by omega⟩)).below B1)
 have ag:Hid (Fk.Rn (Ks K w) z Ap Y J P):=Lh ((rn_mono hP (fun g W hk=>⟨hk,by omega,by omega⟩)).below B1)
 have HC:=Lh hc
 have H0:=Lh h0
 have a7:=Lh V1
 have a6:=Lh T1
 have a3:=Lh B1
 clear V1 T1 B1 hc h0 hO hP
 go_enter Tryz.func33,Tryz.ntmps33
 go_upto_region 1 with (fail)
 clear al
 go_wp2_with (first
  | (refine load_rc rfl _ rfl w.heap.size rfl c a7.out ?_))
 have a1:=Cn.rcheck13_any c HC.out z
 rw [H0.out] at a1
 refine a1.mono ?_
 rintro e w2 ⟨rfl,b2⟩
 have a4:=Lh b2
 have ai:=Lh (range_later a7.out b2)
 have aq:=Lh (th_later a6.out b2)
 clear b2 a1
 go_wp2_with fail
 have a5:Hid (Below z.heap.size z w2.drew):=Lh (a4.out.trans ((Below.refl _ _).drew))
 have h:Hid (w2.drew.rangeAt w.heap.size 0 (ccs c)):=Lh (range_blk ai.out rfl)
 refine reg_start 11 (fun w'=>w'.rangeAt w.heap.size 0 (ccs c)) (by kernel_rfl) (by kernel_rfl) ?_
 intro a9
 have u:=Lh a9
 clear a9
 refine rl 0 u.out h.out rfl ?_
 apply Exists.intro
 refine ⟨fun w' hw=>exec_load_rc _ _ _ rfl rfl hw,?_⟩
 refine rq 2 u.out h.out rfl ?_
 refine rq 3 u.out h.out rfl ?_ (hv:=fun w' hw=>by (have kc:w'.cell? ⟨w.heap.size,5,none⟩=some (.int .u64 c.leak):=(by have:=hw 5 _ rfl; simpa using this); go_simp; exact rfl))
 refine rq 4 u.out h.out rfl ?_
 refine rq 5 u.out h.out rfl ?_
 refine rq 6 u.out h.out rfl ?_
 refine rq 7 u.out h.out rfl ?_
 refine reg_only 1 rfl (by kernel_rfl) rfl ?_
 unfold Oper.wp
 go_simp
 refine (Lk.rnew_any (K:=Ks K w) w2.drew (fun g W=>ad.out g (by have:=a4.out.size; have W:w2.heap.size≤g:=W; omega))).mono ?_
 rintro e w3 ⟨Al,cl,vs,rfl,aa,b3⟩
 have F:w3.rangeAt w.heap.size 0 (ccs c):=range_later h.out b3
 refine ⟨F,?_⟩
 clear h
 have h:=Lh F
 have ae:=Lh aa
 have a0:Hid (Below z.heap.size z w3):=Lh (a5.out.trans (b3.mono a5.out.size))
 have ah:=Lh (th_later a6.out a0.out)
 clear F aa b3
 refine rq 8 u.out h.out rfl ?_
 refine reg_only 9 rfl (by kernel_rfl) rfl ?_
 refine wp_store_w _ _ rfl (w.heap.size+1) rfl ⟨⟨none,0,0,none,0,0⟩,Al,8,cl,vs,none,0,0,⟨none,0,0,none,0,0,none,0,0⟩,G,no,I,Ap,Y,J,none,0,none,0,0⟩ (newS c O P) rfl ah.out ?_
 intro w4 ac a2
 have F:w4.rangeAt w.heap.size 0 (ccs c):=range_blk h.out (a2.block _ (hr3lt h.out) (by simp))
 refine ⟨fun _=>F,?_⟩
 clear h
 have h:=Lh F
 have aj:=Lh ac
 have a8:=Lh a2
 clear F ac a2
 refine rq 10 u.out h.out rfl ?_
 refine reg_done (by kernel_rfl) ?_
 go_wp2_with fail
 have ao:Dw (Ks K w) w3 ⟨⟨none,0,0,none,0,0⟩,Al,8,cl,vs,none,0,0,⟨none,0,0,none,0,0,none,0,0⟩,G,no,I,Ap,Y,J,none,0,none,0,0⟩ (newS c O P) []:=dnew_dw ae.out (af.out.below a0.out) (ag.out.below a0.out)
 have an:Below w.heap.size w w3:=a3.out.trans (a0.out.mono a3.out.size)
 exact bodyPost_ret (v:=.tuple #[Dv.val _ (newS c O P),.int .i64 0]) (res_w2 _ _ (w.heap.size+1) _ _ Tryz.results33 rfl aj.out) rfl ⟨_,rfl,end_w ao (fz1 a8.out (.inr rfl)),fz_low (fz1 a8.out (.inr rfl)) an⟩
theorem dpark_any (v:Dv) (s:Ws) (N:List Int) (h:Dw K w v s N) (a6:∀ g,w.heap.size≤g→K g) (t d:Int) (hn:s.sl.length≤1000) :
  Calls Tryz.prog 36 #[v.val s,.int .i64 t,.int .u64 d] w fun e w'=>∃ v':Dv,e=.returned (v'.val { s with sl:=St.parkL s.sl t d })∧Dw K w' v' { s with sl:=St.parkL s.sl t d } N∧Below w.heap.size w w':=by
 obtain ⟨W1,ai,V1,T1,W,S1⟩:=boxes_w (v.cells s) w rfl
 obtain ⟨d1,k1⟩:=start_w h a6 W S1
 have I:=Lh d1
 have ad:=Lh k1
 have a3:=Lh V1
 have a1:=Lh T1
 have Y:=Lh W
 have a0:=V1.cell 11 _ rfl
 clear V1 T1 W d1 k1 h a6
 go_enter Tryz.func36,Tryz.ntmps36
 go_upto_region 1 with (fail)
 clear ai
 go_wp2_with fail
 refine (St.rparkK_any W1 ad.out v.sA v.sn v.sc s.sl t d I.out.sk I.out.sl (by have:=I.out.sl.len; omega)).mono ?_
 rintro e F ⟨A',n',u,rfl,a7,aj,G⟩
 have ac:Hid (Dw (Ks K w) F { v with sA:=A',sn:=n',sc:=u } { s with sl:=St.parkL s.sl t d } N):=Lh (by
  have z:=I.out.later G
  exact ⟨z.bag,z.loc,a7,aj,z.book,z.fact,z.hist,z.hk,z.l8⟩)
 have J:=Lh (a3.out.later G)
 have a2:=Lh (th_later a1.out G)
 have aa:=Lh (Y.out.trans (G.mono Y.out.size))
 have ak:=G.size
 clear a7 G I a3 a1 Y a0
 have a0:=J.out.cell 11 _ rfl
 have ah:=J.out.free 11 (by decide)
 go_upto_region 2 with (fail)
 have af:Hid (Vw (F.setCell ⟨w.heap.size,11,none⟩ (.slice A' n' u)) w.heap.size (Dv.cells { v with sA:=A',sn:=n',sc:=u } { s with sl:=St.parkL s.sl t d })):=Lh (J.out.set 11 (by simp [cells_len]) (.slice A' n' u))
 have ae:Hid ((F.setCell ⟨w.heap.size,11,none⟩ (.slice A' n' u)).there (w.heap.size+1) 0 23):=Lh (th_set (j:=11) a2.out (r:=w.heap.size) (by omega) (.slice A' n' u))
 have a4:Hid (Fz (Bx2 w) F (F.setCell ⟨w.heap.size,11,none⟩ (.slice A' n' u))):=Lh ((Fz.refl _ F).trans (fz_set (j:=11) (.slice A' n' u) (.inl rfl)))
 generalize (F.setCell ⟨w.heap.size,11,none⟩ (.slice A' n' u))=W4 at *
 clear J a2 a0 ah
 go_wp2_with (first
  | (refine load_w rfl _ rfl w.heap.size rfl { v with sA:=A',sn:=n',sc:=u } { s with sl:=St.parkL s.sl t d } af.out ?_)
  | (refine store_w rfl _ _ rfl (w.heap.size+1) rfl { v with sA:=A',sn:=n',sc:=u } { s with sl:=St.parkL s.sl t d } rfl ae.out ?_; intro w9 a8 a9; have ag:=Lh a8; have a5:=Lh a9; clear a8 a9))
 exact bodyPost_ret (v:=Dv.val { v with sA:=A',sn:=n',sc:=u } { s with sl:=St.parkL s.sl t d }) (res_w _ _ (w.heap.size+1) _ _ Tryz.results36 rfl ag.out) rfl ⟨{ v with sA:=A',sn:=n',sc:=u },rfl,end_w ac.out (a4.out.trans (fz1 a5.out (.inr rfl))),fz_low (a4.out.trans (fz1 a5.out (.inr rfl))) aa.out⟩
theorem dmark_any (v:Dv) (s:Ws) (N:List Int) (h:Dw K w v s N) (a9:∀ g,w.heap.size≤g→K g) (id th:Int) (ar:Mt.Nd s.L) (hn:s.L.length≤1000) (au:N.length≤1000) (av:s.T.length≤1000) :
  Calls Tryz.prog 38 #[v.val s,.int .u64 id,.int .i64 th] w fun e w'=>∃ v':Dv,e=.returned (v'.val s)∧Dw K w' v' s (mrkN s.L N id th)∧Below w.heap.size w w':=by
 obtain ⟨W1,aq,I,T1,W,S1⟩:=boxes_w (v.cells s) w rfl
 obtain ⟨d1,k1⟩:=start_w h a9 W S1
 have G:=Lh d1
 have ag:=Lh k1
 have a6:=Lh I
 have a4:=Lh T1
 have Y:=Lh W
 have a0:=I.cell 12 _ rfl
 have a1:=I.cell 13 _ rfl
 have a2:=I.cell 14 _ rfl
 have a3:=I.cell 15 _ rfl
 clear I T1 W d1 k1 h a9
 go_enter Tryz.func38,Tryz.ntmps38
 go_upto_region 1 with (fail)
 clear aq
 go_wp2_with fail
 refine (Le.rmark_any s.leak v.k.A v.k.A2 v.k.A3 v.k.n v.k.c v.k.n2 v.k.c2 v.k.n3 v.k.c3 s.L N s.T W1 id th G.out.book ag.out ar (by have:=G.out.book.l.len; omega) (by have:=G.out.book.m.len; omega) (by have:=G.out.book.t.len; omega)).mono ?_
 rintro e F ⟨d,rfl,aa,J⟩
 have af:Hid (Dw (Ks K w) F { v with k:=d } s (mrkN s.L N id th)):=Lh (by
  have z:=G.out.later J
  exact ⟨z.bag,z.loc,z.sl,z.sk,aa,z.fact,z.hist,z.hk,z.l8⟩)
 have u:=Lh (a6.out.later J)
 have a5:=Lh (th_later a4.out J)
 have ae:=Lh (Y.out.trans (J.mono Y.out.size))
 have aw:=J.size
 clear aa J G a6 a4 Y a0 a1 a2 a3
 have a0:=u.out.cell 12 _ rfl
 have ak:=u.out.free 12 (by decide)
 have a1:=u.out.cell 13 _ rfl
 have al:=u.out.free 13 (by decide)
 have a2:=u.out.cell 14 _ rfl
 have an:=u.out.free 14 (by decide)
 have a3:=u.out.cell 15 _ rfl
 have ao:=u.out.free 15 (by decide)
 go_upto_region 2 with (fail)
 have ai:Hid (Vw ((((F.setCell ⟨w.heap.size,12,none⟩ (.int .u64 s.leak)).setCell ⟨w.heap.size,13,none⟩ (.slice d.A d.n d.c)).setCell ⟨w.heap.size,14,none⟩ (.slice d.A2 d.n2 d.c2)).setCell ⟨w.heap.size,15,none⟩ (.slice d.A3 d.n3 d.c3)) w.heap.size (Dv.cells { v with k:=d } s)):=Lh ((((u.out.set 12 (by simp [cells_len]) (.int .u64 s.leak)).set 13 (by simp [cells_len]) (.slice d.A d.n d.c)).set 14 (by simp [cells_len]) (.slice d.A2 d.n2 d.c2)).set 15 (by simp [cells_len]) (.slice d.A3 d.n3 d.c3))
 have ah:Hid (((((F.setCell ⟨w.heap.size,12,none⟩ (.int .u64 s.leak)).setCell ⟨w.heap.size,13,none⟩ (.slice d.A d.n d.c)).setCell ⟨w.heap.size,14,none⟩ (.slice d.A2 d.n2 d.c2)).setCell ⟨w.heap.size,15,none⟩ (.slice d.A3 d.n3 d.c3)).there (w.heap.size+1) 0 23):=Lh (th_set (j:=15) (th_set (j:=14) (th_set (j:=13) (th_set (j:=12) a5.out (r:=w.heap.size) (by omega) (.int .u64 s.leak)) (r:=w.heap.size) (by omega) (.slice d.A d.n d.c)) (r:=w.heap.size) (by omega) (.slice d.A2 d.n2 d.c2)) (r:=w.heap.size) (by omega) (.slice d.A3 d.n3 d.c3))
 have a7:Hid (Fz (Bx2 w) F ((((F.setCell ⟨w.heap.size,12,none⟩ (.int .u64 s.leak)).setCell ⟨w.heap.size,13,none⟩ (.slice d.A d.n d.c)).setCell ⟨w.heap.size,14,none⟩ (.slice d.A2 d.n2 d.c2)).setCell ⟨w.heap.size,15,none⟩ (.slice d.A3 d.n3 d.c3))):=Lh (((((Fz.refl _ F).trans (fz_set (j:=12) (.int .u64 s.leak) (.inl rfl))).trans (fz_set (j:=13) (.slice d.A d.n d.c) (.inl rfl))).trans (fz_set (j:=14) (.slice d.A2 d.n2 d.c2) (.inl rfl))).trans (fz_set (j:=15) (.slice d.A3 d.n3 d.c3) (.inl rfl)))
 generalize ((((F.setCell ⟨w.heap.size,12,none⟩ (.int .u64 s.leak)).setCell ⟨w.heap.size,13,none⟩ (.slice d.A d.n d.c)).setCell ⟨w.heap.size,14,none⟩ (.slice d.A2 d.n2 d.c2)).setCell ⟨w.heap.size,15,none⟩ (.slice d.A3 d.n3 d.c3))=W4 at *
 clear u a5 a0 ak a1 al a2 an a3 ao
 go_wp2_with (first
  | (refine load_w rfl _ rfl w.heap.size rfl { v with k:=d } s ai.out ?_)
  | (refine store_w rfl _ _ rfl (w.heap.size+1) rfl { v with k:=d } s rfl ah.out ?_; intro w9 ac ad; have aj:=Lh ac; have a8:=Lh ad; clear ac ad))
 exact bodyPost_ret (v:=Dv.val { v with k:=d } s) (res_w _ _ (w.heap.size+1) _ _ Tryz.results38 rfl aj.out) rfl ⟨{ v with k:=d },rfl,end_w af.out (a7.out.trans (fz1 a8.out (.inr rfl))),fz_low (a7.out.trans (fz1 a8.out (.inr rfl))) ae.out⟩
end
end Go.Proofs.YtoiklelghfckgaaGreatDoor.Wo
