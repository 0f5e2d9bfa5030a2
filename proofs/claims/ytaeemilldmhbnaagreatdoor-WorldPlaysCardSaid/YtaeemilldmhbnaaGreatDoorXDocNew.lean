/- A part of the claim: the texts DocNew. -/
import Derived.Test.YtaeemilldmhbnaaGreatDoorXPlayT
import Derived.Test.YtaeemilldmhbnaaGreatDoorXGMisc
import Derived.Test.YtaeemilldmhbnaaGreatDoorXGAwK
set_option maxRecDepth 100000
set_option maxHeartbeats 8000000
set_option linter.unusedVariables false
namespace Go.Proofs.YtaeemilldmhbnaaGreatDoor.Wo
open Go Go.ChangeShapes Go.WideShapes Go.ChangeAt Go.RowKit Go.Deep Go.Maps Rw Hi Mt Ba
open Cn (Cf cfE)
theorem under_rc:Tryz.prog.underlying 36=some (Tryz.prog.underlying 36).get!:=by kernel_rfl
theorem row_rc:((Tryz.prog.underlying 36).get!).isRow=true:=by kernel_rfl
theorem info_rc:(Tryz.prog.info? 36).map (·.size)=some 7:=by kernel_rfl
theorem exec_load_rc (h:Oper) (ev:Operand→Value) (y:Operand) (u:h.op=.load 36 y) {g:Nat} (hx:ev y=.pointer (some ⟨g,0,none⟩)) {w:World} {c:Cf} (hv:w.rangeAt g 0 (ccs c)):(execOp ev h).run Tryz.prog w=.ok (.value c.v) w:=by
 unfold execOp
 simp only [u,hx,Instr.loadAt,Instr.sureAddr,Sem.run_bind,Sem.run_pure,Result.andThen_ok,run_loadVar_mid (P:=Tryz.prog) w g 0 36 _ _ hv under_rc row_rc info_rc]
section
variable {ops:Array Oper} {rest:List Oper} {op:Oper} {a:Act} {w:World} {Q:Exit→Act→World→Prop}
theorem load_rc (u:op.guard=none) (y:Operand) (z:op.op=.load 36 y) (g:Nat) (hx:a.eval y=.pointer (some ⟨g,0,none⟩)) (c:Cf) (hv:w.rangeAt g 0 (ccs c))
  (h:wpList Tryz.prog ops Q rest (a.put op.dst c.v) w):wpList Tryz.prog ops Q (op :: rest) a w:=
 wpList_load_mid u 36 y z g 0 hx _ _ hv under_rc row_rc info_rc h
end
theorem range_blk {w w':World} {g:Nat} {cs:List Value} (h:w.rangeAt g 0 cs) (z:w'.heap[g]? = w.heap[g]?):w'.rangeAt g 0 cs:=fun j u F=>(World.cell?_of_block z).trans (h j u F)
theorem range_later {w w':World} {g:Nat} {c:Cf} (h:w.rangeAt g 0 (ccs c)) (u:Below w.heap.size w w'):w'.rangeAt g 0 (ccs c):=range_blk h (u.block _ (hr3lt h))
def ZW:List Value:=[.int .i64 0,.int .i64 0,.int .u64 0,.int .u64 0,.int .u64 0,.int .u64 0,.float .f64 0,.int .u64 0,.slice none 0 0,.slice none 0 0,.slice none 0 0,.slice none 0 0,.int .u64 0,.slice none 0 0,.slice none 0 0,.slice none 0 0,.slice none 0 0,.slice none 0 0,.slice none 0 0,.int .u64 0,.slice none 0 0,.int .i64 0,.bool false]
theorem boxes_n (c:Cf) (w:World):∃ W,(w.alloc (.cells #[.int .i64 c.max,.int .i64 c.min,.int .u64 c.idle,.int .u64 c.life,.int .u64 c.keep,.int .u64 c.leak,.float .f64 c.var] 36)).alloc (.cells #[.int .i64 0,.int .i64 0,.int .u64 0,.int .u64 0,.int .u64 0,.int .u64 0,.float .f64 0,.int .u64 0,.slice none 0 0,.slice none 0 0,.slice none 0 0,.slice none 0 0,.int .u64 0,.slice none 0 0,.slice none 0 0,.slice none 0 0,.slice none 0 0,.slice none 0 0,.slice none 0 0,.int .u64 0,.slice none 0 0,.int .i64 0,.bool false] 53)=W ∧
  W.rangeAt w.heap.size 0 (ccs c)∧W.there (w.heap.size+1) 0 23∧Below w.heap.size w W∧W.heap.size=w.heap.size+2:=by
 obtain ⟨h,z⟩:∃ h,w.alloc (.cells #[.int .i64 c.max,.int .i64 c.min,.int .u64 c.idle,.int .u64 c.life,.int .u64 c.keep,.int .u64 c.leak,.float .f64 c.var] 36)=h:=⟨_,rfl⟩
 have N:h.heap[w.heap.size]? = some (.cells #[.int .i64 c.max,.int .i64 c.min,.int .u64 c.idle,.int .u64 c.life,.int .u64 c.keep,.int .u64 c.leak,.float .f64 c.var] 36):=z ▸ heap_alloc_last _ _
 have hr:h.rangeAt w.heap.size 0 (ccs c):=fun j u Y=>by
  rw [cell_of_row _ _ _ _ _ _ N]; simpa using Y
 have b1:Below w.heap.size w h:=z ▸ (Below.refl _ _).alloc (Nat.le_refl _) _
 have s1:h.heap.size=w.heap.size+1:=by rw [← z]; simp
 rw [z]
 obtain ⟨I,J,G,F,s2⟩:=box_w ZW h rfl
 rw [s1] at G
 exact ⟨I,J,range_later hr F,G.th,b1.trans (F.mono b1.size),by omega⟩
abbrev newS (c:Cf) (O P:List Bool):Ws:=⟨c,0,[],[],fun _=>[],[],c.leak,[],[],[],O,P,0,[],0,[],0,false⟩
end Go.Proofs.YtaeemilldmhbnaaGreatDoor.Wo
namespace Go.Proofs.YtaeemilldmhbnaaGreatDoor.St
open Go.ChangeShapes Go.WideShapes Go.ChangeAt Go.RowKit Go.Deep Rw Hi
end Go.Proofs.YtaeemilldmhbnaaGreatDoor.St
namespace Go.Proofs.YtaeemilldmhbnaaGreatDoor.Wo
open Go Go.ChangeShapes Go.WideShapes Go.ChangeAt Go.RowKit Go.Deep Go.Maps Rw Hi Mt Ba
open Cn (Cf cfE)
theorem dnew_dw {K:Nat→Prop} {w:World} {c:Cf} {I:Option Addr} {cl:Nat} {vs:List Lc.Sv} {h Ap:Option Addr} {F u G z:Nat} {O P:List Bool} (W:Lk.Dc K w I cl vs (fun _=>[])) (J:Fk.Rn K w h F u O) (N:Fk.Rn K w Ap G z P) :
  Dw K w ⟨⟨none,0,0,none,0,0⟩,I,8,cl,vs,none,0,0,⟨none,0,0,none,0,0,none,0,0⟩,h,F,u,Ap,G,z,none,0,none,0,0⟩ (newS c O P) []:=by
 exact ⟨Dq.nil_,W,Rs.nil_,Kn.nil_,⟨Rs.nil_,Rd.nil_,Rs.nil_,.inl ⟨rfl,rfl⟩,.inl ⟨rfl,rfl⟩,Kn.nil_,Kn.nil_,Kn.nil_⟩,⟨⟨h,F,u,Ap,G,z,none,0,[],rfl,J,N,Fk.Rn.nil_ _ _,Fc.Sh.nil_⟩⟩,Rs.nil_,Kn.nil_,rfl⟩
section
variable {K:Nat→Prop} (w:World)
theorem dnew_any (c:Cf) (hc:c.ok) (h0:cfE c=0) (ak:∀ g,w.heap.size≤g→K g) (G Ap:Option Addr) (W I Y J:Nat) (O P:List Bool) (hO:Fk.Rn K w G W I O) (hP:Fk.Rn K w Ap Y J P) :
  Calls Tryz.prog 8 #[c.v,.slice G W I,.slice Ap Y J] w fun e w'=>∃ v':Dv,e=.returned (.tuple #[v'.val (newS c O P),.int .i64 0])∧Dw K w' v' (newS c O P) [] ∧ Below w.heap.size w w':=by
 obtain ⟨z,al,V1,T1,B1,S1⟩:=boxes_n c w
 have ad:Hid (∀ g,z.heap.size≤g→Ks K w g):=Lh (fun g N=>⟨ak g (by omega),by omega,by omega⟩)
 have af:Hid (Fk.Rn (Ks K w) z G W I O):=Lh ((rn_mono hO (fun g N hk=>⟨hk,by omega,by omega⟩)).below B1)
 have ag:Hid (Fk.Rn (Ks K w) z Ap Y J P):=Lh ((rn_mono hP (fun g N hk=>⟨hk,by omega,by omega⟩)).below B1)
 have HC:=Lh hc
 have H0:=Lh h0
 have a7:=Lh V1
 have a6:=Lh T1
 have a3:=Lh B1
 clear V1 T1 B1 hc h0 hO hP
 go_enter Tryz.func8,Tryz.ntmps8
 go_upto_region 1 with (fail)
 clear al
 go_wp2_with (first
  | (refine load_rc rfl _ rfl w.heap.size rfl c a7.out ?_))
 have a1:=Cn.rcheck13_any c HC.out z
 rw [H0.out] at a1
 refine a1.mono ?_
 rintro e w2 ⟨rfl,b2⟩
 have a4:=Lh b2
 have ai:=Lh (range_later a7.out b2)
 have aq:=Lh (th_later a6.out b2)
 clear b2 a1
 go_wp2_with fail
 have a5:Hid (Below z.heap.size z w2.drew):=Lh (a4.out.trans ((Below.refl _ _).drew))
 have h:Hid (w2.drew.rangeAt w.heap.size 0 (ccs c)):=Lh (range_blk ai.out rfl)
 refine reg_start 11 (fun w'=>w'.rangeAt w.heap.size 0 (ccs c)) (by kernel_rfl) (by kernel_rfl) ?_
 intro a9
 have u:=Lh a9
 clear a9
 refine rl 0 u.out h.out rfl ?_
 apply Exists.intro
 refine ⟨fun w' hw=>exec_load_rc _ _ _ rfl rfl hw,?_⟩
 refine rq 2 u.out h.out rfl ?_
 refine rq 3 u.out h.out rfl ?_ (hv:=fun w' hw=>by (have kc:w'.cell? ⟨w.heap.size,5,none⟩=some (.int .u64 c.leak):=(by have:=hw 5 _ rfl; simpa using this); go_simp; exact rfl))
 refine rq 4 u.out h.out rfl ?_
 refine rq 5 u.out h.out rfl ?_
 refine rq 6 u.out h.out rfl ?_
 refine rq 7 u.out h.out rfl ?_
 refine reg_only 1 rfl (by kernel_rfl) rfl ?_
 unfold Oper.wp
 go_simp
 refine (Lk.rnew_any (K:=Ks K w) w2.drew (fun g N=>ad.out g (by have:=a4.out.size; have N:w2.heap.size≤g:=N; omega))).mono ?_
 rintro e w3 ⟨Al,cl,vs,rfl,aa,b3⟩
 have F:w3.rangeAt w.heap.size 0 (ccs c):=range_later h.out b3
 refine ⟨F,?_⟩
 clear h
 have h:=Lh F
 have ae:=Lh aa
 have a0:Hid (Below z.heap.size z w3):=Lh (a5.out.trans (b3.mono a5.out.size))
 have ah:=Lh (th_later a6.out a0.out)
 clear F aa b3
 refine rq 8 u.out h.out rfl ?_
 refine reg_only 9 rfl (by kernel_rfl) rfl ?_
 refine wp_store_w _ _ rfl (w.heap.size+1) rfl ⟨⟨none,0,0,none,0,0⟩,Al,8,cl,vs,none,0,0,⟨none,0,0,none,0,0,none,0,0⟩,G,W,I,Ap,Y,J,none,0,none,0,0⟩ (newS c O P) rfl ah.out ?_
 intro w4 ac a2
 have F:w4.rangeAt w.heap.size 0 (ccs c):=range_blk h.out (a2.block _ (hr3lt h.out) (by simp))
 refine ⟨fun _=>F,?_⟩
 clear h
 have h:=Lh F
 have aj:=Lh ac
 have a8:=Lh a2
 clear F ac a2
 refine rq 10 u.out h.out rfl ?_
 refine reg_done (by kernel_rfl) ?_
 go_wp2_with fail
 have ao:Dw (Ks K w) w3 ⟨⟨none,0,0,none,0,0⟩,Al,8,cl,vs,none,0,0,⟨none,0,0,none,0,0,none,0,0⟩,G,W,I,Ap,Y,J,none,0,none,0,0⟩ (newS c O P) []:=dnew_dw ae.out (af.out.below a0.out) (ag.out.below a0.out)
 have an:Below w.heap.size w w3:=a3.out.trans (a0.out.mono a3.out.size)
 exact bodyPost_ret (v:=.tuple #[Dv.val _ (newS c O P),.int .i64 0]) (res_w2 _ _ (w.heap.size+1) _ _ Tryz.results8 rfl aj.out) rfl ⟨_,rfl,end_w ao (fz1 a8.out (.inr rfl)),fz_low (fz1 a8.out (.inr rfl)) an⟩
end
end Go.Proofs.YtaeemilldmhbnaaGreatDoor.Wo
