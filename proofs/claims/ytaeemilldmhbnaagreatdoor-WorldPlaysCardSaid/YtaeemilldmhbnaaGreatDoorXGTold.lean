/- A part of the claim: the texts FactTold LeaseC LeaseTold. -/
import Derived.Test.YtaeemilldmhbnaaGreatDoorXGFact
import Derived.Test.YtaeemilldmhbnaaGreatDoorXBase1
import Derived.Test.YtaeemilldmhbnaaGreatDoorXBase6
import Derived.Test.YtaeemilldmhbnaaGreatDoorXGSort
import Derived.Test.YtaeemilldmhbnaaGreatDoorXGLease
import Derived.Test.YtaeemilldmhbnaaGreatDoorXGLeaseRef
import Derived.Test.YtaeemilldmhbnaaGreatDoorXBase5
import Derived.Deep.RegionHeld3
import Derived.Deep.CutRange
import Derived.Deep.CutBlock
set_option maxRecDepth 100000
set_option maxHeartbeats 8000000
set_option linter.unusedVariables false
namespace Go.Proofs.YtaeemilldmhbnaaGreatDoor.Fc
open Go.ChangeShapes Go.WideShapes Go.ChangeAt Go.RowKit Go.Maps Rw
theorem rids_any (v:Value) (p m n:Nat) (O P:List Bool) (C:List Int) (w:World) (h:Rf w p m v O P n C) (hn:n≤1000) :
  Calls Tryz.prog 78 #[v] w fun e w'=>∃ A c q,e=.returned (.slice A q c)∧(ids C n).length=q∧w'.ownsRow w.heap.size 22 1 (.slice A q c) q ((ids C n).map (Value.int .u64))∧Below w.heap.size w w':=by
 obtain ⟨i0,hi,ac,ad,ae⟩:=info_parts info_u64
 obtain ⟨A1,n1,c1,A2,n2,c2,A3,c3,S,rfl,h1,h2,W,Y⟩:=h.form
 have H3:=Lh W
 have H4:=Lh Y
 clear h h1 h2 W Y
 go_enter Tryz.func78,Tryz.ntmps78
 go_wp2_with fail
 go_loopw [3,9] (fun v i wr=>∃ (k q c:Nat) (A:Option Addr),k≤n∧i=.int .i64 k∧v=.slice A q c∧(ids C k).length=q ∧
   wr.ownsRow w.heap.size 22 1 (.slice A q c) q ((ids C k).map (Value.int .u64))∧Below w.heap.size w wr) (fun _ i _=>n - (intOf i).toNat)
 case atStart=>exact ⟨0,0,0,none,Nat.zero_le _,rfl,rfl,rfl,World.ownsRow_nil _ _ _ _,(Below.refl _ _).alloc (Nat.le_refl _) _⟩
 case round=>
  obtain ⟨k,q,c,A,hk,rfl,rfl,hq,a4,hb⟩:=hrel
  have I:=Lh a4
  have z:=Lh hb
  have N:=Lh hq
  have af:q≤k:=by have:=ids_len C k; omega
  clear a4 hb hq
  by_cases hlt:k < n
  ·obtain ⟨g,o,x,rfl,hg,hx,hc⟩:=(H3.out.below z.out).rd.get hlt
   have J:=H4.out.2 k x hx
   clear hx
   cases x
   ·have F:((k:Int)+1) ∉ C:=by simpa using J.symm
    have u:ids C (k+1)=ids C k ++ [(k:Int)+1]:=by simp [ids,F]
    have G:=Lh u
    have a2:(ids C k).map (Value.int .u64) ++ [(k:Int)+1].map (Value.int .u64)=(ids C (k+1)).map (Value.int .u64):=by rw [u,List.map_append]
    have a7:=Lh a2
    have a3:Rd (Value.int .u64) (wr.alloc (.cells #[.int .u64 ((k:Int)+1)] 22)) (wr.heap.size+1) (some ⟨wr.heap.size,0,none⟩) 1 1 [(k:Int)+1]:=rd_one wr ((k:Int)+1) 22
    have a8:=Lh a3
    have hs:=z.out.size
    clear u F a2 J a3
    go_wp2_with (
     at_builtin
     refine append_rd _ rfl _ _ 38 rfl w.heap.size 22 i0 (.int .u64 0) 8 Tryz.underlying38 hi ac ad ae rfl _ q _ rfl (I.out.alloc _) _ _ 1 1 [(k:Int)+1] rfl a8.out one_u64 (q+1) rfl _ a7.out (by unfold maxLen; omega) (by omega) (by simp; omega) ?_
     intro A5 c5 w5 a5 a1 aa
     have a9:=Lh a5
     have a0:Below w.heap.size w w5:=(z.out.alloc hs _).grown a1 (by simp; omega) (fun j hj=>(I.out.lt j hj).1)
     have a6:=Lh a0
     clear a5 a1 a0 aa)
    go_roundw
    case rel=>exact ⟨k+1,q+1,c5,A5,by omega,by go_num,rfl,by rw [G.out]; simp [N.out],a9.out,a6.out⟩
    case measure=>simp [intOf]; omega
   ·have F:((k:Int)+1)∈C:=by simpa using J.symm
    have u:ids C (k+1)=ids C k:=by simp [ids,F]
    have G:=Lh u
    clear u F J
    go_wp2_with fail
    go_roundw
    case rel=>exact ⟨k+1,q,c,A,by omega,by go_num,rfl,by rw [G.out]; exact N.out,by rw [G.out]; exact I.out,z.out⟩
    case measure=>simp [intOf]; omega
  ·obtain rfl:k=n:=by omega
   go_wp2_with fail
   go_ret
   exact ⟨_,_,_,rfl,N.out,I.out,z.out⟩
theorem fclone_any (p b m n:Nat) (O P:List Bool) (C:List Int) (w:World) (h:Fa w b m p O P n C) (hO:O.length≤1000) (hP:P.length≤1000) :
  Calls Tryz.prog 45 #[ptr p] w fun e w'=>∃ m' p',e=.returned (ptr p')∧Fa w' w.heap.size m' p' O P n C∧Below w.heap.size w w':=by
 obtain ⟨A0,k0,c0,d0,s0⟩:=h.opens
 obtain ⟨A1,k1,c1,d1,s1⟩:=h.proofs
 have d2:=h.many
 have d3:=h.map
 have hl:=h.in_
 have ar:=h.lt
 have HH:=Lh h
 have an:=Lh s0
 have ao:=Lh s1
 have l0:k0≤1000:=by have:=s0.rd.len; omega
 have l1:k1≤1000:=by have:=s1.rd.len; omega
 clear h s0 s1 hO hP
 go_enter Tryz.func45,Tryz.ntmps45
 go_wp2_with fail
 refine reg_start 19 (fun w'=>w'.cell? ⟨p,0,none⟩=some (.slice A0 k0 c0)∧w'.cell? ⟨p,1,none⟩=some (.slice A1 k1 c1)∧w'.cell? ⟨p,2,none⟩=some (.int .u64 n)∧w'.cell? ⟨p,3,none⟩=some (.map (some m))) (by kernel_rfl) (by kernel_rfl) ?_
 intro hT
 have u:=Lh hT
 clear hT
 refine rq 0 u.out ⟨d0,d1,d2,d3⟩ rfl ?_ (hv:=fun w' hw=>by (obtain ⟨z,F,G,I⟩:=hw; go_simp; exact rfl))
 refine rq 1 u.out ⟨d0,d1,d2,d3⟩ rfl ?_ (hv:=fun w' hw=>by (obtain ⟨z,F,G,I⟩:=hw; go_simp; exact rfl))
 refine rq 2 u.out ⟨d0,d1,d2,d3⟩ rfl ?_ (hv:=fun w' hw=>by (obtain ⟨z,F,G,I⟩:=hw; go_simp; exact rfl))
 refine rq 3 u.out ⟨d0,d1,d2,d3⟩ rfl ?_ (hv:=fun w' hw=>by (obtain ⟨z,F,G,I⟩:=hw; go_simp; exact rfl))
 refine rq 5 u.out ⟨d0,d1,d2,d3⟩ rfl ?_ (hv:=fun w' hw=>by (obtain ⟨z,F,G,I⟩:=hw; go_simp; exact rfl))
 refine rq 6 u.out ⟨d0,d1,d2,d3⟩ rfl ?_ (hv:=fun w' hw=>by (obtain ⟨z,F,G,I⟩:=hw; go_simp; exact rfl))
 refine rq 7 u.out ⟨d0,d1,d2,d3⟩ rfl ?_ (hv:=fun w' hw=>by (obtain ⟨z,F,G,I⟩:=hw; go_simp; exact rfl))
 refine rq 8 u.out ⟨d0,d1,d2,d3⟩ rfl ?_ (hv:=fun w' hw=>by (obtain ⟨z,F,G,I⟩:=hw; go_simp; exact rfl))
 refine rq 10 u.out ⟨d0,d1,d2,d3⟩ rfl ?_ (hv:=fun w' hw=>by (obtain ⟨z,F,G,I⟩:=hw; go_simp; exact rfl))
 refine rq 11 u.out ⟨d0,d1,d2,d3⟩ rfl ?_ (hv:=fun w' hw=>by (obtain ⟨z,F,G,I⟩:=hw; go_simp; exact rfl))
 refine rq 12 u.out ⟨d0,d1,d2,d3⟩ rfl ?_ (hv:=fun w' hw=>by (obtain ⟨z,F,G,I⟩:=hw; go_simp; exact rfl))
 refine rq 13 u.out ⟨d0,d1,d2,d3⟩ rfl ?_ (hv:=fun w' hw=>by (obtain ⟨z,F,G,I⟩:=hw; go_simp; exact rfl))
 refine rq 14 u.out ⟨d0,d1,d2,d3⟩ rfl ?_ (hv:=fun w' hw=>by (obtain ⟨z,F,G,I⟩:=hw; go_simp; exact rfl))
 refine rq 15 u.out ⟨d0,d1,d2,d3⟩ rfl ?_ (hv:=fun w' hw=>by (obtain ⟨z,F,G,I⟩:=hw; go_simp; exact rfl))
 refine rq 16 u.out ⟨d0,d1,d2,d3⟩ rfl ?_ (hv:=fun w' hw=>by (obtain ⟨z,F,G,I⟩:=hw; go_simp; exact rfl))
 refine rq 17 u.out ⟨d0,d1,d2,d3⟩ rfl ?_ (hv:=fun w' hw=>by (obtain ⟨z,F,G,I⟩:=hw; go_simp; exact rfl))
 have keep:∀ w',Below w.heap.size w w'→w'.cell? ⟨p,0,none⟩=some (.slice A0 k0 c0)∧w'.cell? ⟨p,1,none⟩=some (.slice A1 k1 c1)∧w'.cell? ⟨p,2,none⟩=some (.int .u64 n)∧w'.cell? ⟨p,3,none⟩=some (.map (some m)):=fun w' J=>⟨(J.cell (p:=⟨p,0,none⟩) hl).trans d0,(J.cell (p:=⟨p,1,none⟩) hl).trans d1,(J.cell (p:=⟨p,2,none⟩) hl).trans d2,(J.cell (p:=⟨p,3,none⟩) hl).trans d3⟩
 have a2:=Lh keep
 clear keep
 refine reg_only 4 rfl (by kernel_rfl) rfl ?_
 unfold Oper.wp
 go_simp
 refine (sclone_any A0 k0 c0 O m _ (an.out.rd.below (Below.refl _ _).drew) (by simp; omega) (by omega)).mono ?_
 rintro e w1 ⟨B0,q0,rfl,ag,aa⟩
 have ac:Below w.heap.size w w1:=(Below.refl _ _).drew.trans aa
 have ak:=Lh ag
 have W:=Lh ac
 clear ag aa ac
 refine ⟨a2.out _ W.out,?_⟩
 refine reg_only 9 rfl (by kernel_rfl) rfl ?_
 unfold Oper.wp
 go_simp
 refine (sclone_any A1 k1 c1 P m _ (ao.out.rd.keep fun q hq=>W.out.cell (by omega)) (by have:=W.out.size; omega) (by omega)).mono ?_
 rintro e N ⟨B1,q1,rfl,ah,a5⟩
 have ad:Below w.heap.size w N:=W.out.trans (a5.mono W.out.size)
 have al:=Lh (own_mono ah W.out.size)
 have a1:=Lh a5
 have a0:=Lh ad
 clear ah a5 ad
 refine ⟨a2.out _ a0.out,?_⟩
 refine reg_only 18 rfl (by kernel_rfl) rfl ?_
 unfold Oper.wp
 go_simp
 refine (setclone_any _ m C (by obtain ⟨es,a4,J,hr⟩:=HH.out.own; exact ⟨es,a4,(a0.out.block m (by omega)).trans J,hr⟩)).mono ?_
 rintro e Y ⟨rfl,af,a6,a7⟩
 have ae:Below w.heap.size w Y:=a0.out.trans (a6.mono a0.out.size)
 have aj:=Lh af
 have aq:=Lh a7
 clear a7
 have ai:=Lh a6
 have a8:=Lh ae
 clear af a6 ae
 refine ⟨a2.out _ a8.out,?_⟩
 refine reg_only 19 rfl (by kernel_rfl) rfl ?_
 unfold Oper.wp
 go_simp
 refine reg_only 20 rfl (by kernel_rfl) rfl ?_
 unfold Oper.wp
 go_simp
 refine reg_only 21 rfl (by kernel_rfl) rfl ?_
 unfold Oper.wp
 go_simp
 refine reg_done (by kernel_rfl) ?_
 go_wp2_with fail
 go_ret
 have z2:=a0.out.size
 have a7:=aq.out
 have a3:Below Y.heap.size Y (Y.alloc (.cells #[.slice B0 k0 q0,.slice B1 k1 q1,.int .u64 n,.map (some N.heap.size)] 110)):=(Below.refl _ _).alloc (Nat.le_refl _) _
 have a9:Below N.heap.size N (Y.alloc (.cells #[.slice B0 k0 q0,.slice B1 k1 q1,.int .u64 n,.map (some N.heap.size)] 110)):=ai.out.trans (a3.mono (by omega))
 refine ⟨N.heap.size,Y.heap.size,rfl,⟨⟨B0,k0,q0,by go_simp,own_scr ak.out (a1.out.trans (a9.mono a1.out.size)) a1.out.size⟩,⟨B1,k1,q1,by go_simp,own_scr al.out a9 (Nat.le_refl _)⟩,by go_simp,by go_simp,?_,fun o=>by simp,z2,by omega,HH.out.nd,HH.out.mem⟩,a8.out.trans (a3.mono (by omega))⟩
 obtain ⟨es,a4,J,hr⟩:=aj.out
 exact ⟨es,a4,(a3.block N.heap.size (by omega)).trans J,hr⟩
theorem uequal_same (A A':Option Addr) (n c z:Nat) (u:List Int) (B B':Nat) (w:World) (h:Rd (Value.int .u64) w B A n c u) (F:Rd (Value.int .u64) w B' A' n z u) :
  Calls Tryz.prog 75 #[.slice A n c,.slice A' n z] w fun e w'=>e=.returned (.bool true)∧Below w.heap.size w w':=
 (Sl.equal_any A A' n c n z u u B B' w h F).mono fun e w' ⟨G,q,I⟩=>⟨by rw [G,decide_eq_true rfl],I ▸ below_drewN (Below.refl _ _) q⟩
end Go.Proofs.YtaeemilldmhbnaaGreatDoor.Fc
namespace Go.Proofs.YtaeemilldmhbnaaGreatDoor.Le
open Go.ChangeShapes Go.WideShapes Go.ChangeAt Go.RowKit Go.Maps Rw Hi Mt Ck
section
variable (w:World) {ops:Array Oper} {rest:List Oper} {o:Oper} {a:Act} {Q:Exit→Act→World→Prop}
theorem nextL (hg:o.guard=none) (u:Operand) (a1:o.op=Op.next u false) (b r:Nat) (l left:List (Int × Ls)) (hit:a.eval u=.pointer (some ⟨r,0,none⟩)) (h:Rg Tryz.prog 22 eL w b r l left)
  (Y:left=[] → wpList Tryz.prog ops Q rest (a.put o.dst (.tuple #[.bool false])) w)
  (a0:∀ y (q:Ls) w',(y,q)∈left→U64 y→Rg Tryz.prog 22 eL w' b r l (wo left y)→w'.rangeLeft b r < w.rangeLeft b r→w.grownBy w' (some r)→w'.heap.size=w.heap.size →
   (Instr.entry (.pointer (some ⟨r,0,none⟩))).run Tryz.prog w'=.ok (.tuple #[.int .u64 y,.agg #[.int .i64 q.thread,.int .u64 q.since,.bool q.flag]]) w'→wpList Tryz.prog ops Q rest (a.put o.dst (.tuple #[.bool true,.int .u64 y,.agg #[.int .i64 q.thread,.int .u64 q.since,.bool q.flag]])) w'):wpList Tryz.prog ops Q (o :: rest) a w:=
 next1 w hg u a1 22 Tryz.underlying22 b r l left hit h Y fun y x w' z F G I J N W=>by
  exact a0 y x w' z F G I J N W
end
theorem grown_of_below {w w':World} (h:Below w.heap.size w w'):w.grownBy w' none:=⟨h.os,h.tape,h.output,h.size,fun k hk _=>h.block k hk⟩
theorem own_keep {w w':World} {base e size n:Nat} {v:Value} {xs:List Value} (h:w.ownsRow base e size v n xs) (u:Below w.heap.size w w'):w'.ownsRow base e size v n xs:=
 h.kept (grown_of_below u) (by cases hv:v.ownBlock with | none=>exact .inl rfl | some k=>exact .inr (by simp))
theorem info_u64:(Tryz.prog.info? 22).map (fun i=>(i.zero,i.size,i.bytes))=some (some (.int .u64 0),1,8):=by kernel_rfl
theorem one_u64 (y:Int):(Value.int .u64 y).oneCell'=true:=rfl
theorem clo_held (w:World) (t s th:Int) (f:Bool) (h:Nat) (hc:w.cell? ⟨h,0,none⟩=some (.int .i64 th)) :
  Calls Tryz.prog 195 #[.agg #[.int .i64 t,.int .u64 s,.bool f],.pointer (some ⟨h,0,none⟩)] w fun e w'=>e=.returned (.bool (t == th))∧Below w.heap.size w w':=by
 have u:=Lw.lt_heap hc
 go_enter Tryz.func195,Tryz.ntmps195
 go_wp2
 go_ret
 exact ⟨rfl,(Below.refl _ _).alloc (Nat.le_refl _) _⟩
theorem clo_flag (w:World) (t s:Int) (f:Bool) :
  Calls Tryz.prog 196 #[.agg #[.int .i64 t,.int .u64 s,.bool f]] w fun e w'=>e=.returned (.bool f)∧Below w.heap.size w w':=by
 go_enter Tryz.func196,Tryz.ntmps196
 go_wp2
 go_ret
 exact ⟨rfl,(Below.refl _ _).alloc (Nat.le_refl _) _⟩
theorem where_held (w:World) (x:At) (leak:Int) (L:List (Int × Ls)) (M:List (Int × Bool)) (T:List (Int × Int)) (th:Int) (G:Nat) (an:w.cell? ⟨G,0,none⟩=some (.int .i64 th)) (h:Bk w x leak L M T) (hL:L.length≤200) :
  Calls Tryz.prog 194 #[ptr x.p,.func (.func 195) #[] #[.pointer (some ⟨G,0,none⟩)]] w fun e w'=>∃ (A:Option Addr) (c:Nat) (ks:List Int),e=.returned (.slice A ks.length c)∧ks.Perm ((L.filter (fun a=>a.2.thread == th)).map Prod.fst)∧ks.Pairwise (· ≤ ·)∧Rd (Value.int .u64) w' w'.heap.size A ks.length c ks∧Below w.heap.size w w':=by
 have c1:=h.c1
 obtain ⟨i0,hi,aG,aH,aI⟩:=info_parts info_u64
 obtain ⟨aP,aM,aN,aQ,aO⟩:=h.lt
 have HK:=Lh h
 clear h
 go_enter Tryz.func194,Tryz.ntmps194
 go_wp2_with (at_range; refine range1 _ rfl _ 192 rfl 22 210 Tryz.underlying22 Tryz.underlying192 x.a L rfl HK.out.leases ?_; intro w0 av ac aT)
 go_frame
 have al:Below w.heap.size w w0:=(Below.refl _ w).grown ac (Nat.le_refl _) (fun g u=>by cases u)
 have k0:w0.cell? ⟨G,0,none⟩=some (.int .i64 th):=ac.cell an (by simp)
 have aL:=Lw.lt_heap an
 clear ac
 go_loopw [5] (fun v wr=>∃ (left:List (Int × Ls)) (A:Option Addr) (c n:Nat) (F N:List (Int × Ls)),v=.slice A n c∧F.length=n∧Rg Tryz.prog 22 eL wr x.a w.heap.size L left∧wr.ownsRow (w.heap.size+1) 22 1 (.slice A n c) n (F.map (fun a=>Value.int .u64 a.1)) ∧
   w.heap.size+1≤wr.heap.size∧n+left.length≤L.length∧wr.cell? ⟨G,0,none⟩=some (.int .i64 th)∧Hid (Below w.heap.size w wr∧F=N.filter (fun a=>a.2.thread == th)∧(N ++ left).Perm L))
  (fun _ wr=>wr.rangeLeft x.a w.heap.size)
 case atStart=>exact ⟨L,none,0,0,[],[],rfl,rfl,av,World.ownsRow_nil _ _ _ _,by omega,by omega,k0,al,rfl,List.Perm.refl _⟩
 case round=>
  clear av al k0
  obtain ⟨left,A,c,n,F,N,rfl,hn,J,a4,aV,aA,k0,W⟩:=hrel
  go_wp2_with (at_next; refine nextL _ rfl _ rfl x.a w.heap.size L left rfl J ?_ ?_)
  ·intro aC
   subst aC
   have HR:=Lh a4
   have HG:=Lh J
   clear a4 J
   go_wp2_with fail
   refine (So.sortU_any wr (w.heap.size+1) A n c (F.map Prod.fst) (by simpa using hn) (by rw [List.map_map]; exact HR.out) (by simp at aA; omega)).mono ?_
   rintro e z ⟨rfl,ks,hp,aw,a3,ao⟩
   have az:=Lh aw
   have HP:=Lh hp
   have a9:=Lh a3
   have ay:=Lh ao
   have aD:ks.length=n:=by rw [hp.length_eq]; simpa using hn
   clear hp a3 ao aw
   go_wp2_with fail
   go_ret
   subst aD
   refine ⟨A,c,ks,rfl,?_,az.out,a9.out,W.out.1.grown ay.out (by omega) (fun g u=>by have:=(HR.out.lt g u).1; omega)⟩
   refine HP.out.trans ?_
   rw [W.out.2.1]
   have au:=W.out.2.2
   rw [List.append_nil] at au
   exact (au.filter _).map _
  ·intro y q Y ad aW aX a6 ar a5 aU aB
   obtain ⟨t,s,f⟩:=q
   have ax:=a4.kept a5 (Or.inr (fun e=>by have:=(a4.lt _ e).1; omega))
   have k1:Y.cell? ⟨G,0,none⟩=some (.int .i64 th):=a5.cell k0 (by simp; omega)
   have af:=Lh (W.out.1.grown a5 (by omega) (fun g u=>by injection u with u; omega))
   have HS:=Lh W.out.2
   have HM:=Lh ad
   have aJ:=Lh a6.nd
   have aj:=Lh J.ndl
   have aR:=J.lt
   have aS:(wo left y).length+1=left.length:=wo_len J.ndl (mem_key.2 ⟨_,ad⟩)
   have ai:=Lh ar
   clear a4 J a5 W ad ar k0
   go_wp2_with fail
   refine (clo_held _ t s th f G (alloc_cell k1 _)).mono ?_
   rintro e z ⟨rfl,aa⟩
   have aF:=aa.size
   simp at aF
   have I:Below Y.heap.size Y z:=((Below.refl _ Y).alloc (Nat.le_refl _) _).trans (aa.mono (by simp))
   have a0:Y.grownBy z none:=⟨I.os,I.tape,I.output,I.size,fun k hk _=>I.block k hk⟩
   have a7:=a6.kept a0 (by simp) (by simp)
   have ae:=own_keep ax I
   have k2:z.cell? ⟨G,0,none⟩=some (.int .i64 th):=a0.cell k1 (by simp)
   have ag:=Lh (af.out.grown a0 (by omega) (fun g u=>by cases u))
   have aq:z.rangeLeft x.a w.heap.size=Y.rangeLeft x.a w.heap.size:=a6.left_kept a0 (by simp) (by simp)
   have ah:=Lh aq
   clear ax a6 aB aa I a0 af aq k1
   cases hP:t == th with
   | true=>
    have a3:Rd (Value.int .u64) (z.alloc (.cells #[.int .u64 y] 22)) (z.heap.size+1) (some ⟨z.heap.size,0,none⟩) 1 1 [y]:=rd_one (enc:=Value.int .u64) z y 22
    have a9:=Lh a3
    have ak:=Lh ae
    have a8:=Lh hP
    clear a3 hP
    go_wp2_with (at_builtin; (refine append_rd _ rfl _ _ 38 rfl (w.heap.size+1) 22 i0 (.int .u64 0) 8 Tryz.underlying38 hi aG aH aI rfl _ n _ rfl (ae.alloc _) _ _ 1 1 [y] rfl a9.out one_u64 (n+1) rfl ((F ++ [(y,(⟨t,s,f⟩:Ls))]).map (fun a=>Value.int .u64 a.1)) (by simp) (by unfold maxLen; omega) (by omega) (by simp; omega) ?_; intro A3 c3 w3 aE a1 aK))
    have s3:=a1.size
    simp at s3
    have a2:∀ g,g < w.heap.size+1→some g≠(Value.slice A n c).ownBlock:=fun g u e=>by have:=(ak.out.lt g e.symm).1; omega
    go_roundw
    case rel=>
     refine ⟨wo left y,A3,c3,n+1,F ++ [(y,⟨t,s,f⟩)],N ++ [(y,⟨t,s,f⟩)],rfl,by simp [hn],(a7.alloc _).kept a1 (a2 _ (by omega)) (a2 _ (by omega)),aE,by omega,by omega,a1.cell (alloc_cell k2 _) (a2 _ (by show G < _; omega)),?_,?_,?_⟩
     ·exact (ag.out.alloc (by omega) _).grown a1 (by simp; omega) (fun g u=>by have:=(ak.out.lt g u).1; omega)
     ·rw [HS.out.1,List.filter_append]
      congr 1
      simp [a8.out]
     ·rw [List.append_assoc]
      exact (List.Perm.append_left N (perm_wo aj.out HM.out).symm).trans HS.out.2
    case measure=>
     rw [(a7.alloc _).left_kept a1 (a2 _ (by omega)) (a2 _ (by omega)),a7.left_kept (World.grownBy_alloc z _ none) (by simp) (by simp),ah.out]
     exact ai.out
   | false=>
    have a8:=Lh hP
    clear hP
    go_wp2_with fail
    go_roundw
    case rel=>
     refine ⟨wo left y,A,c,n,F,N ++ [(y,⟨t,s,f⟩)],rfl,hn,a7,ae,by omega,by omega,k2,ag.out,?_,?_⟩
     ·rw [HS.out.1,List.filter_append]
      simp [a8.out]
     ·rw [List.append_assoc]
      exact (List.Perm.append_left N (perm_wo aj.out HM.out).symm).trans HS.out.2
    case measure=>rw [ah.out]; exact ai.out
theorem where_flagged (w:World) (x:At) (leak:Int) (L:List (Int × Ls)) (M:List (Int × Bool)) (T:List (Int × Int))  (h:Bk w x leak L M T) (hL:L.length≤200) :
  Calls Tryz.prog 194 #[ptr x.p,.func (.func 196) #[] #[]] w fun e w'=>∃ (A:Option Addr) (c:Nat) (ks:List Int),e=.returned (.slice A ks.length c)∧ks.Perm ((L.filter (fun a=>a.2.flag)).map Prod.fst)∧ks.Pairwise (· ≤ ·)∧Rd (Value.int .u64) w' w'.heap.size A ks.length c ks∧Below w.heap.size w w':=by
 have c1:=h.c1
 obtain ⟨i0,hi,aD,aE,aF⟩:=info_parts info_u64
 obtain ⟨aL,aI,aJ,aM,aK⟩:=h.lt
 have HK:=Lh h
 clear h
 go_enter Tryz.func194,Tryz.ntmps194
 go_wp2_with (at_range; refine range1 _ rfl _ 192 rfl 22 210 Tryz.underlying22 Tryz.underlying192 x.a L rfl HK.out.leases ?_; intro w0 aq aj aP)
 go_frame
 have ai:Below w.heap.size w w0:=(Below.refl _ w).grown aj (Nat.le_refl _) (fun g u=>by cases u)
 clear aj
 go_loopw [5] (fun v wr=>∃ (left:List (Int × Ls)) (A:Option Addr) (c n:Nat) (F J:List (Int × Ls)),v=.slice A n c∧F.length=n∧Rg Tryz.prog 22 eL wr x.a w.heap.size L left∧wr.ownsRow (w.heap.size+1) 22 1 (.slice A n c) n (F.map (fun a=>Value.int .u64 a.1)) ∧
   w.heap.size+1≤wr.heap.size∧n+left.length≤L.length∧Hid (Below w.heap.size w wr∧F=J.filter (fun a=>a.2.flag)∧(J ++ left).Perm L))
  (fun _ wr=>wr.rangeLeft x.a w.heap.size)
 case atStart=>exact ⟨L,none,0,0,[],[],rfl,rfl,aq,World.ownsRow_nil _ _ _ _,by omega,by omega,ai,rfl,List.Perm.refl _⟩
 case round=>
  clear aq ai
  obtain ⟨left,A,c,n,F,J,rfl,hn,I,Y,aR,ax,N⟩:=hrel
  go_wp2_with (at_next; refine nextL _ rfl _ rfl x.a w.heap.size L left rfl I ?_ ?_)
  ·intro az
   subst az
   have HR:=Lh Y
   have HG:=Lh I
   clear Y I
   go_wp2_with fail
   refine (So.sortU_any wr (w.heap.size+1) A n c (F.map Prod.fst) (by simpa using hn) (by rw [List.map_map]; exact HR.out) (by simp at ax; omega)).mono ?_
   rintro e z ⟨rfl,ks,hp,ar,W,ak⟩
   have aw:=Lh ar
   have HP:=Lh hp
   have a6:=Lh W
   have av:=Lh ak
   have aA:ks.length=n:=by rw [hp.length_eq]; simpa using hn
   clear hp W ak ar
   go_wp2_with fail
   go_ret
   subst aA
   refine ⟨A,c,ks,rfl,?_,aw.out,a6.out,N.out.1.grown av.out (by omega) (fun g u=>by have:=(HR.out.lt g u).1; omega)⟩
   refine HP.out.trans ?_
   rw [N.out.2.1]
   have ao:=N.out.2.2
   rw [List.append_nil] at ao
   exact (ao.filter _).map _
  ·intro y q w1 a9 aS aT a3 an a8 aQ ay
   obtain ⟨t,s,f⟩:=q
   have au:=Y.kept a8 (Or.inr (fun e=>by have:=(Y.lt _ e).1; omega))
   have ac:=Lh (N.out.1.grown a8 (by omega) (fun g u=>by injection u with u; omega))
   have HS:=Lh N.out.2
   have HM:=Lh a9
   have aG:=Lh a3.nd
   have ag:=Lh I.ndl
   have aN:=I.lt
   have aO:(wo left y).length+1=left.length:=wo_len I.ndl (mem_key.2 ⟨_,a9⟩)
   have af:=Lh an
   clear Y I a8 N a9 an
   go_wp2_with fail
   refine (clo_flag _ t s f).mono ?_
   rintro e z ⟨rfl,a7⟩
   have aC:=a7.size
   simp at aC
   have G:Below w1.heap.size w1 z:=((Below.refl _ w1).alloc (Nat.le_refl _) _).trans (a7.mono (by simp))
   have a0:w1.grownBy z none:=⟨G.os,G.tape,G.output,G.size,fun k hk _=>G.block k hk⟩
   have a4:=a3.kept a0 (by simp) (by simp)
   have aa:=own_keep au G
   have ad:=Lh (ac.out.grown a0 (by omega) (fun g u=>by cases u))
   have al:z.rangeLeft x.a w.heap.size=w1.rangeLeft x.a w.heap.size:=a3.left_kept a0 (by simp) (by simp)
   have ae:=Lh al
   clear au a3 ay a7 G a0 ac al
   cases hP:f with
   | true=>
    have W:Rd (Value.int .u64) (z.alloc (.cells #[.int .u64 y] 22)) (z.heap.size+1) (some ⟨z.heap.size,0,none⟩) 1 1 [y]:=rd_one (enc:=Value.int .u64) z y 22
    have a6:=Lh W
    have ah:=Lh aa
    have a5:=Lh hP
    clear W hP
    go_wp2_with (at_builtin; (refine append_rd _ rfl _ _ 38 rfl (w.heap.size+1) 22 i0 (.int .u64 0) 8 Tryz.underlying38 hi aD aE aF rfl _ n _ rfl (aa.alloc _) _ _ 1 1 [y] rfl a6.out one_u64 (n+1) rfl ((F ++ [(y,(⟨t,s,f⟩:Ls))]).map (fun a=>Value.int .u64 a.1)) (by simp) (by unfold maxLen; omega) (by omega) (by simp; omega) ?_; intro A3 c3 w3 aB a1 aH))
    have s3:=a1.size
    simp at s3
    have a2:∀ g,g < w.heap.size+1→some g≠(Value.slice A n c).ownBlock:=fun g u e=>by have:=(ah.out.lt g e.symm).1; omega
    go_roundw
    case rel=>
     refine ⟨wo left y,A3,c3,n+1,F ++ [(y,⟨t,s,f⟩)],J ++ [(y,⟨t,s,f⟩)],rfl,by simp [hn],(a4.alloc _).kept a1 (a2 _ (by omega)) (a2 _ (by omega)),aB,by omega,by omega,?_,?_,?_⟩
     ·exact (ad.out.alloc (by omega) _).grown a1 (by simp; omega) (fun g u=>by have:=(ah.out.lt g u).1; omega)
     ·rw [HS.out.1,List.filter_append]
      congr 1
      simp [a5.out]
     ·rw [List.append_assoc]
      exact (List.Perm.append_left J (perm_wo ag.out HM.out).symm).trans HS.out.2
    case measure=>
     rw [(a4.alloc _).left_kept a1 (a2 _ (by omega)) (a2 _ (by omega)),a4.left_kept (World.grownBy_alloc z _ none) (by simp) (by simp),ae.out]
     exact af.out
   | false=>
    have a5:=Lh hP
    clear hP
    go_wp2_with fail
    go_roundw
    case rel=>
     refine ⟨wo left y,A,c,n,F,J ++ [(y,⟨t,s,f⟩)],rfl,hn,a4,aa,by omega,by omega,ad.out,?_,?_⟩
     ·rw [HS.out.1,List.filter_append]
      simp [a5.out]
     ·rw [List.append_assoc]
      exact (List.Perm.append_left J (perm_wo ag.out HM.out).symm).trans HS.out.2
    case measure=>rw [ae.out]; exact af.out
theorem held_any (w:World) (x:At) (leak:Int) (L:List (Int × Ls)) (M:List (Int × Bool)) (T:List (Int × Int)) (th:Int) (h:Bk w x leak L M T) (N:L.length≤200) :
  Calls Tryz.prog 146 #[ptr x.p,.int .i64 th] w fun e w'=>∃ (A:Option Addr) (c:Nat) (ks:List Int),e=.returned (.slice A ks.length c)∧ks.Perm ((L.filter (fun a=>a.2.thread == th)).map Prod.fst)∧ks.Pairwise (· ≤ ·)∧Rd (Value.int .u64) w' w'.heap.size A ks.length c ks∧Below w.heap.size w w':=by
 have u:∀ o,Below w.heap.size w (w.alloc o):=fun o=>(Below.refl _ w).alloc (Nat.le_refl _) _
 have I:=Lh h
 clear h
 go_enter Tryz.func146,Tryz.ntmps146
 go_wp2_with fail
 refine (where_held _ x leak L M T th w.heap.size (by go_simp) (I.out.later (u _)) N).mono ?_
 rintro e w1 ⟨A,c,ks,rfl,W,Y,F,z⟩
 have G:=Lh ((u _).trans (z.mono (by simp)))
 have J:=Lh F
 clear F z
 go_wp2_with fail
 go_ret
 exact ⟨A,c,ks,rfl,W,Y,J.out,G.out⟩
theorem flagged_any (w:World) (x:At) (leak:Int) (L:List (Int × Ls)) (M:List (Int × Bool)) (T:List (Int × Int)) (h:Bk w x leak L M T) (z:L.length≤200) :
  Calls Tryz.prog 149 #[ptr x.p] w fun e w'=>∃ (A:Option Addr) (c:Nat) (ks:List Int),e=.returned (.slice A ks.length c)∧ks.Perm ((L.filter (fun a=>a.2.flag)).map Prod.fst)∧ks.Pairwise (· ≤ ·)∧Rd (Value.int .u64) w' w'.heap.size A ks.length c ks∧Below w.heap.size w w':=by
 have u:=Lh h
 clear h
 go_enter Tryz.func149,Tryz.ntmps149
 go_wp2_with fail
 refine (where_flagged _ x leak L M T u.out z).mono ?_
 rintro e N ⟨A,c,ks,rfl,G,J,I,F⟩
 go_wp2_with fail
 go_ret
 exact ⟨A,c,ks,rfl,G,J,I,F⟩
end Go.Proofs.YtaeemilldmhbnaaGreatDoor.Le
namespace Go.Proofs.YtaeemilldmhbnaaGreatDoor.Le
open Go.ChangeShapes Go.WideShapes Go.ChangeAt Go.RowKit Go.Deep Go.Maps Rw Hi Mt
section
variable (w:World) (x:At) (leak:Int) (D:List (Int × Ls)) (M:List (Int × Bool)) (T:List (Int × Int))
theorem heldU (th:Int) (m:Nat) (h:Bk w x leak D M T) (W:Sd D) (I:D.length≤200) (z:(D.filter (fun a=>a.2.thread == th)).length=m) :
  Calls Tryz.prog 146 #[ptr x.p,.int .i64 th] w fun e w'=>∃ (A:Option Addr) (c:Nat),e=.returned (.slice A m c)∧Rd (Value.int .u64) w' w'.heap.size A m c ((D.filter (fun a=>a.2.thread == th)).map Prod.fst)∧Below w.heap.size w w':=by
 refine (held_any w x leak D M T th h I).mono ?_
 rintro e w' ⟨A,c,ks,rfl,J,N,u,G⟩
 have e:=rise_same W _ J N
 have F:ks.length=m:=by rw [e,List.length_map,z]
 rw [e] at u
 rw [F]
 rw [List.length_map,z] at u
 exact ⟨A,c,rfl,u,G⟩
theorem flaggedU (m:Nat) (h:Bk w x leak D M T) (W:Sd D) (I:D.length≤200) (z:(D.filter (fun a=>a.2.flag)).length=m) :
  Calls Tryz.prog 149 #[ptr x.p] w fun e w'=>∃ (A:Option Addr) (c:Nat),e=.returned (.slice A m c)∧Rd (Value.int .u64) w' w'.heap.size A m c ((D.filter (fun a=>a.2.flag)).map Prod.fst)∧Below w.heap.size w w':=by
 refine (flagged_any w x leak D M T h I).mono ?_
 rintro e w' ⟨A,c,ks,rfl,J,N,u,G⟩
 have e:=rise_same W _ J N
 have F:ks.length=m:=by rw [e,List.length_map,z]
 rw [e] at u
 rw [F]
 rw [List.length_map,z] at u
 exact ⟨A,c,rfl,u,G⟩
end
theorem same_any (A A':Option Addr) (n c u:Nat) (xs:List Int) (B B':Nat) (w:World) (h:Rd (Value.int .u64) w B A n c xs) (z:Rd (Value.int .u64) w B' A' n u xs) :
  Calls Tryz.prog 75 #[.slice A n c,.slice A' n u] w fun e w'=>e=.returned (.bool true)∧Below w.heap.size w w':=
 (Sl.equal_any A A' n c n u xs xs B B' w h z).mono fun e w' ⟨F,q,G⟩=>⟨by rw [F,decide_eq_true rfl],G ▸ below_drewN (Below.refl _ _) q⟩
theorem told_any (w:World) (x:At) (leak:Int) (A A2 A3:Option Addr) (n c n2 c2 n3 c3:Nat) (D:List (Int × Ls)) (M:List Int) (T:List (Int × Int)) (id th:Int) (h:Bk w x leak D (mk M) T) (hd:Dk w ⟨A,n,c,A2,n2,c2,A3,n3,c3⟩ D M T) (hs:Sd D) (hid:U64 id) (hl:D.length≤200) (hM:M.length≤1000) (hT:T.length≤1000) :
  Calls Tryz.prog 77 #[ptr x.p,.agg #[.int .u64 leak,.slice A n c,.slice A2 n2 c2,.slice A3 n3 c3],.int .u64 id,.int .i64 th] w fun e w'=>e=.returned (.bool true)∧Below w.heap.size w w':=by
 obtain ⟨⟨t,s,f⟩,hq⟩:∃ q,(fnd D id).getD Z0=q:=⟨_,rfl⟩
 obtain ⟨bb,aD⟩:∃ b,(fnd D id).isSome=b:=⟨_,rfl⟩
 have HK:=Lh h
 have HD:=Lh hd
 have aj:=Lh hs
 have HQ:=Lh hq
 have a0:=Lh aD
 have a6:Hid (D.length=n):=Lh hd.l.len
 have aQ:Hid (M.length=n2):=Lh hd.m.len
 have ak:Hid (T.length=n3):=Lh hd.t.len
 have hn:n≤200:=by have:=a6.out; omega
 have aY:n2≤1000:=by have:=aQ.out; omega
 have aZ:n3≤1000:=by have:=ak.out; omega
 have af:=Lh hl
 have B0:Hid (Below w.heap.size w (w.alloc (.cells #[.int .u64 leak,.slice A n c,.slice A2 n2 c2,.slice A3 n3 c3] 46))):=Lh ((Below.refl _ _).alloc (Nat.le_refl _) _)
 have V0:=Lh (V4.new w 46 (.int .u64 leak) (.slice A n c) (.slice A2 n2 c2) (.slice A3 n3 c3))
 have aU:(w.alloc (.cells #[.int .u64 leak,.slice A n c,.slice A2 n2 c2,.slice A3 n3 c3] 46)).heap.size=w.heap.size+1:=by simp
 clear h hd hs hq aD hl hM hT
 go_enter Tryz.func77,Tryz.ntmps77
 go_upto_region 1 with (fail)
 generalize (w.alloc (.cells #[.int .u64 leak,.slice A n c,.slice A2 n2 c2,.slice A3 n3 c3] 46))=W0 at *
 go_wp2_with fail
 refine (holder_any _ x leak D (mk M) T id (HK.out.later B0.out) hid t s f bb HQ.out a0.out).mono ?_
 rintro e w1 ⟨rfl,a3⟩
 have B1:=Lh (B0.out.trans (a3.mono B0.out.size))
 have V1:=Lh (V0.out.below a3 (by omega))
 have aV:w.heap.size+1≤w1.heap.size:=by have:=a3.size; omega
 clear a3 B0 V0 aU
 go_wp2_with fail
 refine (since_any _ x leak D (mk M) T id (HK.out.later B1.out) hid t s f bb HQ.out a0.out).mono ?_
 rintro e J ⟨rfl,a4⟩
 have B2:=Lh (B1.out.trans (a4.mono B1.out.size))
 have V2:=Lh (V1.out.below a4 (by omega))
 have b3:w.heap.size+1≤J.heap.size:=by have:=a4.size; omega
 clear a4 B1 V1 aV
 go_upto_region 4 with (fail)
 have B3:Hid (Below w.heap.size w (J.alloc (.cells #[.int .u64 0,.int .i64 0,.int .u64 0,.bool false] 244))):=Lh (B2.out.alloc (by omega) _)
 have X3:=Lh (V4.new J 244 (.int .u64 0) (.int .i64 0) (.int .u64 0) (.bool false))
 have V3:Hid (V4 (J.alloc (.cells #[.int .u64 0,.int .i64 0,.int .u64 0,.bool false] 244)) w.heap.size (.int .u64 leak) (.slice A n c) (.slice A2 n2 c2) (.slice A3 n3 c3)):=Lh (V2.out.below ((Below.refl J.heap.size J).alloc (Nat.le_refl _) _) (by omega))
 have aW:(J.alloc (.cells #[.int .u64 0,.int .i64 0,.int .u64 0,.bool false] 244)).heap.size=J.heap.size+1:=by simp
 clear B2 V2
 generalize (J.alloc (.cells #[.int .u64 0,.int .i64 0,.int .u64 0,.bool false] 244))=W3 at *
 generalize J.heap.size=r at *
 obtain ⟨⟨f0,f1,f2,f3⟩,g0,g1,g2,g3⟩:=V3.out
 go_wp2_with fail
 refine (rfind_any leak A A2 A3 n c n2 c2 n3 c3 w.heap.size D W3 id (HD.out.l.below B3.out) (by omega) (by omega)).mono ?_
 rintro e w4 ⟨rfl,a2⟩
 have B4:=Lh (B3.out.trans (a2.mono B3.out.size))
 have a8:=Lh (V3.out.below a2 (by omega))
 have X4:=Lh (X3.out.below a2 (by omega))
 have aI:r+1≤w4.heap.size:=by have:=a2.size; omega
 obtain ⟨i,hi⟩:∃ i,fx D id=i:=⟨_,rfl⟩
 have HI:=Lh hi
 rw [hi]
 have aS:decide ((0:Int)≤i)=bb:=by
  have a5:=a0.out
  rcases fx_cases D id with ⟨N,Y⟩ | ⟨k,y,_,_,Y,N⟩
  ·rw [N] at a5; rw [← hi,Y,← a5]; rfl
  ·rw [N] at a5; rw [← hi,Y,← a5]; exact decide_eq_true (by omega)
 have aN:=Lh aS
 clear a2 B3 V3 X3 f0 f1 f2 f3 g0 g1 g2 g3 hi aW
 go_upto_if 31 with (fail)
 go_cut [] from 32 to 36 (fun wx=>∃ xi:Int,Hid (Below w.heap.size w wx)∧Hid (V4 wx w.heap.size (.int .u64 leak) (.slice A n c) (.slice A2 n2 c2) (.slice A3 n3 c3))∧Hid (V4 wx r (.int .u64 xi) (.int .i64 t) (.int .u64 s) (.bool f))∧r+1≤wx.heap.size)
 case first=>
  cases bb with
  | false=>
   have hz:t=0∧s=0∧f=false:=by
    have h1:=HQ.out
    have h2:fnd D id=none:=by
     cases hc:fnd D id with
     | none=>rfl
     | some y=>have h3:=a0.out; rw [hc] at h3; cases h3
    rw [h2] at h1
    have h1:Z0=(⟨t,s,f⟩:Ls):=h1
    injection h1 with N Y e3
    exact ⟨N.symm,Y.symm,e3.symm⟩
   obtain ⟨rfl,rfl,rfl⟩:=hz
   go_wp2_with fail
   go_meet
   case rel=>exact ⟨0,B4,a8,X4,aI⟩
  | true=>
   obtain ⟨k,hk,rfl⟩:∃ k:Nat,D[k]? = some (id,⟨t,s,f⟩)∧i=(k:Int):=by
    rcases fx_cases D id with ⟨N,Y⟩ | ⟨k,y,h1,_,Y,N⟩
    ·have h3:=a0.out; rw [N] at h3; cases h3
    ·have h4:=HQ.out; rw [N] at h4
     have h4:y=⟨t,s,f⟩:=h4
     exact ⟨k,by rw [← h4]; exact h1,by rw [← Y]; exact HI.out.symm⟩
   have aT:k < n:=by have:=(List.getElem?_eq_some_iff.1 hk).1; have:=a6.out; omega
   have b0:n≤c:=HD.out.l.cap
   obtain ⟨b,o,x',t',s',f',rfl,hb,ha,c0,c1,av,aw⟩:=four_at HD.out.l aT
   have e9:=ha.symm.trans hk
   injection e9 with e9
   injection e9 with e9 e10
   injection e10 with e10 e11 e12
   subst e9 e10 e11 e12
   have d0:=(B4.out.cell (p:=⟨b,o+k * 4,none⟩) hb).trans c0
   have d1:=(B4.out.cell (p:=⟨b,o+k * 4+1,none⟩) hb).trans c1
   have d2:=(B4.out.cell (p:=⟨b,o+k * 4+2,none⟩) hb).trans av
   have d3:=(B4.out.cell (p:=⟨b,o+k * 4+3,none⟩) hb).trans aw
   clear c0 c1 av aw ha hk
   obtain ⟨⟨f0,f1,f2,f3⟩,g0,g1,g2,g3⟩:=a8.out
   obtain ⟨⟨x0,x1,x2,x3⟩,y0,y1,y2,y3⟩:=X4.out
   have q0:(0:Int)≤(k:Int):=by omega
   have q1:(k:Int) < (n:Int):=by omega
   have b2:w.heap.size < r:=by omega
   go_wp2_with fail
   go_meet
   case rel=>
    refine ⟨x',?_,?_,?_,by simp; omega⟩
    ·refine Lh ?_
     repeat' (first | exact B4.out | apply Below.setCell | apply below_drewN | apply Below.drew | apply Below.alloc)
     all_goals (first | (simp; done) | (simp; omega))
    ·exact Lh ⟨⟨by go_simp,by go_simp,by go_simp,by go_simp⟩,by go_simp,by go_simp,by go_simp,by go_simp⟩
    ·exact Lh ⟨⟨by go_simp,by go_simp,by go_simp,by go_simp⟩,by go_simp,by go_simp,by go_simp,by go_simp⟩
 case rest=>
  obtain ⟨xi,HB,I,HX,aX⟩:=hcut
  clear B4 a8 X4 aI
  generalize wc=W at *
  have a1:=Lh (HK.out.later HB.out)
  have a7:=Lh (HD.out.later HB.out)
  have ai:Hid (r < W.heap.size):=Lh (by omega)
  have G:Hid (w.heap.size < W.heap.size):=Lh (by omega)
  obtain ⟨m1,aE⟩:∃ m,(D.filter (fun a=>a.2.thread == th)).length=m:=⟨_,rfl⟩
  obtain ⟨m2,aF⟩:∃ m,(D.filter (fun a=>a.2.flag)).length=m:=⟨_,rfl⟩
  obtain ⟨mb,ac⟩:∃ b,decide (id∈M)=b:=⟨_,rfl⟩
  have ag:=Lh aE
  have ah:=Lh aF
  have aO:=Lh ac
  have aP:Hid ((fnd (mk M) id).getD false=mb):=Lh (by rw [mk_fnd,ac])
  clear aE aF ac aX
  have u:Hid (Below W.heap.size W W.drew):=Lh (Below.refl _ _).drew
  go_wp2_with fail
  refine reg_start 63 (fun w'=>Below W.heap.size W w') (by kernel_rfl) (by kernel_rfl) ?_
  intro ax
  have z:=Lh ax
  clear ax
  refine rq 0 z.out u.out rfl ?_
  refine rq 1 z.out u.out rfl ?_
  refine rq 2 z.out u.out rfl ?_ (hv:=fun w' hw=>by (have k0:=(hw.cell (p:=⟨r,1,none⟩) ai.out).trans HX.out.1.2.1; go_simp; exact rfl))
  refine rq 3 z.out u.out rfl ?_
  refine rq 4 z.out u.out rfl ?_
  refine reg_load 5 z.out rfl (by kernel_rfl) (by decide) (fun _ _ _ _ h=>h) u.out (wanted_yes (g:=4) (p:=true) (d:=41) rfl (by kernel_rfl) (at_eq (sz_put (sz_put (sz_put (sz_put ((Nat.lt_of_lt_of_eq (m:=99) (by decide) rfl)))))))) ?_
  apply Exists.intro
  refine ⟨fun w' hw=>by (go_simp; exact rfl),?_⟩
  refine reg_load 6 z.out rfl (by kernel_rfl) (by decide) (fun _ _ _ _ h=>h) u.out (wanted_yes (g:=4) (p:=true) (d:=41) rfl (by kernel_rfl) (at_ne (by decide) (at_eq (sz_put (sz_put (sz_put (sz_put ((Nat.lt_of_lt_of_eq (m:=99) (by decide) rfl))))))))) ?_
  apply Exists.intro
  refine ⟨fun w' hw=>by (go_simp; exact rfl),?_⟩
  refine reg_load 7 z.out rfl (by kernel_rfl) (by decide) (fun _ _ _ _ h=>h) u.out (wanted_yes (g:=4) (p:=true) (d:=41) rfl (by kernel_rfl) (at_ne (by decide) (at_ne (by decide) (at_eq (sz_put (sz_put (sz_put (sz_put ((Nat.lt_of_lt_of_eq (m:=99) (by decide) rfl)))))))))) ?_
  apply Exists.intro
  refine ⟨fun w' hw=>by (have k0:=(hw.cell (p:=⟨r,2,none⟩) ai.out).trans HX.out.1.2.2.1; go_simp; exact rfl),?_⟩
  refine reg_load 8 z.out rfl (by kernel_rfl) (by decide) (fun _ _ _ _ h=>h) u.out (wanted_yes (g:=4) (p:=true) (d:=41) rfl (by kernel_rfl) (at_ne (by decide) (at_ne (by decide) (at_ne (by decide) (at_eq (sz_put (sz_put (sz_put (sz_put ((Nat.lt_of_lt_of_eq (m:=99) (by decide) rfl))))))))))) ?_
  apply Exists.intro
  refine ⟨fun w' hw=>by (go_simp; exact rfl),?_⟩
  refine rq 9 z.out u.out rfl ?_
  refine rq 10 z.out u.out rfl ?_
  refine reg_load 11 z.out rfl (by kernel_rfl) (by decide) (fun _ _ _ _ h=>h) u.out (wanted_yes (g:=10) (p:=true) (d:=47) rfl (by kernel_rfl) (at_eq (sz_put (sz_put (sz_put (sz_put (sz_put (sz_put (sz_put (sz_put (sz_put (sz_put ((Nat.lt_of_lt_of_eq (m:=99) (by decide) rfl)))))))))))))) ?_
  apply Exists.intro
  refine ⟨fun w' hw=>by (go_simp; exact rfl),?_⟩
  refine reg_load 12 z.out rfl (by kernel_rfl) (by decide) (fun _ _ _ _ h=>h) u.out (wanted_yes (g:=10) (p:=true) (d:=47) rfl (by kernel_rfl) (at_ne (by decide) (at_eq (sz_put (sz_put (sz_put (sz_put (sz_put (sz_put (sz_put (sz_put (sz_put (sz_put ((Nat.lt_of_lt_of_eq (m:=99) (by decide) rfl))))))))))))))) ?_
  apply Exists.intro
  refine ⟨fun w' hw=>by (go_simp; exact rfl),?_⟩
  refine reg_load 13 z.out rfl (by kernel_rfl) (by decide) (fun _ _ _ _ h=>h) u.out (wanted_yes (g:=10) (p:=true) (d:=47) rfl (by kernel_rfl) (at_ne (by decide) (at_ne (by decide) (at_eq (sz_put (sz_put (sz_put (sz_put (sz_put (sz_put (sz_put (sz_put (sz_put (sz_put ((Nat.lt_of_lt_of_eq (m:=99) (by decide) rfl)))))))))))))))) ?_
  apply Exists.intro
  refine ⟨fun w' hw=>by (have q9:=aN.out; go_simp; exact rfl),?_⟩
  refine reg_load 14 z.out rfl (by kernel_rfl) (by decide) (fun _ _ _ _ h=>h) u.out (wanted_yes (g:=10) (p:=true) (d:=47) rfl (by kernel_rfl) (at_ne (by decide) (at_ne (by decide) (at_ne (by decide) (at_eq (sz_put (sz_put (sz_put (sz_put (sz_put (sz_put (sz_put (sz_put (sz_put (sz_put ((Nat.lt_of_lt_of_eq (m:=99) (by decide) rfl))))))))))))))))) ?_
  apply Exists.intro
  refine ⟨fun w' hw=>by (go_simp; exact rfl),?_⟩
  refine rq 15 z.out u.out rfl ?_
  refine rq 16 z.out u.out rfl ?_
  refine reg_load 17 z.out rfl (by kernel_rfl) (by decide) (fun _ _ _ _ h=>h) u.out (wanted_yes (g:=16) (p:=true) (d:=53) rfl (by kernel_rfl) (at_eq (sz_put (sz_put (sz_put (sz_put (sz_put (sz_put (sz_put (sz_put (sz_put (sz_put (sz_put (sz_put (sz_put (sz_put (sz_put (sz_put ((Nat.lt_of_lt_of_eq (m:=99) (by decide) rfl)))))))))))))))))))) ?_
  apply Exists.intro
  refine ⟨fun w' hw=>by (go_simp; exact rfl),?_⟩
  refine reg_load 18 z.out rfl (by kernel_rfl) (by decide) (fun _ _ _ _ h=>h) u.out (wanted_yes (g:=16) (p:=true) (d:=53) rfl (by kernel_rfl) (at_ne (by decide) (at_eq (sz_put (sz_put (sz_put (sz_put (sz_put (sz_put (sz_put (sz_put (sz_put (sz_put (sz_put (sz_put (sz_put (sz_put (sz_put (sz_put ((Nat.lt_of_lt_of_eq (m:=99) (by decide) rfl))))))))))))))))))))) ?_
  apply Exists.intro
  refine ⟨fun w' hw=>by (go_simp; exact rfl),?_⟩
  refine reg_load 19 z.out rfl (by kernel_rfl) (by decide) (fun _ _ _ _ h=>h) u.out (wanted_yes (g:=16) (p:=true) (d:=53) rfl (by kernel_rfl) (at_ne (by decide) (at_ne (by decide) (at_eq (sz_put (sz_put (sz_put (sz_put (sz_put (sz_put (sz_put (sz_put (sz_put (sz_put (sz_put (sz_put (sz_put (sz_put (sz_put (sz_put ((Nat.lt_of_lt_of_eq (m:=99) (by decide) rfl)))))))))))))))))))))) ?_
  apply Exists.intro
  refine ⟨fun w' hw=>by (go_simp; exact rfl),?_⟩
  refine rq 20 z.out u.out rfl ?_
  refine rq 21 z.out u.out rfl ?_
  refine reg_load 22 z.out rfl (by kernel_rfl) (by decide) (fun _ _ _ _ h=>h) u.out (wanted_yes (g:=21) (p:=true) (d:=58) rfl (by kernel_rfl) (at_eq (sz_put (sz_put (sz_put (sz_put (sz_put (sz_put (sz_put (sz_put (sz_put (sz_put (sz_put (sz_put (sz_put (sz_put (sz_put (sz_put (sz_put (sz_put (sz_put (sz_put (sz_put ((Nat.lt_of_lt_of_eq (m:=99) (by decide) rfl))))))))))))))))))))))))) ?_
  apply Exists.intro
  refine ⟨fun w' hw=>by (go_simp; exact rfl),?_⟩
  refine reg_load 23 z.out rfl (by kernel_rfl) (by decide) (fun _ _ _ _ h=>h) u.out (wanted_yes (g:=21) (p:=true) (d:=58) rfl (by kernel_rfl) (at_ne (by decide) (at_eq (sz_put (sz_put (sz_put (sz_put (sz_put (sz_put (sz_put (sz_put (sz_put (sz_put (sz_put (sz_put (sz_put (sz_put (sz_put (sz_put (sz_put (sz_put (sz_put (sz_put (sz_put ((Nat.lt_of_lt_of_eq (m:=99) (by decide) rfl)))))))))))))))))))))))))) ?_
  apply Exists.intro
  refine ⟨fun w' hw=>by (go_simp; exact rfl),?_⟩
  refine reg_load 25 z.out rfl (by kernel_rfl) (by decide) (fun _ _ _ _ h=>h) u.out (wanted_yes (g:=21) (p:=true) (d:=58) rfl (by kernel_rfl) (at_ne (by decide) (at_ne (by decide) (at_eq (sz_put (sz_put (sz_put (sz_put (sz_put (sz_put (sz_put (sz_put (sz_put (sz_put (sz_put (sz_put (sz_put (sz_put (sz_put (sz_put (sz_put (sz_put (sz_put (sz_put (sz_put ((Nat.lt_of_lt_of_eq (m:=99) (by decide) rfl))))))))))))))))))))))))))) ?_
  apply Exists.intro
  refine ⟨fun w' hw=>by (have k0:=(hw.cell (p:=⟨w.heap.size,0,none⟩) G.out).trans I.out.1.1; have k1:=(hw.cell (p:=⟨w.heap.size,1,none⟩) G.out).trans I.out.1.2.1; have k2:=(hw.cell (p:=⟨w.heap.size,2,none⟩) G.out).trans I.out.1.2.2.1; have k3:=(hw.cell (p:=⟨w.heap.size,3,none⟩) G.out).trans I.out.1.2.2.2; go_simp; exact rfl),?_⟩
  refine reg_load 26 z.out rfl (by kernel_rfl) (by decide) (fun _ _ _ _ h=>h) u.out (wanted_yes (g:=21) (p:=true) (d:=58) rfl (by kernel_rfl) (at_ne (by decide) (at_ne (by decide) (at_ne (by decide) (at_eq (sz_put (sz_put (sz_put (sz_put (sz_put (sz_put (sz_put (sz_put (sz_put (sz_put (sz_put (sz_put (sz_put (sz_put (sz_put (sz_put (sz_put (sz_put (sz_put (sz_put (sz_put ((Nat.lt_of_lt_of_eq (m:=99) (by decide) rfl)))))))))))))))))))))))))))) ?_
  apply Exists.intro
  refine ⟨fun w' hw=>by (go_simp; exact rfl),?_⟩
  refine reg_only 24 rfl (by kernel_rfl) (wanted_yes (g:=21) (p:=true) (d:=58) rfl (by kernel_rfl) (at_ne (by decide) (at_ne (by decide) (at_ne (by decide) (at_ne (by decide) (at_eq (sz_put (sz_put (sz_put (sz_put (sz_put (sz_put (sz_put (sz_put (sz_put (sz_put (sz_put (sz_put (sz_put (sz_put (sz_put (sz_put (sz_put (sz_put (sz_put (sz_put (sz_put ((Nat.lt_of_lt_of_eq (m:=99) (by decide) rfl))))))))))))))))))))))))))))) ?_
  unfold Oper.wp
  go_simp
  refine (heldU _ x leak D (mk M) T th m1 (a1.out.later u.out) aj.out af.out ag.out).mono ?_
  rintro e b4 ⟨aJ,c10,rfl,aG,ay⟩
  have F:=Lh (u.out.trans (ay.mono u.out.size))
  have al:=Lh aG
  clear ay aG u
  have u:=F
  clear F
  refine ⟨u.out,?_⟩
  refine reg_only 27 rfl (by kernel_rfl) (wanted_yes (g:=21) (p:=true) (d:=58) rfl (by kernel_rfl) (rfl)) ?_
  unfold Oper.wp
  go_simp
  refine (rheld_any leak A A2 A3 n c n2 c2 n3 c3 _ D _ th (a7.out.later u.out).l (Nat.le_refl _) (by omega)).mono ?_
  rintro e b5 ⟨aK,c11,rfl,ad,a9⟩
  rw [ag.out] at ad ⊢
  have F:=Lh (u.out.trans (a9.mono u.out.size))
  have an:=Lh (al.out.later a9)
  have ao:=Lh (Rd.own_rd (xs:=(D.filter (fun a=>a.2.thread == th)).map Prod.fst) ad)
  clear a9 ad al u
  have u:=F
  clear F
  refine ⟨u.out,?_⟩
  refine reg_only 28 rfl (by kernel_rfl) (wanted_yes (g:=21) (p:=true) (d:=58) rfl (by kernel_rfl) (rfl)) ?_
  unfold Oper.wp
  go_simp
  refine (same_any aJ aK m1 c10 c11 _ _ _ _ an.out ao.out).mono ?_
  rintro e b6 ⟨rfl,az⟩
  have F:=Lh (u.out.trans (az.mono u.out.size))
  clear az an ao u
  have u:=F
  clear F
  refine ⟨u.out,?_⟩
  refine rq 29 z.out u.out rfl ?_
  refine rq 30 z.out u.out rfl ?_
  refine reg_load 31 z.out rfl (by kernel_rfl) (by decide) (fun _ _ _ _ h=>h) u.out (wanted_yes (g:=30) (p:=true) (d:=67) rfl (by kernel_rfl) (at_eq (sz_put ((Nat.lt_of_lt_of_eq (m:=99) (by decide) rfl))))) ?_
  apply Exists.intro
  refine ⟨fun w' hw=>by (go_simp; exact rfl),?_⟩
  refine reg_load 32 z.out rfl (by kernel_rfl) (by decide) (fun _ _ _ _ h=>h) u.out (wanted_yes (g:=30) (p:=true) (d:=67) rfl (by kernel_rfl) (at_ne (by decide) (at_eq (sz_put ((Nat.lt_of_lt_of_eq (m:=99) (by decide) rfl)))))) ?_
  apply Exists.intro
  refine ⟨fun w' hw=>by (go_simp; exact rfl),?_⟩
  refine reg_load 34 z.out rfl (by kernel_rfl) (by decide) (fun _ _ _ _ h=>h) u.out (wanted_yes (g:=30) (p:=true) (d:=67) rfl (by kernel_rfl) (at_ne (by decide) (at_ne (by decide) (at_eq (sz_put ((Nat.lt_of_lt_of_eq (m:=99) (by decide) rfl))))))) ?_
  apply Exists.intro
  refine ⟨fun w' hw=>by (have k0:=(hw.cell (p:=⟨w.heap.size,0,none⟩) G.out).trans I.out.1.1; have k1:=(hw.cell (p:=⟨w.heap.size,1,none⟩) G.out).trans I.out.1.2.1; have k2:=(hw.cell (p:=⟨w.heap.size,2,none⟩) G.out).trans I.out.1.2.2.1; have k3:=(hw.cell (p:=⟨w.heap.size,3,none⟩) G.out).trans I.out.1.2.2.2; go_simp; exact rfl),?_⟩
  refine reg_load 35 z.out rfl (by kernel_rfl) (by decide) (fun _ _ _ _ h=>h) u.out (wanted_yes (g:=30) (p:=true) (d:=67) rfl (by kernel_rfl) (at_ne (by decide) (at_ne (by decide) (at_ne (by decide) (at_eq (sz_put ((Nat.lt_of_lt_of_eq (m:=99) (by decide) rfl)))))))) ?_
  apply Exists.intro
  refine ⟨fun w' hw=>by (go_simp; exact rfl),?_⟩
  refine reg_only 33 rfl (by kernel_rfl) (wanted_yes (g:=30) (p:=true) (d:=67) rfl (by kernel_rfl) (at_ne (by decide) (at_ne (by decide) (at_ne (by decide) (at_ne (by decide) (at_eq (sz_put ((Nat.lt_of_lt_of_eq (m:=99) (by decide) rfl))))))))) ?_
  unfold Oper.wp
  go_simp
  refine (marked_any _ x leak D (mk M) T id (a1.out.later u.out) hid mb aP.out).mono ?_
  rintro e b7 ⟨rfl,rfl⟩
  refine ⟨u.out,?_⟩
  refine reg_only 36 rfl (by kernel_rfl) (wanted_yes (g:=30) (p:=true) (d:=67) rfl (by kernel_rfl) (rfl)) ?_
  unfold Oper.wp
  go_simp
  refine (rmarked_any leak A A2 A3 n c n2 c2 n3 c3 _ _ id M (a7.out.later u.out).m (Nat.le_refl _) (by omega)).mono ?_
  rintro e b8 ⟨rfl,aA⟩
  rw [aO.out]
  have F:=Lh (u.out.trans (aA.mono u.out.size))
  clear aA u
  have u:=F
  clear F
  refine ⟨u.out,?_⟩
  refine reg_load 37 z.out rfl (by kernel_rfl) (by decide) (fun _ _ _ _ h=>h) u.out (wanted_yes (g:=30) (p:=true) (d:=67) rfl (by kernel_rfl) (rfl)) ?_
  apply Exists.intro
  refine ⟨fun w' hw=>by (go_simp; exact rfl),?_⟩
  refine rq 38 z.out u.out rfl ?_
  refine rq 39 z.out u.out rfl ?_
  refine reg_load 40 z.out rfl (by kernel_rfl) (by decide) (fun _ _ _ _ h=>h) u.out (wanted_yes (g:=39) (p:=true) (d:=76) rfl (by kernel_rfl) (at_eq (sz_put (sz_put ((Nat.lt_of_lt_of_eq (m:=99) (by decide) rfl)))))) ?_
  apply Exists.intro
  refine ⟨fun w' hw=>by (go_simp; exact rfl),?_⟩
  refine reg_load 42 z.out rfl (by kernel_rfl) (by decide) (fun _ _ _ _ h=>h) u.out (wanted_yes (g:=39) (p:=true) (d:=76) rfl (by kernel_rfl) (at_ne (by decide) (at_eq (sz_put (sz_put ((Nat.lt_of_lt_of_eq (m:=99) (by decide) rfl))))))) ?_
  apply Exists.intro
  refine ⟨fun w' hw=>by (have k0:=(hw.cell (p:=⟨w.heap.size,0,none⟩) G.out).trans I.out.1.1; have k1:=(hw.cell (p:=⟨w.heap.size,1,none⟩) G.out).trans I.out.1.2.1; have k2:=(hw.cell (p:=⟨w.heap.size,2,none⟩) G.out).trans I.out.1.2.2.1; have k3:=(hw.cell (p:=⟨w.heap.size,3,none⟩) G.out).trans I.out.1.2.2.2; go_simp; exact rfl),?_⟩
  refine reg_only 41 rfl (by kernel_rfl) (wanted_yes (g:=39) (p:=true) (d:=76) rfl (by kernel_rfl) (at_ne (by decide) (at_ne (by decide) (at_eq (sz_put (sz_put ((Nat.lt_of_lt_of_eq (m:=99) (by decide) rfl)))))))) ?_
  unfold Oper.wp
  go_simp
  refine (flaggedU _ x leak D (mk M) T m2 (a1.out.later u.out) aj.out af.out ah.out).mono ?_
  rintro e b9 ⟨aL,c15,rfl,aH,aB⟩
  have F:=Lh (u.out.trans (aB.mono u.out.size))
  have aq:=Lh aH
  clear aB aH u
  have u:=F
  clear F
  refine ⟨u.out,?_⟩
  refine reg_only 43 rfl (by kernel_rfl) (wanted_yes (g:=39) (p:=true) (d:=76) rfl (by kernel_rfl) (rfl)) ?_
  unfold Oper.wp
  go_simp
  refine (rflagged_any leak A A2 A3 n c n2 c2 n3 c3 _ D _ (a7.out.later u.out).l (Nat.le_refl _) (by omega)).mono ?_
  rintro e ba ⟨aM,aR,rfl,ae,aa⟩
  rw [ah.out] at ae ⊢
  have F:=Lh (u.out.trans (aa.mono u.out.size))
  have ar:=Lh (aq.out.later aa)
  have au:=Lh (Rd.own_rd (xs:=(D.filter (fun a=>a.2.flag)).map Prod.fst) ae)
  clear aa ae aq u
  have u:=F
  clear F
  refine ⟨u.out,?_⟩
  refine reg_only 44 rfl (by kernel_rfl) (wanted_yes (g:=39) (p:=true) (d:=76) rfl (by kernel_rfl) (rfl)) ?_
  unfold Oper.wp
  go_simp
  refine (same_any aL aM m2 c15 aR _ _ _ _ ar.out au.out).mono ?_
  rintro e bc ⟨rfl,aC⟩
  have F:=Lh (u.out.trans (aC.mono u.out.size))
  clear aC ar au u
  have u:=F
  clear F
  refine ⟨u.out,?_⟩
  refine rq 45 z.out u.out rfl ?_
  refine rq 46 z.out u.out rfl ?_
  refine reg_load 47 z.out rfl (by kernel_rfl) (by decide) (fun _ _ _ _ h=>h) u.out (wanted_yes (g:=46) (p:=true) (d:=83) rfl (by kernel_rfl) (at_eq (sz_put ((Nat.lt_of_lt_of_eq (m:=99) (by decide) rfl))))) ?_
  apply Exists.intro
  refine ⟨fun w' hw=>by (go_simp; exact rfl),?_⟩
  refine reg_load 49 z.out rfl (by kernel_rfl) (by decide) (fun _ _ _ _ h=>h) u.out (wanted_yes (g:=46) (p:=true) (d:=83) rfl (by kernel_rfl) (at_ne (by decide) (at_eq (sz_put ((Nat.lt_of_lt_of_eq (m:=99) (by decide) rfl)))))) ?_
  apply Exists.intro
  refine ⟨fun w' hw=>by (go_simp; exact rfl),?_⟩
  refine reg_load 50 z.out rfl (by kernel_rfl) (by decide) (fun _ _ _ _ h=>h) u.out (wanted_yes (g:=46) (p:=true) (d:=83) rfl (by kernel_rfl) (at_ne (by decide) (at_ne (by decide) (at_eq (sz_put ((Nat.lt_of_lt_of_eq (m:=99) (by decide) rfl))))))) ?_
  apply Exists.intro
  refine ⟨fun w' hw=>by (have k3:=(hw.cell (p:=⟨w.heap.size,3,none⟩) G.out).trans I.out.1.2.2.2; go_simp; exact rfl),?_⟩
  refine reg_load 51 z.out rfl (by kernel_rfl) (by decide) (fun _ _ _ _ h=>h) u.out (wanted_yes (g:=46) (p:=true) (d:=83) rfl (by kernel_rfl) (at_ne (by decide) (at_ne (by decide) (at_ne (by decide) (at_eq (sz_put ((Nat.lt_of_lt_of_eq (m:=99) (by decide) rfl)))))))) ?_
  apply Exists.intro
  refine ⟨fun w' hw=>by (go_simp; exact rfl),?_⟩
  refine reg_only 48 rfl (by kernel_rfl) (wanted_yes (g:=46) (p:=true) (d:=83) rfl (by kernel_rfl) (at_ne (by decide) (at_ne (by decide) (at_ne (by decide) (at_ne (by decide) (at_eq (sz_put ((Nat.lt_of_lt_of_eq (m:=99) (by decide) rfl))))))))) ?_
  unfold Oper.wp
  go_simp
  refine (timers_any _ x leak D (mk M) T (a1.out.later u.out)).mono ?_
  rintro e bd ⟨rfl,rfl⟩
  rw [ak.out]
  refine ⟨u.out,?_⟩
  refine reg_load 52 z.out rfl (by kernel_rfl) (by decide) (fun _ _ _ _ h=>h) u.out (wanted_yes (g:=46) (p:=true) (d:=83) rfl (by kernel_rfl) (rfl)) ?_
  apply Exists.intro
  refine ⟨fun w' hw=>by (go_simp; exact rfl),?_⟩
  refine rq 53 z.out u.out rfl ?_
  refine rq 54 z.out u.out rfl ?_
  refine reg_load 55 z.out rfl (by kernel_rfl) (by decide) (fun _ _ _ _ h=>h) u.out (wanted_yes (g:=54) (p:=true) (d:=91) rfl (by kernel_rfl) (at_eq (sz_put (sz_put ((Nat.lt_of_lt_of_eq (m:=99) (by decide) rfl)))))) ?_
  apply Exists.intro
  refine ⟨fun w' hw=>by (go_simp; exact rfl),?_⟩
  refine reg_load 57 z.out rfl (by kernel_rfl) (by decide) (fun _ _ _ _ h=>h) u.out (wanted_yes (g:=54) (p:=true) (d:=91) rfl (by kernel_rfl) (at_ne (by decide) (at_eq (sz_put (sz_put ((Nat.lt_of_lt_of_eq (m:=99) (by decide) rfl))))))) ?_
  apply Exists.intro
  refine ⟨fun w' hw=>by (go_simp; exact rfl),?_⟩
  refine reg_load 58 z.out rfl (by kernel_rfl) (by decide) (fun _ _ _ _ h=>h) u.out (wanted_yes (g:=54) (p:=true) (d:=91) rfl (by kernel_rfl) (at_ne (by decide) (at_ne (by decide) (at_eq (sz_put (sz_put ((Nat.lt_of_lt_of_eq (m:=99) (by decide) rfl)))))))) ?_
  apply Exists.intro
  refine ⟨fun w' hw=>by (have k1:=(hw.cell (p:=⟨w.heap.size,1,none⟩) G.out).trans I.out.1.2.1; go_simp; exact rfl),?_⟩
  refine reg_load 59 z.out rfl (by kernel_rfl) (by decide) (fun _ _ _ _ h=>h) u.out (wanted_yes (g:=54) (p:=true) (d:=91) rfl (by kernel_rfl) (at_ne (by decide) (at_ne (by decide) (at_ne (by decide) (at_eq (sz_put (sz_put ((Nat.lt_of_lt_of_eq (m:=99) (by decide) rfl))))))))) ?_
  apply Exists.intro
  refine ⟨fun w' hw=>by (go_simp; exact rfl),?_⟩
  refine reg_only 56 rfl (by kernel_rfl) (wanted_yes (g:=54) (p:=true) (d:=91) rfl (by kernel_rfl) (at_ne (by decide) (at_ne (by decide) (at_ne (by decide) (at_ne (by decide) (at_eq (sz_put (sz_put ((Nat.lt_of_lt_of_eq (m:=99) (by decide) rfl)))))))))) ?_
  unfold Oper.wp
  go_simp
  refine (len_any _ x leak D (mk M) T (a1.out.later u.out)).mono ?_
  rintro e be ⟨rfl,rfl⟩
  rw [a6.out]
  refine ⟨u.out,?_⟩
  refine reg_load 60 z.out rfl (by kernel_rfl) (by decide) (fun _ _ _ _ h=>h) u.out (wanted_yes (g:=54) (p:=true) (d:=91) rfl (by kernel_rfl) (rfl)) ?_
  apply Exists.intro
  refine ⟨fun w' hw=>by (go_simp; exact rfl),?_⟩
  refine rq 61 z.out u.out rfl ?_
  refine rq 62 z.out u.out rfl ?_
  refine reg_done (by kernel_rfl) ?_
  have HZ:=Lh (HB.out.trans (u.out.mono HB.out.size))
  clear u
  go_wp2_with fail
  go_ret
  exact ⟨rfl,HZ.out⟩
end Go.Proofs.YtaeemilldmhbnaaGreatDoor.Le
