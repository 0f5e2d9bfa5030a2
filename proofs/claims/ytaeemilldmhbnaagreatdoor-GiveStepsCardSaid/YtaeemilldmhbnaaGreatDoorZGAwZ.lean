/- A part of the claim: the texts Awake17 StepsLong. -/
import Derived.Test.YtaeemilldmhbnaaGreatDoorZGGive
import Derived.Test.YtaeemilldmhbnaaGreatDoorZGAwK
import Derived.Test.YtaeemilldmhbnaaGreatDoorZBase1
import Derived.Deep.CutBlock
import Derived.Deep.RegionHeld3
import Derived.ProofKit
set_option maxRecDepth 100000
set_option maxHeartbeats 8000000
set_option linter.unusedVariables false
namespace Go.Proofs.YtaeemilldmhbnaaGreatDoor.Wo
open Go Go.ChangeShapes Go.WideShapes Go.ChangeAt Go.RowKit Go.Deep Go.Maps Rw Hi Mt Ba
open Cn (Cf cfE)
abbrev cD:Cf:=⟨4,1,100,1000,50,200,4598175219545276416⟩
theorem cD_ok:cD.ok:=⟨⟨by decide,by decide⟩,⟨by decide,by decide⟩,⟨by decide,by decide⟩,⟨by decide,by decide⟩,by decide⟩
theorem cD_zero:cfE cD=0:=by kernel_rfl
abbrev sm0:Ws:=⟨cD,0,[],[],fun _=>[],[],200,[],[],[],[],[],0,[],0,[],0,false⟩
abbrev sm1:Ws:={ sm0 with live:=1 }
abbrev sm2:Ws:={ sm1 with n:=1 }
abbrev sm3:Ws:={ sm2 with D:=[(1,⟨1,0,0,0⟩)] }
abbrev sm4:Ws:={ sm3 with S:=[1] }
theorem Wo.vv {base:Nat} {z:Nat→Nat} {w:World} {x:Wp} {s:Ws} (h:Wo base z w x s):∃ col',Wv base col' w x s:=by
 obtain ⟨col',I⟩:∃ col':Nat→Nat,col'=fun g=>if g < w.heap.size then z g else 0:=⟨_,rfl⟩
 have F:∀ g,g < w.heap.size→col' g=z g:=fun g u=>by rw [I]; exact if_pos u
 have G:∀ g,w.heap.size≤g→col' g=0:=fun g u=>by rw [I]; show (if g < w.heap.size then z g else 0)=0; rw [if_neg (by omega)]
 refine ⟨col',x.rs,x.rh,h.recol F (fun g u=>?_),fun g u=>?_⟩
 ·by_cases h3:g < w.heap.size
  ·exact h.lo g (by rw [← F g h3]; exact u)
  ·exact absurd (G g (by omega)) u
 ·by_cases h3:g < w.heap.size
  ·exact h3
  ·exact absurd (G g (by omega)) u
theorem small_any (w:World):Calls Tryz.prog 88 #[] w fun e w'=>∃ (base:Nat) (x:Wp) (u:Nat→Nat),e=.returned (.tuple #[ptr x.pw,.bool true])∧w.heap.size≤base∧Wv base u w' x sm4∧Below w.heap.size w w':=by
 go_enter Tryz.func88,Tryz.ntmps88
 go_wp2_with fail
 refine (Cn.default_any w).mono ?_
 rintro e h ⟨rfl,b1⟩
 have a0:=Lh b1
 clear b1
 go_wp2_with fail
 refine (new_ok cD cD_ok cD_zero none none 0 0 h.heap.size 0 0 h.heap.size [] [] h Rd.nil_ Rd.nil_ (Nat.le_refl _) (Nat.le_refl _) (by omega) (by omega)).mono ?_
 rintro e z ⟨x,ad,rfl,G,b2⟩
 obtain ⟨u,G⟩:=G.vv
 have J:Hid (Wv h.heap.size u z x sm0):=Lh G
 have a8:=Lh b2
 clear G b2
 have HG:Hid (Calls Tryz.prog 11 #[ptr x.pw] z fun e w'=>e=.returned (.bool true)∧Wv h.heap.size u w' x sm1∧Fw u z w'):=Lh (wgrow_any z J.out (by decide) (by decide))
 go_wp2_with fail
 refine HG.out.mono ?_
 rintro e Y ⟨rfl,h3,z3⟩
 have a1:=Lh h3
 have a3:=Lh z3
 clear h3 z3 HG
 have c12:=a1.out.cells.c12
 have HO:Hid (Calls Tryz.prog 12 #[ptr x.pF] Y fun e w'=>e=.returned (.tuple #[.int .u64 1,.bool true])∧Wv h.heap.size u w' x sm2∧Fw u Y w'):=Lh (wopen Y a1.out (by decide))
 go_wp2_with fail
 refine HO.out.mono ?_
 rintro e I ⟨rfl,h4,z4⟩
 have a2:=Lh h4
 have a4:=Lh (a3.out.trans z4)
 clear h4 z4 HO c12 a3
 have c8:=a2.out.cells.c8
 have HE:Hid (Calls Tryz.prog 55 #[ptr x.pb,.int .u64 1,.int .i64 1,.int .u64 0] I fun e w'=>e=.returned (.int .i64 0) ∧ ∃ col',Wv h.heap.size col' w' x sm3∧Fw u I w'∧El I u col'):=Lh (wenter I a2.out 1 1 0 ⟨by decide,by decide⟩ ⟨by decide,by decide⟩ (by decide))
 go_wp2_with fail
 refine HE.out.mono ?_
 rintro e F ⟨rfl,a6,h5,z5,l5⟩
 have Q:=Lh h5
 have a5:Hid (Below h.heap.size z F):=Lh ((a4.out.trans z5).below J.out.base_le (fun g W=>J.out.lo g W.1))
 clear h5 z5 l5 HE c8 a4
 have HP:Hid (Calls Tryz.prog 59 #[ptr x.pw,.int .u64 1] F fun e w'=>e=.returned (.bool true) ∧ ∃ col',Wv h.heap.size col' w' x sm4∧Fw a6 F w'∧El F a6 col'):=Lh (wpub_open F Q.out 1 ⟨by decide,by decide⟩ (by decide) rfl)
 go_wp2_with fail
 refine HP.out.mono ?_
 rintro e w6 ⟨rfl,ac,h6,z6,l6⟩
 have a9:=Lh h6
 have aa:Hid (Below h.heap.size z w6):=Lh (a5.out.trans (z6.below Q.out.base_le (fun g W=>Q.out.lo g W.1)))
 clear h6 z6 l6 HP a5
 go_wp2_with fail
 go_ret2
 have a7:=a0.out.size
 exact ⟨h.heap.size,x,ac,rfl,a7,a9.out,a0.out.trans ((a8.out.trans aa.out).mono a7)⟩
abbrev q0:Gw:=⟨⟨0,1,1,1,sOffer⟩,sm4,[]⟩
theorem q0_gi:Gi q0 0:=⟨rfl,⟨⟨by decide,by decide⟩,⟨by decide,by decide⟩⟩,⟨by decide,by decide⟩,by decide,by decide,by decide,by decide,by decide,.inl rfl⟩
theorem q0_d0:((itG 0 q0).g.st.toList == [100,111,110,101])=false:=by kernel_rfl
theorem q0_d1:((itG 1 q0).g.st.toList == [100,111,110,101])=false:=by kernel_rfl
theorem q0_d2:((itG 2 q0).g.st.toList == [100,111,110,101])=false:=by kernel_rfl
theorem q0_d3:((itG 3 q0).g.st.toList == [100,111,110,101])=false:=by kernel_rfl
theorem q0_d4:((itG 4 q0).g.st.toList == [100,111,110,101])=true:=by kernel_rfl
theorem q0_done:∀ k,k≤4→((itG k q0).g.st.toList == [100,111,110,101])=decide (k=4)
 | 0,_=>q0_d0
 | 1,_=>q0_d1
 | 2,_=>q0_d2
 | 3,_=>q0_d3
 | 4,_=>q0_d4
 | k+5,h=>absurd h (by omega)
theorem q0_end:bW (itG 4 q0).s.D 1=4:=by kernel_rfl
theorem awake17_any (W:World) (hT:Tb.Tabs W):Calls Tryz.prog 20 #[] W fun e w'=>e=.returned (.bool true)∧Below W.heap.size W w':=by
 have HT:=Lh hT
 clear hT
 go_enter Tryz.func20,Tryz.ntmps20
 go_wp2_with fail
 refine (small_any W).mono ?_
 rintro e w1 ⟨base,x,a2,rfl,hb,h1,b1⟩
 have an:=Lh h1
 have F:=Lh b1
 have aC:=Lh hb
 clear h1 b1 hb
 go_wp2_with fail
 have ag:Hid (Calls Tryz.prog 89 #[.int .i64 1,.int .u64 0] w1 fun e w'=>e=.returned (.int .u64 1)∧w1=w'):=Lh (Wd.of_any 1 0 w1 (by decide) (by decide))
 refine ag.out.mono ?_
 rintro e u ⟨rfl,rfl⟩
 clear ag
 go_wp2_with fail
 refine (goffer_any 0 1 1 1 w1).mono ?_
 rintro e u ⟨rfl,b2⟩
 have Y:=Lh b2
 have ao:=Lh (an.out.later b2)
 clear b2 an
 go_upto_region 5 with (first
  | (refine store_g rfl _ _ rfl u.heap.size rfl q0.g rfl ((box_g zg u).choose_spec.1 ▸ (box_g zg u).choose_spec.2.1.th) ?_; intro w3 ax az; have a0:=Lh ax; have a3:Hid (Below u.heap.size u w3):=Lh (((Below.refl _ u).alloc (Nat.le_refl _) _).trans (az.below (by simp) (fun k hk=>by omega))); clear ax az))
 obtain ⟨h,a9⟩:∃ h,u.heap.size=h:=⟨_,rfl⟩
 rw [a9] at a0
 rw [a9]
 obtain ⟨av,h3,l3,au,-⟩:=ao.out.var a3.out h (by omega) a0.out.lt
 have aq:Hid (Wv base av w3 x (itG 0 q0).s):=Lh h3
 have ac:=Lh au
 have aD:Hid (W.heap.size≤h):=Lh (by have:=F.out.size; have:=Y.out.size; omega)
 have aa:Hid (Below W.heap.size W w3):=Lh ((F.out.trans (Y.out.mono F.out.size)).trans (a3.out.mono (Nat.le_trans F.out.size Y.out.size)))
 clear h3 l3 au F Y a3 ao a9
 go_wp2_with fail
 go_loopw [4] (fun i wr=>∃ (k:Nat) (a2:Nat→Nat),k≤4∧i=.int .i64 k∧Hid (Wv base a2 wr x (itG k q0).s)∧Hid (a2 h=8)∧Hid (Vg wr h (itG k q0).g)∧Hid (Below W.heap.size W wr)) (fun i _=>4 - (intOf i).toNat)
 case atStart=>exact ⟨0,av,Nat.zero_le _,rfl,aq,ac,a0,aa⟩
 case round=>
  clear aq ac a0 aa
  obtain ⟨k,a2,hk,rfl,HW,HC,HV,HB⟩:=hrel
  have ae:=Lh (q0_done k hk)
  have HD:Hid (Calls Tryz.prog 28 #[(itG k q0).g.val] wr fun e w'=>e=.returned (.bool (decide (k=4)))∧Below wr.heap.size wr w'):=Lh (by have q:=gdone_any (itG k q0).g wr; rw [ae.out] at q; exact q)
  have a4:=Lh (q0_gi.it k)
  obtain ⟨Q,hQ⟩:∃ Q,itG k q0=Q:=⟨_,rfl⟩
  have a5:Hid (itG (k+1) q0=stepG Q):=Lh (by rw [← hQ]; rfl)
  have ah:=Lh hQ
  rw [hQ] at HW HV HD a4
  clear hQ ae
  go_wp2_with (first
   | (refine load_g rfl _ rfl h rfl Q.g HV.out ?_))
  refine HD.out.mono ?_
  rintro e z ⟨rfl,b4⟩
  have a1:=Lh (HW.out.later b4)
  have a6:=Lh (HV.out.later b4)
  have G:Hid (Below W.heap.size W z):=Lh (HB.out.trans (b4.mono HB.out.size))
  clear b4 HW HV HB HD
  by_cases hk4:k=4
  ·subst hk4
   have J:decide ((4:Nat)=4)=true:=rfl
   rw [J]
   have HL:Hid (bW Q.s.D 1=4):=Lh (by rw [← ah.out]; exact q0_end)
   clear J a5 a4 ah hk
   have c8:=a1.out.cells.c8
   obtain ⟨bs,aw⟩:∃ bs,(fnd Q.s.D 1).isSome=bs:=⟨_,rfl⟩
   have af:Hid (Calls Tryz.prog 62 #[ptr x.pb,.int .u64 1] z fun e w'=>e=.returned (.tuple #[.int .u64 4,.bool bs])∧z=w'):=Lh (by
    have q:=load_any z x.pb x.ab Q.s.D Q.s.S 1 a1.out.bag ⟨by decide,by decide⟩
    rw [HL.out,aw] at q
    exact q)
   clear aw
   go_wp2_with fail
   refine af.out.mono ?_
   rintro e w5 ⟨rfl,rfl⟩
   clear af c8
   go_wp2_with fail
   refine (Awake16_any z (HT.out.below G.out)).mono ?_
   rintro e w5 ⟨rfl,b5⟩
   have I:=Lh b5
   clear b5
   have aj:=Lh (Wd.state_any 4 w5 (by decide) (by decide))
   go_wp2_with fail
   refine aj.out.mono ?_
   rintro e w6 ⟨rfl,rfl⟩
   clear aj
   go_wp2_with fail
   go_ret
   exact ⟨rfl,G.out.trans (I.out.mono G.out.size)⟩
  ·have J:decide (k=4)=false:=decide_eq_false hk4
   have q2:decide ((k:Int) < 9)=true:=decide_eq_true (by omega)
   have t3:IntKind.i64.wrap ((k:Int)+1)=(k:Int)+1:=by rw [IntKind.wrap_i64]; omega
   rw [J]
   clear J
   have ai:=Lh (give_run z a1.out a4.out (by omega))
   go_wp2_with (first
    | (refine load_g rfl _ rfl h rfl Q.g a6.out ?_))
   refine ai.out.mono ?_
   rintro e w5 ⟨rfl,a8,h5,z5,l5⟩
   have ar:=Lh h5
   have ak:=Lh (a6.out.fw HC.out z5).th
   have ad:Hid (a8 h=8):=Lh ((l5 h a6.out.lt).trans HC.out)
   have I:Hid (Below W.heap.size W w5):=Lh (G.out.trans (z5.below G.out.size (fun g hg=>Nat.le_trans aC.out (a1.out.lo g hg.1))))
   clear h5 z5 l5 ai
   go_wp2_with (first
    | (refine store_g rfl _ _ rfl h rfl (stepG Q).g rfl ak.out ?_; intro w6 ay aA; have al:=Lh ay; have a7:=Lh aA; clear ay aA))
   have aF:Hid (Wv base a8 w6 x (itG (k+1) q0).s):=Lh (by rw [a5.out]; exact ar.out.aside a7.out (fun g _ e=>e ▸ ad.out))
   have aE:Hid (Vg w6 h (itG (k+1) q0).g):=Lh (by rw [a5.out]; exact al.out)
   have aB:Hid (Below W.heap.size W w6):=Lh (I.out.trans (a7.out.below I.out.size (fun g hg=>by have:=aD.out; omega)))
   clear al a7 ar ak I
   go_roundw
   case rel=>exact ⟨k+1,a8,by omega,by go_num,aF,ad,aE,aB⟩
   case measure=>simp [intOf]; omega
theorem open_give {H:Type} {enc:TypeId × Value→H} {W:World} {base b0:Nat} {sp:Nat→Bool} {a6:Bool} {v:Value} {d:DataW H} {p:List MemPlace}
  (k0:Value.okWide Tryz.prog W .any b0 83 v) (h0:DataW.Trod enc Tryz.prog W base sp a6 83 v d p) :
  ∃ g:Gv,v=g.val∧g.ok∧g.st.size≤maxLen:=by
 have k1:Tryz.prog.cellsOf 22=1:=by kernel_rfl
 have k2:Tryz.prog.cellsOf 3=1:=by kernel_rfl
 have k3:Tryz.prog.cellsOf 81=1:=by kernel_rfl
 have k4:Tryz.prog.cellsOf 9=1:=by kernel_rfl
 obtain ⟨cs,rfl,hn⟩:=okWide_struct Tryz.underlying83 k0
 obtain ⟨a7,h⟩:=h0
 obtain ⟨xs,n,_,-,hl,Q,h⟩:=DataW.trod_struct Tryz.underlying83 h
 have a5:cs.size=5:=hn.trans (by kernel_rfl)
 have u:∀ i,i < 5 → ∃ y,xs[i]? = some y:=fun i hi=>⟨xs[i]'(by rw [Q]; exact hi),List.getElem?_eq_getElem (by rw [Q]; exact hi)⟩
 obtain ⟨l⟩:=cs
 match l,a5,h with
 | [a0,a1,a2,a3,a4],_,h=>
  obtain ⟨y0,g0⟩:=u 0 (by decide)
  have q0:=h 0 _ rfl
  rw [g0] at q0
  obtain ⟨z0,z,-,u0⟩:=DataW.trod_int Tryz.underlying3 q0
  simp [Value.cells,k2] at z
  obtain ⟨y1,g1⟩:=u 1 (by decide)
  have Y:=h 1 _ rfl
  rw [g1] at Y
  obtain ⟨z1,F,-,u1⟩:=DataW.trod_int Tryz.underlying3 Y
  simp [Value.cells,k2] at F
  obtain ⟨y2,g2⟩:=u 2 (by decide)
  have q2:=h 2 _ rfl
  rw [g2] at q2
  obtain ⟨z2,G,-,u2⟩:=DataW.trod_int Tryz.underlying22 q2
  simp [Value.cells,k1] at G
  obtain ⟨y3,g3⟩:=u 3 (by decide)
  have q3:=h 3 _ rfl
  rw [g3] at q3
  obtain ⟨z3,I,-,u3⟩:=DataW.trod_int Tryz.underlying81 q3
  simp [Value.cells,k3] at I
  obtain ⟨y4,g4⟩:=u 4 (by decide)
  have q4:=h 4 _ rfl
  rw [g4] at q4
  obtain ⟨z4,J,-,u4⟩:=DataW.trod_string Tryz.underlying9 q4
  simp [Value.cells,k4] at J
  subst z F G I J
  exact ⟨⟨z0,z1,z2,z3,z4⟩,rfl,⟨Wd.lo_u64 u2,Wd.lo_u64 u3⟩,u4⟩
theorem steps_long (W:World) (hT:Tb.Tabs W) (As Aw Am:Option Addr) (u cs nw cw F cm:Nat) (cl:Bool) (g:Gv) (n:Int) (a8:u≤9223372036854775807) (hm:nw≤9223372036854775807) (a7:F≤9223372036854775807) (a2:g.st.size≤maxLen) (hl:6 < u∨5 < nw∨5 < F∨20 < g.st.size) :
  Calls Tryz.prog 4 #[.slice As u cs,.slice Aw nw cw,.slice Am F cm,.bool cl,g.val,.int .u8 n] W fun e w'=>e=.returned (.bool true)∧Below W.heap.size W w':=by
 have HT:=Lh hT
 obtain ⟨Y,Q,V1,B1,S1⟩:=box_g g W
 have Q:W.alloc (.cells #[.int .i64 g.th,.int .i64 g.op,.int .u64 g.id,.int .u64 g.word,.string g.st] 83)=Y:=Q
 have a0:=Lh (HT.out.below B1)
 have a1:=Lh V1
 have z:=Lh B1
 unfold maxLen at a2
 have a6:=Lh a2
 clear hT V1 B1 S1 a2
 by_cases h1:6 < u
 ·have t0:decide ((6:Int) < (u:Int))=true:=decide_eq_true (by omega)
  have a3:decide (6 < u)=true:=decide_eq_true (by omega)
  clear hl h1
  go_enter Tryz.func4,Tryz.ntmps4
  go_upto_region 1 with (fail)
  clear Q
  go_wp2_with fail
  refine (awake17_any Y a0.out).mono ?_
  rintro e J ⟨rfl,h⟩
  have I:=Lh (a1.out.later h)
  have G:Hid (Below W.heap.size W J):=Lh (z.out.trans (h.mono z.out.size))
  clear h
  have k4:=I.out.cell 4 _ rfl
  go_wp2_with fail
  go_ret
  exact ⟨rfl,G.out⟩
 by_cases h2:5 < nw
 ·have t0:decide ((6:Int) < (u:Int))=false:=decide_eq_false (by omega)
  have a3:decide (6 < u)=false:=decide_eq_false (by omega)
  have t1:decide ((5:Int) < (nw:Int))=true:=decide_eq_true (by omega)
  have a4:decide (5 < nw)=true:=decide_eq_true (by omega)
  clear hl h1 h2
  go_enter Tryz.func4,Tryz.ntmps4
  go_upto_region 1 with (fail)
  clear Q
  go_wp2_with fail
  refine (awake17_any Y a0.out).mono ?_
  rintro e J ⟨rfl,h⟩
  have I:=Lh (a1.out.later h)
  have G:Hid (Below W.heap.size W J):=Lh (z.out.trans (h.mono z.out.size))
  clear h
  have k4:=I.out.cell 4 _ rfl
  go_wp2_with fail
  go_ret
  exact ⟨rfl,G.out⟩
 by_cases h3:5 < F
 ·have t0:decide ((6:Int) < (u:Int))=false:=decide_eq_false (by omega)
  have a3:decide (6 < u)=false:=decide_eq_false (by omega)
  have t1:decide ((5:Int) < (nw:Int))=false:=decide_eq_false (by omega)
  have a4:decide (5 < nw)=false:=decide_eq_false (by omega)
  have t2:decide ((5:Int) < (F:Int))=true:=decide_eq_true (by omega)
  have a5:decide (5 < F)=true:=decide_eq_true (by omega)
  clear hl h1 h2 h3
  go_enter Tryz.func4,Tryz.ntmps4
  go_upto_region 1 with (fail)
  clear Q
  go_wp2_with fail
  refine (awake17_any Y a0.out).mono ?_
  rintro e J ⟨rfl,h⟩
  have I:=Lh (a1.out.later h)
  have G:Hid (Below W.heap.size W J):=Lh (z.out.trans (h.mono z.out.size))
  clear h
  have k4:=I.out.cell 4 _ rfl
  go_wp2_with fail
  go_ret
  exact ⟨rfl,G.out⟩
 have h4:20 < g.st.size:=by omega
 have t0:decide ((6:Int) < (u:Int))=false:=decide_eq_false (by omega)
 have a3:decide (6 < u)=false:=decide_eq_false (by omega)
 have t1:decide ((5:Int) < (nw:Int))=false:=decide_eq_false (by omega)
 have a4:decide (5 < nw)=false:=decide_eq_false (by omega)
 have t2:decide ((5:Int) < (F:Int))=false:=decide_eq_false (by omega)
 have a5:decide (5 < F)=false:=decide_eq_false (by omega)
 have t3:decide ((20:Int) < (g.st.size:Int))=true:=decide_eq_true (by omega)
 have a9:decide (20 < g.st.size)=true:=decide_eq_true (by omega)
 clear hl h1 h2 h3 h4
 go_enter Tryz.func4,Tryz.ntmps4
 go_upto_region 1 with (fail)
 clear Q
 go_wp2_with fail
 refine (awake17_any Y a0.out).mono ?_
 rintro e J ⟨rfl,h⟩
 have I:=Lh (a1.out.later h)
 have G:Hid (Below W.heap.size W J):=Lh (z.out.trans (h.mono z.out.size))
 clear h
 have k4:=I.out.cell 4 _ rfl
 go_wp2_with fail
 go_ret
 exact ⟨rfl,G.out⟩
end Go.Proofs.YtaeemilldmhbnaaGreatDoor.Wo
