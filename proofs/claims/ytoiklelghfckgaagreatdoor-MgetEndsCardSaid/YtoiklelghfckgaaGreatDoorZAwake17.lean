/- A part of the claim: the texts Awake17. -/
import Derived.Test.YtoiklelghfckgaaGreatDoorZGGive
import Derived.Test.YtoiklelghfckgaaGreatDoorZGAwK
import Derived.Deep.CutBlock
set_option maxRecDepth 100000
set_option maxHeartbeats 8000000
set_option linter.unusedVariables false
namespace Go.Proofs.YtoiklelghfckgaaGreatDoor.Wo
open Go Go.ChangeShapes Go.WideShapes Go.ChangeAt Go.RowKit Go.Deep Go.Maps Rw Hi Mt Ba
open Cn (Cf cfE)
abbrev cD:Cf:=⟨4,1,100,1000,50,200,4598175219545276416⟩
theorem cD_ok:cD.ok:=⟨⟨by decide,by decide⟩,⟨by decide,by decide⟩,⟨by decide,by decide⟩,⟨by decide,by decide⟩,by decide⟩
theorem cD_zero:cfE cD=0:=by kernel_rfl
abbrev sm0:Ws:=⟨cD,0,[],[],fun _=>[],[],200,[],[],[],[],[],0,[],0,[],0,false⟩
abbrev sm1:Ws:={ sm0 with live:=1 }
abbrev sm2:Ws:={ sm1 with n:=1 }
abbrev sm3:Ws:={ sm2 with D:=[(1,⟨1,0,0,0⟩)] }
abbrev sm4:Ws:={ sm3 with S:=[1] }
theorem Wo.vv {base:Nat} {z:Nat→Nat} {w:World} {x:Wp} {s:Ws} (h:Wo base z w x s):∃ col',Wv base col' w x s:=by
 obtain ⟨col',I⟩:∃ col':Nat→Nat,col'=fun g=>if g < w.heap.size then z g else 0:=⟨_,rfl⟩
 have F:∀ g,g < w.heap.size→col' g=z g:=fun g u=>by rw [I]; exact if_pos u
 have G:∀ g,w.heap.size≤g→col' g=0:=fun g u=>by rw [I]; show (if g < w.heap.size then z g else 0)=0; rw [if_neg (by omega)]
 refine ⟨col',x.rs,x.rh,h.recol F (fun g u=>?_),fun g u=>?_⟩
 ·by_cases h3:g < w.heap.size
  ·exact h.lo g (by rw [← F g h3]; exact u)
  ·exact absurd (G g (by omega)) u
 ·by_cases h3:g < w.heap.size
  ·exact h3
  ·exact absurd (G g (by omega)) u
theorem small_any (w:World):Calls Tryz.prog 121 #[] w fun e w'=>∃ (base:Nat) (x:Wp) (u:Nat→Nat),e=.returned (.tuple #[ptr x.pw,.bool true])∧w.heap.size≤base∧Wv base u w' x sm4∧Below w.heap.size w w':=by
 go_enter Tryz.func121,Tryz.ntmps121
 go_wp2_with fail
 refine (Cn.default_any w).mono ?_
 rintro e h ⟨rfl,b1⟩
 have a0:=Lh b1
 clear b1
 go_wp2_with fail
 refine (new_ok cD cD_ok cD_zero none none 0 0 h.heap.size 0 0 h.heap.size [] [] h Rd.nil_ Rd.nil_ (Nat.le_refl _) (Nat.le_refl _) (by omega) (by omega)).mono ?_
 rintro e z ⟨x,ad,rfl,G,b2⟩
 obtain ⟨u,G⟩:=G.vv
 have J:Hid (Wv h.heap.size u z x sm0):=Lh G
 have a8:=Lh b2
 clear G b2
 have HG:Hid (Calls Tryz.prog 68 #[ptr x.pw] z fun e w'=>e=.returned (.bool true)∧Wv h.heap.size u w' x sm1∧Fw u z w'):=Lh (wgrow_any z J.out (by decide) (by decide))
 go_wp2_with fail
 refine HG.out.mono ?_
 rintro e Y ⟨rfl,h3,z3⟩
 have a1:=Lh h3
 have a3:=Lh z3
 clear h3 z3 HG
 have c12:=a1.out.cells.c12
 have HO:Hid (Calls Tryz.prog 71 #[ptr x.pF] Y fun e w'=>e=.returned (.tuple #[.int .u64 1,.bool true])∧Wv h.heap.size u w' x sm2∧Fw u Y w'):=Lh (wopen Y a1.out (by decide))
 go_wp2_with fail
 refine HO.out.mono ?_
 rintro e I ⟨rfl,h4,z4⟩
 have a2:=Lh h4
 have a4:=Lh (a3.out.trans z4)
 clear h4 z4 HO c12 a3
 have c8:=a2.out.cells.c8
 have HE:Hid (Calls Tryz.prog 73 #[ptr x.pb,.int .u64 1,.int .i64 1,.int .u64 0] I fun e w'=>e=.returned (.int .i64 0) ∧ ∃ col',Wv h.heap.size col' w' x sm3∧Fw u I w'∧El I u col'):=Lh (wenter I a2.out 1 1 0 ⟨by decide,by decide⟩ ⟨by decide,by decide⟩ (by decide))
 go_wp2_with fail
 refine HE.out.mono ?_
 rintro e F ⟨rfl,a6,h5,z5,l5⟩
 have Q:=Lh h5
 have a5:Hid (Below h.heap.size z F):=Lh ((a4.out.trans z5).below J.out.base_le (fun g W=>J.out.lo g W.1))
 clear h5 z5 l5 HE c8 a4
 have HP:Hid (Calls Tryz.prog 77 #[ptr x.pw,.int .u64 1] F fun e w'=>e=.returned (.bool true) ∧ ∃ col',Wv h.heap.size col' w' x sm4∧Fw a6 F w'∧El F a6 col'):=Lh (wpub_open F Q.out 1 ⟨by decide,by decide⟩ (by decide) rfl)
 go_wp2_with fail
 refine HP.out.mono ?_
 rintro e w6 ⟨rfl,ac,h6,z6,l6⟩
 have a9:=Lh h6
 have aa:Hid (Below h.heap.size z w6):=Lh (a5.out.trans (z6.below Q.out.base_le (fun g W=>Q.out.lo g W.1)))
 clear h6 z6 l6 HP a5
 go_wp2_with fail
 go_ret2
 have a7:=a0.out.size
 exact ⟨h.heap.size,x,ac,rfl,a7,a9.out,a0.out.trans ((a8.out.trans aa.out).mono a7)⟩
abbrev q0:Gw:=⟨⟨0,1,1,1,sOffer⟩,sm4,[]⟩
theorem q0_gi:Gi q0 0:=⟨rfl,⟨⟨by decide,by decide⟩,⟨by decide,by decide⟩⟩,⟨by decide,by decide⟩,by decide,by decide,by decide,by decide,by decide,.inl rfl⟩
theorem q0_d0:((itG 0 q0).g.st.toList == [100,111,110,101])=false:=by kernel_rfl
theorem q0_d1:((itG 1 q0).g.st.toList == [100,111,110,101])=false:=by kernel_rfl
theorem q0_d2:((itG 2 q0).g.st.toList == [100,111,110,101])=false:=by kernel_rfl
theorem q0_d3:((itG 3 q0).g.st.toList == [100,111,110,101])=false:=by kernel_rfl
theorem q0_d4:((itG 4 q0).g.st.toList == [100,111,110,101])=true:=by kernel_rfl
theorem q0_done:∀ k,k≤4→((itG k q0).g.st.toList == [100,111,110,101])=decide (k=4)
 | 0,_=>q0_d0
 | 1,_=>q0_d1
 | 2,_=>q0_d2
 | 3,_=>q0_d3
 | 4,_=>q0_d4
 | k+5,h=>absurd h (by omega)
theorem q0_end:bW (itG 4 q0).s.D 1=4:=by kernel_rfl
theorem awake17_any (W:World) (hT:Tb.Tabs W):Calls Tryz.prog 63 #[] W fun e w'=>e=.returned (.bool true)∧Below W.heap.size W w':=by
 have HT:=Lh hT
 clear hT
 go_enter Tryz.func63,Tryz.ntmps63
 go_wp2_with fail
 refine (small_any W).mono ?_
 rintro e w1 ⟨base,x,a2,rfl,hb,h1,b1⟩
 have an:=Lh h1
 have F:=Lh b1
 have aC:=Lh hb
 clear h1 b1 hb
 go_wp2_with fail
 have ag:Hid (Calls Tryz.prog 23 #[.int .i64 1,.int .u64 0] w1 fun e w'=>e=.returned (.int .u64 1)∧w1=w'):=Lh (Wd.of_any 1 0 w1 (by decide) (by decide))
 refine ag.out.mono ?_
 rintro e u ⟨rfl,rfl⟩
 clear ag
 go_wp2_with fail
 refine (goffer_any 0 1 1 1 w1).mono ?_
 rintro e u ⟨rfl,b2⟩
 have Y:=Lh b2
 have ao:=Lh (an.out.later b2)
 clear b2 an
 go_upto_region 5 with (first
  | (refine store_g rfl _ _ rfl u.heap.size rfl q0.g rfl ((box_g zg u).choose_spec.1 ▸ (box_g zg u).choose_spec.2.1.th) ?_; intro w3 ax az; have a0:=Lh ax; have a3:Hid (Below u.heap.size u w3):=Lh (((Below.refl _ u).alloc (Nat.le_refl _) _).trans (az.below (by simp) (fun k hk=>by omega))); clear ax az))
 obtain ⟨h,a9⟩:∃ h,u.heap.size=h:=⟨_,rfl⟩
 rw [a9] at a0
 rw [a9]
 obtain ⟨av,h3,l3,au,-⟩:=ao.out.var a3.out h (by omega) a0.out.lt
 have aq:Hid (Wv base av w3 x (itG 0 q0).s):=Lh h3
 have ac:=Lh au
 have aD:Hid (W.heap.size≤h):=Lh (by have:=F.out.size; have:=Y.out.size; omega)
 have aa:Hid (Below W.heap.size W w3):=Lh ((F.out.trans (Y.out.mono F.out.size)).trans (a3.out.mono (Nat.le_trans F.out.size Y.out.size)))
 clear h3 l3 au F Y a3 ao a9
 go_wp2_with fail
 go_loopw [4] (fun i wr=>∃ (k:Nat) (a2:Nat→Nat),k≤4∧i=.int .i64 k∧Hid (Wv base a2 wr x (itG k q0).s)∧Hid (a2 h=8)∧Hid (Vg wr h (itG k q0).g)∧Hid (Below W.heap.size W wr)) (fun i _=>4 - (intOf i).toNat)
 case atStart=>exact ⟨0,av,Nat.zero_le _,rfl,aq,ac,a0,aa⟩
 case round=>
  clear aq ac a0 aa
  obtain ⟨k,a2,hk,rfl,HW,HC,HV,HB⟩:=hrel
  have ae:=Lh (q0_done k hk)
  have HD:Hid (Calls Tryz.prog 123 #[(itG k q0).g.val] wr fun e w'=>e=.returned (.bool (decide (k=4)))∧Below wr.heap.size wr w'):=Lh (by have q:=gdone_any (itG k q0).g wr; rw [ae.out] at q; exact q)
  have a4:=Lh (q0_gi.it k)
  obtain ⟨Q,hQ⟩:∃ Q,itG k q0=Q:=⟨_,rfl⟩
  have a5:Hid (itG (k+1) q0=stepG Q):=Lh (by rw [← hQ]; rfl)
  have ah:=Lh hQ
  rw [hQ] at HW HV HD a4
  clear hQ ae
  go_wp2_with (first
   | (refine load_g rfl _ rfl h rfl Q.g HV.out ?_))
  refine HD.out.mono ?_
  rintro e z ⟨rfl,b4⟩
  have a1:=Lh (HW.out.later b4)
  have a6:=Lh (HV.out.later b4)
  have G:Hid (Below W.heap.size W z):=Lh (HB.out.trans (b4.mono HB.out.size))
  clear b4 HW HV HB HD
  by_cases hk4:k=4
  ·subst hk4
   have J:decide ((4:Nat)=4)=true:=rfl
   rw [J]
   have HL:Hid (bW Q.s.D 1=4):=Lh (by rw [← ah.out]; exact q0_end)
   clear J a5 a4 ah hk
   have c8:=a1.out.cells.c8
   obtain ⟨bs,aw⟩:∃ bs,(fnd Q.s.D 1).isSome=bs:=⟨_,rfl⟩
   have af:Hid (Calls Tryz.prog 13 #[ptr x.pb,.int .u64 1] z fun e w'=>e=.returned (.tuple #[.int .u64 4,.bool bs])∧z=w'):=Lh (by
    have q:=load_any z x.pb x.ab Q.s.D Q.s.S 1 a1.out.bag ⟨by decide,by decide⟩
    rw [HL.out,aw] at q
    exact q)
   clear aw
   go_wp2_with fail
   refine af.out.mono ?_
   rintro e w5 ⟨rfl,rfl⟩
   clear af c8
   go_wp2_with fail
   refine (Awake16_any z (HT.out.below G.out)).mono ?_
   rintro e w5 ⟨rfl,b5⟩
   have I:=Lh b5
   clear b5
   have aj:=Lh (Wd.state_any 4 w5 (by decide) (by decide))
   go_wp2_with fail
   refine aj.out.mono ?_
   rintro e w6 ⟨rfl,rfl⟩
   clear aj
   go_wp2_with fail
   go_ret
   exact ⟨rfl,G.out.trans (I.out.mono G.out.size)⟩
  ·have J:decide (k=4)=false:=decide_eq_false hk4
   have q2:decide ((k:Int) < 9)=true:=decide_eq_true (by omega)
   have t3:IntKind.i64.wrap ((k:Int)+1)=(k:Int)+1:=by rw [IntKind.wrap_i64]; omega
   rw [J]
   clear J
   have ai:=Lh (give_run z a1.out a4.out (by omega))
   go_wp2_with (first
    | (refine load_g rfl _ rfl h rfl Q.g a6.out ?_))
   refine ai.out.mono ?_
   rintro e w5 ⟨rfl,a8,h5,z5,l5⟩
   have ar:=Lh h5
   have ak:=Lh (a6.out.fw HC.out z5).th
   have ad:Hid (a8 h=8):=Lh ((l5 h a6.out.lt).trans HC.out)
   have I:Hid (Below W.heap.size W w5):=Lh (G.out.trans (z5.below G.out.size (fun g hg=>Nat.le_trans aC.out (a1.out.lo g hg.1))))
   clear h5 z5 l5 ai
   go_wp2_with (first
    | (refine store_g rfl _ _ rfl h rfl (stepG Q).g rfl ak.out ?_; intro w6 ay aA; have al:=Lh ay; have a7:=Lh aA; clear ay aA))
   have aF:Hid (Wv base a8 w6 x (itG (k+1) q0).s):=Lh (by rw [a5.out]; exact ar.out.aside a7.out (fun g _ e=>e ▸ ad.out))
   have aE:Hid (Vg w6 h (itG (k+1) q0).g):=Lh (by rw [a5.out]; exact al.out)
   have aB:Hid (Below W.heap.size W w6):=Lh (I.out.trans (a7.out.below I.out.size (fun g hg=>by have:=aD.out; omega)))
   clear al a7 ar ak I
   go_roundw
   case rel=>exact ⟨k+1,a8,by omega,by go_num,aF,ad,aE,aB⟩
   case measure=>simp [intOf]; omega
end Go.Proofs.YtoiklelghfckgaaGreatDoor.Wo
