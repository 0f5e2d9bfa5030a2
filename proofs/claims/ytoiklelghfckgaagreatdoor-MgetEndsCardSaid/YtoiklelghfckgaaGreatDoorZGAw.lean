/- A part of the claim: the texts Awake14 Awake15. -/
import Derived.Test.YtoiklelghfckgaaGreatDoorZBase6
import Derived.Test.YtoiklelghfckgaaGreatDoorZGAwA
import Derived.Test.YtoiklelghfckgaaGreatDoorZGBag
set_option maxRecDepth 100000
set_option maxHeartbeats 8000000
set_option linter.unusedVariables false
namespace Go.Proofs.YtoiklelghfckgaaGreatDoor.Le
open Go.ChangeShapes Go.WideShapes Go.ChangeAt Go.RowKit Go.Maps Rw Hi Mt Ck
theorem t14:Wl.arm [] 7 (cAdd 3 5)=[(7,8)]:=by decide +kernel
theorem d7:Wl.due [(7,8)] 7=[]:=by decide +kernel
theorem l7:Wl.left [(7,8)] 7=[(7,8)]:=by decide +kernel
theorem d8:Wl.due [(7,8)] 8=[(7,8)]:=by decide +kernel
theorem fr3 {w w':World} {a m B:Nat} (h:Fr (some a) (some m) w w') (u:B≤w.heap.size) (ha:B≤a) (z:B≤m):Below B w w':=h.below u (fun k hk=>by injection hk with hk; omega) (fun k hk=>by injection hk with hk; omega)
theorem awake14_any (w:World) (hT:Tb.Tabs w) :
  Calls Tryz.prog 260 #[] w fun e w'=>e=.returned (.bool true)∧Below w.heap.size w w':=by
 have HT:=Lh hT
 clear hT
 go_enter Tryz.func260,Tryz.ntmps260
 go_wp2_with fail
 refine (new_any _ 5).mono ?_
 rintro e w1 ⟨x,rfl,k1,b1,xp,G,xb,xq,I⟩
 have K1:=Lh k1
 have J:=Lh b1
 clear k1 b1
 go_wp2_with fail
 refine (begin_leak w1 x 5 [] [] [] 7 1 3 K1.out (by omega) (by omega) (by omega) (by omega) (by omega) (by omega) rfl (by decide) (by decide)).mono ?_
 rintro e w2 ⟨rfl,k2,f2⟩
 rw [t14] at k2
 have K2:=Lh k2
 have h:=Lh (J.out.trans (fr3 f2 J.out.size G I))
 clear k2 f2 K1
 go_wp2_with fail
 refine (Cn.Awake13_any _ (HT.out.below h.out)).mono ?_
 rintro e w3 ⟨rfl,u⟩
 have K3:=Lh (K2.out.later u)
 have Q:=Lh (h.out.trans (u.mono h.out.size))
 clear u K2
 go_wp2_with fail
 refine (leaks_any w3 x 5 _ [] [(7,8)] 7 K3.out (by omega) (by decide) (by decide)).mono ?_
 rintro e w4 ⟨A4,c4,rfl,r4,z,f4⟩
 rw [d7,l7] at z
 have K4:=Lh z
 have W:=Lh (Q.out.trans (fr3 f4 Q.out.size G I))
 have e4:((Wl.due [(7,8)] 7).length:Int)=0:=by rw [d7]; rfl
 clear r4 z f4 K3
 go_wp2_with fail
 refine (leaks_any w4 x 5 _ [] [(7,8)] 8 K4.out (by omega) (by decide) (by decide)).mono ?_
 rintro e w5 ⟨A5,c5,rfl,F,k5,f5⟩
 rw [d8] at F ⊢
 have R5:=Lh (Rd.own_rd F)
 have Y:=Lh (W.out.trans (fr3 f5 W.out.size G I))
 have a0:=Y.out.size
 clear F k5 f5 K4 e4
 go_wp2_with fail
 refine (Sl.equal_any A5 (some ⟨w5.heap.size,0,none⟩) 1 c5 1 1 [7] [7] _ _ _ (R5.out.alloc (Nat.le_refl _) _) (rd_one (enc:=Value.int .u64) w5 7 25)).mono ?_
 rintro e w6 ⟨rfl,q,rfl⟩
 rw [decide_eq_true rfl]
 go_wp2_with fail
 go_ret
 exact ⟨rfl,Rw.below_drewN (Y.out.alloc a0 _) q⟩
theorem Awake14_any (w:World) (h:Tb.Tabs w) :
  Calls Tryz.prog 253 #[] w fun e w'=>e=.returned (.bool true)∧Below w.heap.size w w':=by
 go_enter Tryz.func253,Tryz.ntmps253
 go_wp2_with fail
 refine (awake14_any _ h).mono ?_
 rintro e u ⟨rfl,b1⟩
 go_wp2_with fail
 go_ret
 exact ⟨rfl,b1⟩
end Go.Proofs.YtoiklelghfckgaaGreatDoor.Le
namespace Go.Proofs.YtoiklelghfckgaaGreatDoor.Ba
open Go Go.ChangeShapes Go.WideShapes Go.ChangeAt Go.RowKit Go.Maps Rw Hi Mt
theorem awake15_any (w:World) (hT:Tb.Tabs w) :
  Calls Tryz.prog 236 #[] w fun e w'=>e=.returned (.bool true)∧Below w.heap.size w w':=by
 have HT:=Lh hT
 clear hT
 go_enter Tryz.func236,Tryz.ntmps236
 go_wp2_with fail
 refine (bnew_any w).mono ?_
 rintro e w1 ⟨rfl,Y,b1⟩
 have H1:=Lh Y
 have F:=Lh b1
 clear Y b1
 go_wp2_with fail
 refine (enter_any w1 _ _ _ _ 1 H1.out (by decide) 0 5 (by decide) (by decide)).mono ?_
 rintro e w2 ⟨rfl,I,z2⟩
 have u:eE ([] : List (Int × Ex)) 1 0=0:=rfl
 have z:ins ([] : List (Int × Ex)) 1 ⟨Wd.wOf 0 0,5,5,5⟩=[(1,⟨0,5,5,5⟩)]:=rfl
 rw [u,if_pos rfl,z] at I
 rw [u]
 have Q:=Lh I
 have J:=Lh (F.out.trans (z2.below F.out.size (fun k h=>h)))
 clear I z2 u z
 go_wp2_with fail
 refine (load_any w2 _ _ _ _ 1 Q.out (by decide)).mono ?_
 rintro e w3 ⟨rfl,rfl⟩
 have u:bW [((1:Int),(⟨0,5,5,5⟩:Ex))] 1=0:=rfl
 have z:(fnd [((1:Int),(⟨0,5,5,5⟩:Ex))] 1).isSome=true:=rfl
 rw [u,z]
 clear u z
 go_wp2_with fail
 refine (swap_any w2 _ _ _ _ 1 Q.out (by decide) 0 1 6 (by decide) (by decide)).mono ?_
 rintro e w3 ⟨rfl,h3,z3⟩
 have u:bV [((1:Int),(⟨0,5,5,5⟩:Ex))] 1 0 1=5:=rfl
 have z:bK [((1:Int),(⟨0,5,5,5⟩:Ex))] 1 0 1=true:=rfl
 rw [u,z]
 have G:=Lh (J.out.trans (z3.below J.out.size (fun k h=>by rcases h with h | h; exact h.2; exact Nat.le_trans F.out.size h)))
 clear u z h3 z3
 go_wp2_with fail
 refine (Le.Awake14_any w3 (HT.out.below G.out)).mono ?_
 rintro e w4 ⟨rfl,W⟩
 have B4:=Lh (G.out.trans (W.mono G.out.size))
 clear W
 go_wp2_with fail
 go_ret
 exact ⟨rfl,B4.out⟩
theorem Awake15_any (w:World) (u:Tb.Tabs w) :
  Calls Tryz.prog 204 #[] w fun e w'=>e=.returned (.bool true)∧Below w.heap.size w w':=by
 go_enter Tryz.func204,Tryz.ntmps204
 go_wp2_with fail
 refine (awake15_any w u).mono ?_
 rintro e z ⟨rfl,h⟩
 go_wp2_with fail
 go_ret
 exact ⟨rfl,h⟩
end Go.Proofs.YtoiklelghfckgaaGreatDoor.Ba
