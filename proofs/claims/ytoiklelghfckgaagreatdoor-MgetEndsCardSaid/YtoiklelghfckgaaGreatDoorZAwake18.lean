/- A part of the claim: the texts Awake18. -/
import Derived.Test.YtoiklelghfckgaaGreatDoorZMget
import Derived.Test.YtoiklelghfckgaaGreatDoorZAwakeKit
set_option maxRecDepth 100000
set_option maxHeartbeats 8000000
set_option linter.unusedVariables false
namespace Go.Proofs.YtoiklelghfckgaaGreatDoor.Wo
open Go Go.ChangeShapes Go.WideShapes Go.ChangeAt Go.RowKit Go.Deep Go.Maps Rw Hi Mt Ba
open Cn (Cf cfE)
theorem gbegin_any (th dl:Int) (w:World):Calls Tryz.prog 8 #[.int .i64 th,.int .u64 dl] w fun e w'=>e=.returned (Gt.val ⟨th,dl,gStart,0,0,false,none,0,0,[],0,false,0,0,zg⟩)∧Below w.heap.size w w':=by
 obtain ⟨Y,h,F,u,S1⟩:=box_b 68 [.int .i64 0,.int .u64 0,.string ⟨#[]⟩,.int .u64 0,.int .u64 0,.bool false,.slice none 0 0,.int .i64 0,.bool false,.int .i64 0,.int .u64 0,.int .i64 0,.int .i64 0,.int .u64 0,.int .u64 0,.string ⟨#[]⟩] w rfl
 have h:w.alloc (.cells #[.int .i64 0,.int .u64 0,.string ⟨#[]⟩,.int .u64 0,.int .u64 0,.bool false,.slice none 0 0,.int .i64 0,.bool false,.int .i64 0,.int .u64 0,.int .i64 0,.int .i64 0,.int .u64 0,.int .u64 0,.string ⟨#[]⟩] 68)=Y:=h
 have J:=Lh F.th
 have z:=Lh u
 clear F u
 go_enter Tryz.func8,Tryz.ntmps8
 go_upto_region 1 with (fail)
 clear h
 go_wp2_with (first
  | (refine store_b rt_gt rfl _ _ rfl w.heap.size rfl (Gt.cells ⟨th,dl,gStart,0,0,false,none,0,0,[],0,false,0,0,zg⟩) rfl J.out rfl (by kernel_rfl) ?_; intro w9 G I; have Q:=Lh G; have W:=Lh I; clear G I))
 exact bodyPost_ret (v:=(Gt.val ⟨th,dl,gStart,0,0,false,none,0,0,[],0,false,0,0,zg⟩)) (res_b rt_gt _ _ w.heap.size _ Tryz.results8 rfl Q.out) rfl ⟨rfl,z.out.trans (W.out.below z.out.size (fun k hk=>by omega))⟩
theorem gdone_get (q:Gt) (w:World):Calls Tryz.prog 10 #[q.val] w fun e w'=>e=.returned (.bool (q.st.toList == [100,111,110,101]))∧Below w.heap.size w w':=by
 obtain ⟨J,G,u,h,I⟩:=box_gt q w
 have z:=u.cell 2 _ rfl
 have F:=Lh h
 clear u h
 go_enter Tryz.func10,Tryz.ntmps10
 go_upto_region 1 with (fail)
 clear G
 go_wp2_with fail
 go_ret
 exact ⟨rfl,F.out⟩
theorem gstate_any (q:Gt) (w:World):Calls Tryz.prog 11 #[q.val] w fun e w'=>e=.returned (.string q.st)∧Below w.heap.size w w':=by
 obtain ⟨J,G,u,h,I⟩:=box_gt q w
 have z:=u.cell 2 _ rfl
 have F:=Lh h
 clear u h
 go_enter Tryz.func11,Tryz.ntmps11
 go_upto_region 1 with (fail)
 clear G
 go_wp2_with fail
 go_ret
 exact ⟨rfl,F.out⟩
theorem got_yes (q:Gt) (w:World) (Q:(q.st.toList == [100,111,110,101])=true) (hg:(q.got != 0)=true):Calls Tryz.prog 12 #[q.val] w fun e w'=>e=.returned (.tuple #[.int .u64 q.got,.int .i64 0])∧Below w.heap.size w w':=by
 obtain ⟨W1,W,J,G,S1⟩:=box_gt q w
 have u:=Lh J
 have h:=Lh G
 have I:Hid (∀ w,Calls Tryz.prog 10 #[q.val] w fun e w'=>e=.returned (.bool true)∧Below w.heap.size w w'):=Lh (fun w=>by have e:=gdone_get q w; rw [Q] at e; exact e)
 clear J G Q
 go_enter Tryz.func12,Tryz.ntmps12
 go_upto_region 1 with (fail)
 clear W
 go_wp2_with (first
  | (refine load_b rt_gt rfl _ rfl w.heap.size rfl q.cells u.out ?_))
 refine (I.out _).mono ?_
 rintro e Y ⟨rfl,F⟩
 have u:=Lh (u.out.later F)
 have h:Hid (Below w.heap.size w Y):=Lh (h.out.trans (F.mono h.out.size))
 clear F I
 have z:=u.out.cell 10 _ rfl
 go_wp2_with fail
 go_ret2
 exact ⟨rfl,h.out⟩
def gq (A:Option Addr) (c:Nat):Nat→Mg
 | 0=>⟨⟨0,5,gStart,0,0,false,none,0,0,[],0,false,0,0,zg⟩,sm0,[]⟩
 | k+1=>stepM (gq A c k) A 0 c
theorem gq0 (A:Option Addr) (c:Nat):gq A c 0=⟨⟨0,5,gStart,0,0,false,none,0,0,[],0,false,0,0,zg⟩,sm0,[]⟩:=rfl
theorem gq1 (A:Option Addr) (c:Nat):gq A c 1=⟨⟨0,5,gNear,0,0,false,none,0,0,[],0,false,0,0,zg⟩,sm0,[]⟩:=rfl
theorem gq2 (A:Option Addr) (c:Nat):gq A c 2=⟨⟨0,5,gSnap,0,0,false,none,0,0,[],0,false,0,0,zg⟩,{ sm0 with loc:=(Lc.takeR sm0.loc 0).1 },[]⟩:=by
 show stepM (gq A c 1) A 0 c=_
 rw [gq1]
 kernel_rfl
theorem gq3 (A:Option Addr) (c:Nat):gq A c 3=⟨⟨0,5,gGrow,0,0,false,A,0,c,[],0,false,0,0,zg⟩,{ sm0 with loc:=(Lc.takeR sm0.loc 0).1 },[]⟩:=by
 show stepM (gq A c 2) A 0 c=_
 rw [gq2]
 kernel_rfl
theorem gq4 (A:Option Addr) (c:Nat):gq A c 4=⟨⟨0,5,gOpen,0,0,false,A,0,c,[],0,false,0,0,zg⟩,{ sm0 with loc:=(Lc.takeR sm0.loc 0).1,live:=1 },[]⟩:=by
 show stepM (gq A c 3) A 0 c=_
 rw [gq3]
 kernel_rfl
theorem gq5 (A:Option Addr) (c:Nat):gq A c 5=⟨⟨0,5,gPublish,1,1,false,A,0,c,[],0,false,0,0,zg⟩,{ sm0 with loc:=(Lc.takeR sm0.loc 0).1,live:=1,n:=1,D:=[(1,⟨1,0,0,0⟩)] },[]⟩:=by
 show stepM (gq A c 4) A 0 c=_
 rw [gq4]
 kernel_rfl
theorem gq6 (A:Option Addr) (c:Nat):gq A c 6=⟨⟨0,5,gDone,1,1,false,A,0,c,[],0,false,0,1,zg⟩,{ sm0 with loc:=(Lc.takeR sm0.loc 0).1,live:=1,n:=1,D:=[(1,⟨1,0,0,0⟩)],S:=[1],L:=[(1,⟨0,0,false⟩)],T:=[(1,200)],ev:=[⟨0,0,1,0,1,0⟩] },[]⟩:=by
 show stepM (gq A c 5) A 0 c=_
 rw [gq5]
 kernel_rfl
def gsts:List ByteArray:=[gStart,gNear,gSnap,gGrow,gOpen,gPublish]
theorem gq_st (A:Option Addr) (c:Nat):∀ k,k < 6→gsts.take k ++ [(gq A c k).q.st] = gsts.take (k+1)
 | 0,_=>rfl
 | 1,_=>by rw [gq1]; rfl
 | 2,_=>by rw [gq2]; rfl
 | 3,_=>by rw [gq3]; rfl
 | 4,_=>by rw [gq4]; rfl
 | 5,_=>by rw [gq5]; rfl
 | k+6,h=>absurd h (by omega)
def Gstep (base:Nat) (col:Nat→Nat) (x:Wp) (w:World) (k:Nat) (e:Ending) (w':World):Prop:=
 ∃ A c,e=.returned (gq A c (k+1)).q.val ∧ ∃ col',Wv base col' w' x (gq A c (k+1)).s∧Fw col w w'∧El w col col'∧(2≤k→Lr base col' w' A 0 c [])
theorem gq_step {base:Nat} {x:Wp} (A:Option Addr) (c:Nat):∀ (k:Nat) (w:World) (u:Nat→Nat),k < 6→Wv base u w x (gq A c k).s→(3≤k→Lr base u w A 0 c [])→Calls Tryz.prog 9 #[(gq A c k).q.val,ptr x.pw] w (Gstep base u x w k)
 | 0,w,u,_,h,hL=>by
  rw [gq0] at h ⊢
  refine (gt_act w _ (startM (⟨⟨0,5,gStart,0,0,false,none,0,0,[],0,false,0,0,zg⟩,sm0,[]⟩:Mg)).q h 89 (by kernel_rfl) (show gStart.size≤maxLen by decide) (fun w=>by kernel_rfl) (fun W u h=>mstart_any W (⟨⟨0,5,gStart,0,0,false,none,0,0,[],0,false,0,0,zg⟩,sm0,[]⟩:Mg) h (by decide))).mono ?_
  rintro e w' ⟨rfl,col',G,z,F⟩
  refine ⟨A,c,?_,col',?_,z,F,fun I=>absurd I (by decide)⟩
  ·show Ending.returned _=Ending.returned (gq A c 1).q.val
   rw [gq1]; rfl
  ·show Wv base col' w' x (gq A c 1).s
   rw [gq1]; exact G
 | 1,w,u,_,h,hL=>by
  rw [gq1] at h ⊢
  refine (gt_act w _ (nearM (⟨⟨0,5,gNear,0,0,false,none,0,0,[],0,false,0,0,zg⟩,sm0,[]⟩:Mg)).q h 90 (by kernel_rfl) (show gNear.size≤maxLen by decide) (fun w=>by kernel_rfl) (fun W u h=>mnear_any W (⟨⟨0,5,gNear,0,0,false,none,0,0,[],0,false,0,0,zg⟩,sm0,[]⟩:Mg) h )).mono ?_
  rintro e w' ⟨rfl,col',G,z,F⟩
  refine ⟨A,c,?_,col',?_,z,F,fun I=>absurd I (by decide)⟩
  ·show Ending.returned _=Ending.returned (gq A c 2).q.val
   rw [gq2]; rfl
  ·show Wv base col' w' x (gq A c 2).s
   rw [gq2]; exact G
 | 2,w,u,_,h,hL=>by
  rw [gq2] at h ⊢
  refine (gt_actL w _ (fun A n c=>(snapM (⟨⟨0,5,gSnap,0,0,false,none,0,0,[],0,false,0,0,zg⟩,{ sm0 with loc:=(Lc.takeR sm0.loc 0).1 },[]⟩:Mg) A n c).q) h 91 (by kernel_rfl) (show gSnap.size≤maxLen by decide) (fun w=>by kernel_rfl) (fun W u h=>msnap_any W (⟨⟨0,5,gSnap,0,0,false,none,0,0,[],0,false,0,0,zg⟩,{ sm0 with loc:=(Lc.takeR sm0.loc 0).1 },[]⟩:Mg) h)).mono ?_
  rintro e w' ⟨A,n,c,rfl,col',G,z,F,J⟩
  obtain rfl:n=0:=J.rd.len.symm
  refine ⟨A,c,?_,col',?_,z,F,fun _=>J⟩
  ·show Ending.returned _=Ending.returned (gq A c 3).q.val
   rw [gq3]; rfl
  ·show Wv base col' w' x (gq A c 3).s
   rw [gq3]; exact G
 | 3,w,u,_,h,hL=>by
  rw [gq3] at h ⊢
  refine (gt_act w _ (growM (⟨⟨0,5,gGrow,0,0,false,A,0,c,[],0,false,0,0,zg⟩,{ sm0 with loc:=(Lc.takeR sm0.loc 0).1 },[]⟩:Mg)).q h 94 (by kernel_rfl) (show gGrow.size≤maxLen by decide) (fun w=>by kernel_rfl) (fun W u h=>mgrow_any W (⟨⟨0,5,gGrow,0,0,false,A,0,c,[],0,false,0,0,zg⟩,{ sm0 with loc:=(Lc.takeR sm0.loc 0).1 },[]⟩:Mg) h (show (0:Int)≤0 by decide) (show (4:Int)≤1000000 by decide))).mono ?_
  rintro e w' ⟨rfl,col',G,z,F⟩
  refine ⟨A,c,?_,col',?_,z,F,fun _=>(hL (by decide)).fw z F⟩
  ·show Ending.returned _=Ending.returned (gq A c 4).q.val
   rw [gq4]; rfl
  ·show Wv base col' w' x (gq A c 4).s
   rw [gq4]; exact G
 | 4,w,u,_,h,hL=>by
  rw [gq4] at h ⊢
  refine (gt_act w _ (openM (⟨⟨0,5,gOpen,0,0,false,A,0,c,[],0,false,0,0,zg⟩,{ sm0 with loc:=(Lc.takeR sm0.loc 0).1,live:=1 },[]⟩:Mg)).q h 95 (by kernel_rfl) (show gOpen.size≤maxLen by decide) (fun w=>by kernel_rfl) (fun W u h=>mopen_any W (⟨⟨0,5,gOpen,0,0,false,A,0,c,[],0,false,0,0,zg⟩,{ sm0 with loc:=(Lc.takeR sm0.loc 0).1,live:=1 },[]⟩:Mg) h (show (0:Nat) < 18446744073709551615 by decide) ⟨show (0:Int)≤0 by decide,show (0:Int)≤18446744073709551615 by decide⟩ (show (0:Nat) < 1000000 by decide))).mono ?_
  rintro e w' ⟨rfl,col',G,z,F⟩
  refine ⟨A,c,?_,col',?_,z,F,fun _=>(hL (by decide)).fw z F⟩
  ·show Ending.returned _=Ending.returned (gq A c 5).q.val
   rw [gq5]; rfl
  ·show Wv base col' w' x (gq A c 5).s
   rw [gq5]; exact G
 | 5,w,u,_,h,hL=>by
  rw [gq5] at h ⊢
  refine (gt_act w _ (publishM (⟨⟨0,5,gPublish,1,1,false,A,0,c,[],0,false,0,0,zg⟩,{ sm0 with loc:=(Lc.takeR sm0.loc 0).1,live:=1,n:=1,D:=[(1,⟨1,0,0,0⟩)] },[]⟩:Mg)).q h 97 (by kernel_rfl) (show gPublish.size≤maxLen by decide) (fun w=>by kernel_rfl) (fun W u h=>mpublish_any W (⟨⟨0,5,gPublish,1,1,false,A,0,c,[],0,false,0,0,zg⟩,{ sm0 with loc:=(Lc.takeR sm0.loc 0).1,live:=1,n:=1,D:=[(1,⟨1,0,0,0⟩)] },[]⟩:Mg) h ⟨rfl,show (0:Nat)≤1000 by decide,show (0:Nat)≤1000 by decide,show (0:Nat)≤1000 by decide,⟨show (0:Int)≤200 by decide,show (200:Int)≤18446744073709551615 by decide⟩,⟨show (0:Int)≤0 by decide,show (0:Int)≤18446744073709551615 by decide⟩⟩ ⟨show (0:Int)≤1 by decide,show (1:Int)≤18446744073709551615 by decide⟩ (show (0:Nat)≤1000000 by decide))).mono ?_
  rintro e w' ⟨rfl,col',G,z,F⟩
  refine ⟨A,c,?_,col',?_,z,F,fun _=>(hL (by decide)).fw z F⟩
  ·show Ending.returned _=Ending.returned (gq A c 6).q.val
   rw [gq6]; rfl
  ·show Wv base col' w' x (gq A c 6).s
   rw [gq6]; exact G
 | k+6,_,_,h,_,_=>absurd h (by omega)
theorem awake18_any (W:World) (hT:Tb.Tabs W):Calls Tryz.prog 5 #[] W fun e w'=>e=.returned (.bool true)∧Below W.heap.size W w':=by
 obtain ⟨i0,hi,aO,aP,aQ⟩:=info_parts info_str
 have HT:=Lh hT
 clear hT
 go_enter Tryz.func5,Tryz.ntmps5
 go_wp2_with fail
 refine (Cn.default_any W).mono ?_
 rintro e w1 ⟨rfl,b1⟩
 have a0:=Lh b1
 clear b1
 go_wp2_with fail
 refine (new_ok cD cD_ok cD_zero none none 0 0 w1.heap.size 0 0 w1.heap.size [] [] w1 Rd.nil_ Rd.nil_ (Nat.le_refl _) (Nat.le_refl _) (by omega) (by omega)).mono ?_
 rintro e w2 ⟨x,aX,rfl,h2,b2⟩
 obtain ⟨F,h2⟩:=h2.vv
 have ad:Hid (Wv w1.heap.size F w2 x sm0):=Lh h2
 have a6:Hid (Below W.heap.size W w2):=Lh (a0.out.trans (b2.mono a0.out.size))
 have a9:Hid (W.heap.size≤w1.heap.size):=Lh a0.out.size
 obtain ⟨base,aw⟩:∃ base,w1.heap.size=base:=⟨_,rfl⟩
 rw [aw] at ad a9
 clear h2 b2 a0 aw
 go_upto_region 4 with (fail)
 go_wp2_with fail
 refine (gbegin_any 0 5 w2).mono ?_
 rintro e w3 ⟨rfl,b3⟩
 have an:=Lh (ad.out.later b3)
 have a7:Hid (Below W.heap.size W w3):=Lh (a6.out.trans (b3.mono a6.out.size))
 clear b3 ad a6
 go_upto_region 5 with (first
  | (refine store_b rt_gt rfl _ _ rfl w3.heap.size rfl (gq none 0 0).q.cells rfl (there_alloc 68 [.int .i64 0,.int .u64 0,.string ⟨#[]⟩,.int .u64 0,.int .u64 0,.bool false,.slice none 0 0,.int .i64 0,.bool false,.int .i64 0,.int .u64 0,.int .i64 0,.int .i64 0,.int .u64 0,.int .u64 0,.string ⟨#[]⟩] w3) rfl (by kernel_rfl) ?_; intro w4 aD aG; have a3:=Lh aD; have a8:Hid (Below w3.heap.size w3 w4):=Lh (((Below.refl _ w3).alloc (Nat.le_refl _) _).trans (aG.below (by simp) (fun k hk=>by omega))); clear aD aG))
 have aB:=a7.out.size
 obtain ⟨I,ax⟩:∃ I,w3.heap.size=I:=⟨_,rfl⟩
 have ah:Hid (W.heap.size≤I):=Lh (by omega)
 obtain ⟨aq,h4,l4,c4⟩:=an.out.var8 a8.out
 rw [ax] at a3 c4 ⊢
 have ag:Hid (Aw W base aq x 15 I w4 sm0 (gq none 0 0).q.cells none 0 0 []):=Lh ⟨h4,a3.out,c4 I (Nat.le_refl _) a3.out.lt,World.ownsRow_nil _ _ _ _,fun g hg=>by (cases hg),a7.out.trans (a8.out.mono aB),ah.out,a9.out⟩
 clear h4 l4 c4 a3 a8 a7 an aB ax ah a9
 go_upto_region 6 with (fail)
 go_loopw [4] (fun l wr=>∃ (k c c2:Nat) (A A2:Option Addr) (F:Nat→Nat),k≤6∧l=.slice A2 k c2∧Hid (Aw W base F x 15 I wr (gq A c k).s (gq A c k).q.cells A2 k c2 (gsts.take k))∧Hid (3≤k→Lr base F wr A 0 c [])) (fun l _=>6 - lenOf l)
 case atStart=>exact ⟨0,0,0,none,none,aq,Nat.zero_le _,rfl,ag,Lh (fun h=>absurd h (by decide))⟩
 case round=>
  clear ag
  obtain ⟨k,c,c2,A,A2,F,hk,rfl,u,Y⟩:=hrel
  by_cases hlt:k < 6
  ·have q1:decide ((k:Int) < 6)=true:=decide_eq_true (by omega)
   have a2:Hid ((gsts.take k).map Value.string ++ [(gq A c k).q.st].map Value.string=(gsts.take (k+1)).map Value.string):=Lh (by rw [← List.map_append,gq_st A c k hlt])
   have ac:Hid (gsts.take k ++ [(gq A c k).q.st] = gsts.take (k+1)):=Lh (gq_st A c k hlt)
   have al:Hid (∀ (w:World) (F:Nat→Nat),Wv base F w x (gq A c k).s→(3≤k→Lr base F w A 0 c [])→Calls Tryz.prog 9 #[(gq A c k).q.val,ptr x.pw] w (Gstep base F x w k)):=Lh (fun w F=>gq_step A c k w F hlt)
   obtain ⟨m,hm⟩:∃ m,gq A c k=m:=⟨_,rfl⟩
   rw [hm] at u a2 ac al
   clear hm
   go_wp2_with (first
    | (refine load_b rt_gt rfl _ rfl I rfl m.q.cells u.out.vb ?_))
   refine (gstate_any m.q wr).mono ?_
   rintro e z ⟨rfl,b5⟩
   have u:=Lh (u.out.later b5)
   have Y:Hid (3≤k→Lr base F z A 0 c []):=Lh (fun h=>(Y.out h).later b5)
   clear b5
   obtain ⟨J,aC⟩:∃ J,m.q.st=J:=⟨_,rfl⟩
   rw [aC] at a2 ac ⊢
   clear aC
   have ay:Rd Value.string (z.alloc (.cells #[.string J] 9)) (z.heap.size+1) (some ⟨z.heap.size,0,none⟩) 1 1 [J]:=rd_one z J 9
   have ak:=Lh ay
   have Q:Below z.heap.size z (z.alloc (.cells #[.string J] 9)):=(Below.refl _ z).alloc (Nat.le_refl _) _
   obtain ⟨w6,aF⟩:∃ w6,z.alloc (.cells #[.string J] 9)=w6:=⟨_,rfl⟩
   rw [aF] at Q ak
   have u:=Lh (u.out.later Q)
   have Y:Hid (3≤k→Lr base F w6 A 0 c []):=Lh (fun h=>(Y.out h).later Q)
   have aN:=u.out.bl.size
   clear ay Q
   go_wp2_with (first
    | (at_builtin
       refine append_rd _ rfl _ _ 97 rfl W.heap.size 9 i0 (.string ⟨#[]⟩) 16 Tryz.underlying97 hi aO aP aQ rfl (.slice A2 k c2) k _ rfl u.out.own _ _ 1 1 [J] rfl ak.out (fun _=>rfl) (k+1) rfl _ a2.out (by unfold maxLen; omega) (by omega) aN ?_
       intro A3 c3 G az hg av
       have aA:G.ownsRow W.heap.size 9 1 (.slice A3 (k+1) c3) (k+1) (((gsts.take k) ++ [J]).map Value.string):=by rw [List.map_append]; exact a2.out.symm ▸ az
       obtain ⟨aM,au,l7,aH⟩:=u.out.grow J aA hg av
       have u:=Lh au
       have Y:Hid (3≤k→Lr base aM G A 0 c []):=Lh (fun h=>aH _ _ _ _ (Y.out h))
       clear az hg av aA au l7 aH)
    | (refine load_b rt_gt rfl _ rfl I rfl m.q.cells u.out.vb ?_))
   clear aF
   rw [ac.out] at u
   refine (al.out _ _ u.out.wv Y.out).mono ?_
   rintro e w8 ⟨A',c',rfl,col8,h8,z8,l8,ar⟩
   have u:=Lh (u.out.call h8 z8 l8)
   have aK:=Lh ar
   clear h8 z8 l8 ar
   go_wp2_with (first
    | (refine store_b rt_gt rfl _ _ rfl I rfl (gq A' c' (k+1)).q.cells rfl u.out.vb.th rfl (by kernel_rfl) ?_; intro w9 aE af; have aI:=Lh (u.out.put aE af); have aL:Hid (3≤k+1→Lr base col8 w9 A' 0 c' []):=Lh (fun h=>(aK.out (by omega)).fz af (fun g e=>by rw [e,u.out.cb]; decide)); clear aE af))
   go_roundw
   case rel=>exact ⟨_,_,_,_,_,_,_,_,_,_,_,_,⟨k+1,c',c3,A',A3,col8,by omega,rfl,aI,aL⟩,rfl⟩
   case measure=>
    show 6 - lenOf (.slice A3 (k+1) c3) < 6 - lenOf (.slice A2 k c2)
    simp only [lenOf_slice]
    omega
  ·obtain rfl:k=6:=by omega
   have q1:decide (((6:Nat):Int) < 6)=false:=rfl
   rw [gq6] at u
   obtain ⟨q6,a4⟩:∃ q6:Gt,q6=⟨0,5,gDone,1,1,false,A,0,c,[],0,false,0,1,zg⟩:=⟨_,rfl⟩
   have u:Hid (Aw W base F x 15 I wr { sm0 with loc:=(Lc.takeR sm0.loc 0).1,live:=1,n:=1,D:=[(1,⟨1,0,0,0⟩)],S:=[1],L:=[(1,⟨0,0,false⟩)],T:=[(1,200)],ev:=[⟨0,0,1,0,1,0⟩] } q6.cells A2 6 c2 gsts):=Lh (by rw [a4]; exact u.out)
   have ai:Hid (∀ w,Calls Tryz.prog 12 #[q6.val] w fun e w'=>e=.returned (.tuple #[.int .u64 1,.int .i64 0])∧Below w.heap.size w w'):=Lh (fun w=>by rw [a4]; exact got_yes _ w (by kernel_rfl) (by kernel_rfl))
   have aJ:Hid (∀ w,Calls Tryz.prog 10 #[q6.val] w fun e w'=>e=.returned (.bool true)∧Below w.heap.size w w'):=Lh (fun w=>by have e:=gdone_get q6 w; rw [show (q6.st.toList == [100,111,110,101])=true from by rw [a4]; kernel_rfl] at e; exact e)
   clear a4 Y hk
   go_wp2_with (first
    | (refine load_b rt_gt rfl _ rfl I rfl q6.cells u.out.vb ?_))
   refine (ai.out _).mono ?_
   rintro e z ⟨rfl,b5⟩
   have u:=Lh (u.out.later b5)
   clear b5 ai
   have c11:=u.out.wv.cells.c11
   have aj:Hid (Calls Tryz.prog 14 #[ptr x.bk.p,.int .u64 1] z fun e w'=>e=.returned (.tuple #[.int .i64 0,.bool true])∧Below z.heap.size z w'):=Lh (Le.holder_any z x.bk _ _ _ _ 1 u.out.wv.book ⟨by decide,by decide⟩ 0 0 false true rfl rfl)
   go_wp2_with fail
   refine aj.out.mono ?_
   rintro e w6 ⟨rfl,b6⟩
   have u:=Lh (u.out.later b6)
   clear b6 aj c11
   go_wp2_with fail
   refine (Awake17_any w6 (HT.out.below u.out.bl)).mono ?_
   rintro e G ⟨rfl,b7⟩
   have u:=Lh (u.out.later b7)
   clear b7
   have a1:Hid (Rd Value.string G G.heap.size A2 6 c2 gsts):=Lh (Rd.own_rd u.out.own)
   have Q:Below G.heap.size G (G.alloc (.cells (gsts.map Value.string).toArray 9)):=(Below.refl _ G).alloc (Nat.le_refl _) _
   have aa:=Lh (rd_lit (enc:=Value.string) G gsts 6 rfl (by decide) 9)
   obtain ⟨w8,a5⟩:∃ w8,G.alloc (.cells (gsts.map Value.string).toArray 9)=w8:=⟨_,rfl⟩
   rw [a5] at Q aa
   have a5:G.alloc (.cells #[.string ⟨#[115,116,97,114,116]⟩,.string ⟨#[110,101,97,114]⟩,.string ⟨#[115,110,97,112]⟩,.string ⟨#[103,114,111,119]⟩,.string ⟨#[111,112,101,110]⟩,.string ⟨#[112,117,98,108,105,115,104]⟩] 9)=w8:=a5
   have u:=Lh (u.out.later Q)
   have a1:=Lh (a1.out.later Q)
   clear Q
   go_wp2_with fail
   refine (strequal_same _ _ 6 _ _ gsts _ _ w8 a1.out aa.out).mono ?_
   rintro e w9 ⟨rfl,n9,rfl⟩
   have u:=Lh (u.out.later (Rw.below_drewN (Below.refl _ w8) n9))
   clear a1 aa a5
   obtain ⟨w9,ae⟩:∃ w9,w8.drewN n9=w9:=⟨_,rfl⟩
   rw [ae] at u
   rw [ae]
   clear ae
   have z0:=u.out.vb.cell 0 _ rfl
   have z1:=u.out.vb.cell 1 _ rfl
   have z2:=u.out.vb.cell 2 _ rfl
   have z3:=u.out.vb.cell 3 _ rfl
   have z4:=u.out.vb.cell 4 _ rfl
   have z5:=u.out.vb.cell 5 _ rfl
   have z6:=u.out.vb.cell 6 _ rfl
   have z7:=u.out.vb.cell 7 _ rfl
   have z8:=u.out.vb.cell 8 _ rfl
   have z9:=u.out.vb.cell 9 _ rfl
   have aR:=u.out.vb.cell 10 _ rfl
   have aS:=u.out.vb.cell 11 _ rfl
   have aT:=u.out.vb.cell 12 _ rfl
   have aU:=u.out.vb.cell 13 _ rfl
   have aV:=u.out.vb.cell 14 _ rfl
   have aW:=u.out.vb.cell 15 _ rfl
   go_wp2_with fail
   refine (aJ.out _).mono ?_
   rintro e aY ⟨rfl,ao⟩
   have u:=Lh (u.out.later ao)
   clear ao z0 z1 z2 z3 z4 z5 z6 z7 z8 z9 aR aS aT aU aV aW
   go_wp2_with fail
   go_ret
   exact ⟨rfl,u.out.bl⟩
end Go.Proofs.YtoiklelghfckgaaGreatDoor.Wo
