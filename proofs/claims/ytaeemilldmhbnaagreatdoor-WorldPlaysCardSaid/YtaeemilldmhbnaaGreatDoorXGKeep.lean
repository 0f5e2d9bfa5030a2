/- A part of the claim: the texts WordRef Keep SnapRef CellSwapsWalk. -/
import Derived.Test.YtaeemilldmhbnaaGreatDoorXBase1
set_option maxRecDepth 100000
set_option maxHeartbeats 8000000
set_option linter.unusedVariables false
namespace Go.Proofs.YtaeemilldmhbnaaGreatDoor.Wd
open Go.ChangeShapes Go.WideShapes Go.ChangeAt Go.RowKit
theorem rof_math (s v:Int) (h:0≤v):4 * (v % 4611686018427387904)+s % 4=wOf s v:=by unfold wOf; omega
theorem tmod4 (s:Int):(0≤s→s.tmod 4=s % 4)∧(s < 0→s.tmod 4 = -((-s) % 4)):=by
 constructor
 ·intro h; exact Int.tmod_eq_emod_of_nonneg h
 ·intro h
  have:s = -(-s):=by omega
  rw [this,Int.neg_tmod,Int.tmod_eq_emod_of_nonneg (by omega)]; omega
theorem tmod4_neg (s:Int) (h:s.tmod 4 < 0):s.tmod 4+4=s % 4:=by
 have:=tmod4 s; omega
theorem tmod4_pos (s:Int) (h:¬ s.tmod 4 < 0):s.tmod 4=s % 4:=by
 have:=tmod4 s; omega
theorem rof_any (s v:Int) (w:World) (F:0≤v) (J:v≤18446744073709551615) (N:-9223372036854775808≤s) (W:s≤9223372036854775807) :
  Calls Tryz.prog 123 #[.int .i64 s,.int .u64 v] w fun e w'=>e=.returned (.int .u64 (wOf s v))∧w=w':=by
 have I:=tmod4 s
 have z:=tmod4_pos s
 have hn:=tmod4_neg s
 have Y:-4 < s.tmod 4∧s.tmod 4 < 4:=by omega
 clear I
 by_cases hs:s.tmod 4 < 0
 ·have h:=hn hs
  have u:=Lh h
  have G:0≤s.tmod 4+4∧s.tmod 4+4 < 4:=by omega
  clear z hn h
  go_enter Tryz.func123,Tryz.ntmps123
  go_wp2
  go_ret
  exact ⟨ret_int (by rw [u.out]; exact rof_math s v F),rfl⟩
 ·have h:=z hs
  have u:=Lh h
  have G:0≤s.tmod 4:=by omega
  clear z hn h
  go_enter Tryz.func123,Tryz.ntmps123
  go_wp2
  go_ret
  exact ⟨ret_int (by rw [u.out]; exact rof_math s v F),rfl⟩
theorem rmay_any (f t:Int) (w:World) :
  Calls Tryz.prog 230 #[.int .i64 f,.int .i64 t] w fun e w'=>e=.returned (.bool (wMay f t))∧w=w':=by
 rcases five f with rfl | rfl | rfl | rfl | ⟨f0,f1,f2,f3⟩ <;> rcases five t with rfl | rfl | rfl | rfl | ⟨h,u,z,F⟩
 all_goals
  go_enter Tryz.func230,Tryz.ntmps230
  go_wp2
  go_ret
  exact ⟨by simp [wMay, *],rfl⟩
theorem rto_any (r t:Int) (w:World) (z:0≤r) (F:r≤18446744073709551615) (h:-9223372036854775808≤t) (u:t≤9223372036854775807) :
  Calls Tryz.prog 215 #[.int .u64 r,.int .i64 t] w fun e w'=>e=.returned (.tuple #[.int .u64 (wTo r t),.bool (wMay (r % 4) t)])∧w=w':=by
 have hv:0≤r / 4∧r / 4+1≤18446744073709551615:=by omega
 cases hm:wMay (r % 4) t
 ·have H:=Lh hm
  go_enter Tryz.func215,Tryz.ntmps215
  go_wp2_with fail
  refine (rmay_any _ _ _).mono ?_
  rintro e w' ⟨rfl,rfl⟩
  rw [hm]
  go_wp2_with fail
  go_ret2
  exact ⟨by rw [wTo_no H.out]; rfl,rfl⟩
 ·have H:=Lh hm
  go_enter Tryz.func215,Tryz.ntmps215
  go_wp2_with fail
  refine (rmay_any _ _ _).mono ?_
  rintro e w' ⟨rfl,rfl⟩
  rw [hm]
  go_wp2_with fail
  refine (rof_any _ _ _ (by omega) (by omega) h u).mono ?_
  rintro e w' ⟨rfl,rfl⟩
  go_wp2_with fail
  go_ret2
  exact ⟨by rw [wTo_yes H.out]; rfl,rfl⟩
theorem six (x:Int):x=0∨x=1∨x=2∨x=3∨x < 0∨(0≤x∧3 < x):=by omega
end Go.Proofs.YtaeemilldmhbnaaGreatDoor.Wd
namespace Go.Proofs.YtaeemilldmhbnaaGreatDoor.Rw
open Go.ChangeShapes Go.WideShapes Go.ChangeAt Go.RowKit
def Kr (K:Nat→Prop) (A:Option Addr):Prop:=∀ a,A=some a→K a.block
theorem Kr.nil_ {K:Nat→Prop} : Kr K none:=fun _ e=>by cases e
theorem Kr.own {K:Nat→Prop} {w:World} {base:Nat} {e:TypeId} {z n c k:Nat} {A:Option Addr} {xs:List Value} (h:w.ownsRow base e z (.slice A n c) k xs) (u:∀ g,base≤g→K g):Kr K A:=by
 intro a ha
 subst ha
 exact u _ (h.lt a.block rfl).1
abbrev Kn (K:Nat→Prop) (n:Nat) (A:Option Addr):Prop:=0 < n→Kr K A
theorem Kn.nil_ {K:Nat→Prop} {n:Nat} : Kn K n none:=fun _=>Kr.nil_
theorem Kn.own {K:Nat→Prop} {w:World} {base:Nat} {e:TypeId} {z n c k m:Nat} {A:Option Addr} {xs:List Value} (h:w.ownsRow base e z (.slice A n c) k xs) (u:∀ g,base≤g→K g):Kn K m A:=fun _=>Kr.own h u
end Go.Proofs.YtaeemilldmhbnaaGreatDoor.Rw
namespace Go.Proofs.YtaeemilldmhbnaaGreatDoor.Sn
open Go.ChangeShapes Go.WideShapes Go.ChangeAt Go.RowKit Rw Sl
theorem rindex_any (A:Option Addr) (n c:Nat) (xs:List Int) (x:Int) (B:Nat) (w:World) (h:Rd (Value.int .u64) w B A n c xs) :
  Calls Tryz.prog 211 #[.slice A n c,.int .u64 x] w fun e w'=>e=.returned (.int .i64 (sIdx xs x))∧w=w':=by
 have hn:n≤9223372036854775807:=by have:=h.cap; have:=h.top; omega
 have z:=Lh h
 clear h
 go_enter Tryz.func211,Tryz.ntmps211
 go_wp2
 go_loop [5,9] (fun _ i=>∃ k:Nat,k≤n∧i=.int .i64 k∧x ∉ xs.take k) (fun _ i=>n - (intOf i).toNat)
 case atStart=>exact ⟨0,Nat.zero_le _,rfl,by simp⟩
 case round=>
  obtain ⟨k,hk,rfl,G⟩:=hrel
  have u:=Lh G
  clear G
  by_cases hlt:k < n
  ·obtain ⟨b,o,y,rfl,N,I,W⟩:=z.out.get hlt
   have F:=Lh I
   clear I
   by_cases hxy:y=x
   ·subst hxy
    go_wp2
    go_ret
    exact ⟨by rw [sIdx_hit xs y k F.out u.out]; rfl,rfl⟩
   ·have hq:(y == x)=false:=by simpa using hxy
    have J:=Lh hxy
    clear hxy
    go_wp2
    go_round
    case rel=>exact ⟨k+1,by omega,by go_num,not_mem_snoc F.out u.out (fun e=>J.out e.symm)⟩
    case measure=>simp [intOf]; omega
  ·have Y:k=n:=by omega
   go_wp2
   go_ret
   exact ⟨by rw [sIdx_miss xs x (by have:=u.out; rwa [List.take_of_length_le (by have:=z.out.len; omega)] at this)]; rfl,rfl⟩
theorem rwithK_any {K:Nat→Prop} (A:Option Addr) (n c:Nat) (xs:List Int) (x:Int) (w:World) (h:Rd (Value.int .u64) w w.heap.size A n c xs) (hl:n * 8+8≤140737488355328) (hk:Kn K n A) (I:∀ g,w.heap.size≤g→K g) :
  Calls Tryz.prog 178 #[.slice A n c,.int .u64 x] w fun e w'=>∃ A' F G,e=.returned (.slice A' F G)∧Rd (Value.int .u64) w' w'.heap.size A' F G (sWith xs x)∧Kn K F A'∧Below w.heap.size w w':=by
 obtain ⟨i0,hi,Y,a0,a1⟩:=info_parts info_u64
 have z:=Lh h
 have a3:=Lh hk
 have a2:=Lh I
 clear h hk I
 by_cases hm:x∈xs
 ·have a5:0≤sIdx xs x:=by have:=sIdx_neg xs x; have:=mt this.1 (by simpa using hm); omega
  have u:sWith xs x=xs:=by simp [sWith,hm]
  rw [u]
  clear hm u
  go_enter Tryz.func178,Tryz.ntmps178
  go_wp2_with fail
  refine (rindex_any A n c xs x _ _ z.out).mono ?_
  rintro e w1 ⟨rfl,rfl⟩
  go_wp2_with fail
  go_ret
  exact ⟨A,n,c,rfl,z.out,a3.out,Below.refl _ _⟩
 ·have a5:sIdx xs x < 0:=(sIdx_neg xs x).2 hm
  have u:sWith xs x=xs ++ [x]:=by simp [sWith,hm]
  rw [u]
  clear hm u
  go_enter Tryz.func178,Tryz.ntmps178
  go_wp2_with fail
  refine (rindex_any A n c xs x _ _ z.out).mono ?_
  rintro e w1 ⟨rfl,rfl⟩
  go_wp2_with (first
   | (at_builtin; refine append_rd _ rfl (.tmp 11) (.tmp 12) 38 rfl w.heap.size 22 i0 (.int .u64 0) 8 Tryz.underlying38 hi Y a0 a1 rfl (.slice none 0 0) 0 [] rfl (World.ownsRow_nil _ _ _ _) _ A n c xs rfl z.out one_u64 n (Nat.zero_add _) (xs.map (Value.int .u64)) rfl (by unfold maxLen; omega) (by omega) (Nat.le_refl _) ?_; intro v2 a9 w2 N J a7; have a6:=J.size)
   | (at_builtin; refine append_rd _ rfl (.tmp 14) (.tmp 16) 38 rfl w.heap.size 22 i0 (.int .u64 0) 8 Tryz.underlying38 hi Y a0 a1 rfl _ n _ rfl (N.alloc _) _ _ 1 1 [x] rfl (rd_one (enc:=Value.int .u64) w2 x _) one_u64 (n+1) rfl ((xs ++ [x]).map (Value.int .u64)) List.map_append.symm (by unfold maxLen; omega) (by omega) (by simp; omega) ?_; intro v3 aa w3 W a4 a8))
  go_ret
  refine ⟨_,_,_,rfl,Rd.own_rd W,Kn.own W a2.out,(((Below.refl _ _).grown J (Nat.le_refl _) (fun k hk=>by cases hk)).alloc a6 _).grown a4 (by simp; omega) (fun k hk=>(N.lt k hk).1)⟩
end Go.Proofs.YtaeemilldmhbnaaGreatDoor.Sn
namespace Go.Proofs.YtaeemilldmhbnaaGreatDoor.Wd
open Go.ChangeShapes Go.WideShapes Go.ChangeAt Go.RowKit
theorem rswap_any (v o t:Int) (w:World) (z:0≤o) (F:o≤18446744073709551615) (G:-9223372036854775808≤t) (I:t≤9223372036854775807) :
  Calls Tryz.prog 186 #[.int .u64 v,.int .u64 o,.int .i64 t] w fun e w'=>e=.returned (.tuple #[.int .u64 (wSwap v o t),.bool (wSwapOk v o t)])∧w=w':=by
 cases hm:wMay (o % 4) t
 ·have H:=Lh hm
  have h:=Lh (show wSwap v o t=v by simp [wSwap,hm])
  have u:=Lh (show wSwapOk v o t=false by simp [wSwapOk,hm])
  clear hm
  rw [h.out,u.out]
  by_cases hv:v=o
  ·have J:(v != o)=false:=by simpa using hv
   clear hv
   go_enter Tryz.func186,Tryz.ntmps186
   go_wp2_with fail
   refine (rto_any _ _ _ z F G I).mono ?_
   rintro e w' ⟨rfl,rfl⟩
   rw [H.out]
   go_wp2_with fail
   go_ret2
   exact ⟨rfl,rfl⟩
  ·have J:(v != o)=true:=by simpa using hv
   clear hv
   go_enter Tryz.func186,Tryz.ntmps186
   go_wp2_with fail
   refine (rto_any _ _ _ z F G I).mono ?_
   rintro e w' ⟨rfl,rfl⟩
   go_wp2_with fail
   go_ret2
   exact ⟨rfl,rfl⟩
 ·have H:=Lh hm
  by_cases hv:v=o
  ·have J:(v != o)=false:=by simpa using hv
   have h:=Lh (show wSwap v o t=wTo o t by simp [wSwap,hm,hv])
   have u:=Lh (show wSwapOk v o t=true by simp [wSwapOk,hm,hv])
   clear hm hv
   rw [h.out,u.out]
   go_enter Tryz.func186,Tryz.ntmps186
   go_wp2_with fail
   refine (rto_any _ _ _ z F G I).mono ?_
   rintro e w' ⟨rfl,rfl⟩
   rw [H.out]
   go_wp2_with fail
   go_ret2
   exact ⟨rfl,rfl⟩
  ·have J:(v != o)=true:=by simpa using hv
   have h:=Lh (show wSwap v o t=v by simp [wSwap,hv])
   have u:=Lh (show wSwapOk v o t=false by simp [wSwapOk,hv])
   clear hv hm
   rw [h.out,u.out]
   go_enter Tryz.func186,Tryz.ntmps186
   go_wp2_with fail
   refine (rto_any _ _ _ z F G I).mono ?_
   rintro e w' ⟨rfl,rfl⟩
   go_wp2_with fail
   go_ret2
   exact ⟨rfl,rfl⟩
end Go.Proofs.YtaeemilldmhbnaaGreatDoor.Wd
