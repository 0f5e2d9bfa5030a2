/- A part of the claim: the texts WordRef Keep SnapRef. -/
import Derived.Test.YtoiklelghfckgaaGreatDoorZBase1
set_option maxRecDepth 100000
set_option maxHeartbeats 8000000
set_option linter.unusedVariables false
namespace Go.Proofs.YtoiklelghfckgaaGreatDoor.Wd
open Go.ChangeShapes Go.WideShapes Go.ChangeAt Go.RowKit
theorem rof_math (s v:Int) (h:0≤v):4 * (v % 4611686018427387904)+s % 4=wOf s v:=by unfold wOf; omega
theorem tmod4 (s:Int):(0≤s→s.tmod 4=s % 4)∧(s < 0→s.tmod 4 = -((-s) % 4)):=by
 constructor
 ·intro h; exact Int.tmod_eq_emod_of_nonneg h
 ·intro h
  have:s = -(-s):=by omega
  rw [this,Int.neg_tmod,Int.tmod_eq_emod_of_nonneg (by omega)]; omega
theorem tmod4_neg (s:Int) (h:s.tmod 4 < 0):s.tmod 4+4=s % 4:=by
 have:=tmod4 s; omega
theorem tmod4_pos (s:Int) (h:¬ s.tmod 4 < 0):s.tmod 4=s % 4:=by
 have:=tmod4 s; omega
theorem rof_any (s v:Int) (w:World) (F:0≤v) (J:v≤18446744073709551615) (Q:-9223372036854775808≤s) (W:s≤9223372036854775807) :
  Calls Tryz.prog 133 #[.int .i64 s,.int .u64 v] w fun e w'=>e=.returned (.int .u64 (wOf s v))∧w=w':=by
 have I:=tmod4 s
 have z:=tmod4_pos s
 have hn:=tmod4_neg s
 have Y:-4 < s.tmod 4∧s.tmod 4 < 4:=by omega
 clear I
 by_cases hs:s.tmod 4 < 0
 ·have h:=hn hs
  have u:=Lh h
  have G:0≤s.tmod 4+4∧s.tmod 4+4 < 4:=by omega
  clear z hn h
  go_enter Tryz.func133,Tryz.ntmps133
  go_wp2
  go_ret
  exact ⟨ret_int (by rw [u.out]; exact rof_math s v F),rfl⟩
 ·have h:=z hs
  have u:=Lh h
  have G:0≤s.tmod 4:=by omega
  clear z hn h
  go_enter Tryz.func133,Tryz.ntmps133
  go_wp2
  go_ret
  exact ⟨ret_int (by rw [u.out]; exact rof_math s v F),rfl⟩
theorem six (x:Int):x=0∨x=1∨x=2∨x=3∨x < 0∨(0≤x∧3 < x):=by omega
end Go.Proofs.YtoiklelghfckgaaGreatDoor.Wd
namespace Go.Proofs.YtoiklelghfckgaaGreatDoor.Rw
open Go.ChangeShapes Go.WideShapes Go.ChangeAt Go.RowKit
def Kr (K:Nat→Prop) (A:Option Addr):Prop:=∀ a,A=some a→K a.block
theorem Kr.nil_ {K:Nat→Prop} : Kr K none:=fun _ e=>by cases e
theorem Kr.mono {K L:Nat→Prop} {A:Option Addr} (h:Kr K A) (hk:∀ g,K g→L g):Kr L A:=fun a e=>hk _ (h a e)
theorem Kr.at_ {K:Nat→Prop} {b o:Nat} (h:Kr K (some ⟨b,o,none⟩)):K b:=h _ rfl
theorem Kr.own {K:Nat→Prop} {w:World} {base:Nat} {e:TypeId} {z n c k:Nat} {A:Option Addr} {xs:List Value} (h:w.ownsRow base e z (.slice A n c) k xs) (u:∀ g,base≤g→K g):Kr K A:=by
 intro a ha
 subst ha
 exact u _ (h.lt a.block rfl).1
abbrev Kn (K:Nat→Prop) (n:Nat) (A:Option Addr):Prop:=0 < n→Kr K A
theorem Kn.nil_ {K:Nat→Prop} {n:Nat} : Kn K n none:=fun _=>Kr.nil_
theorem Kn.zero {K:Nat→Prop} {A:Option Addr} : Kn K 0 A:=fun h=>absurd h (by omega)
theorem Kn.own {K:Nat→Prop} {w:World} {base:Nat} {e:TypeId} {z n c k m:Nat} {A:Option Addr} {xs:List Value} (h:w.ownsRow base e z (.slice A n c) k xs) (u:∀ g,base≤g→K g):Kn K m A:=fun _=>Kr.own h u
end Go.Proofs.YtoiklelghfckgaaGreatDoor.Rw
namespace Go.Proofs.YtoiklelghfckgaaGreatDoor.Sn
open Go.ChangeShapes Go.WideShapes Go.ChangeAt Go.RowKit Rw Sl
theorem rindex_any (A:Option Addr) (n c:Nat) (xs:List Int) (x:Int) (B:Nat) (w:World) (h:Rd (Value.int .u64) w B A n c xs) :
  Calls Tryz.prog 206 #[.slice A n c,.int .u64 x] w fun e w'=>e=.returned (.int .i64 (sIdx xs x))∧w=w':=by
 have hn:n≤9223372036854775807:=by have:=h.cap; have:=h.top; omega
 have z:=Lh h
 clear h
 go_enter Tryz.func206,Tryz.ntmps206
 go_wp2
 go_loop [5,9] (fun _ i=>∃ k:Nat,k≤n∧i=.int .i64 k∧x ∉ xs.take k) (fun _ i=>n - (intOf i).toNat)
 case atStart=>exact ⟨0,Nat.zero_le _,rfl,by simp⟩
 case round=>
  obtain ⟨k,hk,rfl,G⟩:=hrel
  have u:=Lh G
  clear G
  by_cases hlt:k < n
  ·obtain ⟨b,o,y,rfl,Q,I,W⟩:=z.out.get hlt
   have F:=Lh I
   clear I
   by_cases hxy:y=x
   ·subst hxy
    go_wp2
    go_ret
    exact ⟨by rw [sIdx_hit xs y k F.out u.out]; rfl,rfl⟩
   ·have hq:(y == x)=false:=by simpa using hxy
    have J:=Lh hxy
    clear hxy
    go_wp2
    go_round
    case rel=>exact ⟨k+1,by omega,by go_num,not_mem_snoc F.out u.out (fun e=>J.out e.symm)⟩
    case measure=>simp [intOf]; omega
  ·have Y:k=n:=by omega
   go_wp2
   go_ret
   exact ⟨by rw [sIdx_miss xs x (by have:=u.out; rwa [List.take_of_length_le (by have:=z.out.len; omega)] at this)]; rfl,rfl⟩
theorem rwithK_any {K:Nat→Prop} (A:Option Addr) (n c:Nat) (xs:List Int) (x:Int) (w:World) (h:Rd (Value.int .u64) w w.heap.size A n c xs) (hl:n * 8+8≤140737488355328) (hk:Kn K n A) (G:∀ g,w.heap.size≤g→K g) :
  Calls Tryz.prog 180 #[.slice A n c,.int .u64 x] w fun e w'=>∃ A' n' F,e=.returned (.slice A' n' F)∧Rd (Value.int .u64) w' w'.heap.size A' n' F (sWith xs x)∧Kn K n' A'∧Below w.heap.size w w':=by
 obtain ⟨i0,hi,W,Y,a0⟩:=info_parts info_u64
 have z:=Lh h
 have a2:=Lh hk
 have a1:=Lh G
 clear h hk G
 by_cases hm:x∈xs
 ·have a4:0≤sIdx xs x:=by have:=sIdx_neg xs x; have:=mt this.1 (by simpa using hm); omega
  have u:sWith xs x=xs:=by simp [sWith,hm]
  rw [u]
  clear hm u
  go_enter Tryz.func180,Tryz.ntmps180
  go_wp2_with fail
  refine (rindex_any A n c xs x _ _ z.out).mono ?_
  rintro e w1 ⟨rfl,rfl⟩
  go_wp2_with fail
  go_ret
  exact ⟨A,n,c,rfl,z.out,a2.out,Below.refl _ _⟩
 ·have a4:sIdx xs x < 0:=(sIdx_neg xs x).2 hm
  have u:sWith xs x=xs ++ [x]:=by simp [sWith,hm]
  rw [u]
  clear hm u
  go_enter Tryz.func180,Tryz.ntmps180
  go_wp2_with fail
  refine (rindex_any A n c xs x _ _ z.out).mono ?_
  rintro e w1 ⟨rfl,rfl⟩
  go_wp2_with (first
   | (at_builtin; refine append_rd _ rfl (.tmp 11) (.tmp 12) 30 rfl w.heap.size 25 i0 (.int .u64 0) 8 Tryz.underlying30 hi W Y a0 rfl (.slice none 0 0) 0 [] rfl (World.ownsRow_nil _ _ _ _) _ A n c xs rfl z.out one_u64 n (Nat.zero_add _) (xs.map (Value.int .u64)) rfl (by unfold maxLen; omega) (by omega) (Nat.le_refl _) ?_; intro v2 a8 w2 J I a6; have a5:=I.size)
   | (at_builtin; refine append_rd _ rfl (.tmp 14) (.tmp 16) 30 rfl w.heap.size 25 i0 (.int .u64 0) 8 Tryz.underlying30 hi W Y a0 rfl _ n _ rfl (J.alloc _) _ _ 1 1 [x] rfl (rd_one (enc:=Value.int .u64) w2 x _) one_u64 (n+1) rfl ((xs ++ [x]).map (Value.int .u64)) List.map_append.symm (by unfold maxLen; omega) (by omega) (by simp; omega) ?_; intro v3 a9 w3 Q a3 a7))
  go_ret
  refine ⟨_,_,_,rfl,Rd.own_rd Q,Kn.own Q a1.out,(((Below.refl _ _).grown I (Nat.le_refl _) (fun k hk=>by cases hk)).alloc a5 _).grown a3 (by simp; omega) (fun k hk=>(J.lt k hk).1)⟩
end Go.Proofs.YtoiklelghfckgaaGreatDoor.Sn
