/- A part of the claim: the texts SlotsRef SlotsF. -/
import Derived.Test.YtaeemilldmhbnaaGreatDoorXBase5
import Derived.Test.YtaeemilldmhbnaaGreatDoorXBase1
import Derived.Test.YtaeemilldmhbnaaGreatDoorXBase3
import Derived.BigQuiet
import Derived.RegionTactic
set_option maxRecDepth 100000
set_option maxHeartbeats 8000000
set_option linter.unusedVariables false
namespace Go.Proofs.YtaeemilldmhbnaaGreatDoor.St
open Go.ChangeShapes Go.WideShapes Go.ChangeAt Go.RowKit Rw Hi
theorem info_rslot:(Tryz.prog.info? 140).map (fun i=>(i.zero,i.size,i.bytes))=some (some (.agg #[.int .i64 0,.int .u64 0,.int .u64 0]),3,24):=by kernel_rfl
theorem rwaiting_any (A:Option Addr) (n c B:Nat) (l:List Sx) (w:World) (h:Rs enc3 3 w B A n c l) (hB:B≤w.heap.size) :
  Calls Tryz.prog 87 #[.slice A n c] w fun e w'=>e=.returned (.int .i64 (waitN l))∧Below w.heap.size w w':=by
 have hn:n≤9223372036854775807:=by have:=h.cap; have:=h.top; omega
 have HR:=Lh h
 have Y:=Lh h.len
 clear h
 go_enter Tryz.func87,Tryz.ntmps87
 go_wp2_with fail
 go_loopw [3,8] (fun s i wr=>∃ k q:Nat,k≤n∧i=.int .i64 k∧s=.int .i64 q∧q≤k∧q=waitN (l.take k)∧Below w.heap.size w wr) (fun _ i _=>n - (intOf i).toNat)
 case atStart=>exact ⟨0,0,Nat.zero_le _,rfl,rfl,Nat.le_refl _,rfl,Below.refl _ _⟩
 case round=>
  obtain ⟨k,q,hk,rfl,rfl,a1,N,z⟩:=hrel
  have G:=Lh N
  have a0:=z.size
  clear N
  by_cases hlt:k < n
  ·obtain ⟨b,o,x,rfl,hb,hx,c0,c1,c2⟩:=three_at HR.out hlt
   have d0:=(z.cell (p:=⟨b,o+k * 3,none⟩) (by simp only; omega)).trans c0
   have d1:=(z.cell (p:=⟨b,o+k * 3+1,none⟩) (by simp only; omega)).trans c1
   have d2:=(z.cell (p:=⟨b,o+k * 3+2,none⟩) (by simp only; omega)).trans c2
   obtain ⟨x0,x1,W⟩:=x
   have J:=Lh (waitN_snoc hx)
   simp only at d0 d1 d2
   have I:=Lh (z.alloc a0 (.cells #[.int .i64 x0,.int .u64 x1,.int .u64 W] 140))
   clear c0 c1 c2 hx
   cases hz:(W == 0:Bool) with
   | true=>
    have u:q+1=waitN (l.take (k+1)):=by rw [J.out,G.out]; simp [free,hz]
    have F:=Lh u
    clear u
    go_wp2_with fail
    go_roundw
    case rel=>exact ⟨k+1,q+1,by omega,by go_num,by go_num,by omega,F.out,I.out⟩
    case measure=>simp [intOf]; omega
   | false=>
    have u:q=waitN (l.take (k+1)):=by rw [J.out,G.out]; simp [free,hz]
    have F:=Lh u
    clear u
    go_wp2_with fail
    go_roundw
    case rel=>exact ⟨k+1,q,by omega,by go_num,rfl,by omega,F.out,I.out⟩
    case measure=>simp [intOf]; omega
  ·obtain rfl:k=n:=by omega
   have u:q=waitN l:=by rw [G.out,List.take_of_length_le (by have:=Y.out; omega)]
   have F:=Lh u
   clear u G
   go_wp2_with fail
   go_ret
   exact ⟨by rw [← F.out]; rfl,z⟩
theorem rslot_same (w:World) (a b c:Int):(Op.equalIn 10000 140 (.agg #[.int .i64 a,.int .u64 b,.int .u64 c]) (.agg #[.int .i64 a,.int .u64 b,.int .u64 c])).run Tryz.prog w=.ok true w:=by
 rw [show (10000:Nat)=9999+1 from rfl,run_equalIn_agg w 9999 _ _ _ (by kernel_rfl) (by kernel_rfl)]
 rw [show (9999:Nat)=9998+1 from rfl]
 simp only [Program.fieldsOf,Tryz.underlying140]
 go_simp
theorem rslot_ne (w:World) (a b c:Int):(binOp .neq 140 (.agg #[.int .i64 a,.int .u64 b,.int .u64 c]) (.agg #[.int .i64 a,.int .u64 b,.int .u64 c])).run Tryz.prog w=.ok (.bool false) w:=by
 rw [run_neq_struct,rslot_same]
 rfl
theorem rslot_guard:Tryz.prog.eqGuardType Tryz.prog.depth 140=false:=by kernel_rfl
theorem requal_same (A A':Option Addr) (n c z:Nat) (xs:List Sx) (B B':Nat) (w:World) (h:Rs enc3 3 w B A n c xs) (F:Rs enc3 3 w B' A' n z xs) :
  Calls Tryz.prog 68 #[.slice A n c,.slice A' n z] w fun e w'=>e=.returned (.bool true) ∧ ∃ q,w.drewN q=w':=by
 have hn:n≤9223372036854775807:=by have:=h.cap; have:=h.top; omega
 have G:=Lh h
 have I:=Lh F
 have Y:=rslot_guard
 have a1:=fun W=>rslot_ne W
 clear h F
 go_enter Tryz.func68,Tryz.ntmps68
 go_wp2
 go_loopw [5,13] (fun _ i wr=>∃ k q:Nat,k≤n∧i=.int .i64 k∧wr=w.drewN q) (fun _ i _=>n - (intOf i).toNat)
 case atStart=>exact ⟨0,0,Nat.zero_le _,rfl,rfl⟩
 case round=>
  obtain ⟨k,q,hk,rfl,rfl⟩:=hrel
  by_cases hlt:k < n
  ·obtain ⟨b,o,x,rfl,J,hx,c0,c1,c2⟩:=three_at G.out hlt
   obtain ⟨b',o',y,rfl,N,u,d0,d1,d2⟩:=three_at I.out hlt
   obtain rfl:x=y:=by rw [hx] at u; injection u
   clear hx u
   obtain ⟨x0,x1,x2⟩:=x
   simp only at c0 c1 c2 d0 d1 d2
   go_wp2
   go_quiet (fail)
   go_wp2
   go_roundw
   case rel=>exact ⟨k+1,_,by omega,by go_num,rfl⟩
   case measure=>simp [intOf]; omega
  ·have a0:k=n:=by omega
   go_wp2
   go_ret
   exact ⟨rfl,_,rfl⟩
theorem to_any (A:Option Addr) (n c B:Nat) (l:List Sx) (w:World) (h:Rs enc3 3 w B A n c l) (hB:B≤w.heap.size) (hn:n≤1000) :
  Calls Tryz.prog 69 #[.slice A n c] w fun e w'=>∃ A' G,e=.returned (.slice A' n G)∧Rs enc3 3 w' w'.heap.size A' n G l∧Below w.heap.size w w':=by
 obtain ⟨i0,hi,ae,af,ag⟩:=info_parts info_rslot
 have HR:=Lh h
 have W:=Lh h.len
 clear h
 go_enter Tryz.func69,Tryz.ntmps69
 go_wp2_with fail
 go_loopw [3,8] (fun v i wr=>∃ (k G:Nat) (A':Option Addr),k≤n∧i=.int .i64 k∧v=.slice A' k G∧wr.ownsRow w.heap.size 140 3 (.slice A' k G) k (flat enc3 (l.take k))∧Below w.heap.size w wr) (fun _ i _=>n - (intOf i).toNat)
 case atStart=>exact ⟨0,0,none,Nat.zero_le _,rfl,rfl,World.ownsRow_nil _ _ _ _,Below.refl _ _⟩
 case round=>
  obtain ⟨k,G,A',hk,rfl,rfl,J,I⟩:=hrel
  have N:=Lh J
  clear J
  by_cases hlt:k < n
  ·obtain ⟨b,o,x,rfl,hb,hx,c0,c1,c2⟩:=three_at HR.out hlt
   have d0:=(I.cell (p:=⟨b,o+k * 3,none⟩) (by simp only; omega)).trans c0
   have d1:=(I.cell (p:=⟨b,o+k * 3+1,none⟩) (by simp only; omega)).trans c1
   have d2:=(I.cell (p:=⟨b,o+k * 3+2,none⟩) (by simp only; omega)).trans c2
   obtain ⟨u,z,F⟩:=x
   simp only at d0 d1 d2
   have ad:=I.size
   have a0:=I.alloc ad (.cells #[.int .i64 u,.int .u64 z,.int .u64 F] 116)
   have a5:=Lh (a0.alloc (by simp; omega) (.cells #[.int .i64 u,.int .u64 z,.int .u64 F] 140))
   have a4:Rs enc3 3 ((wr.alloc (.cells #[.int .i64 u,.int .u64 z,.int .u64 F] 116)).alloc (.cells #[.int .i64 u,.int .u64 z,.int .u64 F] 140)) (wr.heap.size+1+1) (some ⟨wr.heap.size+1,0,none⟩) 1 1 [(u,z,F)]:=by
    have:=rs_one enc3_len (wr.alloc (.cells #[.int .i64 u,.int .u64 z,.int .u64 F] 116)) (u,z,F) 140 (cs:=#[.int .i64 u,.int .u64 z,.int .u64 F]) rfl
    simpa using this
   have aa:=Lh a4
   have a2:flat enc3 (l.take k) ++ flat enc3 [(u,z,F)] = flat enc3 (l.take (k+1)):=by rw [List.take_add_one,hx,flat_append]; rfl
   have a7:=Lh a2
   have Y:=Lh ((N.out.alloc (.cells #[.int .i64 u,.int .u64 z,.int .u64 F] 116)).alloc (.cells #[.int .i64 u,.int .u64 z,.int .u64 F] 140))
   clear c0 c1 c2 hx a0 a4 a2 I
   go_wp2_with (
    at_builtin
    refine append_rs enc3_len rfl _ _ 42 rfl w.heap.size 140 i0 _ 24 Tryz.underlying42 hi ae af ag rfl (by decide) (.slice A' k G) k _ rfl Y.out _ _ 1 1 [(u,z,F)] rfl aa.out enc3_one (k+1) rfl _ a7.out (by unfold maxLen; omega) (by omega) (by simp; omega) ?_
    intro A3 c3 w3 a3 a1 ac
    have a9:=Lh a3
    have a6:=Lh (a5.out.grown a1 (by simp; omega) (fun j hj=>(Y.out.lt j hj).1))
    clear a3 a1 ac)
   go_roundw
   case rel=>exact ⟨k+1,c3,A3,by omega,by go_num,rfl,a9.out,a6.out⟩
   case measure=>simp [intOf]; omega
  ·obtain rfl:k=n:=by omega
   have J:=N.out
   rw [List.take_of_length_le (by have:=W.out; omega)] at J
   have a8:=Lh (Rs.own_rs enc3_len W.out J)
   clear J N
   go_wp2_with fail
   go_ret
   exact ⟨A',G,rfl,a8.out,I⟩
end Go.Proofs.YtaeemilldmhbnaaGreatDoor.St
namespace Go.Proofs.YtaeemilldmhbnaaGreatDoor.St
open Go.ChangeShapes Go.WideShapes Go.ChangeAt Go.RowKit Go.Deep Rw Hi
theorem Fr.of_below {w w':World} {a b:Option Nat} (h:Below w.heap.size w w'):Fr a b w w':=⟨h.os,h.tape,h.output,h.size,fun k hk _ _=>h.block k hk⟩
theorem parkU (w:World) (B p:Nat) (r:Option Nat) (L:List Sx) (t d:Int) (h:Ss w B p r L) (hn:L.length≤1000) :
  Calls Tryz.prog 13 #[.pointer (some ⟨p,0,none⟩),.int .i64 t,.int .u64 d] w fun e w'=>e=.returned (.int .i64 (parkE L t)) ∧ ∃ r',Ss w' B p r' (parkL L t d)∧Fr (some p) r w w'∧(∀ g,r'=some g→r=some g∨w.heap.size≤g):=by
 cases hf:L.findIdx? (hit t) with
 | none=>
  obtain ⟨u,z⟩:=park_miss (d:=d) hf
  rw [u,z]
  exact park_miss_any w B p r L t d h hf hn
 | some k=>
  obtain ⟨u,z⟩:=park_hit (d:=d) hf
  rw [u,z]
  refine (park_hit_any w B p r L t d k h hf).mono ?_
  rintro e w' ⟨rfl,F⟩
  exact ⟨rfl,r,h.later F,Fr.of_below F,fun g G=>.inl G⟩
end Go.Proofs.YtaeemilldmhbnaaGreatDoor.St
