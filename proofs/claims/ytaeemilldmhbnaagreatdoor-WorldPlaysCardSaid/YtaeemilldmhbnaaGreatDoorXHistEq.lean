/- A part of the claim: the texts HistEq. -/
import Derived.Test.YtaeemilldmhbnaaGreatDoorXBase3
import Derived.RegionTactic
set_option maxHeartbeats 8000000
set_option linter.unusedVariables false
namespace Go.Proofs.YtaeemilldmhbnaaGreatDoor.Hi
open Go.ChangeShapes Go.WideShapes Go.ChangeAt Go.RowKit Rw Tx
theorem rev_same (w:World) (a b c d e f:Int):(Op.equalIn 10000 145 (.agg #[.int .u64 a,.int .i64 b,.int .i64 c,.int .i64 d,.int .u64 e,.int .i64 f]) (.agg #[.int .u64 a,.int .i64 b,.int .i64 c,.int .i64 d,.int .u64 e,.int .i64 f])).run Tryz.prog w=.ok true w:=by
 rw [show (10000:Nat)=9999+1 from rfl,run_equalIn_agg w 9999 _ _ _ (by kernel_rfl) (by kernel_rfl)]
 rw [show (9999:Nat)=9998+1 from rfl]
 simp only [Program.fieldsOf,Tryz.underlying145]
 go_simp
theorem rev_ne (w:World) (a b c d e f:Int):(binOp .neq 145 (.agg #[.int .u64 a,.int .i64 b,.int .i64 c,.int .i64 d,.int .u64 e,.int .i64 f]) (.agg #[.int .u64 a,.int .i64 b,.int .i64 c,.int .i64 d,.int .u64 e,.int .i64 f])).run Tryz.prog w=.ok (.bool false) w:=by
 rw [run_neq_struct,rev_same]
 rfl
theorem rev_guard:Tryz.prog.eqGuardType Tryz.prog.depth 145=false:=by kernel_rfl
theorem revequal_same (A A':Option Addr) (n c z:Nat) (xs:List Ev) (B B':Nat) (w:World) (h:Rs encE 6 w B A n c xs) (F:Rs encE 6 w B' A' n z xs) :
  Calls Tryz.prog 71 #[.slice A n c,.slice A' n z] w fun e w'=>e=.returned (.bool true) ∧ ∃ q,w.drewN q=w':=by
 have hn:n≤9223372036854775807:=by have:=h.cap; have:=h.top; omega
 have G:=Lh h
 have I:=Lh F
 have Y:=rev_guard
 have a1:=fun W=>rev_ne W
 clear h F
 go_enter Tryz.func71,Tryz.ntmps71
 go_wp2
 go_loopw [5,13] (fun _ i wr=>∃ k q:Nat,k≤n∧i=.int .i64 k∧wr=w.drewN q) (fun _ i _=>n - (intOf i).toNat)
 case atStart=>exact ⟨0,0,Nat.zero_le _,rfl,rfl⟩
 case round=>
  obtain ⟨k,q,hk,rfl,rfl⟩:=hrel
  by_cases hlt:k < n
  ·obtain ⟨b,o,x,rfl,J,hx,c0,c1,c2,c3,c4,c5⟩:=six_at G.out hlt
   obtain ⟨b',o',y,rfl,N,u,d0,d1,d2,d3,d4,d5⟩:=six_at I.out hlt
   obtain rfl:x=y:=by rw [hx] at u; injection u
   clear hx u
   obtain ⟨x0,x1,x2,x3,x4,x5⟩:=x
   simp only at c0 c1 c2 c3 c4 c5 d0 d1 d2 d3 d4 d5
   go_wp2
   go_quiet (fail)
   go_wp2
   go_roundw
   case rel=>exact ⟨k+1,_,by omega,by go_num,rfl⟩
   case measure=>simp [intOf]; omega
  ·have a0:k=n:=by omega
   go_wp2
   go_ret
   exact ⟨rfl,_,rfl⟩
end Go.Proofs.YtaeemilldmhbnaaGreatDoor.Hi
