/- A part of the claim: the texts SlotsRef SlotsOrderWalk SlotsF. -/
import Derived.Test.YtoiklelghfckgaaGreatDoorZBase5
import Derived.Test.YtoiklelghfckgaaGreatDoorZBase1
import Derived.Test.YtoiklelghfckgaaGreatDoorZBase3
import Derived.BigQuiet
import Derived.RegionTactic
set_option maxHeartbeats 8000000
set_option linter.unusedVariables false
namespace Go.Proofs.YtoiklelghfckgaaGreatDoor.St
open Go.ChangeShapes Go.WideShapes Go.ChangeAt Go.RowKit Rw Hi
theorem info_rslot:(Tryz.prog.info? 231).map (fun i=>(i.zero,i.size,i.bytes))=some (some (.agg #[.int .i64 0,.int .u64 0,.int .u64 0]),3,24):=by kernel_rfl
def New1 (w w':World) (v v':Value):Prop:=v'.ownBlock=v.ownBlock ∨ ∀ g,v'.ownBlock=some g→w.heap.size≤g∧g < w'.heap.size
theorem rof_any (A:Option Addr) (n c B:Nat) (l:List Sx) (t:Int) (w:World) (h:Rs enc3 3 w B A n c l) (hB:B≤w.heap.size) :
  Calls Tryz.prog 148 #[.slice A n c,.int .i64 t] w fun e w'=>e=.returned (.int .i64 (ixZ (hit t) l))∧Below w.heap.size w w':=by
 have hn:n≤9223372036854775807:=by have:=h.cap; have:=h.top; omega
 have I:=Lh h
 clear h
 go_enter Tryz.func148,Tryz.ntmps148
 go_wp2_with fail
 go_loopw [9] (fun i wr=>∃ k:Nat,k≤n∧i=.int .i64 k∧Miss (hit t) l k∧Below w.heap.size w wr) (fun i _=>n - (intOf i).toNat)
 case atStart=>exact ⟨0,Nat.zero_le _,rfl,Miss.zero _ _,Below.refl _ _⟩
 case round=>
  obtain ⟨k,hk,rfl,Q,u⟩:=hrel
  have F:=Lh Q
  have a0:=u.size
  clear Q
  by_cases hlt:k < n
  ·obtain ⟨b,o,x,rfl,hb,hx,c0,c1,c2⟩:=three_at I.out hlt
   have d0:=(u.cell (p:=⟨b,o+k * 3,none⟩) (by simp only; omega)).trans c0
   have d1:=(u.cell (p:=⟨b,o+k * 3+1,none⟩) (by simp only; omega)).trans c1
   have d2:=(u.cell (p:=⟨b,o+k * 3+2,none⟩) (by simp only; omega)).trans c2
   obtain ⟨W,x1,x2⟩:=x
   have J:=Lh hx
   simp only at d0 d1 d2
   have G:=Lh (u.alloc a0 (.cells #[.int .i64 W,.int .u64 x1,.int .u64 x2] 231))
   clear c0 c1 c2 hx
   cases hq:(W == t:Bool) with
   | true=>
    have z:=Lh (ixZ_some (ix_some F.out J.out hq))
    go_wp2_with fail
    go_ret
    exact ⟨by rw [z.out]; rfl,G.out⟩
   | false=>
    have Y:=Lh (F.out.succ J.out hq)
    go_wp2_with fail
    go_roundw
    case rel=>exact ⟨k+1,by omega,by go_num,Y.out,G.out⟩
    case measure=>simp [intOf]; omega
  ·have a1:k=n:=by omega
   have z:=Lh (ixZ_none (ix_none (p:=hit t) (l:=l) (by rw [I.out.len,← a1]; exact F.out)))
   go_wp2_with fail
   go_ret
   exact ⟨by rw [z.out]; rfl,u⟩
def Apart (v:Value) (p:Nat) (r:Option Nat):Prop:=∀ g,v.ownBlock=some g→g≠p∧r≠some g
theorem Apart.next {v:Value} {p h:Nat} {r F:Option Nat} (ha:Apart v p r) (hv:∀ g,v.ownBlock=some g→g < h) (G:∀ g,F=some g→r=some g∨h≤g):Apart v p F:=fun g u=>by
 refine ⟨(ha g u).1,fun e=>?_⟩
 rcases G g e with z | z
 ·exact (ha g u).2 z
 ·have:=hv g u; omega
theorem Ss.grown {w w':World} {B p:Nat} {r:Option Nat} {l:List Sx} {v:Value} (h:Ss w B p r l) (u:w.grownBy w' v.ownBlock) (ha:Apart v p r):Ss w' B p r l:=
 h.same (u.block p h.lt (fun e=>(ha p e.symm).1 rfl)) (fun g z=>u.block g (h.rowlt g z).2 (fun e=>(ha g e.symm).2 z))
theorem Apart.grown {w:World} {B p:Nat} {r:Option Nat} {l:List Sx} {v z:Value} (ha:Apart v p r) (h:Ss w B p r l) (hv:z.ownBlock=v.ownBlock ∨ ∃ g,z.ownBlock=some g∧w.heap.size≤g):Apart z p r:=fun g u=>by
 rcases hv with e | ⟨G,e,I⟩
 ·exact ha g (e.symm.trans u)
 ·rw [e] at u
  injection u with u
  subst u
  exact ⟨fun F=>by have:=h.lt; omega,fun F=>by have:=(h.rowlt _ F).2; omega⟩
end Go.Proofs.YtoiklelghfckgaaGreatDoor.St
namespace Go.Proofs.YtoiklelghfckgaaGreatDoor.St
open Go.ChangeShapes Go.WideShapes Go.ChangeAt Go.RowKit Go.Deep Rw Hi
def fillR (L:List Sx) (i:Int):List Sx × Int × Bool:=if i=0 then (L,0,false) else match L.findIdx? free with
 | some k=>(match L[k]? with | some x=>(fillAt L k x i,x.1,true) | none=>(L,0,false))
 | none=>(L,0,false)
def takeR (L:List Sx) (t:Int):List Sx × Int × Bool:=match L.findIdx? (hit t) with
 | some k=>(match L[k]? with | some x=>(L.eraseIdx k,x.2.2,true) | none=>(L,0,false))
 | none=>(L,0,false)
theorem fillR_len (L:List Sx) (i:Int):(fillR L i).1.length=L.length:=by
 unfold fillR
 split
 ·rfl
 ·split
  ·split
   ·exact fillAt_len _ _ _ _
   ·rfl
  ·rfl
theorem takeR_len (L:List Sx) (t:Int):(takeR L t).1.length≤L.length:=by
 unfold takeR
 split
 ·split
  ·exact List.length_eraseIdx_le _ _
  ·exact Nat.le_refl _
 ·exact Nat.le_refl _
theorem Fr.of_below {w w':World} {a b:Option Nat} (h:Below w.heap.size w w'):Fr a b w w':=⟨h.os,h.tape,h.output,h.size,fun k hk _ _=>h.block k hk⟩
theorem fillU (w:World) (B p:Nat) (r:Option Nat) (L:List Sx) (i:Int) (h:Ss w B p r L) :
  Calls Tryz.prog 231 #[.pointer (some ⟨p,0,none⟩),.int .u64 i] w fun e w'=>e=.returned (.tuple #[.int .i64 (fillR L i).2.1,.bool (fillR L i).2.2])∧Ss w' B p r (fillR L i).1∧Fr (some p) r w w':=by
 unfold fillR
 by_cases hi:i=0
 ·subst hi
  simp only [if_true]
  refine (fill_zero_any w p).mono ?_
  rintro e w' ⟨rfl,rfl⟩
  exact ⟨rfl,h,Fr.refl _ _ _⟩
 ·rw [if_neg hi]
  cases hf:L.findIdx? free with
  | none=>
   refine (fill_miss_any w B p r L i h hf hi).mono ?_
   rintro e w' ⟨rfl,u⟩
   exact ⟨rfl,h.later u,Fr.of_below u⟩
  | some k=>
   obtain ⟨x,hx,_,_⟩:=ix_hit hf
   simp only [hx]
   exact fill_hit_any w B p r L i k x h hf hx hi
theorem takeU (w:World) (B p:Nat) (r:Option Nat) (L:List Sx) (t:Int) (h:Ss w B p r L) :
  Calls Tryz.prog 160 #[.pointer (some ⟨p,0,none⟩),.int .i64 t] w fun e w'=>e=.returned (.tuple #[.int .u64 (takeR L t).2.1,.bool (takeR L t).2.2])∧Ss w' B p r (takeR L t).1∧Fr (some p) r w w':=by
 unfold takeR
 cases hf:L.findIdx? (hit t) with
 | none=>
  refine (take_miss_any w B p r L t h hf).mono ?_
  rintro e w' ⟨rfl,u⟩
  exact ⟨rfl,h.later u,Fr.of_below u⟩
 | some k=>
  obtain ⟨x,hx,_,_⟩:=ix_hit hf
  simp only [hx]
  exact take_hit_any w B p r L t k x h hf hx
theorem parkU (w:World) (B p:Nat) (r:Option Nat) (L:List Sx) (t d:Int) (h:Ss w B p r L) (hn:L.length≤1000) :
  Calls Tryz.prog 35 #[.pointer (some ⟨p,0,none⟩),.int .i64 t,.int .u64 d] w fun e w'=>e=.returned (.int .i64 (parkE L t)) ∧ ∃ G,Ss w' B p G (parkL L t d)∧Fr (some p) r w w'∧(∀ g,G=some g→r=some g∨w.heap.size≤g):=by
 cases hf:L.findIdx? (hit t) with
 | none=>
  obtain ⟨u,z⟩:=park_miss (d:=d) hf
  rw [u,z]
  exact park_miss_any w B p r L t d h hf hn
 | some k=>
  obtain ⟨u,z⟩:=park_hit (d:=d) hf
  rw [u,z]
  refine (park_hit_any w B p r L t d k h hf).mono ?_
  rintro e w' ⟨rfl,F⟩
  exact ⟨rfl,r,h.later F,Fr.of_below F,fun g I=>.inl I⟩
theorem Apart.new {w w':World} {A A':Option Addr} {n c n' u:Nat} {p:Nat} {r:Option Nat} (ha:Apart (.slice A n c) p r) (h:New1 w w' (.slice A n c) (.slice A' n' u)) (I:p < w.heap.size) (G:∀ g,r=some g→g < w.heap.size):Apart (.slice A' n' u) p r:=fun g z=>by
 rcases h with e | e
 ·exact ha g (e.symm.trans z)
 ·have:=(e g z).1
  exact ⟨by omega,fun F=>by have:=G g F; omega⟩
end Go.Proofs.YtoiklelghfckgaaGreatDoor.St
