/- A part of the claim: the texts SlotsRef SlotsF. -/
import Derived.Test.YtaeemilldmhbnaaGreatDoorZBase5
import Derived.Test.YtaeemilldmhbnaaGreatDoorZBase1
import Derived.Test.YtaeemilldmhbnaaGreatDoorZBase3
import Derived.BigQuiet
import Derived.RegionTactic
set_option maxRecDepth 100000
set_option maxHeartbeats 8000000
set_option linter.unusedVariables false
namespace Go.Proofs.YtaeemilldmhbnaaGreatDoor.St
open Go.ChangeShapes Go.WideShapes Go.ChangeAt Go.RowKit Rw Hi
theorem info_rslot:(Tryz.prog.info? 140).map (fun i=>(i.zero,i.size,i.bytes))=some (some (.agg #[.int .i64 0,.int .u64 0,.int .u64 0]),3,24):=by kernel_rfl
def New1 (w w':World) (v v':Value):Prop:=v'.ownBlock=v.ownBlock ∨ ∀ g,v'.ownBlock=some g→w.heap.size≤g∧g < w'.heap.size
theorem rof_any (A:Option Addr) (n c B:Nat) (l:List Sx) (t:Int) (w:World) (h:Rs enc3 3 w B A n c l) (hB:B≤w.heap.size) :
  Calls Tryz.prog 203 #[.slice A n c,.int .i64 t] w fun e w'=>e=.returned (.int .i64 (ixZ (hit t) l))∧Below w.heap.size w w':=by
 have hn:n≤9223372036854775807:=by have:=h.cap; have:=h.top; omega
 have I:=Lh h
 clear h
 go_enter Tryz.func203,Tryz.ntmps203
 go_wp2_with fail
 go_loopw [9] (fun i wr=>∃ k:Nat,k≤n∧i=.int .i64 k∧Miss (hit t) l k∧Below w.heap.size w wr) (fun i _=>n - (intOf i).toNat)
 case atStart=>exact ⟨0,Nat.zero_le _,rfl,Miss.zero _ _,Below.refl _ _⟩
 case round=>
  obtain ⟨k,hk,rfl,Q,u⟩:=hrel
  have F:=Lh Q
  have a0:=u.size
  clear Q
  by_cases hlt:k < n
  ·obtain ⟨b,o,x,rfl,hb,hx,c0,c1,c2⟩:=three_at I.out hlt
   have d0:=(u.cell (p:=⟨b,o+k * 3,none⟩) (by simp only; omega)).trans c0
   have d1:=(u.cell (p:=⟨b,o+k * 3+1,none⟩) (by simp only; omega)).trans c1
   have d2:=(u.cell (p:=⟨b,o+k * 3+2,none⟩) (by simp only; omega)).trans c2
   obtain ⟨W,x1,x2⟩:=x
   have J:=Lh hx
   simp only at d0 d1 d2
   have G:=Lh (u.alloc a0 (.cells #[.int .i64 W,.int .u64 x1,.int .u64 x2] 140))
   clear c0 c1 c2 hx
   cases hq:(W == t:Bool) with
   | true=>
    have z:=Lh (ixZ_some (ix_some F.out J.out hq))
    go_wp2_with fail
    go_ret
    exact ⟨by rw [z.out]; rfl,G.out⟩
   | false=>
    have Y:=Lh (F.out.succ J.out hq)
    go_wp2_with fail
    go_roundw
    case rel=>exact ⟨k+1,by omega,by go_num,Y.out,G.out⟩
    case measure=>simp [intOf]; omega
  ·have a1:k=n:=by omega
   have z:=Lh (ixZ_none (ix_none (p:=hit t) (l:=l) (by rw [I.out.len,← a1]; exact F.out)))
   go_wp2_with fail
   go_ret
   exact ⟨by rw [z.out]; rfl,u⟩
theorem rwaiting_any (A:Option Addr) (n c B:Nat) (l:List Sx) (w:World) (h:Rs enc3 3 w B A n c l) (hB:B≤w.heap.size) :
  Calls Tryz.prog 87 #[.slice A n c] w fun e w'=>e=.returned (.int .i64 (waitN l))∧Below w.heap.size w w':=by
 have hn:n≤9223372036854775807:=by have:=h.cap; have:=h.top; omega
 have HR:=Lh h
 have Y:=Lh h.len
 clear h
 go_enter Tryz.func87,Tryz.ntmps87
 go_wp2_with fail
 go_loopw [3,8] (fun s i wr=>∃ k q:Nat,k≤n∧i=.int .i64 k∧s=.int .i64 q∧q≤k∧q=waitN (l.take k)∧Below w.heap.size w wr) (fun _ i _=>n - (intOf i).toNat)
 case atStart=>exact ⟨0,0,Nat.zero_le _,rfl,rfl,Nat.le_refl _,rfl,Below.refl _ _⟩
 case round=>
  obtain ⟨k,q,hk,rfl,rfl,a1,Q,z⟩:=hrel
  have G:=Lh Q
  have a0:=z.size
  clear Q
  by_cases hlt:k < n
  ·obtain ⟨b,o,x,rfl,hb,hx,c0,c1,c2⟩:=three_at HR.out hlt
   have d0:=(z.cell (p:=⟨b,o+k * 3,none⟩) (by simp only; omega)).trans c0
   have d1:=(z.cell (p:=⟨b,o+k * 3+1,none⟩) (by simp only; omega)).trans c1
   have d2:=(z.cell (p:=⟨b,o+k * 3+2,none⟩) (by simp only; omega)).trans c2
   obtain ⟨x0,x1,W⟩:=x
   have J:=Lh (waitN_snoc hx)
   simp only at d0 d1 d2
   have I:=Lh (z.alloc a0 (.cells #[.int .i64 x0,.int .u64 x1,.int .u64 W] 140))
   clear c0 c1 c2 hx
   cases hz:(W == 0:Bool) with
   | true=>
    have u:q+1=waitN (l.take (k+1)):=by rw [J.out,G.out]; simp [free,hz]
    have F:=Lh u
    clear u
    go_wp2_with fail
    go_roundw
    case rel=>exact ⟨k+1,q+1,by omega,by go_num,by go_num,by omega,F.out,I.out⟩
    case measure=>simp [intOf]; omega
   | false=>
    have u:q=waitN (l.take (k+1)):=by rw [J.out,G.out]; simp [free,hz]
    have F:=Lh u
    clear u
    go_wp2_with fail
    go_roundw
    case rel=>exact ⟨k+1,q,by omega,by go_num,rfl,by omega,F.out,I.out⟩
    case measure=>simp [intOf]; omega
  ·obtain rfl:k=n:=by omega
   have u:q=waitN l:=by rw [G.out,List.take_of_length_le (by have:=Y.out; omega)]
   have F:=Lh u
   clear u G
   go_wp2_with fail
   go_ret
   exact ⟨by rw [← F.out]; rfl,z⟩
theorem rslot_same (w:World) (a b c:Int):(Op.equalIn 10000 140 (.agg #[.int .i64 a,.int .u64 b,.int .u64 c]) (.agg #[.int .i64 a,.int .u64 b,.int .u64 c])).run Tryz.prog w=.ok true w:=by
 rw [show (10000:Nat)=9999+1 from rfl,run_equalIn_agg w 9999 _ _ _ (by kernel_rfl) (by kernel_rfl)]
 rw [show (9999:Nat)=9998+1 from rfl]
 simp only [Program.fieldsOf,Tryz.underlying140]
 go_simp
theorem rslot_ne (w:World) (a b c:Int):(binOp .neq 140 (.agg #[.int .i64 a,.int .u64 b,.int .u64 c]) (.agg #[.int .i64 a,.int .u64 b,.int .u64 c])).run Tryz.prog w=.ok (.bool false) w:=by
 rw [run_neq_struct,rslot_same]
 rfl
theorem rslot_guard:Tryz.prog.eqGuardType Tryz.prog.depth 140=false:=by kernel_rfl
theorem requal_same (A A':Option Addr) (n c z:Nat) (xs:List Sx) (B B':Nat) (w:World) (h:Rs enc3 3 w B A n c xs) (F:Rs enc3 3 w B' A' n z xs) :
  Calls Tryz.prog 68 #[.slice A n c,.slice A' n z] w fun e w'=>e=.returned (.bool true) ∧ ∃ q,w.drewN q=w':=by
 have hn:n≤9223372036854775807:=by have:=h.cap; have:=h.top; omega
 have G:=Lh h
 have I:=Lh F
 have hg:=rslot_guard
 have a2:=fun W=>rslot_ne W
 clear h F
 go_enter Tryz.func68,Tryz.ntmps68
 go_wp2
 go_loopw [5,13] (fun _ i wr=>∃ k q:Nat,k≤n∧i=.int .i64 k∧wr=w.drewN q) (fun _ i _=>n - (intOf i).toNat)
 case atStart=>exact ⟨0,0,Nat.zero_le _,rfl,rfl⟩
 case round=>
  obtain ⟨k,q,hk,rfl,rfl⟩:=hrel
  by_cases hlt:k < n
  ·obtain ⟨b,o,x,rfl,hb,hx,c0,c1,c2⟩:=three_at G.out hlt
   obtain ⟨b',o',y,rfl,a0,u,J,Q,Y⟩:=three_at I.out hlt
   obtain rfl:x=y:=by rw [hx] at u; injection u
   clear hx u
   obtain ⟨x0,x1,x2⟩:=x
   simp only at c0 c1 c2 J Q Y
   go_wp2
   go_quiet (fail)
   go_wp2
   go_roundw
   case rel=>exact ⟨k+1,_,by omega,by go_num,rfl⟩
   case measure=>simp [intOf]; omega
  ·have a1:k=n:=by omega
   go_wp2
   go_ret
   exact ⟨rfl,_,rfl⟩
theorem to_any (A:Option Addr) (n c B:Nat) (l:List Sx) (w:World) (h:Rs enc3 3 w B A n c l) (hB:B≤w.heap.size) (hn:n≤1000) :
  Calls Tryz.prog 69 #[.slice A n c] w fun e w'=>∃ A' G,e=.returned (.slice A' n G)∧Rs enc3 3 w' w'.heap.size A' n G l∧Below w.heap.size w w':=by
 obtain ⟨i0,hi,ae,af,ag⟩:=info_parts info_rslot
 have HR:=Lh h
 have W:=Lh h.len
 clear h
 go_enter Tryz.func69,Tryz.ntmps69
 go_wp2_with fail
 go_loopw [3,8] (fun v i wr=>∃ (k G:Nat) (A':Option Addr),k≤n∧i=.int .i64 k∧v=.slice A' k G∧wr.ownsRow w.heap.size 140 3 (.slice A' k G) k (flat enc3 (l.take k))∧Below w.heap.size w wr) (fun _ i _=>n - (intOf i).toNat)
 case atStart=>exact ⟨0,0,none,Nat.zero_le _,rfl,rfl,World.ownsRow_nil _ _ _ _,Below.refl _ _⟩
 case round=>
  obtain ⟨k,G,A',hk,rfl,rfl,J,I⟩:=hrel
  have Q:=Lh J
  clear J
  by_cases hlt:k < n
  ·obtain ⟨b,o,x,rfl,hb,hx,c0,c1,c2⟩:=three_at HR.out hlt
   have d0:=(I.cell (p:=⟨b,o+k * 3,none⟩) (by simp only; omega)).trans c0
   have d1:=(I.cell (p:=⟨b,o+k * 3+1,none⟩) (by simp only; omega)).trans c1
   have d2:=(I.cell (p:=⟨b,o+k * 3+2,none⟩) (by simp only; omega)).trans c2
   obtain ⟨u,z,F⟩:=x
   simp only at d0 d1 d2
   have ad:=I.size
   have a0:=I.alloc ad (.cells #[.int .i64 u,.int .u64 z,.int .u64 F] 116)
   have a5:=Lh (a0.alloc (by simp; omega) (.cells #[.int .i64 u,.int .u64 z,.int .u64 F] 140))
   have a4:Rs enc3 3 ((wr.alloc (.cells #[.int .i64 u,.int .u64 z,.int .u64 F] 116)).alloc (.cells #[.int .i64 u,.int .u64 z,.int .u64 F] 140)) (wr.heap.size+1+1) (some ⟨wr.heap.size+1,0,none⟩) 1 1 [(u,z,F)]:=by
    have:=rs_one enc3_len (wr.alloc (.cells #[.int .i64 u,.int .u64 z,.int .u64 F] 116)) (u,z,F) 140 (cs:=#[.int .i64 u,.int .u64 z,.int .u64 F]) rfl
    simpa using this
   have aa:=Lh a4
   have a2:flat enc3 (l.take k) ++ flat enc3 [(u,z,F)] = flat enc3 (l.take (k+1)):=by rw [List.take_add_one,hx,flat_append]; rfl
   have a7:=Lh a2
   have Y:=Lh ((Q.out.alloc (.cells #[.int .i64 u,.int .u64 z,.int .u64 F] 116)).alloc (.cells #[.int .i64 u,.int .u64 z,.int .u64 F] 140))
   clear c0 c1 c2 hx a0 a4 a2 I
   go_wp2_with (
    at_builtin
    refine append_rs enc3_len rfl _ _ 42 rfl w.heap.size 140 i0 _ 24 Tryz.underlying42 hi ae af ag rfl (by decide) (.slice A' k G) k _ rfl Y.out _ _ 1 1 [(u,z,F)] rfl aa.out enc3_one (k+1) rfl _ a7.out (by unfold maxLen; omega) (by omega) (by simp; omega) ?_
    intro A3 c3 w3 a3 a1 ac
    have a9:=Lh a3
    have a6:=Lh (a5.out.grown a1 (by simp; omega) (fun j hj=>(Y.out.lt j hj).1))
    clear a3 a1 ac)
   go_roundw
   case rel=>exact ⟨k+1,c3,A3,by omega,by go_num,rfl,a9.out,a6.out⟩
   case measure=>simp [intOf]; omega
  ·obtain rfl:k=n:=by omega
   have J:=Q.out
   rw [List.take_of_length_le (by have:=W.out; omega)] at J
   have a8:=Lh (Rs.own_rs enc3_len W.out J)
   clear J Q
   go_wp2_with fail
   go_ret
   exact ⟨A',G,rfl,a8.out,I⟩
theorem rfill_zero (A:Option Addr) (n c:Nat) (w:World) :
  Calls Tryz.prog 99 #[.slice A n c,.int .u64 0] w fun e w'=>e=.returned (.tuple #[.slice A n c,.int .i64 0,.bool false])∧w=w':=by
 go_enter Tryz.func99,Tryz.ntmps99
 go_wp2_with fail
 go_ret3
 exact ⟨rfl,rfl⟩
theorem rfill_miss (A:Option Addr) (n c:Nat) (l:List Sx) (i:Int) (w:World) (h:Rs enc3 3 w w.heap.size A n c l) (hi:i≠0) (z:l.findIdx? free=none) :
  Calls Tryz.prog 99 #[.slice A n c,.int .u64 i] w fun e w'=>e=.returned (.tuple #[.slice A n c,.int .i64 0,.bool false])∧Below w.heap.size w w':=by
 have hn:n≤9223372036854775807:=by have:=h.cap; have:=h.top; omega
 have e0:(i == 0)=false:=by simpa using hi
 have Q:=Lh h
 have F:∀ x∈l,free x=false:=by rw [List.findIdx?_eq_none_iff] at z; exact z
 have I:=Lh F
 clear h hi z F
 go_enter Tryz.func99,Tryz.ntmps99
 go_wp2_with fail
 go_loopw [15] (fun i wr=>∃ k:Nat,k≤n∧i=.int .i64 k∧Below w.heap.size w wr) (fun i _=>n - (intOf i).toNat)
 case atStart=>exact ⟨0,Nat.zero_le _,rfl,Below.refl _ _⟩
 case round=>
  obtain ⟨k,hk,rfl,u⟩:=hrel
  have a0:=u.size
  by_cases hlt:k < n
  ·obtain ⟨b,o,x,rfl,hb,hx,c0,c1,c2⟩:=three_at Q.out hlt
   have W:=(u.cell (p:=⟨b,o+k * 3,none⟩) (by simp only; omega)).trans c0
   have Y:=(u.cell (p:=⟨b,o+k * 3+1,none⟩) (by simp only; omega)).trans c1
   have d2:=(u.cell (p:=⟨b,o+k * 3+2,none⟩) (by simp only; omega)).trans c2
   obtain ⟨x0,x1,G⟩:=x
   have hq:(G == 0:Bool)=false:=I.out _ (List.mem_of_getElem? hx)
   simp only at W Y d2
   have J:=Lh (u.alloc a0 (.cells #[.int .i64 x0,.int .u64 x1,.int .u64 G] 140))
   clear c0 c1 c2 hx
   go_wp2_with fail
   go_roundw
   case rel=>exact ⟨k+1,by omega,by go_num,J.out⟩
   case measure=>simp [intOf]; omega
  ·have a1:k=n:=by omega
   go_wp2_with fail
   go_ret3
   exact ⟨rfl,u⟩
theorem rfill_hit (A:Option Addr) (n c:Nat) (l:List Sx) (i:Int) (j:Nat) (y:Sx) (w:World) (h:Rs enc3 3 w w.heap.size A n c l) (hi:i≠0) (hn:n≤1000) (hf:l.findIdx? free=some j) (I:l[j]? = some y) :
  Calls Tryz.prog 99 #[.slice A n c,.int .u64 i] w fun e w'=>∃ A' c',e=.returned (.tuple #[.slice A' n c',.int .i64 y.1,.bool true])∧Rs enc3 3 w' w'.heap.size A' n c' (fillAt l j y i)∧New1 w w' (.slice A n c) (.slice A' n c')∧Below w.heap.size w w':=by
 obtain ⟨i0,an,ar,au,av⟩:=info_parts info_rslot
 have e0:(i == 0)=false:=by simpa using hi
 have HR:=Lh h
 have a5:=Lh h.len
 have aA:=h.cap
 have aC:=h.top
 rw [List.findIdx?_eq_some_iff_getElem] at hf
 obtain ⟨a1,ac,a8⟩:=hf
 have az:j < n:=by rw [← h.len]; exact a1
 have af:free y=true:=by rw [List.getElem?_eq_getElem a1] at I; injection I with I; subst I; exact ac
 have ag:Hid (∀ k x,k < j→l[k]? = some x→free x=false):=Lh (fun k x hk hx=>by
  obtain ⟨h1,Q⟩:=List.getElem?_eq_some_iff.1 hx
  have:=a8 k hk
  rw [Q] at this
  simpa using this)
 have HY:=Lh I
 have ai:=Lh af
 clear h hi ac a8 I af a1
 go_enter Tryz.func99,Tryz.ntmps99
 go_wp2_with fail
 go_loopw [15] (fun i wr=>∃ k:Nat,k≤j∧i=.int .i64 k∧Below w.heap.size w wr) (fun i _=>n - (intOf i).toNat)
 case atStart=>exact ⟨0,Nat.zero_le _,rfl,Below.refl _ _⟩
 case round=>
  obtain ⟨k,hk,rfl,F⟩:=hrel
  have aa:=F.size
  have ad:k < n:=by omega
  obtain ⟨b,o,x,rfl,hb,hx,c0,c1,c2⟩:=three_at HR.out ad
  have d0:=(F.cell (p:=⟨b,o+k * 3,none⟩) (by simp only; omega)).trans c0
  have d1:=(F.cell (p:=⟨b,o+k * 3+1,none⟩) (by simp only; omega)).trans c1
  have d2:=(F.cell (p:=⟨b,o+k * 3+2,none⟩) (by simp only; omega)).trans c2
  obtain ⟨u,Y,J⟩:=x
  simp only at d0 d1 d2
  have a4:=Lh (F.alloc aa (.cells #[.int .i64 u,.int .u64 Y,.int .u64 J] 140))
  by_cases hkj:k < j
  ·have hq:(J == 0:Bool)=false:=ag.out k _ hkj hx
   clear c0 c1 c2 hx
   go_wp2_with fail
   go_roundw
   case rel=>exact ⟨k+1,by omega,by go_num,a4.out⟩
   case measure=>simp [intOf]; omega
  ·obtain rfl:k=j:=by omega
   have a3:y=(u,Y,J):=by have:=HY.out; rw [hx] at this; injection this with this; exact this.symm
   have hq:(J == 0:Bool)=true:=by have:=ai.out; rw [a3] at this; exact this
   have aj:=Lh a3
   have RW:=Lh ((HR.out.below (F.mono (Nat.le_refl _))).alloc aa (.cells #[.int .i64 u,.int .u64 Y,.int .u64 J] 140))
   have ae:(wr.alloc (.cells #[.int .i64 u,.int .u64 Y,.int .u64 J] 140)).cell? ⟨wr.heap.size,0,none⟩=some (.int .i64 u):=by go_simp
   have a6:=Lh ae
   clear c0 c1 c2 hx a3 ae
   go_wp2_with (
    at_builtin
    refine append_rs enc3_len rfl _ _ 42 rfl w.heap.size 140 i0 _ 24 Tryz.underlying42 an ar au av rfl (by decide) (.slice none 0 0) 0 [] rfl (World.ownsRow_nil _ _ _ _) _ (some ⟨b,o,none⟩) n c l rfl RW.out enc3_one n (Nat.zero_add _) (flat enc3 l) rfl (by unfold maxLen; omega) (by omega) (by simp; omega) ?_
    intro A2 c2 w2 G a0 a7
    refine Hid.out ?_)
   refine Lh ?_
   have B2:=a4.out.grown a0 (by simp; omega) (fun j hj=>by cases hj)
   have aB:=B2.size
   have a9:w2.cell? ⟨wr.heap.size,0,none⟩=some (.int .i64 u):=a0.cell a6.out (fun e=>by cases e)
   have W:=Rs.own_rs enc3_len a5.out G
   obtain ⟨g,o2,z,rfl,ay,hz,_,_,v2⟩:=three_at W ad
   have ao:o2=0:=by
    rcases G.2 with ⟨h',_⟩ | ⟨g,cap,aw,h',_⟩
    ·cases h'
    ·injection h' with Q _ _; injection Q with Q; injection Q
   subst ao
   simp only [Nat.zero_add] at v2
   have fz:=G.frozenAt (k * 3+2)
   have al:g≠wr.heap.size:=by
    rcases a7 with e | e
    ·cases e
    ·injection e with e; simp at e; have e2:g=wr.heap.size+1:=e; omega
   obtain ⟨s1,s2⟩:=G.stored (k * 3+2) (.int .u64 i)
   rw [flat_set enc3_len l k 2 y (y.1,y.2.1,i) (.int .u64 i) HY.out (by omega) rfl] at s1
   have aE:(w2.setCell ⟨g,k * 3+2,none⟩ (.int .u64 i)).cell? ⟨wr.heap.size,0,none⟩=some (.int .i64 u):=(World.cell?_setCell_other _ _ _ _ (fun e=>by injection e with e; exact al e)).trans a9
   have S1:=Lh s1
   have ax:=W.cap
   have aD:=W.top
   have a2:=G.lt
   have ah:=Lh a2
   have B4:=Lh (B2.setCell (p:=⟨g,k * 3+2,none⟩) (a2 g rfl).1 (.int .u64 i))
   clear s1 s2 G a0 a7 W hz B2 a2 a9 a6 RW
   have aq:u=y.1:=by rw [aj.out]
   go_wp2_with fail
   go_quiet (fail)
   go_wp2_with fail
   go_ret3
   exact ⟨some ⟨g,0,none⟩,c2,by rw [← aq]; rfl,Rs.own_rs enc3_len (xs:=fillAt l k y i) (by rw [fillAt_len]; exact a5.out) (own_same S1.out (fun _ _=>rfl)),.inr (fun g' ak=>by have:=ah.out g' ak; simpa using this),below_drewN B4.out _⟩
end Go.Proofs.YtaeemilldmhbnaaGreatDoor.St
namespace Go.Proofs.YtaeemilldmhbnaaGreatDoor.St
open Go.ChangeShapes Go.WideShapes Go.ChangeAt Go.RowKit Go.Deep Rw Hi
def fillR (L:List Sx) (i:Int):List Sx × Int × Bool:=if i=0 then (L,0,false) else match L.findIdx? free with
 | some k=>(match L[k]? with | some x=>(fillAt L k x i,x.1,true) | none=>(L,0,false))
 | none=>(L,0,false)
theorem fillR_len (L:List Sx) (i:Int):(fillR L i).1.length=L.length:=by
 unfold fillR
 split
 ·rfl
 ·split
  ·split
   ·exact fillAt_len _ _ _ _
   ·rfl
  ·rfl
theorem Fr.of_below {w w':World} {a b:Option Nat} (h:Below w.heap.size w w'):Fr a b w w':=⟨h.os,h.tape,h.output,h.size,fun k hk _ _=>h.block k hk⟩
theorem fillU (w:World) (B p:Nat) (r:Option Nat) (L:List Sx) (i:Int) (h:Ss w B p r L) :
  Calls Tryz.prog 205 #[.pointer (some ⟨p,0,none⟩),.int .u64 i] w fun e w'=>e=.returned (.tuple #[.int .i64 (fillR L i).2.1,.bool (fillR L i).2.2])∧Ss w' B p r (fillR L i).1∧Fr (some p) r w w':=by
 unfold fillR
 by_cases hi:i=0
 ·subst hi
  simp only [if_true]
  refine (fill_zero_any w p).mono ?_
  rintro e w' ⟨rfl,rfl⟩
  exact ⟨rfl,h,Fr.refl _ _ _⟩
 ·rw [if_neg hi]
  cases hf:L.findIdx? free with
  | none=>
   refine (fill_miss_any w B p r L i h hf hi).mono ?_
   rintro e w' ⟨rfl,hb⟩
   exact ⟨rfl,h.later hb,Fr.of_below hb⟩
  | some k=>
   obtain ⟨x,hx,_,_⟩:=ix_hit hf
   simp only [hx]
   exact fill_hit_any w B p r L i k x h hf hx hi
theorem parkU (w:World) (B p:Nat) (r:Option Nat) (L:List Sx) (t d:Int) (h:Ss w B p r L) (hn:L.length≤1000) :
  Calls Tryz.prog 13 #[.pointer (some ⟨p,0,none⟩),.int .i64 t,.int .u64 d] w fun e w'=>e=.returned (.int .i64 (parkE L t)) ∧ ∃ F,Ss w' B p F (parkL L t d)∧Fr (some p) r w w'∧(∀ g,F=some g→r=some g∨w.heap.size≤g):=by
 cases hf:L.findIdx? (hit t) with
 | none=>
  obtain ⟨u,z⟩:=park_miss (d:=d) hf
  rw [u,z]
  exact park_miss_any w B p r L t d h hf hn
 | some k=>
  obtain ⟨u,z⟩:=park_hit (d:=d) hf
  rw [u,z]
  refine (park_hit_any w B p r L t d k h hf).mono ?_
  rintro e w' ⟨rfl,hb⟩
  exact ⟨rfl,r,h.later hb,Fr.of_below hb,fun g G=>.inl G⟩
theorem rfillU (A:Option Addr) (n c:Nat) (L:List Sx) (i:Int) (w:World) (h:Rs enc3 3 w w.heap.size A n c L) (hn:n≤1000) :
  Calls Tryz.prog 99 #[.slice A n c,.int .u64 i] w fun e w'=>∃ A' z u,e=.returned (.tuple #[.slice A' z u,.int .i64 (fillR L i).2.1,.bool (fillR L i).2.2])∧Rs enc3 3 w' w'.heap.size A' z u (fillR L i).1∧New1 w w' (.slice A n c) (.slice A' z u)∧Below w.heap.size w w':=by
 unfold fillR
 by_cases hi:i=0
 ·subst hi
  simp only [if_true]
  refine (rfill_zero A n c w).mono ?_
  rintro e w' ⟨rfl,rfl⟩
  exact ⟨A,n,c,rfl,h,.inl rfl,Below.refl _ _⟩
 ·rw [if_neg hi]
  cases hf:L.findIdx? free with
  | none=>
   refine (rfill_miss A n c L i w h hi hf).mono ?_
   rintro e w' ⟨rfl,hb⟩
   exact ⟨A,n,c,rfl,h.later hb,.inl rfl,hb⟩
  | some k=>
   obtain ⟨x,hx,_,_⟩:=ix_hit hf
   simp only [hx]
   refine (rfill_hit A n c L i k x w h hi hn hf hx).mono ?_
   rintro e w' ⟨A',u,rfl,F,G,I⟩
   exact ⟨A',n,u,rfl,F,G,I⟩
end Go.Proofs.YtaeemilldmhbnaaGreatDoor.St
