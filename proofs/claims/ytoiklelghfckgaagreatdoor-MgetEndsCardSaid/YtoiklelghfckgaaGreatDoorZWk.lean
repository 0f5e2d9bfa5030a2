/- A part of the claim: the texts Wk. -/
import Derived.Test.YtoiklelghfckgaaGreatDoorZGGive
import Derived.Test.YtoiklelghfckgaaGreatDoorZMgetMath
set_option linter.unusedVariables false
namespace Go.Proofs.YtoiklelghfckgaaGreatDoor.Wo
open Go Go.ChangeShapes Go.WideShapes Go.ChangeAt Go.RowKit Go.Deep Go.Maps Rw Hi Mt Ba
open Cn (Cf cfE)
structure Wk (s:Ws) (N:List Int) (k:Nat):Prop where
 mk_:s.M=Le.mk N
 nw:U64 s.now
 lk:U64 s.leak
 ev:s.ev.length≤k
 ll:s.L.length≤k
 tl:s.T.length≤k
 sl:s.sl.length≤k
 dl:s.D.length≤k
 S:s.S.length≤k
 C:s.C.length≤k
 n_:s.n≤k
 lv:0≤s.live∧s.live≤1000
 mx:s.conf.max≤1000
 ri:Ris s.D
 su:∀ x∈s.sl,U64 x.2.2
 lu:∀ t,∀ i∈s.loc t,U64 i
abbrev gStates (st:ByteArray):Prop:=st=sOffer∨st=sFree∨st=sStash∨st=sAgain∨st=sBack∨st=sClose∨st=sUnlist∨st=sShrink∨st=sDone
section
variable {s:Ws} {N:List Int} {k:Nat}
theorem Wk.more (h:Wk s N k) {u:Nat} (hk:k≤u):Wk s N u:=
 ⟨h.mk_,h.nw,h.lk,Nat.le_trans h.ev hk,Nat.le_trans h.ll hk,Nat.le_trans h.tl hk,Nat.le_trans h.sl hk,Nat.le_trans h.dl hk,Nat.le_trans h.S hk,Nat.le_trans h.C hk,Nat.le_trans h.n_ hk,h.lv,h.mx,h.ri,h.su,h.lu⟩
theorem u64_0:U64 0:=⟨by decide,by decide⟩
theorem up_len {β:Type} (L:List (Int × β)) (id:Int) (f:β→β):(up L id f).length=L.length:=by unfold up; simp
theorem fillR_su {L:List St.Sx} (h:∀ x∈L,U64 x.2.2) {i:Int} (hi:U64 i):∀ x∈(St.fillR L i).1,U64 x.2.2:=by
 unfold St.fillR
 split
 ·exact h
 ·cases hf:L.findIdx? St.free with
  | none=>exact h
  | some k=>
   simp only
   cases hx:L[k]? with
   | none=>exact h
   | some y=>
    intro x u
    rcases List.mem_or_eq_of_mem_set u with u | rfl
    ·exact h x u
    ·exact hi
theorem takeR_su {L:List St.Sx} (h:∀ x∈L,U64 x.2.2) (t:Int):(∀ x∈(St.takeR L t).1,U64 x.2.2)∧U64 (St.takeR L t).2.1:=by
 unfold St.takeR
 cases hf:L.findIdx? (St.hit t) with
 | none=>exact ⟨h,u64_0⟩
 | some k=>
  simp only
  cases hx:L[k]? with
  | none=>exact ⟨h,u64_0⟩
  | some y=>exact ⟨fun x u=>h x (List.mem_of_mem_eraseIdx u),h y (List.mem_of_getElem? hx)⟩
theorem parkL_su {L:List St.Sx} (h:∀ x∈L,U64 x.2.2) (t d:Int):∀ x∈St.parkL L t d,U64 x.2.2:=by
 unfold St.parkL
 split
 ·exact h
 ·intro x u
  rcases List.mem_append.1 u with u | u
  ·exact h x u
  ·obtain rfl:x=(t,d,0):=by simpa using u
   exact u64_0
theorem ltakeR_lu {L:Nat→List Int} (h:∀ t,∀ i∈L t,U64 i) (t:Int):(∀ u,∀ i∈(Lc.takeR L t).1 u,U64 i)∧U64 (Lc.takeR L t).2.1:=by
 unfold Lc.takeR
 split
 ·cases hg:(L t.toNat).getLast? with
  | none=>exact ⟨h,u64_0⟩
  | some x=>
   refine ⟨fun u i hi=>?_,h _ x (List.mem_of_getLast? hg)⟩
   simp only [Lc.upd] at hi
   split at hi
   ·exact h _ i ((List.dropLast_sublist _).subset hi)
   ·exact h u i hi
 ·exact ⟨h,u64_0⟩
theorem lputR_lu {L:Nat→List Int} (h:∀ t,∀ i∈L t,U64 i) (t:Int) {x:Int} (hx:U64 x):∀ z,∀ i∈Lc.putR L t [x] z,U64 i:=by
 unfold Lc.putR
 split
 ·intro z i hi
  simp only [Lc.upd] at hi
  split at hi
  ·have u:=List.mem_of_mem_drop hi
   rcases List.mem_append.1 u with u | u
   ·exact h _ i u
   ·obtain rfl:i=x:=by simpa using u
    exact hx
  ·exact h z i hi
 ·exact h
theorem Wk.gi (h:Wk s N k) {g:Gv} (u:g.ok) (z:gStates g.st) (hk:k≤900):Gi ⟨g,s,N⟩ k:=
 ⟨h.mk_,u,h.nw,Nat.le_trans h.sl hk,h.C,h.ev,Nat.le_trans h.S hk,h.lv,z⟩
theorem Wk.give (h:Wk s N k) {g:Gv} (F:g.ok) (G:gStates g.st) (hk:k≤900):Wk (stepG ⟨g,s,N⟩).s (stepG ⟨g,s,N⟩).N (k+1)∧(stepG ⟨g,s,N⟩).g.ok∧gStates (stepG ⟨g,s,N⟩).g.st:=by
 have hi:=(h.gi F G hk).step
 have u:=h.more (Nat.le_succ k)
 refine ⟨?_,hi.ok,hi.st⟩
 suffices key:(stepG ⟨g,s,N⟩).s.leak=s.leak∧(stepG ⟨g,s,N⟩).s.L=s.L∧(stepG ⟨g,s,N⟩).s.T=s.T∧(stepG ⟨g,s,N⟩).s.n=s.n∧(stepG ⟨g,s,N⟩).s.conf=s.conf ∧
   (stepG ⟨g,s,N⟩).s.sl.length≤k+1∧(stepG ⟨g,s,N⟩).s.D.length≤k+1∧(stepG ⟨g,s,N⟩).s.S.length≤k+1∧Ris (stepG ⟨g,s,N⟩).s.D∧(∀ x∈(stepG ⟨g,s,N⟩).s.sl,U64 x.2.2)∧(∀ t,∀ i∈(stepG ⟨g,s,N⟩).s.loc t,U64 i) by
  obtain ⟨k1,k2,k3,W,Y,k6,k7,k8,k9,J,Q⟩:=key
  exact ⟨hi.mk_,hi.nw,by rw [k1]; exact h.lk,hi.el,by rw [k2]; exact u.ll,by rw [k3]; exact u.tl,k6,k7,k8,hi.cl,by rw [W]; exact u.n_,hi.lv.imp id (fun h=>h),by rw [Y]; exact h.mx,k9,J,Q⟩
 have z:∀ (st:Int) (t:ByteArray),((swapG ⟨g,s,N⟩ st t).s.D.length≤k+1∧Ris (swapG ⟨g,s,N⟩ st t).s.D):=fun st t=>by
  unfold swapG
  exact ⟨by show (up s.D g.id _).length≤_; rw [up_len]; exact u.dl,h.ri.up _⟩
 rcases G with e | e | e | e | e | e | e | e | e
 ·rw [stepG_offer e]
  unfold offerG
  split
  ·exact ⟨rfl,rfl,rfl,rfl,rfl,u.sl,u.dl,u.S,h.ri,h.su,h.lu⟩
  ·have I:=St.fillR_len s.sl g.id
   split <;> exact ⟨rfl,rfl,rfl,rfl,rfl,by show (St.fillR s.sl g.id).1.length≤k+1; rw [I]; exact u.sl,u.dl,u.S,h.ri,fillR_su h.su F.i,h.lu⟩
 ·rw [stepG_free e]
  exact ⟨rfl,rfl,rfl,rfl,rfl,u.sl,(z 0 sStash).1,u.S,(z 0 sStash).2,h.su,h.lu⟩
 ·rw [stepG_stash e]
  exact ⟨rfl,rfl,rfl,rfl,rfl,u.sl,u.dl,u.S,h.ri,h.su,lputR_lu h.lu g.th F.i⟩
 ·rw [stepG_again e]
  exact ⟨rfl,rfl,rfl,rfl,rfl,u.sl,u.dl,u.S,h.ri,h.su,h.lu⟩
 ·rw [stepG_back e]
  exact ⟨rfl,rfl,rfl,rfl,rfl,u.sl,(z 1 sOffer).1,u.S,(z 1 sOffer).2,h.su,h.lu⟩
 ·rw [stepG_close e]
  unfold closeG
  split
  ·exact ⟨rfl,rfl,rfl,rfl,rfl,u.sl,by show (up s.D g.id _).length≤_; rw [up_len]; exact u.dl,u.S,h.ri.up _,h.su,h.lu⟩
  ·exact ⟨rfl,rfl,rfl,rfl,rfl,u.sl,u.dl,u.S,h.ri,h.su,h.lu⟩
 ·rw [stepG_unlist e]
  refine ⟨rfl,rfl,rfl,rfl,rfl,u.sl,u.dl,?_,h.ri,h.su,h.lu⟩
  show (unlS s.D s.S g.id).length≤k+1
  have:=h.S
  unfold unlS; split
  ·have h2:(Sn.sWithout s.S g.id).length≤s.S.length:=List.length_filter_le _ _
   omega
  ·omega
 ·rw [stepG_shrink e]
  exact ⟨rfl,rfl,rfl,rfl,rfl,u.sl,u.dl,u.S,h.ri,h.su,h.lu⟩
 ·rw [stepG_done e]
  exact ⟨rfl,rfl,rfl,rfl,rfl,u.sl,u.dl,u.S,h.ri,h.su,h.lu⟩
end
section
variable {s:Ws} {N:List Int} {k:Nat}
theorem Wk.live (h:Wk s N k) {l:Int} (u:0≤l∧l≤1000):Wk { s with live:=l } N k:=⟨h.mk_,h.nw,h.lk,h.ev,h.ll,h.tl,h.sl,h.dl,h.S,h.C,h.n_,u,h.mx,h.ri,h.su,h.lu⟩
theorem Wk.shr (h:Wk s N k):Wk { s with live:=shrV s.live } N k:=h.live (by have:=h.lv; unfold shrV; split <;> omega)
theorem Wk.grw (h:Wk s N k):Wk { s with live:=grwV s.live s.conf.max } N k:=h.live (by have:=h.lv; have:=h.mx; unfold grwV; split <;> omega)
theorem Wk.shut (h:Wk s N k) (b:Bool):Wk { s with closed:=b } N k:=⟨h.mk_,h.nw,h.lk,h.ev,h.ll,h.tl,h.sl,h.dl,h.S,h.C,h.n_,h.lv,h.mx,h.ri,h.su,h.lu⟩
theorem Wk.now (h:Wk s N k) {i:Int} (hi:U64 i):Wk { s with now:=i } N k:=⟨h.mk_,hi,h.lk,h.ev,h.ll,h.tl,h.sl,h.dl,h.S,h.C,h.n_,h.lv,h.mx,h.ri,h.su,h.lu⟩
theorem Wk.loc (h:Wk s N k) {l:Nat→List Int} (u:∀ t,∀ i∈l t,U64 i):Wk { s with loc:=l } N k:=⟨h.mk_,h.nw,h.lk,h.ev,h.ll,h.tl,h.sl,h.dl,h.S,h.C,h.n_,h.lv,h.mx,h.ri,h.su,u⟩
theorem Wk.slots (h:Wk s N k) {l:List St.Sx} (hn:l.length≤k) (u:∀ x∈l,U64 x.2.2):Wk { s with sl:=l } N k:=⟨h.mk_,h.nw,h.lk,h.ev,h.ll,h.tl,hn,h.dl,h.S,h.C,h.n_,h.lv,h.mx,h.ri,u,h.lu⟩
theorem Wk.up (h:Wk s N k) (id:Int) (f:Ex→Ex):Wk { s with D:=Ba.up s.D id f } N k:=⟨h.mk_,h.nw,h.lk,h.ev,h.ll,h.tl,h.sl,by show (Ba.up s.D id f).length≤k; rw [up_len]; exact h.dl,h.S,h.C,h.n_,h.lv,h.mx,h.ri.up _,h.su,h.lu⟩
theorem Wk.pt (h:Wk s N k) (th op id e:Int):Wk (ptS s th op id e) N (k+1):=by
 have u:=h.more (Nat.le_succ k)
 exact ⟨u.mk_,u.nw,u.lk,by show (s.ev ++ [_]).length≤k+1; have:=h.ev; rw [List.length_append]; simp; omega,u.ll,u.tl,u.sl,u.dl,u.S,u.C,u.n_,u.lv,u.mx,u.ri,u.su,u.lu⟩
theorem Wk.lease (h:Wk s N k) (hk:k≤900) (id th now:Int):Wk { s with L:=Le.bL s.L id th now,T:=Le.bT s.leak s.L s.T id th now } N (k+1):=by
 have u:=h.more (Nat.le_succ k)
 have z:=Le.bL_len s.L id th now
 have F:=Le.bT_len s.leak s.L (T:=s.T) id th now (by have:=h.tl; omega)
 exact ⟨u.mk_,u.nw,u.lk,u.ev,by show (Le.bL s.L id th now).length≤k+1; have:=h.ll; omega,by show (Le.bT s.leak s.L s.T id th now).length≤k+1; have:=h.tl; omega,u.sl,u.dl,u.S,u.C,u.n_,u.lv,u.mx,u.ri,u.su,u.lu⟩
theorem Wk.has (h:Wk s N k) (hk:k≤900) (id th now I G F z:Int):Wk (ptS { s with L:=Le.bL s.L id th now,T:=Le.bT s.leak s.L s.T id th now } I G F z) N (k+1):=by
 have u:=h.lease hk id th now
 exact ⟨u.mk_,u.nw,u.lk,by show (s.ev ++ [_]).length≤k+1; have:=h.ev; rw [List.length_append]; simp; omega,u.ll,u.tl,u.sl,u.dl,u.S,u.C,u.n_,u.lv,u.mx,u.ri,u.su,u.lu⟩
theorem Wk.open_ (h:Wk s N k):Wk { s with O:=(Fc.nx s.O).2,n:=opnN s.O s.n } N (k+1):=by
 have u:=h.more (Nat.le_succ k)
 exact ⟨u.mk_,u.nw,u.lk,u.ev,u.ll,u.tl,u.sl,u.dl,u.S,u.C,by show opnN s.O s.n≤k+1; have:=h.n_; unfold opnN; split <;> omega,u.lv,u.mx,u.ri,u.su,u.lu⟩
theorem Wk.opens (h:Wk s N k) (id st now:Int):Wk { s with O:=(Fc.nx s.O).2,n:=opnN s.O s.n,D:=entD s.D id st now } N (k+1):=by
 have u:=h.open_
 refine ⟨u.mk_,u.nw,u.lk,u.ev,u.ll,u.tl,u.sl,?_,u.S,u.C,u.n_,u.lv,u.mx,?_,u.su,u.lu⟩
 ·show (entD s.D id st now).length≤k+1
  have:=entD_len h.ri id st now
  have:=h.dl
  omega
 ·show Ris (entD s.D id st now)
  unfold entD; split
  ·exact h.ri.ins _
  ·exact h.ri
theorem Wk.pub (h:Wk s N k) (id:Int):Wk { s with S:=pubS s.D s.S id } N (k+1):=by
 have u:=h.more (Nat.le_succ k)
 refine ⟨u.mk_,u.nw,u.lk,u.ev,u.ll,u.tl,u.sl,u.dl,?_,u.C,u.n_,u.lv,u.mx,u.ri,u.su,u.lu⟩
 show (pubS s.D s.S id).length≤k+1
 have:=Sn.sWith_len s.S id
 have:=h.S
 unfold pubS; split <;> omega
theorem Wk.rem (h:Wk s N k) (id old th op:Int):Wk (remS s N id old th op) (N.filter (· != id)) (k+1):=by
 have u:=h.more (Nat.le_succ k)
 refine ⟨rfl,u.nw,u.lk,?_,u.ll,u.tl,u.sl,?_,u.S,?_,u.n_,u.lv,u.mx,h.ri.up _,u.su,u.lu⟩
 ·show (s.ev ++ [_]).length≤k+1
  have:=h.ev
  rw [List.length_append]; simp; omega
 ·show (Ba.up s.D id _).length≤k+1
  rw [up_len]; exact u.dl
 ·show (clsC s.n s.C id).length≤k+1
  have:=h.C
  unfold clsC; split
  ·rw [List.length_append]; simp; omega
  ·omega
theorem Wk.park (h:Wk s N k) (t d:Int):Wk { s with sl:=St.parkL s.sl t d } N (k+1):=by
 have u:=h.more (Nat.le_succ k)
 exact u.slots (by have:=St.park_len s.sl t d; have:=h.sl; omega) (parkL_su h.su t d)
theorem Wk.take (h:Wk s N k) (t:Int):Wk { s with sl:=(St.takeR s.sl t).1 } N k:=
 h.slots (Nat.le_trans (St.takeR_len s.sl t) h.sl) (takeR_su h.su t).1
theorem Wk.ltake (h:Wk s N k) (t:Int):Wk { s with loc:=(Lc.takeR s.loc t).1 } N k:=h.loc (ltakeR_lu h.lu t).1
end
end Go.Proofs.YtoiklelghfckgaaGreatDoor.Wo
