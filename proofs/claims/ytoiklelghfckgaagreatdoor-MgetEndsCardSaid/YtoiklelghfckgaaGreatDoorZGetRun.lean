/- A part of the claim: the texts GetRun. -/
import Derived.Test.YtoiklelghfckgaaGreatDoorZMgetB
import Derived.Test.YtoiklelghfckgaaGreatDoorZWk
import Derived.Test.YtoiklelghfckgaaGreatDoorZTables
import Derived.Test.YtoiklelghfckgaaGreatDoorZMget
import Derived.Test.YtoiklelghfckgaaGreatDoorZGGive
set_option maxRecDepth 100000
set_option maxHeartbeats 8000000
set_option linter.unusedVariables false
namespace Go.Proofs.YtoiklelghfckgaaGreatDoor.Wo
open Go Go.ChangeShapes Go.WideShapes Go.ChangeAt Go.RowKit Go.Deep Go.Maps Rw Hi Mt Ba
open Cn (Cf cfE)
def gOk (st:ByteArray):Prop:=st=gStart∨st=gNear∨st=gSnap∨st=gLoad∨st=gSwap∨st=gGrow∨st=gOpen∨st=gShrink∨st=gPublish∨st=gDrop∨st=gUnlive∨st=gPark∨st=gWait∨st=gLeave∨st=gDone
theorem gOk.Start:gOk gStart:=.inl rfl
theorem gOk.Near:gOk gNear:=.inr (.inl rfl)
theorem gOk.Snap:gOk gSnap:=.inr (.inr (.inl rfl))
theorem gOk.Load:gOk gLoad:=.inr (.inr (.inr (.inl rfl)))
theorem gOk.Swap:gOk gSwap:=.inr (.inr (.inr (.inr (.inl rfl))))
theorem gOk.Grow:gOk gGrow:=.inr (.inr (.inr (.inr (.inr (.inl rfl)))))
theorem gOk.Open:gOk gOpen:=.inr (.inr (.inr (.inr (.inr (.inr (.inl rfl))))))
theorem gOk.Shrink:gOk gShrink:=.inr (.inr (.inr (.inr (.inr (.inr (.inr (.inl rfl)))))))
theorem gOk.Publish:gOk gPublish:=.inr (.inr (.inr (.inr (.inr (.inr (.inr (.inr (.inl rfl))))))))
theorem gOk.Drop:gOk gDrop:=.inr (.inr (.inr (.inr (.inr (.inr (.inr (.inr (.inr (.inl rfl)))))))))
theorem gOk.Unlive:gOk gUnlive:=.inr (.inr (.inr (.inr (.inr (.inr (.inr (.inr (.inr (.inr (.inl rfl))))))))))
theorem gOk.Park:gOk gPark:=.inr (.inr (.inr (.inr (.inr (.inr (.inr (.inr (.inr (.inr (.inr (.inl rfl)))))))))))
theorem gOk.Wait:gOk gWait:=.inr (.inr (.inr (.inr (.inr (.inr (.inr (.inr (.inr (.inr (.inr (.inr (.inl rfl))))))))))))
theorem gOk.Leave:gOk gLeave:=.inr (.inr (.inr (.inr (.inr (.inr (.inr (.inr (.inr (.inr (.inr (.inr (.inr (.inl rfl)))))))))))))
theorem gOk.Done:gOk gDone:=.inr (.inr (.inr (.inr (.inr (.inr (.inr (.inr (.inr (.inr (.inr (.inr (.inr (.inr (rfl))))))))))))))
theorem stepM_Start {m:Mg} (e:m.q.st=gStart) (A:Option Addr) (n c:Nat):stepM m A n c=startM m:=by unfold stepM; rw [e,if_pos rfl]
theorem stepM_Near {m:Mg} (e:m.q.st=gNear) (A:Option Addr) (n c:Nat):stepM m A n c=nearM m:=by unfold stepM; rw [e,if_neg (by decide),if_pos rfl]
theorem stepM_Snap {m:Mg} (e:m.q.st=gSnap) (A:Option Addr) (n c:Nat):stepM m A n c=snapM m A n c:=by unfold stepM; rw [e,if_neg (by decide),if_neg (by decide),if_pos rfl]
theorem stepM_Load {m:Mg} (e:m.q.st=gLoad) (A:Option Addr) (n c:Nat):stepM m A n c=loadM m:=by unfold stepM; rw [e,if_neg (by decide),if_neg (by decide),if_neg (by decide),if_pos rfl]
theorem stepM_Swap {m:Mg} (e:m.q.st=gSwap) (A:Option Addr) (n c:Nat):stepM m A n c=swapM m:=by unfold stepM; rw [e,if_neg (by decide),if_neg (by decide),if_neg (by decide),if_neg (by decide),if_pos rfl]
theorem stepM_Grow {m:Mg} (e:m.q.st=gGrow) (A:Option Addr) (n c:Nat):stepM m A n c=growM m:=by unfold stepM; rw [e,if_neg (by decide),if_neg (by decide),if_neg (by decide),if_neg (by decide),if_neg (by decide),if_pos rfl]
theorem stepM_Open {m:Mg} (e:m.q.st=gOpen) (A:Option Addr) (n c:Nat):stepM m A n c=openM m:=by unfold stepM; rw [e,if_neg (by decide),if_neg (by decide),if_neg (by decide),if_neg (by decide),if_neg (by decide),if_neg (by decide),if_pos rfl]
theorem stepM_Shrink {m:Mg} (e:m.q.st=gShrink) (A:Option Addr) (n c:Nat):stepM m A n c=shrinkM m:=by unfold stepM; rw [e,if_neg (by decide),if_neg (by decide),if_neg (by decide),if_neg (by decide),if_neg (by decide),if_neg (by decide),if_neg (by decide),if_pos rfl]
theorem stepM_Publish {m:Mg} (e:m.q.st=gPublish) (A:Option Addr) (n c:Nat):stepM m A n c=publishM m:=by unfold stepM; rw [e,if_neg (by decide),if_neg (by decide),if_neg (by decide),if_neg (by decide),if_neg (by decide),if_neg (by decide),if_neg (by decide),if_neg (by decide),if_pos rfl]
theorem stepM_Drop {m:Mg} (e:m.q.st=gDrop) (A:Option Addr) (n c:Nat):stepM m A n c=dropM m:=by unfold stepM; rw [e,if_neg (by decide),if_neg (by decide),if_neg (by decide),if_neg (by decide),if_neg (by decide),if_neg (by decide),if_neg (by decide),if_neg (by decide),if_neg (by decide),if_pos rfl]
theorem stepM_Unlive {m:Mg} (e:m.q.st=gUnlive) (A:Option Addr) (n c:Nat):stepM m A n c=unliveM m:=by unfold stepM; rw [e,if_neg (by decide),if_neg (by decide),if_neg (by decide),if_neg (by decide),if_neg (by decide),if_neg (by decide),if_neg (by decide),if_neg (by decide),if_neg (by decide),if_neg (by decide),if_pos rfl]
theorem stepM_Park {m:Mg} (e:m.q.st=gPark) (A:Option Addr) (n c:Nat):stepM m A n c=parkM m:=by unfold stepM; rw [e,if_neg (by decide),if_neg (by decide),if_neg (by decide),if_neg (by decide),if_neg (by decide),if_neg (by decide),if_neg (by decide),if_neg (by decide),if_neg (by decide),if_neg (by decide),if_neg (by decide),if_pos rfl]
theorem stepM_Wait {m:Mg} (e:m.q.st=gWait) (A:Option Addr) (n c:Nat):stepM m A n c=waitM m:=by unfold stepM; rw [e,if_neg (by decide),if_neg (by decide),if_neg (by decide),if_neg (by decide),if_neg (by decide),if_neg (by decide),if_neg (by decide),if_neg (by decide),if_neg (by decide),if_neg (by decide),if_neg (by decide),if_neg (by decide),if_pos rfl]
theorem stepM_Leave {m:Mg} (e:m.q.st=gLeave) (A:Option Addr) (n c:Nat):stepM m A n c=leaveM m:=by unfold stepM; rw [e,if_neg (by decide),if_neg (by decide),if_neg (by decide),if_neg (by decide),if_neg (by decide),if_neg (by decide),if_neg (by decide),if_neg (by decide),if_neg (by decide),if_neg (by decide),if_neg (by decide),if_neg (by decide),if_neg (by decide),if_pos rfl]
theorem stepM_Extra {m:Mg} (e:m.q.st=gExtra) (A:Option Addr) (n c:Nat):stepM m A n c=extraM m:=by unfold stepM; rw [e,if_neg (by decide),if_neg (by decide),if_neg (by decide),if_neg (by decide),if_neg (by decide),if_neg (by decide),if_neg (by decide),if_neg (by decide),if_neg (by decide),if_neg (by decide),if_neg (by decide),if_neg (by decide),if_neg (by decide),if_neg (by decide),if_pos rfl]
theorem stepM_Done {m:Mg} (e:m.q.st=gDone) (A:Option Addr) (n c:Nat):stepM m A n c=m:=by unfold stepM; rw [e,if_neg (by decide),if_neg (by decide),if_neg (by decide),if_neg (by decide),if_neg (by decide),if_neg (by decide),if_neg (by decide),if_neg (by decide),if_neg (by decide),if_neg (by decide),if_neg (by decide),if_neg (by decide),if_neg (by decide),if_neg (by decide),if_neg (by decide)]
structure Gk (m:Mg) (k:Nat):Prop where
 w:Wk m.s m.N k
 i:U64 m.q.id
 wd:U64 m.q.word
 du:U64 m.q.dl
 st:gOk m.q.st∨(m.q.st=gExtra∧m.q.g.ok∧gStates m.q.g.st)
structure Gsame (q r:Gt):Prop where
 A:r.A=q.A
 n:r.n=q.n
 c:r.c=q.c
 S:r.S=q.S
 dl:r.dl=q.dl
section
variable {m:Mg} {k:Nat}
theorem Gk.hok (h:Gk m k) (hk:k≤900):Hok m:=⟨h.w.mk_,by have:=h.w.ev; omega,by have:=h.w.ll; omega,by have:=h.w.tl; omega,h.w.lk,h.w.nw⟩
theorem lookM_gk (q:Gt) (p:Int) (h:Sn.U64s q.S) (hi:U64 q.id):U64 (lookM q p).id∧(lookM q p).word=q.word∧gOk (lookM q p).st∧Gsame q (lookM q p):=by
 unfold lookM
 split
 ·refine ⟨?_,rfl,gOk.Load,rfl,rfl,rfl,rfl,rfl⟩
  show U64 ((q.S[p.toNat]?).getD 0)
  cases hx:q.S[p.toNat]? with
  | none=>exact ⟨by decide,by decide⟩
  | some i=>exact h i (List.mem_of_getElem? hx)
 ·split
  ·exact ⟨hi,rfl,gOk.Wait,rfl,rfl,rfl,rfl,rfl⟩
  ·exact ⟨hi,rfl,gOk.Grow,rfl,rfl,rfl,rfl,rfl⟩
theorem nextM_gk (q:Gt) (h:Sn.U64s q.S) (hi:U64 q.id):U64 (nextM q).id∧(nextM q).word=q.word∧gOk (nextM q).st∧Gsame q (nextM q):=by
 unfold nextM
 split
 ·exact ⟨hi,rfl,gOk.Near,rfl,rfl,rfl,rfl,rfl⟩
 ·exact lookM_gk q _ h hi
theorem Gk.next (h:Gk m k) (I:Sn.U64s m.q.S) {s:Ws} (hw:Wk s m.N (k+1)):Gk { m with q:=nextM m.q,s:=s } (k+1):=by
 obtain ⟨u,z,F,G⟩:=nextM_gk m.q I h.i
 exact ⟨hw,u,by show U64 (nextM m.q).word; rw [z]; exact h.wd,by show U64 (nextM m.q).dl; rw [G.dl]; exact h.du,.inl F⟩
theorem Gk.ends {q:Gt} {s:Ws} {N:List Int} (hw:Wk s N k) (hi:U64 q.id) (u:U64 q.word) (h:U64 q.dl) (e:Int):Gk (endsM ⟨q,s,N⟩ e) (k+1)∧Gsame q (endsM ⟨q,s,N⟩ e).q:=by
 unfold endsM
 exact ⟨⟨hw.pt _ _ _ _,hi,u,h,.inl gOk.Done⟩,rfl,rfl,rfl,rfl,rfl⟩
theorem Gk.ups {q:Gt} {s:Ws} {N:List Int} (hw:Wk s N k) (hi:U64 q.id) (u:U64 q.word) (h:U64 q.dl) (e:Int):Gk (upM ⟨q,s,N⟩ e) (k+1)∧Gsame q (upM ⟨q,s,N⟩ e).q:=by
 unfold upM
 split
 ·exact ⟨⟨hw.more (Nat.le_succ k),hi,u,h,.inl gOk.Leave⟩,rfl,rfl,rfl,rfl,rfl⟩
 ·exact Gk.ends hw hi u h e
theorem Gk.has {q:Gt} {s:Ws} {N:List Int} (hw:Wk s N k) (hk:k≤900) (hi:U64 q.id) (u:U64 q.word) (h:U64 q.dl) (id:Int):Gk (hasM ⟨q,s,N⟩ id) (k+1)∧Gsame q (hasM ⟨q,s,N⟩ id).q:=by
 unfold hasM
 exact ⟨⟨hw.has hk _ _ _ _ _ _ _,hi,u,h,.inl gOk.Done⟩,rfl,rfl,rfl,rfl,rfl⟩
theorem Gk.own {q:Gt} {s:Ws} {N:List Int} (hw:Wk s N k) (hk:k≤900) (hi:U64 q.id) (z:U64 q.word) (u:U64 q.dl):Gk (ownM ⟨q,s,N⟩) (k+1)∧Gsame q (ownM ⟨q,s,N⟩).q:=by
 unfold ownM
 split
 ·have h:=(Gk.has hw hk hi z u q.id).1
  exact ⟨⟨h.w,h.i,h.wd,h.du,.inl gOk.Leave⟩,rfl,rfl,rfl,rfl,rfl⟩
 ·exact Gk.has hw hk hi z u q.id
theorem Gk.ownp {q:Gt} {s:Ws} {N:List Int} (hw:Wk s N k) (hk:k≤900) (hi:U64 q.id) (F:U64 q.word) (z:U64 q.dl) (S:List Int) (u:S.length≤k+1):Gk (ownM ⟨q,{ s with S:=S },N⟩) (k+1)∧Gsame q (ownM ⟨q,{ s with S:=S },N⟩).q:=by
 obtain ⟨a,b⟩:=Gk.own hw hk hi F z
 unfold ownM at a b ⊢
 simp only at a b ⊢
 split
 ·next h=>
  rw [if_pos h] at a b
  exact ⟨⟨⟨a.w.mk_,a.w.nw,a.w.lk,a.w.ev,a.w.ll,a.w.tl,a.w.sl,a.w.dl,u,a.w.C,a.w.n_,a.w.lv,a.w.mx,a.w.ri,a.w.su,a.w.lu⟩,a.i,a.wd,a.du,a.st⟩,rfl,rfl,rfl,rfl,rfl⟩
 ·next h=>
  rw [if_neg h] at a b
  exact ⟨⟨⟨a.w.mk_,a.w.nw,a.w.lk,a.w.ev,a.w.ll,a.w.tl,a.w.sl,a.w.dl,u,a.w.C,a.w.n_,a.w.lv,a.w.mx,a.w.ri,a.w.su,a.w.lu⟩,a.i,a.wd,a.du,a.st⟩,rfl,rfl,rfl,rfl,rfl⟩
theorem Gk.step (h:Gk m k) (hk:k≤900) (z:Sn.U64s m.q.S) (hW:U64 (bW m.s.D m.q.id)) (a0:∀ id,U64 (bW m.s.D id)) (A:Option Addr) (n c:Nat) (Y:m.q.st=gSnap→Sn.U64s m.s.S):Gk (stepM m A n c) (k+1)∧(m.q.st≠gSnap→Gsame m.q (stepM m A n c).q):=by
 have u:=h.w.more (Nat.le_succ k)
 have F:Gsame m.q m.q:=⟨rfl,rfl,rfl,rfl,rfl⟩
 rcases h.st with (e | e | e | e | e | e | e | e | e | e | e | e | e | e | e) | ⟨e,hg,hgs⟩
 ·rw [stepM_Start e]
  unfold startM
  split
  ·have:=Gk.ends h.w h.i h.wd h.du 6; exact ⟨this.1,fun _=>this.2⟩
  ·exact ⟨⟨u,h.i,h.wd,h.du,.inl gOk.Near⟩,fun _=>⟨rfl,rfl,rfl,rfl,rfl⟩⟩
 ·rw [stepM_Near e]
  unfold nearM
  split
  ·exact ⟨⟨u.ltake _,(ltakeR_lu h.w.lu m.q.th).2,h.wd,h.du,.inl gOk.Load⟩,fun _=>⟨rfl,rfl,rfl,rfl,rfl⟩⟩
  ·exact ⟨⟨u.ltake _,h.i,h.wd,h.du,.inl gOk.Snap⟩,fun _=>⟨rfl,rfl,rfl,rfl,rfl⟩⟩
 ·rw [stepM_Snap e]
  refine ⟨?_,fun hn=>absurd e hn⟩
  unfold snapM
  obtain ⟨I,J,Q,W⟩:=lookM_gk { m.q with A:=A,n:=n,c:=c,S:=m.s.S,near:=false } 0 (Y e) h.i
  exact ⟨u,I,by show U64 (lookM _ 0).word; rw [J]; exact h.wd,by show U64 (lookM _ 0).dl; rw [W.dl]; exact h.du,.inl Q⟩
 ·rw [stepM_Load e]
  unfold loadM
  split
  ·exact ⟨⟨u,h.i,hW,h.du,.inl gOk.Swap⟩,fun _=>⟨rfl,rfl,rfl,rfl,rfl⟩⟩
  ·exact ⟨h.next z u,fun _=>(nextM_gk m.q z h.i).2.2.2⟩
 ·rw [stepM_Swap e]
  unfold swapM
  simp only
  split
  ·next hb=>
   have:=Gk.own (q:={ m.q with word:=bV m.s.D m.q.id m.q.word 1 }) (s:={ m.s with D:=up m.s.D m.q.id (exS m.q.word 1 m.s.now) }) (N:=m.N) (h.w.up _ _) hk h.i (bV_ok hb h.wd) h.du
   exact ⟨this.1,fun _=>⟨this.2.A,this.2.n,this.2.c,this.2.S,this.2.dl⟩⟩
  ·exact ⟨h.next z (u.up _ _),fun _=>(nextM_gk m.q z h.i).2.2.2⟩
 ·rw [stepM_Grow e]
  unfold growM
  simp only
  split
  ·exact ⟨⟨u.grw,h.i,h.wd,h.du,.inl gOk.Open⟩,fun _=>⟨rfl,rfl,rfl,rfl,rfl⟩⟩
  ·split
   ·exact ⟨⟨u.grw,h.i,h.wd,h.du,.inl gOk.Wait⟩,fun _=>⟨rfl,rfl,rfl,rfl,rfl⟩⟩
   ·exact ⟨⟨u.grw,h.i,h.wd,h.du,.inl gOk.Park⟩,fun _=>⟨rfl,rfl,rfl,rfl,rfl⟩⟩
 ·rw [stepM_Open e]
  have hn:=h.w.n_
  unfold openM
  simp only
  split
  ·exact ⟨⟨h.w.opens _ _ _,by show U64 (opnI m.s.O m.s.n); unfold opnI; split <;> constructor <;> omega,(show U64 (1:Int) from ⟨by decide,by decide⟩),h.du,.inl gOk.Publish⟩,fun _=>⟨rfl,rfl,rfl,rfl,rfl⟩⟩
  ·exact ⟨⟨h.w.open_,h.i,h.wd,h.du,.inl gOk.Shrink⟩,fun _=>⟨rfl,rfl,rfl,rfl,rfl⟩⟩
 ·rw [stepM_Shrink e]
  unfold shrinkM
  have:=Gk.ups (q:=m.q) (s:={ m.s with live:=shrV m.s.live }) (N:=m.N) h.w.shr h.i h.wd h.du 8
  exact ⟨this.1,fun _=>this.2⟩
 ·rw [stepM_Publish e]
  unfold publishM
  split
  ·have G:=h.w.pub m.q.id
   have hw:Wk { m.s with S:=pubS m.s.D m.s.S m.q.id } m.N (k+1):=G
   obtain ⟨a,b⟩:=Gk.ownp (q:=m.q) (N:=m.N) h.w hk h.i h.wd h.du (pubS m.s.D m.s.S m.q.id) G.S
   exact ⟨a,fun _=>b⟩
  ·exact ⟨⟨u,h.i,h.wd,h.du,.inl gOk.Drop⟩,fun _=>⟨rfl,rfl,rfl,rfl,rfl⟩⟩
 ·rw [stepM_Drop e]
  unfold dropM
  split
  ·exact ⟨⟨h.w.rem _ _ _ _,h.i,h.wd,h.du,.inl gOk.Unlive⟩,fun _=>⟨rfl,rfl,rfl,rfl,rfl⟩⟩
  ·exact ⟨⟨u,h.i,h.wd,h.du,.inl gOk.Unlive⟩,fun _=>⟨rfl,rfl,rfl,rfl,rfl⟩⟩
 ·rw [stepM_Unlive e]
  unfold unliveM
  have:=Gk.ups (q:=m.q) (s:={ m.s with live:=shrV m.s.live }) (N:=m.N) h.w.shr h.i h.wd h.du 6
  exact ⟨this.1,fun _=>this.2⟩
 ·rw [stepM_Park e]
  unfold parkM
  exact ⟨⟨h.w.park _ _,h.i,h.wd,h.du,.inl gOk.Snap⟩,fun _=>⟨rfl,rfl,rfl,rfl,rfl⟩⟩
 ·rw [stepM_Wait e]
  unfold waitM
  split
  ·exact ⟨⟨u,h.i,h.wd,h.du,.inl gOk.Leave⟩,fun _=>⟨rfl,rfl,rfl,rfl,rfl⟩⟩
  split
  ·have:=Gk.ups (q:=m.q) (s:=m.s) (N:=m.N) h.w h.i h.wd h.du 6; exact ⟨this.1,fun _=>this.2⟩
  split
  ·have:=Gk.ups (q:=m.q) (s:=m.s) (N:=m.N) h.w h.i h.wd h.du 7; exact ⟨this.1,fun _=>this.2⟩
  split
  ·exact ⟨⟨u,h.i,h.wd,h.du,.inl gOk.Grow⟩,fun _=>⟨rfl,rfl,rfl,rfl,rfl⟩⟩
  ·exact ⟨⟨u,h.i,h.wd,h.du,.inl (e ▸ gOk.Wait)⟩,fun _=>F⟩
 ·rw [stepM_Leave e]
  have a5:=(takeR_su h.w.su m.q.th).2
  unfold leaveM
  simp only
  split
  ·exact ⟨⟨u.take _,h.i,h.wd,h.du,.inr ⟨rfl,⟨a5,a0 _⟩,.inl rfl⟩⟩,fun _=>⟨rfl,rfl,rfl,rfl,rfl⟩⟩
  split
  ·have:=Gk.has (q:={ m.q with parked:=false }) (s:={ m.s with sl:=(St.takeR m.s.sl m.q.th).1 }) (N:=m.N) (h.w.take _) hk h.i h.wd h.du (St.takeR m.s.sl m.q.th).2.1
   exact ⟨this.1,fun _=>⟨this.2.A,this.2.n,this.2.c,this.2.S,this.2.dl⟩⟩
  split
  ·exact ⟨⟨u.take _,h.i,h.wd,h.du,.inl gOk.Done⟩,fun _=>⟨rfl,rfl,rfl,rfl,rfl⟩⟩
  ·have:=Gk.ends (q:={ m.q with parked:=false }) (s:={ m.s with sl:=(St.takeR m.s.sl m.q.th).1 }) (N:=m.N) (h.w.take _) h.i h.wd h.du m.q.wish
   exact ⟨this.1,fun _=>⟨this.2.A,this.2.n,this.2.c,this.2.S,this.2.dl⟩⟩
 ·rw [stepM_Done e]
  exact ⟨⟨u,h.i,h.wd,h.du,.inl (e ▸ gOk.Done)⟩,fun _=>F⟩
 ·rw [stepM_Extra e]
  obtain ⟨a,b,c⟩:=h.w.give hg hgs hk
  unfold extraM
  refine ⟨⟨a,h.i,h.wd,h.du,?_⟩,fun _=>⟨rfl,rfl,rfl,rfl,rfl⟩⟩
  simp only
  split
  ·exact .inl gOk.Done
  ·exact .inr ⟨e,b,c⟩
end
abbrev Gpost (base:Nat) (col:Nat→Nat) (x:Wp) (w:World) (m:Mg) (k:Nat) (e:Ending) (w':World):Prop:=
 ∃ A n c,e=.returned (stepM m A n c).q.val∧(∃ col',Wv base col' w' x (stepM m A n c).s∧Fw col w w'∧El w col col'∧Lr base col' w' (stepM m A n c).q.A (stepM m A n c).q.n (stepM m A n c).q.c (stepM m A n c).q.S)∧Gk (stepM m A n c) (k+1)
theorem get_step (w:World) {base:Nat} {J:Nat→Nat} {x:Wp} {m:Mg} {k:Nat} (h:Wv base J w x m.s) (hi:Gk m k) (hk:k≤900) (Q:Lr base J w m.q.A m.q.n m.q.c m.q.S) :
  Calls Tryz.prog 9 #[m.q.val,ptr x.pw] w (Gpost base J x w m k):=by
 have Y:=bW_u64 w x.pb x.ab m.s.S h.bag
 have a0:m.s.ev.length≤1000:=by have:=hi.w.ev; omega
 have ho:=hi.hok hk
 have key:m.q.st≠gSnap → ∀ w' col',Wv base col' w' x (stepM m none 0 0).s→Fw J w w'→El w J col'→Gpost base J x w m k (.returned (stepM m none 0 0).q.val) w':=fun hn w' col' F u z=>by
  obtain ⟨a,b⟩:=hi.step hk Q.us (Y _) Y none 0 0 (fun e=>absurd e hn)
  have b:=b hn
  exact ⟨none,0,0,rfl,⟨col',F,u,z,by rw [b.A,b.n,b.c,b.S]; exact Q.fw u z⟩,a⟩
 rcases hi.st with (e | e | e | e | e | e | e | e | e | e | e | e | e | e | e) | ⟨e,hg,hgs⟩
 ·have es:=stepM_Start e none 0 0
  refine (gt_act w _ (startM m).q h 89 (by rw [e]; kernel_rfl) (by rw [e]; decide) (enters_of Tryz.func89 (by kernel_rfl) rfl _) (fun W I u=>mstart_any W m u a0)).mono ?_
  rintro G w' ⟨rfl,col',F,u,z⟩
  have q:=key (by rw [e]; decide) w' col' (by rw [es]; exact F) u z
  rw [es] at q
  exact q
 ·have es:=stepM_Near e none 0 0
  refine (gt_act w _ (nearM m).q h 90 (by rw [e]; kernel_rfl) (by rw [e]; decide) (enters_of Tryz.func90 (by kernel_rfl) rfl _) (fun W I u=>mnear_any W m u)).mono ?_
  rintro G w' ⟨rfl,col',F,u,z⟩
  have q:=key (by rw [e]; decide) w' col' (by rw [es]; exact F) u z
  rw [es] at q
  exact q
 ·refine (gt_actL w _ (fun A n c=>(snapM m A n c).q) h 91 (by rw [e]; kernel_rfl) (by rw [e]; decide) (enters_of Tryz.func91 (by kernel_rfl) rfl _) (fun W I u=>msnap_any W m u)).mono ?_
  rintro G w' ⟨A,n,c,rfl,col',F,u,z,h4⟩
  have es:=stepM_Snap e A n c
  obtain ⟨a,-⟩:=hi.step hk Q.us (Y _) Y A n c (fun _=>h4.us)
  have hs:=(lookM_gk { m.q with A:=A,n:=n,c:=c,S:=m.s.S,near:=false } 0 h4.us hi.i).2.2.2
  refine ⟨A,n,c,by rw [es],⟨col',by rw [es]; exact F,u,z,?_⟩,a⟩
  rw [es]
  show Lr base col' w' (lookM { m.q with A:=A,n:=n,c:=c,S:=m.s.S,near:=false } 0).A (lookM { m.q with A:=A,n:=n,c:=c,S:=m.s.S,near:=false } 0).n (lookM { m.q with A:=A,n:=n,c:=c,S:=m.s.S,near:=false } 0).c (lookM { m.q with A:=A,n:=n,c:=c,S:=m.s.S,near:=false } 0).S
  rw [hs.A,hs.n,hs.c,hs.S]
  exact h4
 ·have es:=stepM_Load e none 0 0
  refine (gt_actR w _ (loadM m).q h Q 92 (by rw [e]; kernel_rfl) (by rw [e]; decide) (enters_of Tryz.func92 (by kernel_rfl) rfl _) (fun W I u hl=>mload_any W m u hi.i hl)).mono ?_
  rintro G w' ⟨rfl,col',F,u,z⟩
  have q:=key (by rw [e]; decide) w' col' (by rw [es]; exact F) u z
  rw [es] at q
  exact q
 ·have es:=stepM_Swap e none 0 0
  refine (gt_actR w _ (swapM m).q h Q 93 (by rw [e]; kernel_rfl) (by rw [e]; decide) (enters_of Tryz.func93 (by kernel_rfl) rfl _) (fun W I u hl=>mswap_any W m u ho hi.i hi.wd hl)).mono ?_
  rintro G w' ⟨rfl,col',F,u,z⟩
  have q:=key (by rw [e]; decide) w' col' (by rw [es]; exact F) u z
  rw [es] at q
  exact q
 ·have es:=stepM_Grow e none 0 0
  refine (gt_act w _ (growM m).q h 94 (by rw [e]; kernel_rfl) (by rw [e]; decide) (enters_of Tryz.func94 (by kernel_rfl) rfl _) (fun W I u=>mgrow_any W m u hi.w.lv.1 (by have:=hi.w.mx; omega))).mono ?_
  rintro G w' ⟨rfl,col',F,u,z⟩
  have q:=key (by rw [e]; decide) w' col' (by rw [es]; exact F) u z
  rw [es] at q
  exact q
 ·have es:=stepM_Open e none 0 0
  refine (gt_act w _ (openM m).q h 95 (by rw [e]; kernel_rfl) (by rw [e]; decide) (enters_of Tryz.func95 (by kernel_rfl) rfl _) (fun W I u=>mopen_any W m u (by have:=hi.w.n_; omega) hi.w.nw (by have:=hi.w.dl; omega))).mono ?_
  rintro G w' ⟨rfl,col',F,u,z⟩
  have q:=key (by rw [e]; decide) w' col' (by rw [es]; exact F) u z
  rw [es] at q
  exact q
 ·have es:=stepM_Shrink e none 0 0
  refine (gt_act w _ (shrinkM m).q h 96 (by rw [e]; kernel_rfl) (by rw [e]; decide) (enters_of Tryz.func96 (by kernel_rfl) rfl _) (fun W I u=>mshrink_any W m u a0 ⟨hi.w.lv.1,by have:=hi.w.lv.2; omega⟩)).mono ?_
  rintro G w' ⟨rfl,col',F,u,z⟩
  have q:=key (by rw [e]; decide) w' col' (by rw [es]; exact F) u z
  rw [es] at q
  exact q
 ·have es:=stepM_Publish e none 0 0
  refine (gt_act w _ (publishM m).q h 97 (by rw [e]; kernel_rfl) (by rw [e]; decide) (enters_of Tryz.func97 (by kernel_rfl) rfl _) (fun W I u=>mpublish_any W m u ho hi.i (by have:=hi.w.S; omega))).mono ?_
  rintro G w' ⟨rfl,col',F,u,z⟩
  have q:=key (by rw [e]; decide) w' col' (by rw [es]; exact F) u z
  rw [es] at q
  exact q
 ·have es:=stepM_Drop e none 0 0
  refine (gt_act w _ (dropM m).q h 98 (by rw [e]; kernel_rfl) (by rw [e]; decide) (enters_of Tryz.func98 (by kernel_rfl) rfl _) (fun W I u=>mdrop_any W m u ho hi.i hi.wd (by have:=hi.w.C; omega))).mono ?_
  rintro G w' ⟨rfl,col',F,u,z⟩
  have q:=key (by rw [e]; decide) w' col' (by rw [es]; exact F) u z
  rw [es] at q
  exact q
 ·have es:=stepM_Unlive e none 0 0
  refine (gt_act w _ (unliveM m).q h 99 (by rw [e]; kernel_rfl) (by rw [e]; decide) (enters_of Tryz.func99 (by kernel_rfl) rfl _) (fun W I u=>munlive_any W m u a0 ⟨hi.w.lv.1,by have:=hi.w.lv.2; omega⟩)).mono ?_
  rintro G w' ⟨rfl,col',F,u,z⟩
  have q:=key (by rw [e]; decide) w' col' (by rw [es]; exact F) u z
  rw [es] at q
  exact q
 ·have es:=stepM_Park e none 0 0
  refine (gt_act w _ (parkM m).q h 100 (by rw [e]; kernel_rfl) (by rw [e]; decide) (enters_of Tryz.func100 (by kernel_rfl) rfl _) (fun W I u=>mpark_any W m u (by have:=hi.w.sl; omega))).mono ?_
  rintro G w' ⟨rfl,col',F,u,z⟩
  have q:=key (by rw [e]; decide) w' col' (by rw [es]; exact F) u z
  rw [es] at q
  exact q
 ·have es:=stepM_Wait e none 0 0
  refine (gt_act w _ (waitM m).q h 101 (by rw [e]; kernel_rfl) (by rw [e]; decide) (enters_of Tryz.func101 (by kernel_rfl) rfl _) (fun W I u=>mwait_any W m u a0)).mono ?_
  rintro G w' ⟨rfl,col',F,u,z⟩
  have q:=key (by rw [e]; decide) w' col' (by rw [es]; exact F) u z
  rw [es] at q
  exact q
 ·have es:=stepM_Leave e none 0 0
  refine (gt_act w _ (leaveM m).q h 102 (by rw [e]; kernel_rfl) (by rw [e]; decide) (enters_of Tryz.func102 (by kernel_rfl) rfl _) (fun W I u=>mleave_any W m u ho (takeR_su hi.w.su m.q.th).2)).mono ?_
  rintro G w' ⟨rfl,col',F,u,z⟩
  have q:=key (by rw [e]; decide) w' col' (by rw [es]; exact F) u z
  rw [es] at q
  exact q
 ·have es:=stepM_Done e none 0 0
  refine (gt_none w m.q h (by rw [e]; kernel_rfl) (by rw [e]; decide)).mono ?_
  rintro G w' ⟨rfl,col',F,u,z⟩
  have q:=key (by rw [e]; decide) w' col' (by rw [es]; exact F) u z
  rw [es] at q
  exact q
 ·have es:=stepM_Extra e none 0 0
  refine (gt_act w _ (extraM m).q h 103 (by rw [e]; kernel_rfl) (by rw [e]; decide) (enters_of Tryz.func103 (by kernel_rfl) rfl _) (fun W I u=>mextra_any W m u (fun W3 a1 z=>give_run W3 z (hi.w.gi hg hgs hk) hk))).mono ?_
  rintro G w' ⟨rfl,col',F,u,z⟩
  have q:=key (by rw [e]; decide) w' col' (by rw [es]; exact F) u z
  rw [es] at q
  exact q
end Go.Proofs.YtoiklelghfckgaaGreatDoor.Wo
