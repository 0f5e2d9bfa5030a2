/- A part of the claim: the texts PlayS Two. -/
import Derived.Test.YtoiklelghfckgaaGreatDoorZGDocW
import Derived.Test.YtoiklelghfckgaaGreatDoorZGWorldC
import Derived.Test.YtoiklelghfckgaaGreatDoorZBase1
import Derived.Test.YtoiklelghfckgaaGreatDoorZGFr
set_option linter.unusedVariables false
namespace Go.Proofs.YtoiklelghfckgaaGreatDoor.Wo
open Go Go.ChangeShapes Go.WideShapes Go.ChangeAt Go.RowKit Go.Maps Rw Hi Mt Ba
open Cn (Cf cfE)
def bLs (D:List (Int × Le.Ls)) (id th now:Int):List (Int × Le.Ls):=if Le.bE D id th=0 then ins D id ⟨th,now,false⟩ else D
def playS (s:Ws) (y:Ay):Ws:=
 if y.do_ % 8=0 then { s with now:=Ck.cAdd s.now y.n }
 else if y.do_ % 8=1 then { s with live:=grwV s.live s.conf.max }
 else if y.do_ % 8=2 then { s with live:=shrV s.live }
 else if y.do_ % 8=3 then { s with O:=(Fc.nx s.O).2,n:=opnN s.O s.n,D:=entD s.D (opnI s.O s.n) y.st s.now }
 else if y.do_ % 8=4 then (if s.closed then s else { s with S:=pubS s.D s.S y.id })
 else if y.do_ % 8=5 then { s with L:=bLs s.L y.id y.th s.now,T:=Le.bT s.leak s.L s.T y.id y.th s.now }
 else s
theorem ris_perm {β:Type} {A B:List (Int × β)} (ha:Ris A) (u:Ris B) (z:A.Perm B):A=B:=by
 exact List.Perm.eq_of_pairwise (le:=fun (a b:Int × β)=>a.1 < b.1) (fun a b _ _ h F=>absurd h (by omega)) ha u z
theorem bLs_perm {D:List (Int × Le.Ls)} (h:Le.Sd D) (id th now:Int):(Le.bL D id th now).Perm (bLs D id th now):=by
 unfold Le.bL bLs
 by_cases e:Le.bE D id th=0
 ·rw [if_pos e,if_pos e]
  have F:id ∉ D.map Prod.fst:=fun z=>by
   unfold Le.bE at e
   split at e
   ·cases e
   ·split at e
    ·cases e
    ·next u=>
     exact u (by rw [fnd_is]; exact decide_eq_true z)
  exact ins_perm h F _
 ·rw [if_neg e,if_neg e]
theorem bLs_sd {D:List (Int × Le.Ls)} (h:Le.Sd D) (id th now:Int):Le.Sd (bLs D id th now):=by
 unfold bLs
 split
 ·exact Ris.ins h _
 ·exact h
theorem bLs_eq {D u:List (Int × Le.Ls)} (h:Le.Sd D) {id th now:Int} (z:(Le.bL D id th now).Perm u) (F:Le.Sd u):u=bLs D id th now:=
 ris_perm F (bLs_sd h id th now) (z.symm.trans (bLs_perm h id th now))
theorem entD_len {D:List (Int × Ex)} (h:Ris D) (id st now:Int):(entD D id st now).length≤D.length+1:=by
 unfold entD
 split
 ·next e=>
  have F:id ∉ D.map Prod.fst:=fun z=>by
   unfold eE at e
   split at e
   ·cases e
   ·split at e
    ·cases e
    ·next u=>exact u (by rw [fnd_is]; exact decide_eq_true z)
  rw [ins_len h F]
  exact Nat.le_refl _
 ·omega
structure Pl (s:Ws) (N:List Int) (k:Nat):Prop where
 mk_:s.M=Le.mk N
 mx:1≤s.conf.max∧s.conf.max≤16
 lv:0≤s.live∧s.live≤s.conf.max
 nw:U64 s.now
 lk:U64 s.leak
 dl:s.D.length≤k
 sl:s.S.length≤k
 nl:s.n≤k
 cl:s.C.length≤k
 el:s.ev.length≤k
 ll:s.L.length≤k
 tl:s.T.length≤k
 ri:Ris s.D
 sd:Le.Sd s.L
 cin:∀ i∈s.C,1≤i∧i≤s.n
theorem Pl.play {s:Ws} {N:List Int} {k:Nat} (h:Pl s N k) (hk:k≤900) {y:Ay} (z:y.ok):Pl (playS s y) N (k+1):=by
 have G:=h.dl
 have Y:=h.sl
 have W:=h.nl
 have F:=h.cl
 have I:=h.el
 have J:=h.ll
 have a0:=h.tl
 have u:Pl s N (k+1):=⟨h.mk_,h.mx,h.lv,h.nw,h.lk,by omega,by omega,by omega,by omega,by omega,by omega,by omega,h.ri,h.sd,h.cin⟩
 unfold playS
 split
 ·exact ⟨u.mk_,u.mx,u.lv,cAdd_u64 h.nw z.n,u.lk,u.dl,u.sl,u.nl,u.cl,u.el,u.ll,u.tl,u.ri,u.sd,u.cin⟩
 split
 ·exact ⟨u.mk_,u.mx,by have:=h.lv; unfold grwV; show 0≤(if s.live < s.conf.max then s.live+1 else s.live)∧(if s.live < s.conf.max then s.live+1 else s.live)≤s.conf.max; split <;> omega,u.nw,u.lk,u.dl,u.sl,u.nl,u.cl,u.el,u.ll,u.tl,u.ri,u.sd,u.cin⟩
 split
 ·exact ⟨u.mk_,u.mx,by have:=h.lv; unfold shrV; show 0≤(if 0 < s.live then s.live - 1 else s.live)∧(if 0 < s.live then s.live - 1 else s.live)≤s.conf.max; split <;> omega,u.nw,u.lk,u.dl,u.sl,u.nl,u.cl,u.el,u.ll,u.tl,u.ri,u.sd,u.cin⟩
 split
 ·refine ⟨u.mk_,u.mx,u.lv,u.nw,u.lk,?_,u.sl,?_,u.cl,u.el,u.ll,u.tl,?_,u.sd,fun i hi=>?_⟩
  ·show (entD s.D (opnI s.O s.n) y.st s.now).length≤k+1
   have:=entD_len h.ri (opnI s.O s.n) y.st s.now
   omega
  ·show opnN s.O s.n≤k+1
   unfold opnN; split <;> omega
  ·show Ris (entD s.D (opnI s.O s.n) y.st s.now)
   unfold entD; split
   ·exact h.ri.ins _
   ·exact h.ri
  ·have:=h.cin i hi
   show 1≤i∧i≤(opnN s.O s.n:Nat)
   unfold opnN
   split <;> omega
 split
 ·split
  ·exact u
  ·refine ⟨u.mk_,u.mx,u.lv,u.nw,u.lk,u.dl,?_,u.nl,u.cl,u.el,u.ll,u.tl,u.ri,u.sd,u.cin⟩
   have:=Sn.sWith_len s.S y.id
   show (pubS s.D s.S y.id).length≤k+1
   unfold pubS; split <;> omega
 split
 ·refine ⟨u.mk_,u.mx,u.lv,u.nw,u.lk,u.dl,u.sl,u.nl,u.cl,u.el,?_,?_,u.ri,bLs_sd h.sd _ _ _,u.cin⟩
  ·show (bLs s.L y.id y.th s.now).length≤k+1
   rw [← (bLs_perm h.sd y.id y.th s.now).length_eq]
   have:=Le.bL_len s.L y.id y.th s.now
   omega
  ·show (Le.bT s.leak s.L s.T y.id y.th s.now).length≤k+1
   have:=Le.bT_len s.leak s.L (T:=s.T) y.id y.th s.now (by omega)
   omega
 ·exact u
end Go.Proofs.YtoiklelghfckgaaGreatDoor.Wo
namespace Go.Proofs.YtoiklelghfckgaaGreatDoor.Rw
open Go Go.RowKit
section
variable {P:Program} {ops:Array Oper} {Q:Exit→Act→World→Prop} {md:Region.Mode} {S S1:World→Prop} {n:Nat}
theorem reg_two (i j:Nat) {u z:Oper} {f:Nat} {h:Array Bool} {a:Act} {w:World} (hi:ops[i]? = some u) (W:ops[j]? = some z) (G:Region.ready md ops h=[i,j])
  (a0:Region.wanted u (yielded ops a.tmps)=true) (a1:Region.wanted z (yielded ops a.tmps)=true)
  (I:u.wp P a w (fun a' w'=>(i < n→S w')∧wpAnyT P md ops Q n S f (h.setIfInBounds i true) a' w') Q)
  (J:z.wp P a w (fun a' w'=>(j < n→S w')∧wpAnyT P md ops Q n S f (h.setIfInBounds j true) a' w') Q):wpAnyT P md ops Q n S (f+1) h a w:=by
 refine ⟨fun F=>(by rw [G] at F; cases F),fun k hk=>?_⟩
 rw [G] at hk
 have Y:k=i∨k=j:=by simpa using hk
 rcases Y with e | e
 ·subst e
  unfold wpOp
  simp only [hi,a0,if_true]
  exact .inl I
 ·subst e
  unfold wpOp
  simp only [W,a1,if_true]
  exact .inl J
end
structure Fr2 (ga gw:Option Nat) (w0 w:World):Prop where
 os:w.os=w0.os
 tape:w.tape=w0.tape
 output:w.output=w0.output
 size:w0.heap.size≤w.heap.size
 block:∀ k,k < w0.heap.size→some k≠ga→some k≠gw→w.heap[k]? = w0.heap[k]?
theorem Fr2.refl (ga gw:Option Nat) (w:World):Fr2 ga gw w w:=⟨rfl,rfl,rfl,Nat.le_refl _,fun _ _ _ _=>rfl⟩
theorem Fr2.cell {ga gw:Option Nat} {w0 w:World} (h:Fr2 ga gw w0 w) {p:Addr} (F:p.block < w0.heap.size) (u:some p.block≠ga) (z:some p.block≠gw):w.cell? p=w0.cell? p:=by
 unfold World.cell?; rw [h.block _ F u z]
theorem Fr2.frozen {ga gw:Option Nat} {w0 w:World} (h:Fr2 ga gw w0 w) {p:Addr} (F:p.block < w0.heap.size) (u:some p.block≠ga) (z:some p.block≠gw):w.frozen? p=w0.frozen? p:=by
 unfold World.frozen?; rw [h.block _ F u z]
theorem Fr2.step {ga gw row:Option Nat} {w0 w w':World} (h:Fr2 ga gw w0 w) (u:w.grownBy w' row) (G:∀ j,row=some j→j < w0.heap.size→some j=ga∨some j=gw):Fr2 ga gw w0 w':=
 ⟨u.os.trans h.os,u.tape.trans h.tape,u.output.trans h.output,Nat.le_trans h.size u.size,fun k hk z F=>(u.block k (Nat.lt_of_lt_of_le hk h.size) (fun e=>by
  rcases G k e.symm hk with e | e
  ·exact z e
  ·exact F e)).trans (h.block k hk z F)⟩
abbrev Own:=Value × TypeId × Nat × List Value
structure S2 (t6 t7:TypeId) (ga gw:Option Nat) (w0:World) (base:Nat) (w:World) (v6:Value) (n6:Nat) (L6:List Value) (v7:Value) (n7:Nat) (L7:List Value) (pb:List Own):Prop where
 fr:Fr2 ga gw w0 w
 all:w.ownsRow base t6 1 v6 n6 L6
 was:w.ownsRow base t7 1 v7 n7 L7
 oa:v6.ownBlock=ga ∨ ∃ b,v6.ownBlock=some b∧w0.heap.size≤b
 ow:v7.ownBlock=gw ∨ ∃ b,v7.ownBlock=some b∧w0.heap.size≤b
 ne:∀ b,v6.ownBlock=some b→v7.ownBlock≠some b
 prot:∀ p∈pb,w.ownsRow 0 p.2.1 1 p.1 p.2.2.1 p.2.2.2 ∧ ∀ b,p.1.ownBlock=some b→v6.ownBlock≠some b∧v7.ownBlock≠some b
section
variable {t6 t7:TypeId} {ga gw:Option Nat} {w0:World} {base:Nat} {w w':World} {v6 v7:Value} {n6 n7:Nat} {L6 L7:List Value} {pb:List Own}
theorem kept_ne {w w':World} {base e n:Nat} {v:Value} {xs:List Value} {row:Option Nat} (h:w.ownsRow base e 1 v n xs) (u:w.grownBy w' row) (z:∀ b,v.ownBlock=some b→row≠some b):w'.ownsRow base e 1 v n xs:=
 h.kept u (by
  cases hv:v.ownBlock with
  | none=>exact .inl rfl
  | some j=>exact .inr (fun e=>z j hv e.symm))
theorem S2.quiet (h:S2 t6 t7 ga gw w0 base w v6 n6 L6 v7 n7 L7 pb) (u:w.grownBy w' none):S2 t6 t7 ga gw w0 base w' v6 n6 L6 v7 n7 L7 pb:=
 ⟨h.fr.step u (fun j F=>by cases F),h.all.kept u (by cases hv:v6.ownBlock with | none=>exact .inl rfl | some j=>exact .inr (by simp)),h.was.kept u (by cases hv:v7.ownBlock with | none=>exact .inl rfl | some j=>exact .inr (by simp)),h.oa,h.ow,h.ne,
  fun p z=>⟨kept_ne (h.prot p z).1 u (fun b _ e=>by cases e),(h.prot p z).2⟩⟩
theorem S2.below (h:S2 t6 t7 ga gw w0 base w v6 n6 L6 v7 n7 L7 pb) (u:Below w.heap.size w w'):S2 t6 t7 ga gw w0 base w' v6 n6 L6 v7 n7 L7 pb:=
 h.quiet ⟨u.os,u.tape,u.output,u.size,fun k hk _=>u.block k hk⟩
theorem S2.add (h:S2 t6 t7 ga gw w0 base w v6 n6 L6 v7 n7 L7 pb) (u:S2 t6 t7 ga gw w0 base w' v6 n6 L6 v7 n7 L7 pb) (p:Own) (F:w'.ownsRow w.heap.size p.2.1 1 p.1 p.2.2.1 p.2.2.2):S2 t6 t7 ga gw w0 base w' v6 n6 L6 v7 n7 L7 (pb ++ [p]):=by
 refine ⟨u.fr,u.all,u.was,u.oa,u.ow,u.ne,fun q z=>?_⟩
 rcases List.mem_append.1 z with z | z
 ·exact u.prot q z
 ·obtain rfl:q=p:=by simpa using z
  refine ⟨⟨F.1,?_⟩,fun b I=>⟨fun e=>?_,fun e=>?_⟩⟩
  ·rcases F.2 with G | ⟨g,cap,J,G,Y,W⟩
   ·exact .inl G
   ·exact .inr ⟨g,cap,J,G,Nat.zero_le _,W⟩
  ·have:=(F.lt b I).1; have:=(h.all.lt b e).2; omega
  ·have:=(F.lt b I).1; have:=(h.was.lt b e).2; omega
theorem lit_row (w:World) (x:Value) (t:TypeId):(w.alloc (.cells #[x] t)).ownsRow w.heap.size t 1 (.slice (some ⟨w.heap.size,0,none⟩) 1 1) 1 [x]:=
 ⟨rfl,.inr ⟨w.heap.size,1,#[x],rfl,Nat.le_refl _,heap_alloc_new w _,by omega,by unfold maxLen; omega,rfl,rfl⟩⟩
theorem S2.lit (h:S2 t6 t7 ga gw w0 base w v6 n6 L6 v7 n7 L7 pb) (x:Value) (t:TypeId):S2 t6 t7 ga gw w0 base (w.alloc (.cells #[x] t)) v6 n6 L6 v7 n7 L7 (pb ++ [(.slice (some ⟨w.heap.size,0,none⟩) 1 1,t,1,[x])]):=
 h.add (h.quiet (World.grownBy_alloc w _ none)) _ (lit_row w x t)
end
end Go.Proofs.YtoiklelghfckgaaGreatDoor.Rw
