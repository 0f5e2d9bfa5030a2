/- A part of the claim: the texts Bag BagB BagC BagD BagE. -/
import Derived.Test.YtaeemilldmhbnaaGreatDoorXBase6
import Derived.Test.YtaeemilldmhbnaaGreatDoorXBase1
import Derived.Test.YtaeemilldmhbnaaGreatDoorXGFr
import Derived.WalkKit
import Derived.ProofKit
set_option maxRecDepth 100000
set_option maxHeartbeats 8000000
set_option linter.unusedVariables false
namespace Go.Proofs.YtaeemilldmhbnaaGreatDoor.Ba
open Go Go.ChangeShapes Go.WideShapes Go.ChangeAt Go.RowKit Go.Maps Rw Hi Mt
abbrev eP:Enc (Option Nat) where
 val x:=.pointer (x.map fun b=>⟨b,0,none⟩)
 dat x:=match x with
  | none=>.lit (.bool false)
  | some b=>.lit (.int .i64 b)
 R v:=match v with
  | .pointer none=>some (.lit (.bool false),[])
  | .pointer (some ⟨b,0,none⟩)=>some (.lit (.int .i64 b),[])
  | _=>none
 mk_ x:=by cases x <;> rfl
 inv v y h:=by
  split at h
  ·injection h with h; exact ⟨none,rfl,h.symm⟩
  ·rename_i b; injection h with h; exact ⟨some b,rfl,h.symm⟩
  ·cases h
 inj x y h:=by
  cases x <;> cases y
  ·rfl
  ·injection h with h; cases h
  ·injection h with h; cases h
  ·injection h with h; injection h with _ h; rw [Int.ofNat_inj.1 h]
abbrev U64 (k:Int):Prop:=0≤k∧k≤18446744073709551615
abbrev ptr (p:Nat):Value:=.pointer (some ⟨p,0,none⟩)
abbrev MP (w:World) (a:Nat) (L:List (Int × Option Nat)):Prop:=Mo Tryz.prog 22 eP w a L
theorem zeroP (w:World):(zeroValue 201).run Tryz.prog w=.ok (eP.val none) w:=by kernel_rfl
structure Fz (C:Nat→Prop) (w w':World):Prop where
 os:w'.os=w.os
 tape:w'.tape=w.tape
 output:w'.output=w.output
 size:w.heap.size≤w'.heap.size
 block:∀ k,k < w.heap.size → ¬ C k→w'.heap[k]? = w.heap[k]?
section
variable {C D:Nat→Prop} {w w' w'':World}
theorem Fz.refl (C:Nat→Prop) (w:World):Fz C w w:=⟨rfl,rfl,rfl,Nat.le_refl _,fun _ _ _=>rfl⟩
theorem Fz.trans (h:Fz C w w') (u:Fz C w' w''):Fz C w w'':=
 ⟨u.os.trans h.os,u.tape.trans h.tape,u.output.trans h.output,Nat.le_trans h.size u.size,fun k hk hc=>(u.block k (Nat.lt_of_lt_of_le hk h.size) hc).trans (h.block k hk hc)⟩
theorem Fz.mono (h:Fz C w w') (u:∀ k,k < w.heap.size→C k→D k):Fz D w w':=⟨h.os,h.tape,h.output,h.size,fun k hk hc=>h.block k hk (fun e=>hc (u k hk e))⟩
theorem Fz.of_below (h:Below w.heap.size w w'):Fz C w w':=⟨h.os,h.tape,h.output,h.size,fun k hk _=>h.block k hk⟩
theorem Fz.of_grown {row:Option Nat} (h:w.grownBy w' row) (u:∀ g,row=some g→g < w.heap.size→C g):Fz C w w':=
 ⟨h.os,h.tape,h.output,h.size,fun k hk hc=>h.block k hk (fun e=>hc (u k e.symm hk))⟩
theorem Fz.of_set {a:Addr} (v:Value) (h:C a.block):Fz C w (w.setCell a v):=Fz.of_grown (Hi.grown_setCell w a v) (fun g e _=>by injection e with e; exact e ▸ h)
theorem Fz.below (h:Fz C w w') {B:Nat} (u:B≤w.heap.size) (hc:∀ k,C k→B≤k):Below B w w':=
 ⟨h.os,h.tape,h.output,h.size,fun k hk=>h.block k (by omega) (fun e=>by have:=hc k e; omega)⟩
end
structure En where
 e:Nat
 c:Nat
 word:Int
 born:Int
 since:Int
 proved:Int
def up {β:Type} (L:List (Int × β)) (id:Int) (f:β→β):List (Int × β):=L.map fun q=>if q.1=id then (q.1,f q.2) else q
def ins {β:Type} (L:List (Int × β)) (id:Int) (x:β):List (Int × β):=L.filter (fun q=>decide (q.1 < id)) ++ (id,x) :: L.filter (fun q=>decide (id < q.1))
def Ris {β:Type} (L:List (Int × β)):Prop:=L.Pairwise (fun a b=>a.1 < b.1)
section
variable {β γ:Type} {L:List (Int × β)} {id:Int}
theorem up_keys (f:β→β):(up L id f).map Prod.fst=L.map Prod.fst:=by
 unfold up; rw [List.map_map]; apply List.map_congr_left; intro q _; simp only [Function.comp]; split <;> rfl
theorem up_len (f:β→β):(up L id f).length=L.length:=by simp [up]
theorem Ris.nd (h:Ris L):Nd L:=by
 unfold Nd; unfold Ris at h
 rw [List.nodup_iff_pairwise_ne,List.pairwise_map]
 exact h.imp (fun u=>by omega)
theorem ris_keys:Ris L↔(L.map Prod.fst).Pairwise (· < ·):=by unfold Ris; rw [List.pairwise_map]
theorem Ris.up (h:Ris L) (f:β→β):Ris (up L id f):=by rw [ris_keys,up_keys]; exact ris_keys.1 h
theorem mem_up {f:β→β} {q:Int × β} (h:q∈up L id f):∃ r∈L,r.1=q.1∧(q=r∧r.1≠id∨q=(id,f r.2)∧r.1=id):=by
 unfold Ba.up at h
 obtain ⟨r,u,e⟩:=List.mem_map.1 h
 by_cases hi:r.1=id
 ·rw [if_pos hi] at e; subst e; exact ⟨r,u,rfl,.inr ⟨by rw [hi],hi⟩⟩
 ·rw [if_neg hi] at e; subst e; exact ⟨r,u,rfl,.inl ⟨rfl,hi⟩⟩
theorem up_none (h:id ∉ L.map Prod.fst) (f:β→β):up L id f=L:=by
 unfold up
 conv=>rhs; rw [← List.map_id L]
 apply List.map_congr_left
 intro q u
 rw [if_neg (fun e=>h (List.mem_map.2 ⟨q,u,e⟩))]; rfl
theorem up_same {f:β→β} (h:∀ x,fnd L id=some x→f x=x) (hn:Nd L):up L id f=L:=by
 unfold up
 conv=>rhs; rw [← List.map_id L]
 apply List.map_congr_left
 intro q u
 by_cases hi:q.1=id
 ·rw [if_pos hi]
  have:=fnd_mem hn (k:=q.1) (x:=q.2) u
  rw [hi] at this
  rw [h _ this]; rfl
 ·rw [if_neg hi]; rfl
theorem Ris.split (h:Ris L) (hn:id ∉ L.map Prod.fst):L.filter (fun q=>decide (q.1 < id)) ++ L.filter (fun q=>decide (id < q.1))=L:=by
 unfold Ris at h
 induction L with
 | nil=>rfl
 | cons q r ih=>
  rw [List.pairwise_cons] at h
  have F:id ∉ r.map Prod.fst:=fun e=>hn (List.mem_cons_of_mem _ e)
  have G:q.1≠id:=fun e=>hn (e ▸ List.mem_cons_self)
  by_cases hq:q.1 < id
  ·rw [List.filter_cons_of_pos (by simpa using hq),List.filter_cons_of_neg (by simp; omega),List.cons_append,ih h.2 F]
  ·rw [List.filter_cons_of_neg (by simpa using hq),List.filter_cons_of_pos (by simp; omega)]
   have u:r.filter (fun q=>decide (q.1 < id))=[]:=by
    rw [List.filter_eq_nil_iff]; intro a ha; have:=h.1 a ha; simp; omega
   have z:r.filter (fun q=>decide (id < q.1))=r:=by
    rw [List.filter_eq_self]; intro a ha; have:=h.1 a ha; simp; omega
   rw [u,z]; rfl
theorem Ris.ins (h:Ris L) (x:β):Ris (ins L id x):=by
 unfold Ris Ba.ins at *
 rw [List.pairwise_append,List.pairwise_cons]
 refine ⟨h.sublist List.filter_sublist,⟨fun a ha=>by have:=(List.mem_filter.1 ha).2; simpa using this,h.sublist List.filter_sublist⟩,fun a ha b u=>?_⟩
 have z:=(List.mem_filter.1 ha).2
 simp at z
 rcases List.mem_cons.1 u with rfl | u
 ·exact z
 ·have F:=(List.mem_filter.1 u).2
  simp at F
  omega
theorem ins_perm (h:Ris L) (hn:id ∉ L.map Prod.fst) (x:β):((id,x) :: L).Perm (ins L id x):=by
 unfold ins
 refine List.Perm.trans ?_ List.perm_middle.symm
 exact List.Perm.cons _ (by rw [h.split hn])
theorem ins_len (h:Ris L) (hn:id ∉ L.map Prod.fst) (x:β):(ins L id x).length=L.length+1:=by
 have:=(ins_perm h hn x).length_eq; simpa using this.symm
theorem mem_ins (h:Ris L) (hn:id ∉ L.map Prod.fst) {x:β} {q:Int × β} : q∈ins L id x↔q=(id,x)∨q∈L:=by
 rw [← (ins_perm h hn x).mem_iff,List.mem_cons]
theorem ins_map {g:β→γ} {x:β} : (ins L id x).map (fun q=>(q.1,g q.2))=ins (L.map fun q=>(q.1,g q.2)) id (g x):=by
 unfold ins
 rw [List.map_append,List.map_cons,List.filter_map,List.filter_map]
 rfl
theorem fnd_map {g:β→γ} (k:Int):fnd (L.map fun q=>(q.1,g q.2)) k=(fnd L k).map g:=by
 unfold fnd
 rw [List.find?_map,Option.map_map,Option.map_map]
 rfl
end
abbrev bl (L:List (Int × En)):List (Int × Option Nat):=L.map fun q=>(q.1,some q.2.e)
theorem bl_keys (L:List (Int × En)):(bl L).map Prod.fst=L.map Prod.fst:=by simp [bl,Function.comp_def]
theorem bl_up (L:List (Int × En)) (id:Int) (f:En→En) (h:∀ x,(f x).e=x.e):bl (up L id f)=bl L:=by
 unfold bl up
 rw [List.map_map]
 apply List.map_congr_left
 intro q _
 simp only [Function.comp]
 split
 ·rw [h]
 ·rfl
structure Ok (C:Nat→Prop) (w:World) (x:En):Prop where
 k0:w.cell? ⟨x.e,0,none⟩=some (ptr x.c)
 k1:w.cell? ⟨x.e,1,none⟩=some (.int .u64 x.born)
 k2:w.cell? ⟨x.e,2,none⟩=some (.int .u64 x.since)
 k3:w.cell? ⟨x.e,3,none⟩=some (.int .u64 x.proved)
 kc:w.cell? ⟨x.c,0,none⟩=some (.int .u64 x.word)
 f2:w.frozen? ⟨x.e,2,none⟩=false
 f3:w.frozen? ⟨x.e,3,none⟩=false
 fc:w.frozen? ⟨x.c,0,none⟩=false
 ie:C x.e
 ic:C x.c
 uw:U64 x.word
 ub:U64 x.born
 us:U64 x.since
 up_:U64 x.proved
structure Bt (C R:Nat→Prop) (w:World) (p a:Nat) (L:List (Int × En)) (S:List Int):Prop where
 c0:w.cell? ⟨p,0,none⟩=some (.map (some a))
 f1:w.frozen? ⟨p,1,none⟩=false
 row:∃ A n c,w.cell? ⟨p,1,none⟩=some (.slice A n c)∧Rd (Value.int .u64) w w.heap.size A n c S∧(0 < n → ∀ b o,A=some ⟨b,o,none⟩→R b)
 nd:S.Nodup
 us:Sn.U64s S
 mo:MP w a (bl L)
 en:∀ q∈L,Ok C w q.2
 ap:∀ q∈L,∀ r∈L,(q.2.e=r.2.e∨q.2.c=r.2.c)→q.1=r.1
 ri:Ris L
 ui:∀ q∈L,U64 q.1
 ip:C p
 ia:C a
 cr:∀ g,C g → ¬ R g
section
variable {C D R T:Nat→Prop} {w w':World} {p a:Nat} {L:List (Int × En)} {S:List Int}
theorem Ok.lt {x:En} (h:Ok C w x):x.e < w.heap.size∧x.c < w.heap.size:=⟨Lw.lt_heap h.k0,Lw.lt_heap h.kc⟩
theorem Ok.blk {x:En} (h:Ok C w x) (u:w'.heap[x.e]? = w.heap[x.e]?) (hc:w'.heap[x.c]? = w.heap[x.c]?):Ok C w' x:=
 ⟨(World.cell?_of_block u).trans h.k0,(World.cell?_of_block u).trans h.k1,(World.cell?_of_block u).trans h.k2,(World.cell?_of_block u).trans h.k3,(World.cell?_of_block hc).trans h.kc,(World.frozen?_of_block u).trans h.f2,(World.frozen?_of_block u).trans h.f3,(World.frozen?_of_block hc).trans h.fc,h.ie,h.ic,h.uw,h.ub,h.us,h.up_⟩
theorem Bt.lt (h:Bt C R w p a L S):p < w.heap.size∧a < w.heap.size:=⟨Lw.lt_heap h.c0,h.mo.lt⟩
theorem rd_blk {A:Option Addr} {n c:Nat} {xs:List Int} {B B':Nat} (h:Rd (Value.int .u64) w B A n c xs) (z:B≤B') (hk:0 < n → ∀ b o,A=some ⟨b,o,none⟩→w'.heap[b]? = w.heap[b]?):Rd (Value.int .u64) w' B' A n c xs:=
 ⟨h.len,h.cap,h.top,fun hn=>by
  obtain ⟨b,o,e,u,hc⟩:=h.at_ hn
  exact ⟨b,o,e,by omega,fun j x hx=>(World.cell?_of_block (hk hn b o e)).trans (hc j x hx)⟩⟩
theorem Bt.same (h:Bt C R w p a L S) (W:w.heap.size≤w'.heap.size) (hk:∀ g,g < w.heap.size→C g∨R g→w'.heap[g]? = w.heap[g]?):Bt C R w' p a L S:=by
 have F:=hk p h.lt.1 (.inl h.ip)
 obtain ⟨A,n,c,J,G,I⟩:=h.row
 refine ⟨(World.cell?_of_block F).trans h.c0,(World.frozen?_of_block F).trans h.f1,⟨A,n,c,(World.cell?_of_block F).trans J,rd_blk G W fun hn b o e=>?_,I⟩,h.nd,h.us,h.mo.block (hk a h.lt.2 (.inl h.ia)),fun q N=>?_,h.ap,h.ri,h.ui,h.ip,h.ia,h.cr⟩
 ·obtain ⟨b',o',z,Y,_⟩:=G.at_ hn
  rw [e] at z; injection z with z; injection z with e1 _
  exact hk b (by omega) (.inr (I hn b o e))
 ·have u:=h.en q N
  exact u.blk (hk _ u.lt.1 (.inl u.ie)) (hk _ u.lt.2 (.inl u.ic))
theorem Bt.later (h:Bt C R w p a L S) (u:Below w.heap.size w w'):Bt C R w' p a L S:=h.same u.size (fun g z _=>u.block g z)
theorem Bt.aside (h:Bt C R w p a L S) (u:Fz D w w') (z:∀ g,C g∨R g → ¬ D g):Bt C R w' p a L S:=h.same u.size (fun g F hc=>u.block g F (z g hc))
theorem Bt.mono (h:Bt C R w p a L S) (F:∀ g,g < w.heap.size→C g→D g) (Y:∀ g,g < w.heap.size→R g→T g) (N:∀ g,D g → ¬ T g):Bt D T w p a L S:=by
 obtain ⟨A,n,c,I,G,J⟩:=h.row
 refine ⟨h.c0,h.f1,⟨A,n,c,I,G,fun hn b o e=>?_⟩,h.nd,h.us,h.mo,fun q W=>?_,h.ap,h.ri,h.ui,F _ h.lt.1 h.ip,F _ h.lt.2 h.ia,N⟩
 ·obtain ⟨b',o',z,hb,_⟩:=G.at_ hn
  rw [e] at z; injection z with z; injection z with e1 _
  exact Y b (by omega) (J hn b o e)
 ·have u:=h.en q W
  exact { u with ie:=F _ u.lt.1 u.ie,ic:=F _ u.lt.2 u.ic }
theorem Bt.get (h:Bt C R w p a L S) {id:Int} {x:En} (hx:fnd L id=some x):Ok C w x∧(id,x)∈L:=⟨h.en _ (fnd_some hx),fnd_some hx⟩
theorem Bt.find (h:Bt C R w p a L S) (id:Int):fnd (bl L) id=(fnd L id).map fun x=>some x.e:=fnd_map (L:=L) (g:=fun x:En=>some x.e) id
theorem Bt.turn (h:Bt C R w p a L S) {id:Int} {x:En} (hx:fnd L id=some x) (J I pr:Int) (hw:U64 J) (hs:U64 I) (hp:U64 pr) (ae:w.heap.size≤w'.heap.size)
  (k2:w'.cell? ⟨x.e,2,none⟩=some (.int .u64 I)) (k3:w'.cell? ⟨x.e,3,none⟩=some (.int .u64 pr)) (kc:w'.cell? ⟨x.c,0,none⟩=some (.int .u64 J))
  (he:∀ o,o≠2→o≠3→w'.cell? ⟨x.e,o,none⟩=w.cell? ⟨x.e,o,none⟩) (a3:∀ o,w'.frozen? ⟨x.e,o,none⟩=w.frozen? ⟨x.e,o,none⟩) (a9:w'.frozen? ⟨x.c,0,none⟩=w.frozen? ⟨x.c,0,none⟩)
  (hk:∀ g,g < w.heap.size→g≠x.e→g≠x.c→w'.heap[g]? = w.heap[g]?):Bt C R w' p a (up L id fun y=>{ y with word:=J,since:=I,proved:=pr }) S:=by
 obtain ⟨u,hm⟩:=h.get hx
 have ac:p≠x.e:=fun e=>by have z:=h.c0; rw [e,u.k0] at z; cases z
 have aa:p≠x.c:=fun e=>by have z:=h.c0; rw [e,u.kc] at z; cases z
 have a6:a≠x.e:=fun e=>h.mo.no_cell 0 _ (e ▸ u.k0)
 have a5:a≠x.c:=fun e=>h.mo.no_cell 0 _ (e ▸ u.kc)
 have a8:∀ q∈L,q.2.e≠x.c:=fun q G e=>by have z:=(h.en q G).k0; rw [e,u.kc] at z; cases z
 have a7:∀ q∈L,q.2.c≠x.e:=fun q G e=>by have z:=(h.en q G).kc; rw [e,u.k0] at z; cases z
 have a2:=hk p h.lt.1 ac aa
 obtain ⟨A,n,c,z,h2,h3⟩:=h.row
 have a0:∀ q∈up L id (fun y:En=>{ y with word:=J,since:=I,proved:=pr }),∃ r∈L,r.1=q.1∧r.2.e=q.2.e∧r.2.c=q.2.c∧(q=r∧r.1≠id∨q.2 = { x with word:=J,since:=I,proved:=pr }):=fun q G=>by
  obtain ⟨r,F,Y,e2⟩:=mem_up G
  refine ⟨r,F,Y,?_⟩
  rcases e2 with ⟨rfl,a1⟩ | ⟨rfl,hi⟩
  ·exact ⟨rfl,rfl,.inl ⟨rfl,a1⟩⟩
  ·have:r.2=x:=h.ri.nd.uniq (k:=id) (by rw [← hi]; exact F) hm
   exact ⟨rfl,rfl,.inr (by rw [this])⟩
 refine ⟨(World.cell?_of_block a2).trans h.c0,(World.frozen?_of_block a2).trans h.f1,⟨A,n,c,(World.cell?_of_block a2).trans z,rd_blk h2 ae fun hn b o e=>?_,h3⟩,h.nd,h.us,?_,fun q G=>?_,fun q G r F e=>?_,h.ri.up _,fun q G=>?_,h.ip,h.ia,h.cr⟩
 ·obtain ⟨b',o',W,hb,_⟩:=h2.at_ hn
  rw [e] at W; injection W with W; injection W with Y _
  have a4:=h3 hn b o e
  exact hk b (by omega) (fun e=>h.cr _ u.ie (e ▸ a4)) (fun e=>h.cr _ u.ic (e ▸ a4))
 ·rw [bl_up L id (fun y:En=>{ y with word:=J,since:=I,proved:=pr }) (fun _=>rfl)]
  exact h.mo.block (hk a h.lt.2 a6 a5)
 ·obtain ⟨r,F,_,_,_,e3⟩:=a0 q G
  rcases e3 with ⟨rfl,a1⟩ | e3
  ·have N:=h.en q F
   refine N.blk (hk _ N.lt.1 (fun e=>a1 ?_) (a8 q F)) (hk _ N.lt.2 (a7 q F) (fun e=>a1 ?_))
   ·exact h.ap q F _ hm (.inl e)
   ·exact h.ap q F _ hm (.inr e)
  ·rw [e3]
   exact ⟨(he 0 (by decide) (by decide)).trans u.k0,(he 1 (by decide) (by decide)).trans u.k1,k2,k3,kc,(a3 2).trans u.f2,(a3 3).trans u.f3,a9.trans u.fc,u.ie,u.ic,hw,u.ub,hs,hp⟩
 ·obtain ⟨q',N,e0,Y,e2,_⟩:=a0 q G
  obtain ⟨r',ad,f0,f1,f2,_⟩:=a0 r F
  rw [← e0,← f0]
  exact h.ap q' N r' ad (by rw [Y,e2,f1,f2]; exact e)
 ·obtain ⟨r,F,e0,_⟩:=a0 q G
  rw [← e0]
  exact h.ui r F
end
structure Ex where
 word:Int
 born:Int
 since:Int
 proved:Int
deriving DecidableEq
abbrev En.x (q:En):Ex:=⟨q.word,q.born,q.since,q.proved⟩
abbrev ab (L:List (Int × En)):List (Int × Ex):=L.map fun q=>(q.1,q.2.x)
def Bx (C R:Nat→Prop) (w:World) (p a:Nat) (D:List (Int × Ex)) (S:List Int):Prop:=∃ L,Bt C R w p a L S∧ab L=D
def exS (old st now:Int) (x:Ex):Ex:={ x with word:=Wd.wSwap x.word old st,since:=if Wd.wSwapOk x.word old st=true∧st=0 then now else x.since }
section
variable {C R E T:Nat→Prop} {w w':World} {p a:Nat} {D:List (Int × Ex)} {S:List Int}
theorem Bx.lt (h:Bx C R w p a D S):p < w.heap.size∧a < w.heap.size:=by obtain ⟨L,h,_⟩:=h; exact h.lt
theorem Bx.ri (h:Bx C R w p a D S):Ris D:=by
 obtain ⟨L,h,rfl⟩:=h
 have u:=ris_keys.1 h.ri
 rw [ris_keys]
 rw [List.map_map]
 exact u
theorem Bx.nd (h:Bx C R w p a D S):S.Nodup:=by obtain ⟨L,h,_⟩:=h; exact h.nd
theorem Bx.us (h:Bx C R w p a D S):Sn.U64s S:=by obtain ⟨L,h,_⟩:=h; exact h.us
theorem Bx.ui (h:Bx C R w p a D S):∀ q∈D,U64 q.1∧U64 q.2.word∧U64 q.2.born∧U64 q.2.since∧U64 q.2.proved:=by
 obtain ⟨L,h,rfl⟩:=h
 intro q F
 obtain ⟨r,z,rfl⟩:=List.mem_map.1 F
 have u:=h.en r z
 exact ⟨h.ui r z,u.uw,u.ub,u.us,u.up_⟩
theorem Bx.later (h:Bx C R w p a D S) (u:Below w.heap.size w w'):Bx C R w' p a D S:=by obtain ⟨L,h,e⟩:=h; exact ⟨L,h.later u,e⟩
theorem Bx.aside (h:Bx C R w p a D S) (z:Fz E w w') (u:∀ g,C g∨R g → ¬ E g):Bx C R w' p a D S:=by obtain ⟨L,h,e⟩:=h; exact ⟨L,h.aside z u,e⟩
theorem Bx.mono (h:Bx C R w p a D S) (u:∀ g,g < w.heap.size→C g→E g) (F:∀ g,g < w.heap.size→R g→T g) (z:∀ g,E g → ¬ T g):Bx E T w p a D S:=by obtain ⟨L,h,e⟩:=h; exact ⟨L,h.mono u F z,e⟩
theorem Bx.cr (h:Bx C R w p a D S):∀ g,C g → ¬ R g:=by obtain ⟨L,h,_⟩:=h; exact h.cr
def cut (w:World) (X:Nat→Prop) (g:Nat):Prop:=g < w.heap.size∧X g
def ext (w:World) (X:Nat→Prop) (g:Nat):Prop:=(g < w.heap.size∧X g)∨w.heap.size≤g
def fresh (w:World) (g:Nat):Prop:=w.heap.size≤g
theorem Bt.cutC {L:List (Int × En)} (h:Bt C R w p a L S):Bt (cut w C) (ext w R) w p a L S:=h.mono (fun g z hc=>⟨z,hc⟩) (fun g z hc=>.inl ⟨z,hc⟩) (fun g hc u=>by
 rcases u with u | u
 ·exact h.cr g hc.2 u.2
 ·exact absurd hc.1 (by omega))
theorem Bt.extC {L:List (Int × En)} (h:Bt C R w p a L S):Bt (ext w C) (cut w R) w p a L S:=h.mono (fun g u hc=>.inl ⟨u,hc⟩) (fun g u hc=>⟨u,hc⟩) (fun g hc z=>by
 rcases hc with hc | hc
 ·exact h.cr g hc.2 z.2
 ·exact absurd z.1 (by omega))
end
section
variable (w:World) {ops:Array Oper} {rest:List Oper} {o:Oper} {a:Act} {Q:Exit→Act→World→Prop}
theorem lookP (z:o.guard=none) (m x:Operand) (G:o.op=Op.lookup 184 m x false) (b:Nat) (L:List (Int × Option Nat)) (F:a.eval m=.map (some b)) (h:MP w b L) (y:Int) (J:U64 y) (hx:a.eval x=.int .u64 y)
  (q:Option Nat) (I:(fnd L y).getD none=q)
  (u:wpList Tryz.prog ops Q rest (a.put o.dst (.pointer (q.map fun b=>⟨b,0,none⟩))) w):wpList Tryz.prog ops Q (o :: rest) a w:=by
 refine look1 w z m x 184 G 22 201 Tryz.underlying22 Tryz.underlying184 none (zeroP w) b L F h y J hx ?_
 rw [I]
 exact u
end
section
variable {C R:Nat→Prop} (w:World) (p a:Nat) (L:List (Int × En)) (S:List Int) (id:Int)
theorem of_miss (h:Bt C R w p a L S) (hid:U64 id) (hn:fnd L id=none) :
  Calls Tryz.prog 120 #[ptr p,.int .u64 id] w fun e w'=>e=.returned (.pointer none)∧w=w':=by
 have c0:=h.c0
 have u:(fnd (bl L) id).getD none=none:=by rw [h.find,hn]; rfl
 have G:=Lh h.mo
 have F:=Lh hid
 have z:=Lh u
 clear h hid hn u
 go_enter Tryz.func120,Tryz.ntmps120
 go_wp2_with (at_lookup; refine lookP _ rfl _ _ rfl a _ rfl G.out id F.out rfl none z.out ?_)
 go_ret
 exact ⟨rfl,rfl⟩
theorem of_hit (h:Bt C R w p a L S) (hid:U64 id) {x:En} (hx:fnd L id=some x) :
  Calls Tryz.prog 120 #[ptr p,.int .u64 id] w fun e w'=>e=.returned (ptr x.e)∧w=w':=by
 have c0:=h.c0
 have u:(fnd (bl L) id).getD none=some x.e:=by rw [h.find,hx]; rfl
 have G:=Lh h.mo
 have F:=Lh hid
 have z:=Lh u
 clear h hid hx u
 go_enter Tryz.func120,Tryz.ntmps120
 go_wp2_with (at_lookup; refine lookP _ rfl _ _ rfl a _ rfl G.out id F.out rfl (some x.e) z.out ?_)
 go_ret
 exact ⟨rfl,rfl⟩
theorem wrong_any (h:Bt C R w p a L S) (hid:U64 id) :
  Calls Tryz.prog 179 #[ptr p,.int .u64 id] w fun e w'=>e=.returned (.int .i64 (if (fnd L id).isSome then 0 else 9))∧w=w':=by
 cases hf:fnd L id with
 | none=>
  have H:=Lh (of_miss w p a L S id h hid hf)
  clear h hid hf
  go_enter Tryz.func179,Tryz.ntmps179
  go_wp2_with fail
  refine H.out.mono ?_
  rintro e u ⟨rfl,rfl⟩
  go_wp2_with fail
  go_ret
  exact ⟨rfl,rfl⟩
 | some x=>
  have H:=Lh (of_hit w p a L S id h hid hf)
  clear h hid hf
  go_enter Tryz.func179,Tryz.ntmps179
  go_wp2_with fail
  refine H.out.mono ?_
  rintro e u ⟨rfl,rfl⟩
  go_wp2_with fail
  go_ret
  exact ⟨rfl,rfl⟩
theorem loadT_any (h:Bt C R w p a L S) (hid:U64 id) :
  Calls Tryz.prog 62 #[ptr p,.int .u64 id] w fun e w'=>e=.returned (.tuple #[.int .u64 (((fnd L id).map En.word).getD 0),.bool (fnd L id).isSome])∧w=w':=by
 cases hf:fnd L id with
 | none=>
  have H:=Lh (of_miss w p a L S id h hid hf)
  clear h hid hf
  go_enter Tryz.func62,Tryz.ntmps62
  go_wp2_with fail
  refine H.out.mono ?_
  rintro e z ⟨rfl,rfl⟩
  go_wp2_with fail
  go_ret2
  exact ⟨rfl,rfl⟩
 | some x=>
  have H:=Lh (of_hit w p a L S id h hid hf)
  have u:=(h.get hf).1
  have k0:=u.k0
  have kc:=u.kc
  clear h hid hf u
  go_enter Tryz.func62,Tryz.ntmps62
  go_wp2_with fail
  refine H.out.mono ?_
  rintro e z ⟨rfl,rfl⟩
  go_wp2_with fail
  refine (Wd.load_any _ _ _ kc).mono ?_
  rintro e F ⟨rfl,rfl⟩
  go_wp2_with fail
  go_ret2
  exact ⟨rfl,rfl⟩
theorem entry_miss (h:Bt C R w p a L S) (hid:U64 id) (u:fnd L id=none) :
  Calls Tryz.prog 82 #[ptr p,.int .u64 id] w fun e w'=>e=.returned (.tuple #[.agg #[.int .u64 0,.int .u64 0,.int .u64 0,.int .u64 0,.int .u64 0],.bool false])∧Below w.heap.size w w':=by
 have b1:Below w.heap.size w (w.alloc (.cells #[.int .u64 0,.int .u64 0,.int .u64 0,.int .u64 0,.int .u64 0] 155)):=(Below.refl _ _).alloc (Nat.le_refl _) _
 have H:=Lh (of_miss (w.alloc (.cells #[.int .u64 0,.int .u64 0,.int .u64 0,.int .u64 0,.int .u64 0] 155)) p a L S id (h.later b1) hid u)
 clear h hid u
 go_enter Tryz.func82,Tryz.ntmps82
 go_wp2_with fail
 refine H.out.mono ?_
 rintro e z ⟨rfl,rfl⟩
 go_wp2_with fail
 refine bodyPost_ret (v:=.tuple #[.agg #[.int .u64 0,.int .u64 0,.int .u64 0,.int .u64 0,.int .u64 0],.bool false]) (by simp [results,Tryz.results82,go_sem]) rfl ⟨rfl,?_⟩
 repeat' (first | exact Below.refl _ _ | apply Below.setCell | apply Below.alloc)
 all_goals (first | (simp; done) | (simp; omega))
theorem list_any (h:Bt C R w p a L S):Calls Tryz.prog 140 #[ptr p] w fun e w'=>∃ A n c,e=.returned (.agg #[.slice A n c])∧Rd (Value.int .u64) w w.heap.size A n c S∧(0 < n → ∀ b o,A=some ⟨b,o,none⟩→R b)∧Below w.heap.size w w':=by
 obtain ⟨A,n,c,c1,u,z⟩:=h.row
 have F:=Lh u
 have G:=Lh z
 clear h u z
 have I:=Lw.lt_heap c1
 go_enter Tryz.func140,Tryz.ntmps140
 go_wp2_with fail
 refine bodyPost_ret (v:=.agg #[.slice A n c]) (by simp [results,Tryz.results140,go_sem]) rfl ⟨A,n,c,rfl,F.out,G.out,?_⟩
 repeat' (first | exact Below.refl _ _ | apply Below.setCell | apply Below.alloc)
 all_goals (first | (simp; done) | (simp; omega))
theorem new_any:Calls Tryz.prog 33 #[] w fun e w'=>e=.returned (ptr (w.heap.size+1))∧Bt (fresh w) (fun _=>False) w' (w.heap.size+1) w.heap.size [] [] ∧ Below w.heap.size w w':=by
 have z:=@run_makeMap Tryz.prog
 go_enter Tryz.func33,Tryz.ntmps33
 go_wp2_with fail
 go_ret
 refine ⟨rfl,⟨by go_simp,by go_simp,⟨none,0,0,by go_simp,Rd.nil_,fun h=>absurd h (by omega)⟩,List.nodup_nil,fun x hx=>(by cases hx),?_,fun q u=>(by cases u),fun q u=>(by cases u),List.Pairwise.nil,fun q u=>(by cases u),(show w.heap.size≤w.heap.size+1 by omega),Nat.le_refl _,fun _ _ h=>h⟩,((Below.refl _ _).alloc (Nat.le_refl _) _).alloc (by simp) _⟩
 exact (Mo.made w Tryz.prog 22 eP).alloc _
end
theorem and_keep {A B:Prop} (a:A) (h:A→B):A∧B:=⟨a,h a⟩
section
variable {C R:Nat→Prop} (w:World) (p a:Nat) (L:List (Int × En)) (S:List Int) (id:Int)
theorem entry_hit (h:Bt C R w p a L S) (hid:U64 id) {x:En} (I:fnd L id=some x) :
  Calls Tryz.prog 82 #[ptr p,.int .u64 id] w fun e w'=>e=.returned (.tuple #[.agg #[.int .u64 id,.int .u64 x.word,.int .u64 x.born,.int .u64 x.since,.int .u64 x.proved],.bool true])∧Below w.heap.size w w':=by
 have b1:Below w.heap.size w (w.alloc (.cells #[.int .u64 0,.int .u64 0,.int .u64 0,.int .u64 0,.int .u64 0] 155)):=(Below.refl _ _).alloc (Nat.le_refl _) _
 have H:=Lh (of_hit (w.alloc (.cells #[.int .u64 0,.int .u64 0,.int .u64 0,.int .u64 0,.int .u64 0] 155)) p a L S id (h.later b1) hid I)
 have F:=(h.get I).1
 have Y:=Lh F.k0
 have K1:=Lh F.k1
 have K2:=Lh F.k2
 have K3:=Lh F.k3
 have KC:=Lh F.kc
 have G:=Lh F.lt
 clear h hid I F
 go_enter Tryz.func82,Tryz.ntmps82
 go_wp2_with fail
 refine H.out.mono ?_
 rintro e w1 ⟨rfl,rfl⟩
 go_wp2_with fail
 have u:=Lh (b1.trans ((Below.refl _ _).drew.mono b1.size))
 have W:=Lh b1
 clear b1
 refine reg_start 21 (fun w'=>Below w.heap.size w w') (by kernel_rfl) (by kernel_rfl) ?_
 intro N
 have z:=Lh N
 clear N
 refine rq 0 z.out u.out rfl ?_
 refine rq 1 z.out u.out rfl ?_
 refine rq 2 z.out u.out rfl ?_
 refine rq 3 z.out u.out rfl ?_
 refine rq 4 z.out u.out rfl ?_ (hv:=fun w' hw=>by (have k:=(hw.cell (p:=⟨x.e,0,none⟩) G.out.1).trans Y.out; go_simp; exact rfl))
 refine rq 6 z.out u.out rfl ?_
 refine rq 7 z.out u.out rfl ?_
 refine rq 8 z.out u.out rfl ?_
 refine rq 9 z.out u.out rfl ?_ (hv:=fun w' hw=>by (have k:=(hw.cell (p:=⟨x.e,1,none⟩) G.out.1).trans K1.out; go_simp; exact rfl))
 refine rq 10 z.out u.out rfl ?_
 refine rq 11 z.out u.out rfl ?_
 refine rq 12 z.out u.out rfl ?_
 refine rq 13 z.out u.out rfl ?_ (hv:=fun w' hw=>by (have k:=(hw.cell (p:=⟨x.e,2,none⟩) G.out.1).trans K2.out; go_simp; exact rfl))
 refine rq 14 z.out u.out rfl ?_
 refine rq 15 z.out u.out rfl ?_
 refine rq 16 z.out u.out rfl ?_
 refine rq 17 z.out u.out rfl ?_ (hv:=fun w' hw=>by (have k:=(hw.cell (p:=⟨x.e,3,none⟩) G.out.1).trans K3.out; go_simp; exact rfl))
 refine reg_only 5 rfl (by kernel_rfl) rfl ?_
 unfold Oper.wp
 go_simp
 refine (Wd.load_any _ _ _ ((u.out.cell (p:=⟨x.c,0,none⟩) G.out.2).trans KC.out)).mono ?_
 rintro e w2 ⟨rfl,rfl⟩
 refine ⟨u.out,?_⟩
 refine rq 18 z.out u.out rfl ?_
 refine reg_only 19 rfl (by kernel_rfl) rfl ?_
 unfold Oper.wp
 go_simp
 refine and_keep (by (repeat' (first | exact u.out | exact W.out | exact Below.refl _ _ | apply Below.setCell | apply Below.drew | apply Below.alloc)); all_goals (first | exact Nat.le_refl _ | omega | (simp; done) | (simp; omega))) ?_
 intro J
 clear u
 have u:=Lh J
 clear J
 refine rq 20 z.out u.out rfl ?_
 refine reg_done (by kernel_rfl) ?_
 go_wp2_with fail
 refine bodyPost_ret (v:=.tuple #[.agg #[.int .u64 id,.int .u64 x.word,.int .u64 x.born,.int .u64 x.since,.int .u64 x.proved],.bool true]) (by simp [results,Tryz.results82,go_sem]) rfl ⟨rfl,u.out⟩
theorem Bt.enter {w:World} {p a:Nat} {L:List (Int × En)} {S:List Int} {id:Int} (h:Bt C R w p a L S) (hn:fnd L id=none) (hid:U64 id) {w1 F:World} (W:Below w.heap.size w w1) (x:En) (a4:Ok (ext w C) F x) (he:w.heap.size≤x.e) (hc:w.heap.size≤x.c)
  (hm:MP F a ((id,some x.e) :: wo (bl L) id)) (hg:w1.grownBy F (some a)):Bt (ext w C) (cut w R) F p a (ins L id x) S:=by
 replace h:=h.extC
 have Y:id ∉ L.map Prod.fst:=fnd_no hn
 have a3:id ∉ (bl L).map Prod.fst:=by rw [bl_keys]; exact Y
 have hk:∀ g,g < w.heap.size→g≠a→F.heap[g]? = w.heap[g]?:=fun g a0 a2=>(hg.block g (Nat.lt_of_lt_of_le a0 W.size) (fun e=>a2 (by injection e))).trans (W.block g a0)
 have a5:p≠a:=fun e=>h.mo.no_cell 0 _ (e ▸ h.c0)
 have hp:=hk p h.lt.1 a5
 obtain ⟨A,n,c,h1,N,h3⟩:=h.row
 have I:∀ {q},q∈ins L id x↔q=(id,x)∨q∈L:=mem_ins h.ri Y
 refine ⟨(World.cell?_of_block hp).trans h.c0,(World.frozen?_of_block hp).trans h.f1,⟨A,n,c,(World.cell?_of_block hp).trans h1,rd_blk N (Nat.le_trans W.size hg.size) fun hn b o e=>?_,h3⟩,h.nd,h.us,?_,fun q u=>?_,fun q u r J e=>?_,h.ri.ins x,fun q u=>?_,h.ip,h.ia,h.cr⟩
 ·obtain ⟨b',o',G,a7,a1⟩:=N.at_ hn
  rw [e] at G; injection G with G; injection G with e1 e2 _
  have hl:0 < S.length:=by rw [N.len]; exact hn
  refine hk b (by omega) (fun e3=>?_)
  have:=a1 0 _ (List.getElem?_eq_getElem hl)
  rw [← e1,e3] at this
  exact h.mo.no_cell _ _ this
 ·refine hm.perm ?_
  rw [wo_none a3]
  have:=(ins_perm (id:=id) h.ri Y x).map (fun q=>(q.1,some q.2.e))
  exact this
 ·rcases I.1 u with rfl | u
  ·exact a4
  ·have z:=h.en q u
   exact z.blk (hk _ z.lt.1 (fun e=>h.mo.no_cell 0 _ (e ▸ z.k0))) (hk _ z.lt.2 (fun e=>h.mo.no_cell 0 _ (e ▸ z.kc)))
 ·rcases I.1 u with rfl | u <;> rcases I.1 J with rfl | J
  ·rfl
  ·have a6:=h.en r J
   have:=a6.lt
   simp only at e
   omega
  ·have z:=h.en q u
   have:=z.lt
   simp only at e
   omega
  ·exact h.ap q u r J e
 ·rcases I.1 u with rfl | u
  ·exact hid
  ·exact h.ui q u
def eE {β:Type} (D:List (Int × β)) (id st:Int):Int:=if id=0∨st < 0∨3 < st then 2 else if (fnd D id).isSome then 10 else 0
theorem enter_range (st now:Int) (h:id=0∨st < 0∨3 < st):Calls Tryz.prog 55 #[ptr p,.int .u64 id,.int .i64 st,.int .u64 now] w fun e w'=>e=.returned (.int .i64 2)∧w=w':=by
 by_cases h0:id=0
 ·have u:(id == 0)=true:=by simpa using h0
  clear h0 h
  go_enter Tryz.func55,Tryz.ntmps55
  go_wp2_with fail
  go_ret
  exact ⟨rfl,rfl⟩
 ·have u:(id == 0)=false:=by simpa using h0
  by_cases h1:st < 0
  ·have z:decide (st < 0)=true:=decide_eq_true h1
   clear h0 h1 h
   go_enter Tryz.func55,Tryz.ntmps55
   go_wp2_with fail
   go_ret
   exact ⟨rfl,rfl⟩
  ·have z:decide (st < 0)=false:=decide_eq_false h1
   have F:decide (3 < st)=true:=decide_eq_true (by omega)
   clear h0 h1 h
   go_enter Tryz.func55,Tryz.ntmps55
   go_wp2_with fail
   go_ret
   exact ⟨rfl,rfl⟩
theorem enter_had (h:Bt C R w p a L S) (hid:U64 id) (st now:Int) (z:¬ (id=0∨st < 0∨3 < st)) {x:En} (u:fnd L id=some x):Calls Tryz.prog 55 #[ptr p,.int .u64 id,.int .i64 st,.int .u64 now] w fun e w'=>e=.returned (.int .i64 10)∧w=w':=by
 have F:(id == 0)=false:=by simp; omega
 have G:decide (st < 0)=false:=decide_eq_false (by omega)
 have I:decide (3 < st)=false:=decide_eq_false (by omega)
 have H:=Lh (of_hit w p a L S id h hid u)
 clear h hid z u
 go_enter Tryz.func55,Tryz.ntmps55
 go_wp2_with fail
 refine H.out.mono ?_
 rintro e J ⟨rfl,rfl⟩
 go_wp2_with fail
 go_ret
 exact ⟨rfl,rfl⟩
theorem enter_new (h:Bt C R w p a L S) (hid:U64 id) (st now:Int) (a3:U64 now) (hr:¬ (id=0∨st < 0∨3 < st)) (N:fnd L id=none) (a8:L.length < 1000000) :
  Calls Tryz.prog 55 #[ptr p,.int .u64 id,.int .i64 st,.int .u64 now] w fun e w'=>e=.returned (.int .i64 0)∧(∃ x:En,x.x=⟨Wd.wOf st 0,now,now,now⟩∧Bt (ext w C) (cut w R) w' p a (ins L id x) S)∧Fz C w w':=by
 have q0:(id == 0)=false:=by simp; omega
 have q1:decide (st < 0)=false:=decide_eq_false (by omega)
 have q2:decide (3 < st)=false:=decide_eq_false (by omega)
 have H:=Lh (of_miss w p a L S id h hid N)
 have K0:=Lh h.c0
 have HL:=Lh h.lt.1
 have HM:=Lh h.mo
 have I:=Lh h
 have HI:=Lh hid
 have HN:=Lh N
 have J:=Lh a3
 have a6:Hid ((bl L).length < 4611686018427387904):=Lh (by simp [bl]; omega)
 clear h hid hr N a3 a8
 go_enter Tryz.func55,Tryz.ntmps55
 go_wp2_with fail
 refine H.out.mono ?_
 rintro e w1 ⟨rfl,rfl⟩
 go_wp2_with fail
 have u:Hid (Below w.heap.size w w.drew):=Lh (Below.refl _ _).drew
 have Y:Hid (Below w.heap.size w w):=Lh (Below.refl _ _)
 refine reg_start 13 (fun w'=>Below w.heap.size w w') (by kernel_rfl) (by kernel_rfl) ?_
 intro a1
 have z:=Lh a1
 clear a1
 refine rq 0 z.out u.out rfl ?_
 refine rq 1 z.out u.out rfl ?_
 refine rq 2 z.out u.out rfl ?_
 refine rq 3 z.out u.out rfl ?_ (hv:=fun w' hw=>by (have k:=(hw.cell (p:=⟨p,0,none⟩) HL.out).trans K0.out; go_simp; exact rfl))
 refine rq 4 z.out u.out rfl ?_
 refine rq 5 z.out u.out rfl ?_
 refine rq 8 z.out u.out rfl ?_
 refine rq 9 z.out u.out rfl ?_
 refine rq 10 z.out u.out rfl ?_
 refine reg_only 6 rfl (by kernel_rfl) rfl ?_
 unfold Oper.wp
 go_simp
 refine (Wd.of_any st 0 _ (by omega) (by omega)).mono ?_
 rintro e w2 ⟨rfl,rfl⟩
 refine ⟨u.out,?_⟩
 refine reg_only 7 rfl (by kernel_rfl) rfl ?_
 unfold Oper.wp
 go_simp
 refine (Wd.new_any _ _).mono ?_
 rintro e w2 ⟨rfl,rfl⟩
 refine and_keep (by (repeat' (first | exact u.out | exact Y.out | exact Below.refl _ _ | apply Below.setCell | apply Below.drew | apply Below.alloc)); all_goals (first | exact Nat.le_refl _ | omega | (simp; done) | (simp; omega))) ?_
 intro F
 clear u
 have u:=Lh F
 clear F
 refine rq 11 z.out u.out rfl ?_
 refine reg_only 12 rfl (by kernel_rfl) rfl ?_
 unfold Oper.wp
 go_simp
 refine and_keep (by (repeat' (first | exact u.out | exact Y.out | exact Below.refl _ _ | apply Below.setCell | apply Below.drew | apply Below.alloc)); all_goals (first | exact Nat.le_refl _ | omega | (simp; done) | (simp; omega))) ?_
 intro F
 clear u
 have u:=Lh F
 clear F
 refine reg_only 13 rfl (by kernel_rfl) rfl ?_
 unfold Oper.wp
 go_simp
 obtain ⟨W,a4,a0,a2⟩:=run_put (E:=eP) ((w.alloc (.cells #[.int .u64 (Wd.wOf st 0)] 268)).alloc (.cells #[ptr w.heap.size,.int .u64 now,.int .u64 now,.int .u64 now] 204)).drew Tryz.underlying22 Tryz.underlying184 (HM.out.later u.out) a6.out HI.out (some (w.heap.size+1))
 have a5:(Instr.mapUpdate 184 (.map (some a)) (.int .u64 id) (.pointer (some ⟨w.heap.size+1,0,none⟩))).run Tryz.prog ((w.alloc (.cells #[.int .u64 (Wd.wOf st 0)] 268)).alloc (.cells #[.pointer (some ⟨w.heap.size,0,none⟩),.int .u64 now,.int .u64 now,.int .u64 now] 204)).drew=.ok () W:=a4
 rw [a5]
 go_simp
 refine reg_done (by kernel_rfl) ?_
 have aa:=Lh (u.out.size)
 have a7:=Lh a0
 have G:=Lh a2
 clear a4 a5 a0 a2
 go_wp2_with fail
 go_ret
 have ac:=I.out.lt.2
 have hw:=G.out
 have c1:∀ i v,((w.alloc (.cells #[.int .u64 (Wd.wOf st 0)] 268)).alloc (.cells #[ptr w.heap.size,.int .u64 now,.int .u64 now,.int .u64 now] 204)).drew.cell? ⟨w.heap.size+1,i,none⟩=some v→W.cell? ⟨w.heap.size+1,i,none⟩=some v:=fun i v hv=>hw.cell hv (by intro e; injection e with e; have e:w.heap.size+1=a:=e; omega)
 have a9:Ok (ext w C) W ⟨w.heap.size+1,w.heap.size,Wd.wOf st 0,now,now,now⟩:=
  ⟨c1 0 _ (by go_simp),c1 1 _ (by go_simp),c1 2 _ (by go_simp),c1 3 _ (by go_simp),hw.cell (a:=⟨w.heap.size,0,none⟩) (by go_simp) (by intro e; injection e with e; have e:w.heap.size=a:=e; omega),
   (World.frozen?_of_block (hw.block _ (by simp) (by intro e; injection e with e; have e:w.heap.size+1=a:=e; omega))).trans (by go_simp),(World.frozen?_of_block (hw.block _ (by simp) (by intro e; injection e with e; have e:w.heap.size+1=a:=e; omega))).trans (by go_simp),(World.frozen?_of_block (hw.block _ (by simp; omega) (by intro e; injection e with e; have e:w.heap.size=a:=e; omega))).trans (by go_simp),
   .inr (by show w.heap.size≤w.heap.size+1; omega),.inr (Nat.le_refl _),⟨Wd.wOf_lo st 0,Wd.wOf_hi st 0⟩,J.out,J.out,J.out⟩
 exact ⟨rfl,⟨_,rfl,I.out.enter HN.out HI.out u.out _ a9 (by show w.heap.size≤w.heap.size+1; omega) (Nat.le_refl _) a7.out G.out⟩,(Fz.of_below u.out).trans (Fz.of_grown G.out (fun g e _=>by injection e with e; subst e; exact I.out.ia))⟩
theorem swapT_miss (h:Bt C R w p a L S) (hid:U64 id) (u:fnd L id=none) (old st now:Int):Calls Tryz.prog 66 #[ptr p,.int .u64 id,.int .u64 old,.int .i64 st,.int .u64 now] w fun e w'=>e=.returned (.tuple #[.int .u64 0,.bool false])∧w=w':=by
 have H:=Lh (of_miss w p a L S id h hid u)
 clear h hid u
 go_enter Tryz.func66,Tryz.ntmps66
 go_wp2_with fail
 refine H.out.mono ?_
 rintro e z ⟨rfl,rfl⟩
 go_wp2_with fail
 go_ret2
 exact ⟨rfl,rfl⟩
theorem swapT_hit (h:Bt C R w p a L S) (hid:U64 id) {x:En} (N:fnd L id=some x) (old st now:Int) (ho:U64 old) (a8:U64 now):Calls Tryz.prog 66 #[ptr p,.int .u64 id,.int .u64 old,.int .i64 st,.int .u64 now] w fun e w'=>e=.returned (.tuple #[.int .u64 (Wd.wSwap x.word old st),.bool (Wd.wSwapOk x.word old st)]) ∧
   Bt C R w' p a (up L id fun y=>{ y with word:=Wd.wSwap x.word old st,since:=if Wd.wSwapOk x.word old st=true∧st=0 then now else x.since,proved:=x.proved }) S∧Fz C w w':=by
 have H:=Lh (of_hit w p a L S id h hid N)
 have ag:=(h.get N).1
 obtain ⟨g0,g1,g2,g3,I,f2,f3,fc,a7,a6,uw,ub,us,up_⟩:=ag
 have J:x.e≠x.c:=fun e=>by rw [e,I] at g0; cases g0
 have ai:=Lw.lt_heap g0
 have ah:=Lw.lt_heap I
 have G2:=Lh g2
 have W:=Lh g3
 have F2:=Lh f2
 have HK:=Lh h
 have HF:=Lh N
 have a9:=Lh a7
 have a1:=Lh a6
 have F:=Lh J
 have G:Hid (U64 (Wd.wSwap x.word old st)):=Lh ⟨Wd.wSwap_lo _ _ _ uw.1,Wd.wSwap_hi _ _ _ uw.2⟩
 have ac:=Lh a8
 have a4:=Lh us
 have a2:=Lh up_
 obtain ⟨V,hV⟩:∃ V,Wd.wSwap x.word old st=V:=⟨_,rfl⟩
 have z:=Lh (Wd.swap_any ⟨x.c,0,none⟩ x.word old st w I fc ho.1 ho.2)
 rw [hV] at G z ⊢
 have a5:(w.setCell ⟨x.c,0,none⟩ (.int .u64 V)).cell? ⟨x.c,0,none⟩=some (.int .u64 V):=World.cell?_setCell_same _ _ _ I
 have a3:∀ o,(w.setCell ⟨x.c,0,none⟩ (.int .u64 V)).cell? ⟨x.e,o,none⟩=w.cell? ⟨x.e,o,none⟩:=fun o=>World.cell?_setCell_other w _ _ _ (fun e=>J (by injection e with e _; exact e.symm))
 have ad:=(a3 2).trans g2
 have aj:(w.setCell ⟨x.c,0,none⟩ (.int .u64 V)).frozen? ⟨x.e,2,none⟩=false:=by
  rw [← f2]; exact World.frozen?_of_block (heap_setCell_other w ⟨x.c,0,none⟩ x.e _ (fun e=>J e))
 have Y:=Lh a5
 have u:=Lh a3
 have a0:=Lh ad
 have HV:=Lh hV
 clear h hid N g1 g2 g3 f2 f3 a7 a6 J uw ub us up_ a8 hV a5 a3
 cases hk:Wd.wSwapOk x.word old st with
 | false=>
  rw [hk] at z
  have aa:=Lh hk
  clear hk
  rw [if_neg (fun e=>by cases e.1)]
  go_enter Tryz.func66,Tryz.ntmps66
  go_wp2_with fail
  refine H.out.mono ?_
  rintro e w1 ⟨rfl,rfl⟩
  go_wp2_with fail
  refine z.out.mono ?_
  rintro e w2 ⟨rfl,rfl⟩
  go_wp2_with fail
  go_ret2
  refine ⟨rfl,HK.out.turn HF.out V x.since x.proved G.out a4.out a2.out (by simp) a0.out ((u.out 3).trans W.out) Y.out (fun o _ _=>u.out o) (fun o=>World.frozen?_of_block (heap_setCell_other w ⟨x.c,0,none⟩ x.e _ F.out)) (by simp) (fun g _ _ hg=>heap_setCell_other w ⟨x.c,0,none⟩ g _ hg),Fz.of_set _ a1.out⟩
 | true=>
  rw [hk] at z
  have aa:=Lh hk
  clear hk
  by_cases h0:st=0
  ·have q0:(st == 0)=true:=by simpa using h0
   rw [if_pos ⟨rfl,h0⟩]
   have H0:=Lh h0
   clear h0
   go_enter Tryz.func66,Tryz.ntmps66
   go_wp2_with fail
   refine H.out.mono ?_
   rintro e w1 ⟨rfl,rfl⟩
   go_wp2_with fail
   refine z.out.mono ?_
   rintro e w2 ⟨rfl,rfl⟩
   go_wp2_with fail
   go_ret2
   refine ⟨rfl,HK.out.turn HF.out V now x.proved G.out ac.out a2.out (by simp) (World.cell?_setCell_same _ _ _ a0.out) ?_ ?_ (fun o h2 h3=>?_) (fun o=>?_) ?_ (fun g _ ae af=>(heap_setCell_other _ ⟨x.e,2,none⟩ g _ ae).trans (heap_setCell_other w ⟨x.c,0,none⟩ g _ af)),(Fz.of_set _ a1.out).trans (Fz.of_set _ a9.out)⟩
   ·exact (World.cell?_setCell_other _ _ _ _ (fun e=>by injection e with _ e _; omega)).trans ((u.out 3).trans W.out)
   ·exact (World.cell?_setCell_other _ _ _ _ (fun e=>F.out (by injection e))).trans Y.out
   ·exact (World.cell?_setCell_other _ _ _ _ (fun e=>by injection e with _ e _; omega)).trans (u.out o)
   ·rw [World.frozen?_setCell]; exact World.frozen?_of_block (heap_setCell_other w ⟨x.c,0,none⟩ x.e _ F.out)
   ·simp
  ·have q0:(st == 0)=false:=by simpa using h0
   rw [if_neg (fun e=>h0 e.2)]
   clear h0
   go_enter Tryz.func66,Tryz.ntmps66
   go_wp2_with fail
   refine H.out.mono ?_
   rintro e w1 ⟨rfl,rfl⟩
   go_wp2_with fail
   refine z.out.mono ?_
   rintro e w2 ⟨rfl,rfl⟩
   go_wp2_with fail
   go_ret2
   refine ⟨rfl,HK.out.turn HF.out V x.since x.proved G.out a4.out a2.out (by simp) a0.out ((u.out 3).trans W.out) Y.out (fun o _ _=>u.out o) (fun o=>World.frozen?_of_block (heap_setCell_other w ⟨x.c,0,none⟩ x.e _ F.out)) (by simp) (fun g _ _ hg=>heap_setCell_other w ⟨x.c,0,none⟩ g _ hg),Fz.of_set _ a1.out⟩
end
section
variable {C R:Nat→Prop} (w:World) (p a:Nat) (L:List (Int × En)) (S:List Int) (id:Int)
theorem Bt.list_put {w z:World} {p a:Nat} {L:List (Int × En)} {S S':List Int} (h:Bt C R w p a L S) (Y:Below w.heap.size w z) {A':Option Addr} {F G:Nat} (hr:Rd (Value.int .u64) z z.heap.size A' F G S') (a0:S'.Nodup) (a4:Sn.U64s S')
  (hs:0 < F → ∀ b o,A'=some ⟨b,o,none⟩→R b):Bt C R (z.setCell ⟨p,1,none⟩ (.slice A' F G)) p a L S':=by
 have u:=h.later Y
 obtain ⟨A,n,c,W,-,-⟩:=u.row
 have a3:p≠a:=fun e=>u.mo.no_cell 0 _ (e ▸ u.c0)
 have a2:=a3.symm
 have a1:∀ x,Value.int .u64 x≠Value.slice A n c:=fun x e=>by cases e
 have N:∀ g,g≠p→(z.setCell ⟨p,1,none⟩ (.slice A' F G)).heap[g]? = z.heap[g]?:=fun g hg=>heap_setCell_other z ⟨p,1,none⟩ g _ hg
 refine ⟨(World.cell?_setCell_other _ _ _ _ (fun e=>by injection e with _ e _; omega)).trans u.c0,by simpa using u.f1,⟨A',F,G,World.cell?_setCell_same _ _ _ W,?_,hs⟩,a0,a4,u.mo.setCell a2 _,fun q hq=>?_,u.ap,u.ri,u.ui,u.ip,u.ia,u.cr⟩
 ·have:=hr.setOther (p:=⟨p,1,none⟩) W a1 (.slice A' F G)
  simpa using this
 ·have J:=u.en q hq
  exact J.blk (N _ (fun e=>by have I:=u.c0; rw [← e,J.k0] at I; cases I)) (N _ (fun e=>by have I:=u.c0; rw [← e,J.kc] at I; cases I))
theorem publish_miss (h:Bt C R w p a L S) (hid:U64 id) (u:fnd L id=none):Calls Tryz.prog 125 #[ptr p,.int .u64 id] w fun e w'=>e=.returned (.int .i64 9)∧w=w':=by
 have H:=Lh (wrong_any w p a L S id h hid)
 rw [u] at H
 clear h hid u
 go_enter Tryz.func125,Tryz.ntmps125
 go_wp2_with fail
 refine H.out.mono ?_
 rintro e z ⟨rfl,rfl⟩
 go_wp2_with fail
 go_ret
 exact ⟨rfl,rfl⟩
theorem publish_hit (h:Bt C R w p a L S) (hid:U64 id) {x:En} (W:fnd L id=some x) (hl:S.length≤1000000):Calls Tryz.prog 125 #[ptr p,.int .u64 id] w fun e w'=>e=.returned (.int .i64 0)∧Bt (cut w C) (ext w R) w' p a L (Sn.sWith S id)∧Fz C w w':=by
 have H:=Lh (wrong_any w p a L S id h hid)
 rw [W] at H
 obtain ⟨A,n,c,c1,G,N⟩:=h.row
 have a6:=Lh (show Sn.Snap w w.heap.size (.agg #[.slice A n c]) S from ⟨⟨A,n,c,rfl,G⟩,h.nd,h.us⟩)
 have f1:=h.f1
 have H3:=Lh N
 have a5:=Lh G
 have J:=Lh h
 have HI:=Lh hid
 clear h hid W G N
 go_enter Tryz.func125,Tryz.ntmps125
 go_wp2_with fail
 refine H.out.mono ?_
 rintro e w1 ⟨rfl,rfl⟩
 go_wp2_with fail
 refine (Sn.with2_any _ S id w a6.out (by omega) HI.out).mono ?_
 rintro e w2 ⟨u,rfl,a7,z,Y⟩
 obtain ⟨⟨A2,n2,c2,rfl,a3⟩,a1,a2⟩:=a7
 have a0:=Lw.lt_heap c1
 have k1:=(z.cell (p:=⟨p,1,none⟩) a0).trans c1
 have kf:=(z.frozen (p:=⟨p,1,none⟩) a0).trans f1
 have a4:0 < n2 → ∀ b o,A2=some ⟨b,o,none⟩→ext w R b:=by
  rcases Y with e | ⟨A9,n9,c9,e,I⟩
  ·injection e with e; injection e with e; injection e with e; injection e with e1 e2 e3; subst e1 e2; exact fun hn b o e=>by obtain ⟨b',o',F,a8,_⟩:=a5.out.at_ hn; have I:=H3.out hn b o e; rw [e] at F; injection F with F; injection F with e3 _; exact .inl ⟨by omega,I⟩
  ·injection e with e; injection e with e; injection e with e; injection e with e1 e2 e3; subst e1 e2
   intro _ b o hA
   exact .inr (I b o hA)
 have HP:=Lh (J.out.cutC.list_put z a3 a1 a2 a4)
 have HB:=Lh z
 clear z a4 a3 a1 a2 Y c1 f1
 go_wp2_with fail
 go_ret
 exact ⟨rfl,HP.out,(Fz.of_below HB.out).trans (Fz.of_set _ J.out.ip)⟩
def cnt (D:List (Int × Ex)) (st:Int):Nat:=(D.filter (fun q=>q.2.word % 4 == st)).length
theorem bl_hit {L:List (Int × En)} {y:Int} {q:Option Nat} (h:(y,q)∈bl L):∃ x,(y,x)∈L∧q=some x.e:=by
 obtain ⟨r,u,e⟩:=List.mem_map.1 h
 injection e with e1 e2
 exact ⟨r.2,by rw [← e1]; exact u,e2.symm⟩
theorem wo_map {β γ:Type} (L:List (Int × β)) (g:β→γ) (k:Int):wo (L.map fun q=>(q.1,g q.2)) k=(wo L k).map fun q=>(q.1,g q.2):=by
 unfold wo; rw [List.filter_map]; rfl
theorem nextP {w:World} {ops:Array Oper} {rest:List Oper} {o:Oper} {u:Act} {Q:Exit→Act→World→Prop} (hg:o.guard=none) (z:Operand) (a2:o.op=Op.next z false) (b r:Nat) (l left:List (Int × En)) (hit:u.eval z=.pointer (some ⟨r,0,none⟩)) (h:Rg Tryz.prog 22 eP w b r (bl l) (bl left))
  (a0:left=[] → wpList Tryz.prog ops Q rest (u.put o.dst (.tuple #[.bool false])) w)
  (a1:∀ y (x:En) w',(y,x)∈left→U64 y→Rg Tryz.prog 22 eP w' b r (bl l) (bl (wo left y))→w'.rangeLeft b r < w.rangeLeft b r→w.grownBy w' (some r)→w'.heap.size=w.heap.size →
   (Instr.entry (.pointer (some ⟨r,0,none⟩))).run Tryz.prog w'=.ok (.tuple #[.int .u64 y,.pointer (some ⟨x.e,0,none⟩)]) w'→wpList Tryz.prog ops Q rest (u.put o.dst (.tuple #[.bool true,.int .u64 y,.pointer (some ⟨x.e,0,none⟩)])) w'):wpList Tryz.prog ops Q (o :: rest) u w:=
 next1 w hg z a2 22 Tryz.underlying22 b r (bl l) (bl left) hit h (fun G=>a0 (by simpa [bl] using G)) fun y q w' I J F N W Y h7=>by
  obtain ⟨x,hx,rfl⟩:=bl_hit I
  rw [wo_map left (fun x:En=>some x.e) y] at F
  exact a1 y x w' hx J F N W Y h7
theorem countT_any (h:Bt C R w p a L S) (st:Int) (hL:L.length≤1000):Calls Tryz.prog 137 #[ptr p,.int .i64 st] w fun e w'=>e=.returned (.int .i64 (cnt (ab L) st))∧Below w.heap.size w w':=by
 have c0:=h.c0
 have ag:=h.lt
 have G:=Lh h
 clear h
 go_enter Tryz.func137,Tryz.ntmps137
 go_wp2_with (at_range; refine range1 _ rfl _ 184 rfl 22 201 Tryz.underlying22 Tryz.underlying184 a (bl L) rfl G.out.mo ?_; intro w0 a9 a5 ah)
 go_frame
 have a4:Below w.heap.size w w0:=(Below.refl _ w).grown a5 (Nat.le_refl _) (fun g J=>by cases J)
 clear a5
 go_loopw [5] (fun v wr=>∃ (left u:List (Int × En)),v=.int .i64 (cnt (ab u) st)∧Rg Tryz.prog 22 eP wr a w.heap.size (bl L) (bl left)∧w.heap.size+1≤wr.heap.size∧Hid (Below w.heap.size w wr∧(u ++ left).Perm L))
  (fun _ wr=>wr.rangeLeft a w.heap.size)
 case atStart=>exact ⟨L,[],rfl,a9,by omega,a4,List.Perm.refl _⟩
 case round=>
  clear a9 a4
  obtain ⟨left,u,rfl,a0,aj,z⟩:=hrel
  have ad:cnt (ab u) st≤1000:=by
   have F:=z.out.2.length_eq
   have h2:cnt (ab u) st≤(ab u).length:=List.length_filter_le _ _
   simp at F h2; omega
  go_wp2_with (at_next; refine nextP rfl _ rfl a w.heap.size L left rfl a0 ?_ ?_)
  ·intro ac
   subst ac
   go_wp2_with fail
   go_ret
   have hp:=z.out.2
   rw [List.append_nil] at hp
   have h9:cnt (ab u) st=cnt (ab L) st:=((hp.map _).filter _).length_eq
   exact ⟨by rw [← h9]; rfl,z.out.1⟩
  ·intro y x w1 hx ak al aa a7 a6 ai ae
   have I:=z.out.1.grown a6 (by omega) (fun g J=>by injection J with J; omega)
   have W:(y,x)∈L:=z.out.2.mem_iff.1 (List.mem_append_right _ hx)
   have N:=(G.out.en _ W).blk (I.block _ (G.out.en _ W).lt.1) (I.block _ (G.out.en _ W).lt.2)
   have k0:=N.k0
   have kc:=N.kc
   have uw:=N.uw
   have a1:=Lh I
   have a8:Nd left:=by
    have F:=a0.ndl
    unfold Nd at F ⊢
    rw [bl_keys] at F; exact F
   have a3:=Lh a8
   have HX:=Lh hx
   have HP:=Lh z.out.2
   have a2:=Lh a7
   clear a0 a6 hx W z a8 a7 I N
   go_wp2_with fail
   refine (Wd.load_any _ _ _ kc).mono ?_
   rintro e w2 ⟨rfl,rfl⟩
   go_wp2_with fail
   refine (Wd.state_any _ _ uw.1 uw.2).mono ?_
   rintro e w2 ⟨rfl,rfl⟩
   cases hP:x.word % 4 == st with
   | true=>
    have Y:=Lh hP
    have af:IntKind.i64.wrap ((cnt (ab u) st:Int)+1)=(cnt (ab u) st:Int)+1:=by rw [IntKind.wrap_i64]; omega
    go_wp2_with fail
    go_roundw
    case rel=>
     refine ⟨wo left y,u ++ [(y,x)],?_,aa,by omega,a1.out,?_⟩
     ·have:cnt (ab (u ++ [(y,x)])) st=cnt (ab u) st+1:=by simp [cnt,ab,Y.out]
      rw [this]; go_num
     ·rw [List.append_assoc]
      exact (List.Perm.append_left u (perm_wo a3.out HX.out).symm).trans HP.out
    case measure=>exact a2.out
   | false=>
    have Y:=Lh hP
    go_wp2_with fail
    go_roundw
    case rel=>
     refine ⟨wo left y,u ++ [(y,x)],?_,aa,by omega,a1.out,?_⟩
     ·have:cnt (ab (u ++ [(y,x)])) st=cnt (ab u) st:=by simp [cnt,ab,Y.out]
      rw [this]
     ·rw [List.append_assoc]
      exact (List.Perm.append_left u (perm_wo a3.out HX.out).symm).trans HP.out
    case measure=>exact a2.out
end
def bW (D:List (Int × Ex)) (id:Int):Int:=((fnd D id).map Ex.word).getD 0
def bV (D:List (Int × Ex)) (id old st:Int):Int:=match fnd D id with
 | none=>0
 | some x=>Wd.wSwap x.word old st
def bK (D:List (Int × Ex)) (id old st:Int):Bool:=match fnd D id with
 | none=>false
 | some x=>Wd.wSwapOk x.word old st
def bE (D:List (Int × Ex)) (id:Int):Value:=match fnd D id with
 | none=>.agg #[.int .u64 0,.int .u64 0,.int .u64 0,.int .u64 0,.int .u64 0]
 | some x=>.agg #[.int .u64 id,.int .u64 x.word,.int .u64 x.born,.int .u64 x.since,.int .u64 x.proved]
def kn {β:Type} (D:List (Int × β)) (id:Int):Int:=if (fnd D id).isSome then 0 else 9
section
variable {C R:Nat→Prop} (w:World) (p a:Nat) (D:List (Int × Ex)) (S:List Int) (id:Int)
theorem fnd_ab (L:List (Int × En)) (id:Int):fnd (ab L) id=(fnd L id).map En.x:=fnd_map (L:=L) (g:=En.x) id
theorem bW_u64 {D:List (Int × Ex)} (h:Bx C R w p a D S) (id:Int):U64 (bW D id):=by
 unfold bW
 cases hf:fnd D id with
 | none=>exact ⟨by simp,by simp⟩
 | some x=>exact (h.ui _ (fnd_some hf)).2.1
theorem load_any (h:Bx C R w p a D S) (hid:U64 id):Calls Tryz.prog 62 #[ptr p,.int .u64 id] w fun e w'=>e=.returned (.tuple #[.int .u64 (bW D id),.bool (fnd D id).isSome])∧w=w':=by
 obtain ⟨L,h,rfl⟩:=h
 refine (loadT_any w p a L S id h hid).mono fun e w' ⟨u,hw⟩=>⟨?_,hw⟩
 rw [u]
 unfold bW
 rw [fnd_ab]
 cases fnd L id <;> rfl
theorem swap_any (h:Bx C R w p a D S) (hid:U64 id) (old st now:Int) (G:U64 old) (F:U64 now):Calls Tryz.prog 66 #[ptr p,.int .u64 id,.int .u64 old,.int .i64 st,.int .u64 now] w fun e w'=>e=.returned (.tuple #[.int .u64 (bV D id old st),.bool (bK D id old st)])∧Bx C R w' p a (up D id (exS old st now)) S∧Fz C w w':=by
 obtain ⟨L,h,rfl⟩:=h
 cases hf:fnd L id with
 | none=>
  have u:fnd (ab L) id=none:=by rw [fnd_ab,hf]; rfl
  refine (swapT_miss w p a L S id h hid hf old st now).mono ?_
  rintro e w' ⟨rfl,rfl⟩
  refine ⟨by unfold bV bK; rw [u],⟨L,h,?_⟩,Fz.refl _ _⟩
  rw [up_none (fnd_no u)]
 | some x=>
  have u:fnd (ab L) id=some x.x:=by rw [fnd_ab,hf]; rfl
  refine (swapT_hit w p a L S id h hid hf old st now G F).mono ?_
  rintro e w' ⟨rfl,z,J⟩
  refine ⟨by unfold bV bK; rw [u],⟨_,z,?_⟩,J⟩
  unfold ab up
  rw [List.map_map,List.map_map]
  apply List.map_congr_left
  intro q I
  simp only [Function.comp]
  by_cases hi:q.1=id
  ·have:q.2=x:=h.ri.nd.uniq (k:=id) (by rw [← hi]; exact I) (fnd_some hf)
   rw [if_pos hi,if_pos hi,this]
   rfl
  ·rw [if_neg hi,if_neg hi]
theorem enter_any (h:Bx C R w p a D S) (hid:U64 id) (st now:Int) (I:U64 now) (G:D.length < 1000000):Calls Tryz.prog 55 #[ptr p,.int .u64 id,.int .i64 st,.int .u64 now] w fun e w'=>e=.returned (.int .i64 (eE D id st))∧Bx (ext w C) (cut w R) w' p a (if eE D id st=0 then ins D id ⟨Wd.wOf st 0,now,now,now⟩ else D) S∧Fz C w w':=by
 obtain ⟨L,h,rfl⟩:=h
 by_cases hr:id=0∨st < 0∨3 < st
 ·have u:eE (ab L) id st=2:=by unfold eE; rw [if_pos hr]
  rw [u,if_neg (by decide)]
  refine (enter_range w p id st now hr).mono ?_
  rintro e w' ⟨rfl,rfl⟩
  exact ⟨rfl,⟨L,h.extC,rfl⟩,Fz.refl _ _⟩
 ·cases hf:fnd L id with
  | none=>
   have z:fnd (ab L) id=none:=by rw [fnd_ab,hf]; rfl
   have u:eE (ab L) id st=0:=by unfold eE; rw [if_neg hr,z]; rfl
   rw [u,if_pos rfl]
   refine (enter_new w p a L S id h hid st now I hr hf (by simpa using G)).mono ?_
   rintro e w' ⟨rfl,⟨x,hx,F⟩,J⟩
   refine ⟨rfl,⟨_,F,?_⟩,J⟩
   rw [← hx]
   exact ins_map (L:=L) (g:=En.x)
  | some x=>
   have z:fnd (ab L) id=some x.x:=by rw [fnd_ab,hf]; rfl
   have u:eE (ab L) id st=10:=by unfold eE; rw [if_neg hr,z]; rfl
   rw [u,if_neg (by decide)]
   refine (enter_had w p a L S id h hid st now hr hf).mono ?_
   rintro e w' ⟨rfl,rfl⟩
   exact ⟨rfl,⟨L,h.extC,rfl⟩,Fz.refl _ _⟩
theorem publish_any (h:Bx C R w p a D S) (hid:U64 id) (F:S.length≤1000000):Calls Tryz.prog 125 #[ptr p,.int .u64 id] w fun e w'=>e=.returned (.int .i64 (kn D id))∧Bx (cut w C) (ext w R) w' p a D (if (fnd D id).isSome then Sn.sWith S id else S)∧Fz C w w':=by
 obtain ⟨L,h,rfl⟩:=h
 cases hf:fnd L id with
 | none=>
  have u:fnd (ab L) id=none:=by rw [fnd_ab,hf]; rfl
  refine (publish_miss w p a L S id h hid hf).mono ?_
  rintro e w' ⟨rfl,rfl⟩
  refine ⟨by unfold kn; rw [u]; rfl,⟨L,by rw [u]; exact h.cutC,rfl⟩,Fz.refl _ _⟩
 | some x=>
  have u:fnd (ab L) id=some x.x:=by rw [fnd_ab,hf]; rfl
  refine (publish_hit w p a L S id h hid hf F).mono ?_
  rintro e w' ⟨rfl,z,G⟩
  refine ⟨by unfold kn; rw [u]; rfl,⟨L,by rw [u]; exact z,rfl⟩,G⟩
theorem count_any (h:Bx C R w p a D S) (st:Int) (u:D.length≤1000):Calls Tryz.prog 137 #[ptr p,.int .i64 st] w fun e w'=>e=.returned (.int .i64 (cnt D st))∧Below w.heap.size w w':=by
 obtain ⟨L,h,rfl⟩:=h
 exact countT_any w p a L S h st (by simpa using u)
theorem entry_any (h:Bx C R w p a D S) (hid:U64 id):Calls Tryz.prog 82 #[ptr p,.int .u64 id] w fun e w'=>e=.returned (.tuple #[bE D id,.bool (fnd D id).isSome])∧Below w.heap.size w w':=by
 obtain ⟨L,h,rfl⟩:=h
 cases hf:fnd L id with
 | none=>
  have u:fnd (ab L) id=none:=by rw [fnd_ab,hf]; rfl
  refine (entry_miss w p a L S id h hid hf).mono fun e w' ⟨z,hw⟩=>⟨?_,hw⟩
  rw [z]; unfold bE; rw [u]; rfl
 | some x=>
  have u:fnd (ab L) id=some x.x:=by rw [fnd_ab,hf]; rfl
  refine (entry_hit w p a L S id h hid hf).mono fun e w' ⟨z,hw⟩=>⟨?_,hw⟩
  rw [z]; unfold bE; rw [u]; rfl
theorem blist_any (h:Bx C R w p a D S):Calls Tryz.prog 140 #[ptr p] w fun e w'=>∃ A n c,e=.returned (.agg #[.slice A n c])∧Rd (Value.int .u64) w w.heap.size A n c S∧Below w.heap.size w w':=by
 obtain ⟨L,h,rfl⟩:=h
 refine (list_any w p a L S h).mono ?_
 rintro e w' ⟨A,n,c,rfl,u,_,z⟩
 exact ⟨A,n,c,rfl,u,z⟩
theorem bnew_any:Calls Tryz.prog 33 #[] w fun e w'=>e=.returned (ptr (w.heap.size+1))∧Bx (fresh w) (fun _=>False) w' (w.heap.size+1) w.heap.size [] [] ∧ Below w.heap.size w w':=
 (new_any w).mono fun e w' ⟨h,u,z⟩=>⟨h,⟨[],u,rfl⟩,z⟩
end
end Go.Proofs.YtaeemilldmhbnaaGreatDoor.Ba
