/- A part of the claim: the texts Bag Box BagB BagC BagD BagE. -/
import Derived.Test.YtoiklelghfckgaaGreatDoorZBase6
import Derived.Test.YtoiklelghfckgaaGreatDoorZBase1
import Derived.Test.YtoiklelghfckgaaGreatDoorZGFr
import Derived.Deep.MidRow
import Derived.Deep.WholeRow
import Derived.WalkKit
import Derived.ProofKit
set_option maxRecDepth 100000
set_option maxHeartbeats 8000000
set_option linter.unusedVariables false
namespace Go.Proofs.YtoiklelghfckgaaGreatDoor.Ba
open Go Go.ChangeShapes Go.WideShapes Go.ChangeAt Go.RowKit Go.Maps Rw Hi Mt
abbrev eP:Enc (Option Nat) where
 val x:=.pointer (x.map fun b=>⟨b,0,none⟩)
 dat x:=match x with
  | none=>.lit (.bool false)
  | some b=>.lit (.int .i64 b)
 R v:=match v with
  | .pointer none=>some (.lit (.bool false),[])
  | .pointer (some ⟨b,0,none⟩)=>some (.lit (.int .i64 b),[])
  | _=>none
 mk_ x:=by cases x <;> rfl
 inv v y h:=by
  split at h
  ·injection h with h; exact ⟨none,rfl,h.symm⟩
  ·rename_i b; injection h with h; exact ⟨some b,rfl,h.symm⟩
  ·cases h
 inj x y h:=by
  cases x <;> cases y
  ·rfl
  ·injection h with h; cases h
  ·injection h with h; cases h
  ·injection h with h; injection h with _ h; rw [Int.ofNat_inj.1 h]
abbrev U64 (k:Int):Prop:=0≤k∧k≤18446744073709551615
abbrev ptr (p:Nat):Value:=.pointer (some ⟨p,0,none⟩)
abbrev MP (w:World) (a:Nat) (L:List (Int × Option Nat)):Prop:=Mo Tryz.prog 25 eP w a L
theorem zeroP (w:World):(zeroValue 114).run Tryz.prog w=.ok (eP.val none) w:=by kernel_rfl
structure Fz (C:Nat→Prop) (w w':World):Prop where
 os:w'.os=w.os
 tape:w'.tape=w.tape
 output:w'.output=w.output
 size:w.heap.size≤w'.heap.size
 block:∀ k,k < w.heap.size → ¬ C k→w'.heap[k]? = w.heap[k]?
section
variable {C D:Nat→Prop} {w w' w'':World}
theorem Fz.refl (C:Nat→Prop) (w:World):Fz C w w:=⟨rfl,rfl,rfl,Nat.le_refl _,fun _ _ _=>rfl⟩
theorem Fz.trans (h:Fz C w w') (z:Fz C w' w''):Fz C w w'':=
 ⟨z.os.trans h.os,z.tape.trans h.tape,z.output.trans h.output,Nat.le_trans h.size z.size,fun k hk hc=>(z.block k (Nat.lt_of_lt_of_le hk h.size) hc).trans (h.block k hk hc)⟩
theorem Fz.mono (h:Fz C w w') (z:∀ k,k < w.heap.size→C k→D k):Fz D w w':=⟨h.os,h.tape,h.output,h.size,fun k hk hc=>h.block k hk (fun e=>hc (z k hk e))⟩
theorem Fz.of_below (h:Below w.heap.size w w'):Fz C w w':=⟨h.os,h.tape,h.output,h.size,fun k hk _=>h.block k hk⟩
theorem Fz.of_grown {row:Option Nat} (h:w.grownBy w' row) (z:∀ g,row=some g→g < w.heap.size→C g):Fz C w w':=
 ⟨h.os,h.tape,h.output,h.size,fun k hk hc=>h.block k hk (fun e=>hc (z k e.symm hk))⟩
theorem Fz.of_set {a:Addr} (v:Value) (h:C a.block):Fz C w (w.setCell a v):=Fz.of_grown (Hi.grown_setCell w a v) (fun g e _=>by injection e with e; exact e ▸ h)
theorem Fz.below (h:Fz C w w') {B:Nat} (z:B≤w.heap.size) (hc:∀ k,C k→B≤k):Below B w w':=
 ⟨h.os,h.tape,h.output,h.size,fun k hk=>h.block k (by omega) (fun e=>by have:=hc k e; omega)⟩
theorem Fz.cell (h:Fz C w w') {p:Addr} (z:p.block < w.heap.size) (hc:¬ C p.block):w'.cell? p=w.cell? p:=by
 unfold World.cell?; rw [h.block _ z hc]
theorem Fz.frozen (h:Fz C w w') {p:Addr} (z:p.block < w.heap.size) (hc:¬ C p.block):w'.frozen? p=w.frozen? p:=by
 unfold World.frozen?; rw [h.block _ z hc]
end
structure En where
 e:Nat
 c:Nat
 word:Int
 born:Int
 since:Int
 proved:Int
def up {β:Type} (L:List (Int × β)) (id:Int) (f:β→β):List (Int × β):=L.map fun q=>if q.1=id then (q.1,f q.2) else q
def ins {β:Type} (L:List (Int × β)) (id:Int) (x:β):List (Int × β):=L.filter (fun q=>decide (q.1 < id)) ++ (id,x) :: L.filter (fun q=>decide (id < q.1))
def Ris {β:Type} (L:List (Int × β)):Prop:=L.Pairwise (fun a b=>a.1 < b.1)
section
variable {β γ:Type} {L:List (Int × β)} {id:Int}
theorem up_keys (f:β→β):(up L id f).map Prod.fst=L.map Prod.fst:=by
 unfold up; rw [List.map_map]; apply List.map_congr_left; intro q _; simp only [Function.comp]; split <;> rfl
theorem up_len (f:β→β):(up L id f).length=L.length:=by simp [up]
theorem Ris.nd (h:Ris L):Nd L:=by
 unfold Nd; unfold Ris at h
 rw [List.nodup_iff_pairwise_ne,List.pairwise_map]
 exact h.imp (fun z=>by omega)
theorem ris_keys:Ris L↔(L.map Prod.fst).Pairwise (· < ·):=by unfold Ris; rw [List.pairwise_map]
theorem Ris.up (h:Ris L) (f:β→β):Ris (up L id f):=by rw [ris_keys,up_keys]; exact ris_keys.1 h
theorem mem_up {f:β→β} {q:Int × β} (h:q∈up L id f):∃ r∈L,r.1=q.1∧(q=r∧r.1≠id∨q=(id,f r.2)∧r.1=id):=by
 unfold Ba.up at h
 obtain ⟨r,z,e⟩:=List.mem_map.1 h
 by_cases hi:r.1=id
 ·rw [if_pos hi] at e; subst e; exact ⟨r,z,rfl,.inr ⟨by rw [hi],hi⟩⟩
 ·rw [if_neg hi] at e; subst e; exact ⟨r,z,rfl,.inl ⟨rfl,hi⟩⟩
theorem up_none (h:id ∉ L.map Prod.fst) (f:β→β):up L id f=L:=by
 unfold up
 conv=>rhs; rw [← List.map_id L]
 apply List.map_congr_left
 intro q z
 rw [if_neg (fun e=>h (List.mem_map.2 ⟨q,z,e⟩))]; rfl
theorem fnd_up_same {f:β→β} {x:β} (h:fnd L id=some x):fnd (up L id f) id=some (f x):=by
 unfold fnd up at *
 rw [List.find?_map]
 have e:((fun a:Int × β=>a.1 == id) ∘ fun q:Int × β=>if q.1=id then (q.1,f q.2) else q)=fun a=>a.1 == id:=by
  funext q; simp only [Function.comp]; split <;> rfl
 rw [e]
 cases hf:L.find? (fun a=>a.1 == id) with
 | none=>rw [hf] at h; cases h
 | some q=>
  rw [hf] at h
  injection h with h
  have z:=List.find?_some hf
  simp at z
  simp [z,h]
theorem up_same {f:β→β} (h:∀ x,fnd L id=some x→f x=x) (hn:Nd L):up L id f=L:=by
 unfold up
 conv=>rhs; rw [← List.map_id L]
 apply List.map_congr_left
 intro q z
 by_cases hi:q.1=id
 ·rw [if_pos hi]
  have:=fnd_mem hn (k:=q.1) (x:=q.2) z
  rw [hi] at this
  rw [h _ this]; rfl
 ·rw [if_neg hi]; rfl
theorem Ris.split (h:Ris L) (hn:id ∉ L.map Prod.fst):L.filter (fun q=>decide (q.1 < id)) ++ L.filter (fun q=>decide (id < q.1))=L:=by
 unfold Ris at h
 induction L with
 | nil=>rfl
 | cons q r ih=>
  rw [List.pairwise_cons] at h
  have G:id ∉ r.map Prod.fst:=fun e=>hn (List.mem_cons_of_mem _ e)
  have I:q.1≠id:=fun e=>hn (e ▸ List.mem_cons_self)
  by_cases hq:q.1 < id
  ·rw [List.filter_cons_of_pos (by simpa using hq),List.filter_cons_of_neg (by simp; omega),List.cons_append,ih h.2 G]
  ·rw [List.filter_cons_of_neg (by simpa using hq),List.filter_cons_of_pos (by simp; omega)]
   have z:r.filter (fun q=>decide (q.1 < id))=[]:=by
    rw [List.filter_eq_nil_iff]; intro a ha; have:=h.1 a ha; simp; omega
   have F:r.filter (fun q=>decide (id < q.1))=r:=by
    rw [List.filter_eq_self]; intro a ha; have:=h.1 a ha; simp; omega
   rw [z,F]; rfl
theorem Ris.ins (h:Ris L) (x:β):Ris (ins L id x):=by
 unfold Ris Ba.ins at *
 rw [List.pairwise_append,List.pairwise_cons]
 refine ⟨h.sublist List.filter_sublist,⟨fun a ha=>by have:=(List.mem_filter.1 ha).2; simpa using this,h.sublist List.filter_sublist⟩,fun a ha b z=>?_⟩
 have F:=(List.mem_filter.1 ha).2
 simp at F
 rcases List.mem_cons.1 z with rfl | z
 ·exact F
 ·have G:=(List.mem_filter.1 z).2
  simp at G
  omega
theorem ins_perm (h:Ris L) (hn:id ∉ L.map Prod.fst) (x:β):((id,x) :: L).Perm (ins L id x):=by
 unfold ins
 refine List.Perm.trans ?_ List.perm_middle.symm
 exact List.Perm.cons _ (by rw [h.split hn])
theorem ins_len (h:Ris L) (hn:id ∉ L.map Prod.fst) (x:β):(ins L id x).length=L.length+1:=by
 have:=(ins_perm h hn x).length_eq; simpa using this.symm
theorem mem_ins (h:Ris L) (hn:id ∉ L.map Prod.fst) {x:β} {q:Int × β} : q∈ins L id x↔q=(id,x)∨q∈L:=by
 rw [← (ins_perm h hn x).mem_iff,List.mem_cons]
theorem ins_map {g:β→γ} {x:β} : (ins L id x).map (fun q=>(q.1,g q.2))=ins (L.map fun q=>(q.1,g q.2)) id (g x):=by
 unfold ins
 rw [List.map_append,List.map_cons,List.filter_map,List.filter_map]
 rfl
theorem fnd_map {g:β→γ} (k:Int):fnd (L.map fun q=>(q.1,g q.2)) k=(fnd L k).map g:=by
 unfold fnd
 rw [List.find?_map,Option.map_map,Option.map_map]
 rfl
end
abbrev bl (L:List (Int × En)):List (Int × Option Nat):=L.map fun q=>(q.1,some q.2.e)
theorem bl_keys (L:List (Int × En)):(bl L).map Prod.fst=L.map Prod.fst:=by simp [bl,Function.comp_def]
theorem bl_up (L:List (Int × En)) (id:Int) (f:En→En) (h:∀ x,(f x).e=x.e):bl (up L id f)=bl L:=by
 unfold bl up
 rw [List.map_map]
 apply List.map_congr_left
 intro q _
 simp only [Function.comp]
 split
 ·rw [h]
 ·rfl
structure Ok (C:Nat→Prop) (w:World) (x:En):Prop where
 k0:w.cell? ⟨x.e,0,none⟩=some (ptr x.c)
 k1:w.cell? ⟨x.e,1,none⟩=some (.int .u64 x.born)
 k2:w.cell? ⟨x.e,2,none⟩=some (.int .u64 x.since)
 k3:w.cell? ⟨x.e,3,none⟩=some (.int .u64 x.proved)
 kc:w.cell? ⟨x.c,0,none⟩=some (.int .u64 x.word)
 f2:w.frozen? ⟨x.e,2,none⟩=false
 f3:w.frozen? ⟨x.e,3,none⟩=false
 fc:w.frozen? ⟨x.c,0,none⟩=false
 ie:C x.e
 ic:C x.c
 uw:U64 x.word
 ub:U64 x.born
 us:U64 x.since
 up_:U64 x.proved
structure Bt (C R:Nat→Prop) (w:World) (p a:Nat) (L:List (Int × En)) (S:List Int):Prop where
 c0:w.cell? ⟨p,0,none⟩=some (.map (some a))
 f1:w.frozen? ⟨p,1,none⟩=false
 row:∃ A n c,w.cell? ⟨p,1,none⟩=some (.slice A n c)∧Rd (Value.int .u64) w w.heap.size A n c S∧(0 < n → ∀ b o,A=some ⟨b,o,none⟩→R b)
 nd:S.Nodup
 us:Sn.U64s S
 mo:MP w a (bl L)
 en:∀ q∈L,Ok C w q.2
 ap:∀ q∈L,∀ r∈L,(q.2.e=r.2.e∨q.2.c=r.2.c)→q.1=r.1
 ri:Ris L
 ui:∀ q∈L,U64 q.1
 ip:C p
 ia:C a
 cr:∀ g,C g → ¬ R g
section
variable {C D R T:Nat→Prop} {w w':World} {p a:Nat} {L:List (Int × En)} {S:List Int}
theorem Ok.lt {x:En} (h:Ok C w x):x.e < w.heap.size∧x.c < w.heap.size:=⟨Lw.lt_heap h.k0,Lw.lt_heap h.kc⟩
theorem Ok.blk {x:En} (h:Ok C w x) (z:w'.heap[x.e]? = w.heap[x.e]?) (hc:w'.heap[x.c]? = w.heap[x.c]?):Ok C w' x:=
 ⟨(World.cell?_of_block z).trans h.k0,(World.cell?_of_block z).trans h.k1,(World.cell?_of_block z).trans h.k2,(World.cell?_of_block z).trans h.k3,(World.cell?_of_block hc).trans h.kc,(World.frozen?_of_block z).trans h.f2,(World.frozen?_of_block z).trans h.f3,(World.frozen?_of_block hc).trans h.fc,h.ie,h.ic,h.uw,h.ub,h.us,h.up_⟩
theorem Bt.lt (h:Bt C R w p a L S):p < w.heap.size∧a < w.heap.size:=⟨Lw.lt_heap h.c0,h.mo.lt⟩
theorem rd_blk {A:Option Addr} {n c:Nat} {xs:List Int} {B B':Nat} (h:Rd (Value.int .u64) w B A n c xs) (F:B≤B') (hk:0 < n → ∀ b o,A=some ⟨b,o,none⟩→w'.heap[b]? = w.heap[b]?):Rd (Value.int .u64) w' B' A n c xs:=
 ⟨h.len,h.cap,h.top,fun hn=>by
  obtain ⟨b,o,e,z,hc⟩:=h.at_ hn
  exact ⟨b,o,e,by omega,fun j x hx=>(World.cell?_of_block (hk hn b o e)).trans (hc j x hx)⟩⟩
theorem Bt.same (h:Bt C R w p a L S) (hs:w.heap.size≤w'.heap.size) (hk:∀ g,g < w.heap.size→C g∨R g→w'.heap[g]? = w.heap[g]?):Bt C R w' p a L S:=by
 have G:=hk p h.lt.1 (.inl h.ip)
 obtain ⟨A,n,c,W,I,J⟩:=h.row
 refine ⟨(World.cell?_of_block G).trans h.c0,(World.frozen?_of_block G).trans h.f1,⟨A,n,c,(World.cell?_of_block G).trans W,rd_blk I hs fun hn b o e=>?_,J⟩,h.nd,h.us,h.mo.block (hk a h.lt.2 (.inl h.ia)),fun q Y=>?_,h.ap,h.ri,h.ui,h.ip,h.ia,h.cr⟩
 ·obtain ⟨b',o',F,hb,_⟩:=I.at_ hn
  rw [e] at F; injection F with F; injection F with e1 _
  exact hk b (by omega) (.inr (J hn b o e))
 ·have z:=h.en q Y
  exact z.blk (hk _ z.lt.1 (.inl z.ie)) (hk _ z.lt.2 (.inl z.ic))
theorem Bt.later (h:Bt C R w p a L S) (z:Below w.heap.size w w'):Bt C R w' p a L S:=h.same z.size (fun g F _=>z.block g F)
theorem Bt.aside (h:Bt C R w p a L S) (z:Fz D w w') (F:∀ g,C g∨R g → ¬ D g):Bt C R w' p a L S:=h.same z.size (fun g G hc=>z.block g G (F g hc))
theorem Bt.mono (h:Bt C R w p a L S) (G:∀ g,g < w.heap.size→C g→D g) (ht:∀ g,g < w.heap.size→R g→T g) (Y:∀ g,D g → ¬ T g):Bt D T w p a L S:=by
 obtain ⟨A,n,c,J,I,W⟩:=h.row
 refine ⟨h.c0,h.f1,⟨A,n,c,J,I,fun hn b o e=>?_⟩,h.nd,h.us,h.mo,fun q hq=>?_,h.ap,h.ri,h.ui,G _ h.lt.1 h.ip,G _ h.lt.2 h.ia,Y⟩
 ·obtain ⟨b',o',F,hb,_⟩:=I.at_ hn
  rw [e] at F; injection F with F; injection F with e1 _
  exact ht b (by omega) (W hn b o e)
 ·have z:=h.en q hq
  exact { z with ie:=G _ z.lt.1 z.ie,ic:=G _ z.lt.2 z.ic }
theorem Bt.get (h:Bt C R w p a L S) {id:Int} {x:En} (hx:fnd L id=some x):Ok C w x∧(id,x)∈L:=⟨h.en _ (fnd_some hx),fnd_some hx⟩
theorem Bt.find (h:Bt C R w p a L S) (id:Int):fnd (bl L) id=(fnd L id).map fun x=>some x.e:=fnd_map (L:=L) (g:=fun x:En=>some x.e) id
theorem Bt.turn (h:Bt C R w p a L S) {id:Int} {x:En} (hx:fnd L id=some x) (wd I pr:Int) (hw:U64 wd) (hs:U64 I) (hp:U64 pr) (ae:w.heap.size≤w'.heap.size)
  (k2:w'.cell? ⟨x.e,2,none⟩=some (.int .u64 I)) (k3:w'.cell? ⟨x.e,3,none⟩=some (.int .u64 pr)) (kc:w'.cell? ⟨x.c,0,none⟩=some (.int .u64 wd))
  (he:∀ o,o≠2→o≠3→w'.cell? ⟨x.e,o,none⟩=w.cell? ⟨x.e,o,none⟩) (a3:∀ o,w'.frozen? ⟨x.e,o,none⟩=w.frozen? ⟨x.e,o,none⟩) (a9:w'.frozen? ⟨x.c,0,none⟩=w.frozen? ⟨x.c,0,none⟩)
  (hk:∀ g,g < w.heap.size→g≠x.e→g≠x.c→w'.heap[g]? = w.heap[g]?):Bt C R w' p a (up L id fun y=>{ y with word:=wd,since:=I,proved:=pr }) S:=by
 obtain ⟨hok,hm⟩:=h.get hx
 have ac:p≠x.e:=fun e=>by have z:=h.c0; rw [e,hok.k0] at z; cases z
 have aa:p≠x.c:=fun e=>by have z:=h.c0; rw [e,hok.kc] at z; cases z
 have a6:a≠x.e:=fun e=>h.mo.no_cell 0 _ (e ▸ hok.k0)
 have a5:a≠x.c:=fun e=>h.mo.no_cell 0 _ (e ▸ hok.kc)
 have a8:∀ q∈L,q.2.e≠x.c:=fun q G e=>by have z:=(h.en q G).k0; rw [e,hok.kc] at z; cases z
 have a7:∀ q∈L,q.2.c≠x.e:=fun q G e=>by have z:=(h.en q G).kc; rw [e,hok.k0] at z; cases z
 have a2:=hk p h.lt.1 ac aa
 obtain ⟨A,n,c,z,h2,h3⟩:=h.row
 have a0:∀ q∈up L id (fun y:En=>{ y with word:=wd,since:=I,proved:=pr }),∃ r∈L,r.1=q.1∧r.2.e=q.2.e∧r.2.c=q.2.c∧(q=r∧r.1≠id∨q.2 = { x with word:=wd,since:=I,proved:=pr }):=fun q G=>by
  obtain ⟨r,F,Y,e2⟩:=mem_up G
  refine ⟨r,F,Y,?_⟩
  rcases e2 with ⟨rfl,a1⟩ | ⟨rfl,hi⟩
  ·exact ⟨rfl,rfl,.inl ⟨rfl,a1⟩⟩
  ·have:r.2=x:=h.ri.nd.uniq (k:=id) (by rw [← hi]; exact F) hm
   exact ⟨rfl,rfl,.inr (by rw [this])⟩
 refine ⟨(World.cell?_of_block a2).trans h.c0,(World.frozen?_of_block a2).trans h.f1,⟨A,n,c,(World.cell?_of_block a2).trans z,rd_blk h2 ae fun hn b o e=>?_,h3⟩,h.nd,h.us,?_,fun q G=>?_,fun q G r F e=>?_,h.ri.up _,fun q G=>?_,h.ip,h.ia,h.cr⟩
 ·obtain ⟨b',o',W,hb,_⟩:=h2.at_ hn
  rw [e] at W; injection W with W; injection W with Y _
  have a4:=h3 hn b o e
  exact hk b (by omega) (fun e=>h.cr _ hok.ie (e ▸ a4)) (fun e=>h.cr _ hok.ic (e ▸ a4))
 ·rw [bl_up L id (fun y:En=>{ y with word:=wd,since:=I,proved:=pr }) (fun _=>rfl)]
  exact h.mo.block (hk a h.lt.2 a6 a5)
 ·obtain ⟨r,F,_,_,_,e3⟩:=a0 q G
  rcases e3 with ⟨rfl,a1⟩ | e3
  ·have J:=h.en q F
   refine J.blk (hk _ J.lt.1 (fun e=>a1 ?_) (a8 q F)) (hk _ J.lt.2 (a7 q F) (fun e=>a1 ?_))
   ·exact h.ap q F _ hm (.inl e)
   ·exact h.ap q F _ hm (.inr e)
  ·rw [e3]
   exact ⟨(he 0 (by decide) (by decide)).trans hok.k0,(he 1 (by decide) (by decide)).trans hok.k1,k2,k3,kc,(a3 2).trans hok.f2,(a3 3).trans hok.f3,a9.trans hok.fc,hok.ie,hok.ic,hw,hok.ub,hs,hp⟩
 ·obtain ⟨q',J,e0,Y,e2,_⟩:=a0 q G
  obtain ⟨r',ad,f0,f1,f2,_⟩:=a0 r F
  rw [← e0,← f0]
  exact h.ap q' J r' ad (by rw [Y,e2,f1,f2]; exact e)
 ·obtain ⟨r,F,e0,_⟩:=a0 q G
  rw [← e0]
  exact h.ui r F
end
structure Ex where
 word:Int
 born:Int
 since:Int
 proved:Int
deriving DecidableEq
abbrev En.x (q:En):Ex:=⟨q.word,q.born,q.since,q.proved⟩
abbrev ab (L:List (Int × En)):List (Int × Ex):=L.map fun q=>(q.1,q.2.x)
def Bx (C R:Nat→Prop) (w:World) (p a:Nat) (D:List (Int × Ex)) (S:List Int):Prop:=∃ L,Bt C R w p a L S∧ab L=D
def exS (old st now:Int) (x:Ex):Ex:={ x with word:=Wd.wSwap x.word old st,since:=if Wd.wSwapOk x.word old st=true∧st=0 then now else x.since }
section
variable {C R E T:Nat→Prop} {w w':World} {p a:Nat} {D:List (Int × Ex)} {S:List Int}
theorem Bx.lt (h:Bx C R w p a D S):p < w.heap.size∧a < w.heap.size:=by obtain ⟨L,h,_⟩:=h; exact h.lt
theorem Bx.ri (h:Bx C R w p a D S):Ris D:=by
 obtain ⟨L,h,rfl⟩:=h
 have z:=ris_keys.1 h.ri
 rw [ris_keys]
 rw [List.map_map]
 exact z
theorem Bx.nd (h:Bx C R w p a D S):S.Nodup:=by obtain ⟨L,h,_⟩:=h; exact h.nd
theorem Bx.us (h:Bx C R w p a D S):Sn.U64s S:=by obtain ⟨L,h,_⟩:=h; exact h.us
theorem Bx.ui (h:Bx C R w p a D S):∀ q∈D,U64 q.1∧U64 q.2.word∧U64 q.2.born∧U64 q.2.since∧U64 q.2.proved:=by
 obtain ⟨L,h,rfl⟩:=h
 intro q G
 obtain ⟨r,F,rfl⟩:=List.mem_map.1 G
 have z:=h.en r F
 exact ⟨h.ui r F,z.uw,z.ub,z.us,z.up_⟩
theorem Bx.same (h:Bx C R w p a D S) (z:w.heap.size≤w'.heap.size) (hk:∀ g,g < w.heap.size→C g∨R g→w'.heap[g]? = w.heap[g]?):Bx C R w' p a D S:=by
 obtain ⟨L,h,e⟩:=h; exact ⟨L,h.same z hk,e⟩
theorem Bx.later (h:Bx C R w p a D S) (z:Below w.heap.size w w'):Bx C R w' p a D S:=by obtain ⟨L,h,e⟩:=h; exact ⟨L,h.later z,e⟩
theorem Bx.aside (h:Bx C R w p a D S) (F:Fz E w w') (z:∀ g,C g∨R g → ¬ E g):Bx C R w' p a D S:=by obtain ⟨L,h,e⟩:=h; exact ⟨L,h.aside F z,e⟩
theorem Bx.mono (h:Bx C R w p a D S) (z:∀ g,g < w.heap.size→C g→E g) (G:∀ g,g < w.heap.size→R g→T g) (F:∀ g,E g → ¬ T g):Bx E T w p a D S:=by obtain ⟨L,h,e⟩:=h; exact ⟨L,h.mono z G F,e⟩
theorem Bx.cr (h:Bx C R w p a D S):∀ g,C g → ¬ R g:=by obtain ⟨L,h,_⟩:=h; exact h.cr
def cut (w:World) (X:Nat→Prop) (g:Nat):Prop:=g < w.heap.size∧X g
def ext (w:World) (X:Nat→Prop) (g:Nat):Prop:=(g < w.heap.size∧X g)∨w.heap.size≤g
def fresh (w:World) (g:Nat):Prop:=w.heap.size≤g
theorem Bt.cutC {L:List (Int × En)} (h:Bt C R w p a L S):Bt (cut w C) (ext w R) w p a L S:=h.mono (fun g F hc=>⟨F,hc⟩) (fun g F hc=>.inl ⟨F,hc⟩) (fun g hc z=>by
 rcases z with z | z
 ·exact h.cr g hc.2 z.2
 ·exact absurd hc.1 (by omega))
theorem Bt.extC {L:List (Int × En)} (h:Bt C R w p a L S):Bt (ext w C) (cut w R) w p a L S:=h.mono (fun g z hc=>.inl ⟨z,hc⟩) (fun g z hc=>⟨z,hc⟩) (fun g hc F=>by
 rcases hc with hc | hc
 ·exact h.cr g hc.2 F.2
 ·exact absurd F.1 (by omega))
theorem Bx.cutC (h:Bx C R w p a D S):Bx (cut w C) (ext w R) w p a D S:=by obtain ⟨L,h,e⟩:=h; exact ⟨L,h.cutC,e⟩
theorem Bx.extC (h:Bx C R w p a D S):Bx (ext w C) (cut w R) w p a D S:=by obtain ⟨L,h,e⟩:=h; exact ⟨L,h.extC,e⟩
end
end Go.Proofs.YtoiklelghfckgaaGreatDoor.Ba
namespace Go.Proofs.YtoiklelghfckgaaGreatDoor.Rw
open Go Go.ChangeShapes Go.WideShapes Go.ChangeAt Go.RowKit Go.Deep Hi Ba
structure RowT (T:TypeId) (n:Nat):Prop where
 under:Tryz.prog.underlying T=some (Tryz.prog.underlying T).get!
 row:((Tryz.prog.underlying T).get!).isRow=true
 info:(Tryz.prog.info? T).map (·.size)=some n
structure Vb (w:World) (g n:Nat) (cs:List Value):Prop where
 at_:w.rangeAt g 0 cs
 th:w.there g 0 n
 len:cs.length=n
section
variable {w w':World} {g n:Nat} {cs:List Value} {T:TypeId}
theorem Vb.cell (h:Vb w g n cs) (j:Nat) (u:Value) (z:cs[j]? = some u):w.cell? ⟨g,j,none⟩=some u:=by
 have:=h.at_ j u z
 rwa [Nat.zero_add] at this
theorem tb_free (h:w.there g 0 n) (j:Nat) (z:j < n):w.frozen? ⟨g,j,none⟩=false:=by
 have:=(h j z).2
 rwa [Nat.zero_add] at this
theorem Vb.free (h:Vb w g n cs) (j:Nat) (z:j < n):w.frozen? ⟨g,j,none⟩=false:=tb_free h.th j z
theorem tb_blk (h:w.there g 0 n) (z:w'.heap[g]? = w.heap[g]?):w'.there g 0 n:=fun j F=>⟨by rw [World.cell?_of_block z]; exact (h j F).1,by rw [World.frozen?_of_block z]; exact (h j F).2⟩
theorem tb_lt (h:w.there g 0 (n+1)):g < w.heap.size:=by
 obtain ⟨u,z⟩:=Option.isSome_iff_exists.1 (h 0 (by omega)).1
 exact Lw.lt_heap z
theorem Vb.blk (h:Vb w g n cs) (z:w'.heap[g]? = w.heap[g]?):Vb w' g n cs:=⟨fun j u F=>(World.cell?_of_block z).trans (h.at_ j u F),tb_blk h.th z,h.len⟩
theorem Vb.lt (h:Vb w g (n+1) cs):g < w.heap.size:=tb_lt h.th
theorem Vb.later (h:Vb w g (n+1) cs) (z:Below w.heap.size w w'):Vb w' g (n+1) cs:=h.blk (z.block _ h.lt)
theorem tb_later (h:w.there g 0 (n+1)) (z:Below w.heap.size w w'):w'.there g 0 (n+1):=tb_blk h (z.block _ (tb_lt h))
theorem Vb.set (h:Vb w g n cs) (j:Nat) (G:j < cs.length) (u:Value):Vb (w.setCell ⟨g,j,none⟩ u) g n (cs.set j u):=by
 refine ⟨fun i x hx=>?_,fun i hi=>⟨?_,by simpa using (h.th i hi).2⟩,by rw [List.length_set]; exact h.len⟩
 ·by_cases e:j=i
  ·subst e
   rw [List.getElem?_set_self G] at hx
   injection hx with hx
   subst hx
   have F:=h.at_ j _ (List.getElem?_eq_getElem G)
   rw [Nat.zero_add] at F ⊢
   exact World.cell?_setCell_same _ _ _ F
  ·rw [List.getElem?_set_ne e] at hx
   exact (World.cell?_setCell_other _ _ _ _ (fun z=>by injection z with _ z; omega)).trans (h.at_ i x hx)
 ·by_cases e:j=i
  ·subst e
   have F:=h.at_ j _ (List.getElem?_eq_getElem G)
   rw [Nat.zero_add] at F ⊢
   rw [World.cell?_setCell_same _ _ _ F]; rfl
  ·rw [World.cell?_setCell_other _ _ _ _ (fun z=>by injection z with _ z; omega)]
   exact (h.th i hi).1
theorem fzb_setCells (g:Nat):∀ (vs:List Value) (o:Nat) (w:World),Fz (fun k=>k=g) w (w.setCells g o vs)
 | [],_,w=>Fz.refl _ w
 | v :: r,o,w=>by
  rw [World.setCells]
  exact (Fz.of_set (C:=fun k=>k=g) (a:=⟨g,o,none⟩) v rfl).trans (fzb_setCells g r (o+1) _)
theorem box_b (T:TypeId) (cs:List Value) (w:World) (F:cs.length=n):∃ W,w.alloc (.cells cs.toArray T)=W∧Vb W w.heap.size n cs∧Below w.heap.size w W∧W.heap.size=w.heap.size+1:=by
 have h:(w.alloc (.cells cs.toArray T)).heap[w.heap.size]? = some (.cells cs.toArray T):=heap_alloc_last _ _
 refine ⟨_,rfl,⟨fun j u z=>?_,fun j z=>⟨?_,?_⟩,F⟩,(Below.refl _ _).alloc (Nat.le_refl _) _,by simp⟩
 ·rw [cell_of_row _ _ _ _ _ _ h]; simpa using z
 ·rw [cell_of_row _ _ _ _ _ _ h]; simp; omega
 ·unfold World.frozen?; simp only [h]; rfl
theorem boxes_b (T:TypeId) (cs zs:List Value) (w:World) (hl:cs.length=n+1) (hz:zs.length=n+1):∃ W,(w.alloc (.cells cs.toArray T)).alloc (.cells zs.toArray T)=W ∧
  Vb W w.heap.size (n+1) cs∧W.there (w.heap.size+1) 0 (n+1)∧Below w.heap.size w W∧W.heap.size=w.heap.size+2:=by
 obtain ⟨F,I,Y,b1,s1⟩:=box_b T cs w hl
 rw [I]
 obtain ⟨G,J,z,h,s2⟩:=box_b T zs F hz
 rw [s1] at z
 exact ⟨G,J,Y.later h,z.th,b1.trans (h.mono b1.size),by omega⟩
end
section
variable {T:TypeId} {n:Nat} (hT:RowT T n) {fn:Func} {p u x:Tmp} (tmps:Array Value) (w:World) (g:Nat) (cs:List Value)
include hT
theorem res_b (h:fn.results=#[.cell p T]) (z:tmps.getD p undef=.pointer (some ⟨g,0,none⟩)) (hv:Vb w g n cs):(results fn tmps).run Tryz.prog w=.ok (.agg cs.toArray) w:=by
 have G:=run_loadVar_mid (P:=Tryz.prog) w g 0 T _ _ hv.at_ hT.under hT.row (by rw [hv.len]; exact hT.info)
 have F:tmps[p]?.getD undef=.pointer (some ⟨g,0,none⟩):=by simpa using z
 simp [results,h,F,asAddr,G]
end
section
variable {T:TypeId} {n:Nat} (hT:RowT T n) {ops:Array Oper} {rest:List Oper} {op:Oper} {a:Act} {w:World} {Q:Exit→Act→World→Prop}
include hT
theorem load_b (z:op.guard=none) (x:Operand) (F:op.op=.load T x) (g:Nat) (hx:a.eval x=.pointer (some ⟨g,0,none⟩)) (cs:List Value) (hv:Vb w g n cs)
  (h:wpList Tryz.prog ops Q rest (a.put op.dst (.agg cs.toArray)) w):wpList Tryz.prog ops Q (op :: rest) a w:=
 wpList_load_mid z T x F g 0 hx _ _ hv.at_ hT.under hT.row (by rw [hv.len]; exact hT.info) h
theorem store_b (G:op.guard=none) (x y:Operand) (J:op.op=.store T x y) (g:Nat) (hx:a.eval x=.pointer (some ⟨g,0,none⟩)) (cs:List Value) (W:a.eval y=.agg cs.toArray) (z:w.there g 0 n) (I:cs.length=n) (F:cs.toArray.all (·.oneCell')=true)
  (h:∀ w',Vb w' g n cs→Fz (fun k=>k=g) w w'→wpList Tryz.prog ops Q rest (a.put op.dst undef) w'):wpList Tryz.prog ops Q (op :: rest) a w:=by
 subst I
 exact wpList_store_mid G T x y J g 0 cs.toArray hx W z hT.info F (h _ ⟨World.rangeAt_setCells_same w g 0 _ z,World.there_setCells z g 0 _,rfl⟩ (fzb_setCells _ _ _ _))
theorem exec_load_b (h:Oper) (ev:Operand→Value) (y:Operand) (z:h.op=.load T y) {g:Nat} (hx:ev y=.pointer (some ⟨g,0,none⟩)) {w:World} {cs:List Value} (hv:Vb w g n cs):(execOp ev h).run Tryz.prog w=.ok (.value (.agg cs.toArray)) w:=by
 unfold execOp
 simp only [z,hx,Instr.loadAt,Instr.sureAddr,Sem.run_bind,Sem.run_pure,Result.andThen_ok,run_loadVar_mid (P:=Tryz.prog) w g 0 T _ _ hv.at_ hT.under hT.row (by rw [hv.len]; exact hT.info)]
theorem wp_store_b {K:Act→World→Prop} (y z:Operand) (J:op.op=.store T y z) (g:Nat) (hx:a.eval y=.pointer (some ⟨g,0,none⟩)) (cs:List Value) (W:a.eval z=.agg cs.toArray) (F:w.there g 0 n) (I:cs.length=n) (G:cs.toArray.all (·.oneCell')=true)
  (h:∀ w',Vb w' g n cs→Fz (fun k=>k=g) w w'→K (a.put op.dst undef) w'):op.wp Tryz.prog a w K Q:=by
 subst I
 exact wp_store_mid T y z J g 0 cs.toArray hx W F hT.info G (h _ ⟨World.rangeAt_setCells_same w g 0 _ F,World.there_setCells F g 0 _,rfl⟩ (fzb_setCells _ _ _ _))
end
end Go.Proofs.YtoiklelghfckgaaGreatDoor.Rw
namespace Go.Proofs.YtoiklelghfckgaaGreatDoor.Ba
open Go Go.ChangeShapes Go.WideShapes Go.ChangeAt Go.RowKit Go.Maps Rw Hi Mt
section
variable (w:World) {ops:Array Oper} {rest:List Oper} {o:Oper} {a:Act} {Q:Exit→Act→World→Prop}
theorem lookP (F:o.guard=none) (m x:Operand) (I:o.op=Op.lookup 133 m x false) (b:Nat) (L:List (Int × Option Nat)) (G:a.eval m=.map (some b)) (h:MP w b L) (y:Int) (W:U64 y) (hx:a.eval x=.int .u64 y)
  (q:Option Nat) (J:(fnd L y).getD none=q)
  (z:wpList Tryz.prog ops Q rest (a.put o.dst (.pointer (q.map fun b=>⟨b,0,none⟩))) w):wpList Tryz.prog ops Q (o :: rest) a w:=by
 refine look1 w F m x 133 I 25 114 Tryz.underlying25 Tryz.underlying133 none (zeroP w) b L G h y W hx ?_
 rw [J]
 exact z
end
section
variable {C R:Nat→Prop} (w:World) (p a:Nat) (L:List (Int × En)) (S:List Int) (id:Int)
theorem of_miss (h:Bt C R w p a L S) (hid:U64 id) (hn:fnd L id=none) :
  Calls Tryz.prog 41 #[ptr p,.int .u64 id] w fun e w'=>e=.returned (.pointer none)∧w=w':=by
 have c0:=h.c0
 have z:(fnd (bl L) id).getD none=none:=by rw [h.find,hn]; rfl
 have I:=Lh h.mo
 have G:=Lh hid
 have F:=Lh z
 clear h hid hn z
 go_enter Tryz.func41,Tryz.ntmps41
 go_wp2_with (at_lookup; refine lookP _ rfl _ _ rfl a _ rfl I.out id G.out rfl none F.out ?_)
 go_ret
 exact ⟨rfl,rfl⟩
theorem of_hit (h:Bt C R w p a L S) (hid:U64 id) {x:En} (hx:fnd L id=some x) :
  Calls Tryz.prog 41 #[ptr p,.int .u64 id] w fun e w'=>e=.returned (ptr x.e)∧w=w':=by
 have c0:=h.c0
 have z:(fnd (bl L) id).getD none=some x.e:=by rw [h.find,hx]; rfl
 have I:=Lh h.mo
 have G:=Lh hid
 have F:=Lh z
 clear h hid hx z
 go_enter Tryz.func41,Tryz.ntmps41
 go_wp2_with (at_lookup; refine lookP _ rfl _ _ rfl a _ rfl I.out id G.out rfl (some x.e) F.out ?_)
 go_ret
 exact ⟨rfl,rfl⟩
theorem wrong_any (h:Bt C R w p a L S) (hid:U64 id) :
  Calls Tryz.prog 181 #[ptr p,.int .u64 id] w fun e w'=>e=.returned (.int .i64 (if (fnd L id).isSome then 0 else 9))∧w=w':=by
 cases hf:fnd L id with
 | none=>
  have H:=Lh (of_miss w p a L S id h hid hf)
  clear h hid hf
  go_enter Tryz.func181,Tryz.ntmps181
  go_wp2_with fail
  refine H.out.mono ?_
  rintro e z ⟨rfl,rfl⟩
  go_wp2_with fail
  go_ret
  exact ⟨rfl,rfl⟩
 | some x=>
  have H:=Lh (of_hit w p a L S id h hid hf)
  clear h hid hf
  go_enter Tryz.func181,Tryz.ntmps181
  go_wp2_with fail
  refine H.out.mono ?_
  rintro e z ⟨rfl,rfl⟩
  go_wp2_with fail
  go_ret
  exact ⟨rfl,rfl⟩
theorem loadT_any (h:Bt C R w p a L S) (hid:U64 id) :
  Calls Tryz.prog 13 #[ptr p,.int .u64 id] w fun e w'=>e=.returned (.tuple #[.int .u64 (((fnd L id).map En.word).getD 0),.bool (fnd L id).isSome])∧w=w':=by
 cases hf:fnd L id with
 | none=>
  have H:=Lh (of_miss w p a L S id h hid hf)
  clear h hid hf
  go_enter Tryz.func13,Tryz.ntmps13
  go_wp2_with fail
  refine H.out.mono ?_
  rintro e z ⟨rfl,rfl⟩
  go_wp2_with fail
  go_ret2
  exact ⟨rfl,rfl⟩
 | some x=>
  have H:=Lh (of_hit w p a L S id h hid hf)
  have hok:=(h.get hf).1
  have k0:=hok.k0
  have kc:=hok.kc
  clear h hid hf hok
  go_enter Tryz.func13,Tryz.ntmps13
  go_wp2_with fail
  refine H.out.mono ?_
  rintro e z ⟨rfl,rfl⟩
  go_wp2_with fail
  refine (Wd.load_any _ _ _ kc).mono ?_
  rintro e F ⟨rfl,rfl⟩
  go_wp2_with fail
  go_ret2
  exact ⟨rfl,rfl⟩
theorem list_nil:Calls Tryz.prog 21 #[.pointer none] w fun e w'=>e=.returned (.agg #[.slice none 0 0])∧Below w.heap.size w w':=by
 go_enter Tryz.func21,Tryz.ntmps21
 go_wp2_with fail
 refine bodyPost_ret (v:=.agg #[.slice none 0 0]) (by simp [results,Tryz.results21,go_sem]) rfl ⟨rfl,?_⟩
 repeat' (first | exact Below.refl _ _ | apply Below.setCell | apply Below.alloc)
 all_goals (first | (simp; done) | (simp; omega))
theorem list_any (h:Bt C R w p a L S):Calls Tryz.prog 21 #[ptr p] w fun e w'=>∃ A n c,e=.returned (.agg #[.slice A n c])∧Rd (Value.int .u64) w w.heap.size A n c S∧(0 < n → ∀ b o,A=some ⟨b,o,none⟩→R b)∧Below w.heap.size w w':=by
 obtain ⟨A,n,c,c1,z,F⟩:=h.row
 have G:=Lh z
 have I:=Lh F
 clear h z F
 have J:=Lw.lt_heap c1
 go_enter Tryz.func21,Tryz.ntmps21
 go_wp2_with fail
 refine bodyPost_ret (v:=.agg #[.slice A n c]) (by simp [results,Tryz.results21,go_sem]) rfl ⟨A,n,c,rfl,G.out,I.out,?_⟩
 repeat' (first | exact Below.refl _ _ | apply Below.setCell | apply Below.alloc)
 all_goals (first | (simp; done) | (simp; omega))
theorem new_any:Calls Tryz.prog 57 #[] w fun e w'=>e=.returned (ptr (w.heap.size+1))∧Bt (fresh w) (fun _=>False) w' (w.heap.size+1) w.heap.size [] [] ∧ Below w.heap.size w w':=by
 have F:=@run_makeMap Tryz.prog
 go_enter Tryz.func57,Tryz.ntmps57
 go_wp2_with fail
 go_ret
 refine ⟨rfl,⟨by go_simp,by go_simp,⟨none,0,0,by go_simp,Rd.nil_,fun h=>absurd h (by omega)⟩,List.nodup_nil,fun x hx=>(by cases hx),?_,fun q z=>(by cases z),fun q z=>(by cases z),List.Pairwise.nil,fun q z=>(by cases z),(show w.heap.size≤w.heap.size+1 by omega),Nat.le_refl _,fun _ _ h=>h⟩,((Below.refl _ _).alloc (Nat.le_refl _) _).alloc (by simp) _⟩
 exact (Mo.made w Tryz.prog 25 eP).alloc _
end
theorem and_keep {A B:Prop} (a:A) (h:A→B):A∧B:=⟨a,h a⟩
section
variable {C R:Nat→Prop} (w:World) (p a:Nat) (L:List (Int × En)) (S:List Int) (id:Int)
theorem Bt.enter {w:World} {p a:Nat} {L:List (Int × En)} {S:List Int} {id:Int} (h:Bt C R w p a L S) (hn:fnd L id=none) (hid:U64 id) {w1 G:World} (hb:Below w.heap.size w w1) (x:En) (hok:Ok (ext w C) G x) (he:w.heap.size≤x.e) (hc:w.heap.size≤x.c)
  (hm:MP G a ((id,some x.e) :: wo (bl L) id)) (hg:w1.grownBy G (some a)):Bt (ext w C) (cut w R) G p a (ins L id x) S:=by
 replace h:=h.extC
 have a0:id ∉ L.map Prod.fst:=fnd_no hn
 have a4:id ∉ (bl L).map Prod.fst:=by rw [bl_keys]; exact a0
 have hk:∀ g,g < w.heap.size→g≠a→G.heap[g]? = w.heap[g]?:=fun g a1 a3=>(hg.block g (Nat.lt_of_lt_of_le a1 hb.size) (fun e=>a3 (by injection e))).trans (hb.block g a1)
 have a5:p≠a:=fun e=>h.mo.no_cell 0 _ (e ▸ h.c0)
 have hp:=hk p h.lt.1 a5
 obtain ⟨A,n,c,h1,Y,h3⟩:=h.row
 have J:∀ {q},q∈ins L id x↔q=(id,x)∨q∈L:=mem_ins h.ri a0
 refine ⟨(World.cell?_of_block hp).trans h.c0,(World.frozen?_of_block hp).trans h.f1,⟨A,n,c,(World.cell?_of_block hp).trans h1,rd_blk Y (Nat.le_trans hb.size hg.size) fun hn b o e=>?_,h3⟩,h.nd,h.us,?_,fun q z=>?_,fun q z r W e=>?_,h.ri.ins x,fun q z=>?_,h.ip,h.ia,h.cr⟩
 ·obtain ⟨b',o',I,a7,a2⟩:=Y.at_ hn
  rw [e] at I; injection I with I; injection I with e1 e2 _
  have hl:0 < S.length:=by rw [Y.len]; exact hn
  refine hk b (by omega) (fun e3=>?_)
  have:=a2 0 _ (List.getElem?_eq_getElem hl)
  rw [← e1,e3] at this
  exact h.mo.no_cell _ _ this
 ·refine hm.perm ?_
  rw [wo_none a4]
  have:=(ins_perm (id:=id) h.ri a0 x).map (fun q=>(q.1,some q.2.e))
  exact this
 ·rcases J.1 z with rfl | z
  ·exact hok
  ·have F:=h.en q z
   exact F.blk (hk _ F.lt.1 (fun e=>h.mo.no_cell 0 _ (e ▸ F.k0))) (hk _ F.lt.2 (fun e=>h.mo.no_cell 0 _ (e ▸ F.kc)))
 ·rcases J.1 z with rfl | z <;> rcases J.1 W with rfl | W
  ·rfl
  ·have a6:=h.en r W
   have:=a6.lt
   simp only at e
   omega
  ·have F:=h.en q z
   have:=F.lt
   simp only at e
   omega
  ·exact h.ap q z r W e
 ·rcases J.1 z with rfl | z
  ·exact hid
  ·exact h.ui q z
def eE {β:Type} (D:List (Int × β)) (id st:Int):Int:=if id=0∨st < 0∨3 < st then 2 else if (fnd D id).isSome then 10 else 0
theorem enter_range (st now:Int) (h:id=0∨st < 0∨3 < st):Calls Tryz.prog 73 #[ptr p,.int .u64 id,.int .i64 st,.int .u64 now] w fun e w'=>e=.returned (.int .i64 2)∧w=w':=by
 by_cases h0:id=0
 ·have q0:(id == 0)=true:=by simpa using h0
  clear h0 h
  go_enter Tryz.func73,Tryz.ntmps73
  go_wp2_with fail
  go_ret
  exact ⟨rfl,rfl⟩
 ·have q0:(id == 0)=false:=by simpa using h0
  by_cases h1:st < 0
  ·have z:decide (st < 0)=true:=decide_eq_true h1
   clear h0 h1 h
   go_enter Tryz.func73,Tryz.ntmps73
   go_wp2_with fail
   go_ret
   exact ⟨rfl,rfl⟩
  ·have z:decide (st < 0)=false:=decide_eq_false h1
   have F:decide (3 < st)=true:=decide_eq_true (by omega)
   clear h0 h1 h
   go_enter Tryz.func73,Tryz.ntmps73
   go_wp2_with fail
   go_ret
   exact ⟨rfl,rfl⟩
theorem enter_had (h:Bt C R w p a L S) (hid:U64 id) (st now:Int) (F:¬ (id=0∨st < 0∨3 < st)) {x:En} (z:fnd L id=some x):Calls Tryz.prog 73 #[ptr p,.int .u64 id,.int .i64 st,.int .u64 now] w fun e w'=>e=.returned (.int .i64 10)∧w=w':=by
 have q0:(id == 0)=false:=by simp; omega
 have G:decide (st < 0)=false:=decide_eq_false (by omega)
 have I:decide (3 < st)=false:=decide_eq_false (by omega)
 have H:=Lh (of_hit w p a L S id h hid z)
 clear h hid F z
 go_enter Tryz.func73,Tryz.ntmps73
 go_wp2_with fail
 refine H.out.mono ?_
 rintro e J ⟨rfl,rfl⟩
 go_wp2_with fail
 go_ret
 exact ⟨rfl,rfl⟩
theorem enter_new (h:Bt C R w p a L S) (hid:U64 id) (st now:Int) (a3:U64 now) (hr:¬ (id=0∨st < 0∨3 < st)) (Y:fnd L id=none) (a8:L.length < 1000000) :
  Calls Tryz.prog 73 #[ptr p,.int .u64 id,.int .i64 st,.int .u64 now] w fun e w'=>e=.returned (.int .i64 0)∧(∃ x:En,x.x=⟨Wd.wOf st 0,now,now,now⟩∧Bt (ext w C) (cut w R) w' p a (ins L id x) S)∧Fz C w w':=by
 have q0:(id == 0)=false:=by simp; omega
 have q1:decide (st < 0)=false:=decide_eq_false (by omega)
 have q2:decide (3 < st)=false:=decide_eq_false (by omega)
 have H:=Lh (of_miss w p a L S id h hid Y)
 have K0:=Lh h.c0
 have HL:=Lh h.lt.1
 have HM:=Lh h.mo
 have J:=Lh h
 have HI:=Lh hid
 have HN:=Lh Y
 have W:=Lh a3
 have a6:Hid ((bl L).length < 4611686018427387904):=Lh (by simp [bl]; omega)
 clear h hid hr Y a3 a8
 go_enter Tryz.func73,Tryz.ntmps73
 go_wp2_with fail
 refine H.out.mono ?_
 rintro e w1 ⟨rfl,rfl⟩
 go_wp2_with fail
 have z:Hid (Below w.heap.size w w.drew):=Lh (Below.refl _ _).drew
 have HB:Hid (Below w.heap.size w w):=Lh (Below.refl _ _)
 refine reg_start 13 (fun w'=>Below w.heap.size w w') (by kernel_rfl) (by kernel_rfl) ?_
 intro a1
 have F:=Lh a1
 clear a1
 refine rq 0 F.out z.out rfl ?_
 refine rq 1 F.out z.out rfl ?_
 refine rq 2 F.out z.out rfl ?_
 refine rq 3 F.out z.out rfl ?_ (hv:=fun w' hw=>by (have k:=(hw.cell (p:=⟨p,0,none⟩) HL.out).trans K0.out; go_simp; exact rfl))
 refine rq 4 F.out z.out rfl ?_
 refine rq 5 F.out z.out rfl ?_
 refine rq 8 F.out z.out rfl ?_
 refine rq 9 F.out z.out rfl ?_
 refine rq 10 F.out z.out rfl ?_
 refine reg_only 6 rfl (by kernel_rfl) rfl ?_
 unfold Oper.wp
 go_simp
 refine (Wd.of_any st 0 _ (by omega) (by omega)).mono ?_
 rintro e w2 ⟨rfl,rfl⟩
 refine ⟨z.out,?_⟩
 refine reg_only 7 rfl (by kernel_rfl) rfl ?_
 unfold Oper.wp
 go_simp
 refine (Wd.new_any _ _).mono ?_
 rintro e w2 ⟨rfl,rfl⟩
 refine and_keep (by (repeat' (first | exact z.out | exact HB.out | exact Below.refl _ _ | apply Below.setCell | apply Below.drew | apply Below.alloc)); all_goals (first | exact Nat.le_refl _ | omega | (simp; done) | (simp; omega))) ?_
 intro G
 clear z
 have z:=Lh G
 clear G
 refine rq 11 F.out z.out rfl ?_
 refine reg_only 12 rfl (by kernel_rfl) rfl ?_
 unfold Oper.wp
 go_simp
 refine and_keep (by (repeat' (first | exact z.out | exact HB.out | exact Below.refl _ _ | apply Below.setCell | apply Below.drew | apply Below.alloc)); all_goals (first | exact Nat.le_refl _ | omega | (simp; done) | (simp; omega))) ?_
 intro G
 clear z
 have z:=Lh G
 clear G
 refine reg_only 13 rfl (by kernel_rfl) rfl ?_
 unfold Oper.wp
 go_simp
 obtain ⟨w3,a4,a0,a2⟩:=run_put (E:=eP) ((w.alloc (.cells #[.int .u64 (Wd.wOf st 0)] 191)).alloc (.cells #[ptr w.heap.size,.int .u64 now,.int .u64 now,.int .u64 now] 118)).drew Tryz.underlying25 Tryz.underlying133 (HM.out.later z.out) a6.out HI.out (some (w.heap.size+1))
 have a5:(Instr.mapUpdate 133 (.map (some a)) (.int .u64 id) (.pointer (some ⟨w.heap.size+1,0,none⟩))).run Tryz.prog ((w.alloc (.cells #[.int .u64 (Wd.wOf st 0)] 191)).alloc (.cells #[.pointer (some ⟨w.heap.size,0,none⟩),.int .u64 now,.int .u64 now,.int .u64 now] 118)).drew=.ok () w3:=a4
 rw [a5]
 go_simp
 refine reg_done (by kernel_rfl) ?_
 have a9:=Lh (z.out.size)
 have a7:=Lh a0
 have I:=Lh a2
 clear a4 a5 a0 a2
 go_wp2_with fail
 go_ret
 have aa:=J.out.lt.2
 have hw:=I.out
 have c1:∀ i v,((w.alloc (.cells #[.int .u64 (Wd.wOf st 0)] 191)).alloc (.cells #[ptr w.heap.size,.int .u64 now,.int .u64 now,.int .u64 now] 118)).drew.cell? ⟨w.heap.size+1,i,none⟩=some v→w3.cell? ⟨w.heap.size+1,i,none⟩=some v:=fun i v hv=>hw.cell hv (by intro e; injection e with e; have e:w.heap.size+1=a:=e; omega)
 have hok:Ok (ext w C) w3 ⟨w.heap.size+1,w.heap.size,Wd.wOf st 0,now,now,now⟩:=
  ⟨c1 0 _ (by go_simp),c1 1 _ (by go_simp),c1 2 _ (by go_simp),c1 3 _ (by go_simp),hw.cell (a:=⟨w.heap.size,0,none⟩) (by go_simp) (by intro e; injection e with e; have e:w.heap.size=a:=e; omega),
   (World.frozen?_of_block (hw.block _ (by simp) (by intro e; injection e with e; have e:w.heap.size+1=a:=e; omega))).trans (by go_simp),(World.frozen?_of_block (hw.block _ (by simp) (by intro e; injection e with e; have e:w.heap.size+1=a:=e; omega))).trans (by go_simp),(World.frozen?_of_block (hw.block _ (by simp; omega) (by intro e; injection e with e; have e:w.heap.size=a:=e; omega))).trans (by go_simp),
   .inr (by show w.heap.size≤w.heap.size+1; omega),.inr (Nat.le_refl _),⟨Wd.wOf_lo st 0,Wd.wOf_hi st 0⟩,W.out,W.out,W.out⟩
 exact ⟨rfl,⟨_,rfl,J.out.enter HN.out HI.out z.out _ hok (by show w.heap.size≤w.heap.size+1; omega) (Nat.le_refl _) a7.out I.out⟩,(Fz.of_below z.out).trans (Fz.of_grown I.out (fun g e _=>by injection e with e; subst e; exact J.out.ia))⟩
theorem swapT_miss (h:Bt C R w p a L S) (hid:U64 id) (z:fnd L id=none) (old st now:Int):Calls Tryz.prog 83 #[ptr p,.int .u64 id,.int .u64 old,.int .i64 st,.int .u64 now] w fun e w'=>e=.returned (.tuple #[.int .u64 0,.bool false])∧w=w':=by
 have H:=Lh (of_miss w p a L S id h hid z)
 clear h hid z
 go_enter Tryz.func83,Tryz.ntmps83
 go_wp2_with fail
 refine H.out.mono ?_
 rintro e F ⟨rfl,rfl⟩
 go_wp2_with fail
 go_ret2
 exact ⟨rfl,rfl⟩
theorem swapT_hit (h:Bt C R w p a L S) (hid:U64 id) {x:En} (Y:fnd L id=some x) (old st now:Int) (ho:U64 old) (a9:U64 now):Calls Tryz.prog 83 #[ptr p,.int .u64 id,.int .u64 old,.int .i64 st,.int .u64 now] w fun e w'=>e=.returned (.tuple #[.int .u64 (Wd.wSwap x.word old st),.bool (Wd.wSwapOk x.word old st)]) ∧
   Bt C R w' p a (up L id fun y=>{ y with word:=Wd.wSwap x.word old st,since:=if Wd.wSwapOk x.word old st=true∧st=0 then now else x.since,proved:=x.proved }) S∧Fz C w w':=by
 have H:=Lh (of_hit w p a L S id h hid Y)
 have hok:=(h.get Y).1
 obtain ⟨g0,g1,g2,g3,J,f2,f3,fc,a8,a7,uw,ub,us,up_⟩:=hok
 have W:x.e≠x.c:=fun e=>by rw [e,J] at g0; cases g0
 have ai:=Lw.lt_heap g0
 have ah:=Lw.lt_heap J
 have G2:=Lh g2
 have G3:=Lh g3
 have F2:=Lh f2
 have HK:=Lh h
 have HF:=Lh Y
 have aa:=Lh a8
 have a2:=Lh a7
 have G:=Lh W
 have I:Hid (U64 (Wd.wSwap x.word old st)):=Lh ⟨Wd.wSwap_lo _ _ _ uw.1,Wd.wSwap_hi _ _ _ uw.2⟩
 have ad:=Lh a9
 have a5:=Lh us
 have a3:=Lh up_
 obtain ⟨V,hV⟩:∃ V,Wd.wSwap x.word old st=V:=⟨_,rfl⟩
 have F:=Lh (Wd.swap_any ⟨x.c,0,none⟩ x.word old st w J fc ho.1 ho.2)
 rw [hV] at I F ⊢
 have a6:(w.setCell ⟨x.c,0,none⟩ (.int .u64 V)).cell? ⟨x.c,0,none⟩=some (.int .u64 V):=World.cell?_setCell_same _ _ _ J
 have a4:∀ o,(w.setCell ⟨x.c,0,none⟩ (.int .u64 V)).cell? ⟨x.e,o,none⟩=w.cell? ⟨x.e,o,none⟩:=fun o=>World.cell?_setCell_other w _ _ _ (fun e=>W (by injection e with e _; exact e.symm))
 have ae:=(a4 2).trans g2
 have aj:(w.setCell ⟨x.c,0,none⟩ (.int .u64 V)).frozen? ⟨x.e,2,none⟩=false:=by
  rw [← f2]; exact World.frozen?_of_block (heap_setCell_other w ⟨x.c,0,none⟩ x.e _ (fun e=>W e))
 have a0:=Lh a6
 have z:=Lh a4
 have a1:=Lh ae
 have HV:=Lh hV
 clear h hid Y g1 g2 g3 f2 f3 a8 a7 W uw ub us up_ a9 hV a6 a4
 cases hk:Wd.wSwapOk x.word old st with
 | false=>
  rw [hk] at F
  have ac:=Lh hk
  clear hk
  rw [if_neg (fun e=>by cases e.1)]
  go_enter Tryz.func83,Tryz.ntmps83
  go_wp2_with fail
  refine H.out.mono ?_
  rintro e w1 ⟨rfl,rfl⟩
  go_wp2_with fail
  refine F.out.mono ?_
  rintro e w2 ⟨rfl,rfl⟩
  go_wp2_with fail
  go_ret2
  refine ⟨rfl,HK.out.turn HF.out V x.since x.proved I.out a5.out a3.out (by simp) a1.out ((z.out 3).trans G3.out) a0.out (fun o _ _=>z.out o) (fun o=>World.frozen?_of_block (heap_setCell_other w ⟨x.c,0,none⟩ x.e _ G.out)) (by simp) (fun g _ _ hg=>heap_setCell_other w ⟨x.c,0,none⟩ g _ hg),Fz.of_set _ a2.out⟩
 | true=>
  rw [hk] at F
  have ac:=Lh hk
  clear hk
  by_cases h0:st=0
  ·have q0:(st == 0)=true:=by simpa using h0
   rw [if_pos ⟨rfl,h0⟩]
   have H0:=Lh h0
   clear h0
   go_enter Tryz.func83,Tryz.ntmps83
   go_wp2_with fail
   refine H.out.mono ?_
   rintro e w1 ⟨rfl,rfl⟩
   go_wp2_with fail
   refine F.out.mono ?_
   rintro e w2 ⟨rfl,rfl⟩
   go_wp2_with fail
   go_ret2
   refine ⟨rfl,HK.out.turn HF.out V now x.proved I.out ad.out a3.out (by simp) (World.cell?_setCell_same _ _ _ a1.out) ?_ ?_ (fun o h2 h3=>?_) (fun o=>?_) ?_ (fun g _ af ag=>(heap_setCell_other _ ⟨x.e,2,none⟩ g _ af).trans (heap_setCell_other w ⟨x.c,0,none⟩ g _ ag)),(Fz.of_set _ a2.out).trans (Fz.of_set _ aa.out)⟩
   ·exact (World.cell?_setCell_other _ _ _ _ (fun e=>by injection e with _ e _; omega)).trans ((z.out 3).trans G3.out)
   ·exact (World.cell?_setCell_other _ _ _ _ (fun e=>G.out (by injection e))).trans a0.out
   ·exact (World.cell?_setCell_other _ _ _ _ (fun e=>by injection e with _ e _; omega)).trans (z.out o)
   ·rw [World.frozen?_setCell]; exact World.frozen?_of_block (heap_setCell_other w ⟨x.c,0,none⟩ x.e _ G.out)
   ·simp
  ·have q0:(st == 0)=false:=by simpa using h0
   rw [if_neg (fun e=>h0 e.2)]
   clear h0
   go_enter Tryz.func83,Tryz.ntmps83
   go_wp2_with fail
   refine H.out.mono ?_
   rintro e w1 ⟨rfl,rfl⟩
   go_wp2_with fail
   refine F.out.mono ?_
   rintro e w2 ⟨rfl,rfl⟩
   go_wp2_with fail
   go_ret2
   refine ⟨rfl,HK.out.turn HF.out V x.since x.proved I.out a5.out a3.out (by simp) a1.out ((z.out 3).trans G3.out) a0.out (fun o _ _=>z.out o) (fun o=>World.frozen?_of_block (heap_setCell_other w ⟨x.c,0,none⟩ x.e _ G.out)) (by simp) (fun g _ _ hg=>heap_setCell_other w ⟨x.c,0,none⟩ g _ hg),Fz.of_set _ a2.out⟩
end
section
variable {C R:Nat→Prop} (w:World) (p a:Nat) (L:List (Int × En)) (S:List Int) (id:Int)
theorem Bt.list_put {w F:World} {p a:Nat} {L:List (Int × En)} {S J:List Int} (h:Bt C R w p a L S) (hb:Below w.heap.size w F) {A':Option Addr} {n' G:Nat} (hr:Rd (Value.int .u64) F F.heap.size A' n' G J) (a0:J.Nodup) (a4:Sn.U64s J)
  (hs:0 < n' → ∀ b o,A'=some ⟨b,o,none⟩→R b):Bt C R (F.setCell ⟨p,1,none⟩ (.slice A' n' G)) p a L J:=by
 have z:=h.later hb
 obtain ⟨A,n,c,r1,-,-⟩:=z.row
 have a3:p≠a:=fun e=>z.mo.no_cell 0 _ (e ▸ z.c0)
 have a2:=a3.symm
 have a1:∀ x,Value.int .u64 x≠Value.slice A n c:=fun x e=>by cases e
 have Y:∀ g,g≠p→(F.setCell ⟨p,1,none⟩ (.slice A' n' G)).heap[g]? = F.heap[g]?:=fun g hg=>heap_setCell_other F ⟨p,1,none⟩ g _ hg
 refine ⟨(World.cell?_setCell_other _ _ _ _ (fun e=>by injection e with _ e _; omega)).trans z.c0,by simpa using z.f1,⟨A',n',G,World.cell?_setCell_same _ _ _ r1,?_,hs⟩,a0,a4,z.mo.setCell a2 _,fun q hq=>?_,z.ap,z.ri,z.ui,z.ip,z.ia,z.cr⟩
 ·have:=hr.setOther (p:=⟨p,1,none⟩) r1 a1 (.slice A' n' G)
  simpa using this
 ·have W:=z.en q hq
  exact W.blk (Y _ (fun e=>by have I:=z.c0; rw [← e,W.k0] at I; cases I)) (Y _ (fun e=>by have I:=z.c0; rw [← e,W.kc] at I; cases I))
theorem publish_miss (h:Bt C R w p a L S) (hid:U64 id) (z:fnd L id=none):Calls Tryz.prog 135 #[ptr p,.int .u64 id] w fun e w'=>e=.returned (.int .i64 9)∧w=w':=by
 have H:=Lh (wrong_any w p a L S id h hid)
 rw [z] at H
 clear h hid z
 go_enter Tryz.func135,Tryz.ntmps135
 go_wp2_with fail
 refine H.out.mono ?_
 rintro e F ⟨rfl,rfl⟩
 go_wp2_with fail
 go_ret
 exact ⟨rfl,rfl⟩
theorem publish_hit (h:Bt C R w p a L S) (hid:U64 id) {x:En} (Y:fnd L id=some x) (hl:S.length≤1000000):Calls Tryz.prog 135 #[ptr p,.int .u64 id] w fun e w'=>e=.returned (.int .i64 0)∧Bt (cut w C) (ext w R) w' p a L (Sn.sWith S id)∧Fz C w w':=by
 have H:=Lh (wrong_any w p a L S id h hid)
 rw [Y] at H
 obtain ⟨A,n,c,c1,G,W⟩:=h.row
 have a7:=Lh (show Sn.Snap w w.heap.size (.agg #[.slice A n c]) S from ⟨⟨A,n,c,rfl,G⟩,h.nd,h.us⟩)
 have f1:=h.f1
 have H3:=Lh W
 have a6:=Lh G
 have J:=Lh h
 have HI:=Lh hid
 clear h hid Y G W
 go_enter Tryz.func135,Tryz.ntmps135
 go_wp2_with fail
 refine H.out.mono ?_
 rintro e w1 ⟨rfl,rfl⟩
 go_wp2_with fail
 refine (Sn.with2_any _ S id w a7.out (by omega) HI.out).mono ?_
 rintro e w2 ⟨u,rfl,a8,z,a0⟩
 obtain ⟨⟨A2,n2,c2,rfl,a4⟩,a2,a3⟩:=a8
 have a1:=Lw.lt_heap c1
 have k1:=(z.cell (p:=⟨p,1,none⟩) a1).trans c1
 have kf:=(z.frozen (p:=⟨p,1,none⟩) a1).trans f1
 have a5:0 < n2 → ∀ b o,A2=some ⟨b,o,none⟩→ext w R b:=by
  rcases a0 with e | ⟨A9,n9,c9,e,I⟩
  ·injection e with e; injection e with e; injection e with e; injection e with e1 e2 e3; subst e1 e2; exact fun hn b o e=>by obtain ⟨b',o',F,a9,_⟩:=a6.out.at_ hn; have I:=H3.out hn b o e; rw [e] at F; injection F with F; injection F with e3 _; exact .inl ⟨by omega,I⟩
  ·injection e with e; injection e with e; injection e with e; injection e with e1 e2 e3; subst e1 e2
   intro _ b o hA
   exact .inr (I b o hA)
 have HP:=Lh (J.out.cutC.list_put z a4 a2 a3 a5)
 have HB:=Lh z
 clear z a5 a4 a2 a3 a0 c1 f1
 go_wp2_with fail
 go_ret
 exact ⟨rfl,HP.out,(Fz.of_below HB.out).trans (Fz.of_set _ J.out.ip)⟩
theorem unlist_miss (h:Bt C R w p a L S) (hid:U64 id) (z:fnd L id=none):Calls Tryz.prog 235 #[ptr p,.int .u64 id] w fun e w'=>e=.returned (.int .i64 9)∧w=w':=by
 have H:=Lh (wrong_any w p a L S id h hid)
 rw [z] at H
 clear h hid z
 go_enter Tryz.func235,Tryz.ntmps235
 go_wp2_with fail
 refine H.out.mono ?_
 rintro e F ⟨rfl,rfl⟩
 go_wp2_with fail
 go_ret
 exact ⟨rfl,rfl⟩
theorem unlist_hit (h:Bt C R w p a L S) (hid:U64 id) {x:En} (Y:fnd L id=some x) (hl:S.length≤1000000):Calls Tryz.prog 235 #[ptr p,.int .u64 id] w fun e w'=>e=.returned (.int .i64 0)∧Bt (cut w C) (ext w R) w' p a L (Sn.sWithout S id)∧Fz C w w':=by
 have H:=Lh (wrong_any w p a L S id h hid)
 rw [Y] at H
 obtain ⟨A,n,c,c1,G,W⟩:=h.row
 have a7:=Lh (show Sn.Snap w w.heap.size (.agg #[.slice A n c]) S from ⟨⟨A,n,c,rfl,G⟩,h.nd,h.us⟩)
 have f1:=h.f1
 have H3:=Lh W
 have a6:=Lh G
 have J:=Lh h
 clear h hid Y G W
 go_enter Tryz.func235,Tryz.ntmps235
 go_wp2_with fail
 refine H.out.mono ?_
 rintro e w1 ⟨rfl,rfl⟩
 go_wp2_with fail
 refine (Sn.without2_any _ S id w a7.out (by omega)).mono ?_
 rintro e w2 ⟨u,rfl,a8,z,a0⟩
 obtain ⟨⟨A2,n2,c2,rfl,a4⟩,a2,a3⟩:=a8
 have a1:=Lw.lt_heap c1
 have k1:=(z.cell (p:=⟨p,1,none⟩) a1).trans c1
 have kf:=(z.frozen (p:=⟨p,1,none⟩) a1).trans f1
 have a5:0 < n2 → ∀ b o,A2=some ⟨b,o,none⟩→ext w R b:=by
  rcases a0 with e | ⟨A9,n9,c9,e,I⟩
  ·injection e with e; injection e with e; injection e with e; injection e with e1 e2 e3; subst e1 e2; exact fun hn b o e=>by obtain ⟨b',o',F,a9,_⟩:=a6.out.at_ hn; have I:=H3.out hn b o e; rw [e] at F; injection F with F; injection F with e3 _; exact .inl ⟨by omega,I⟩
  ·injection e with e; injection e with e; injection e with e; injection e with e1 e2 e3; subst e1 e2
   intro _ b o hA
   exact .inr (I b o hA)
 have HP:=Lh (J.out.cutC.list_put z a4 a2 a3 a5)
 have HB:=Lh z
 clear z a5 a4 a2 a3 a0 c1 f1
 go_wp2_with fail
 go_ret
 exact ⟨rfl,HP.out,(Fz.of_below HB.out).trans (Fz.of_set _ J.out.ip)⟩
def cnt (D:List (Int × Ex)) (st:Int):Nat:=(D.filter (fun q=>q.2.word % 4 == st)).length
theorem bl_hit {L:List (Int × En)} {y:Int} {q:Option Nat} (h:(y,q)∈bl L):∃ x,(y,x)∈L∧q=some x.e:=by
 obtain ⟨r,z,e⟩:=List.mem_map.1 h
 injection e with e1 e2
 exact ⟨r.2,by rw [← e1]; exact z,e2.symm⟩
theorem wo_map {β γ:Type} (L:List (Int × β)) (g:β→γ) (k:Int):wo (L.map fun q=>(q.1,g q.2)) k=(wo L k).map fun q=>(q.1,g q.2):=by
 unfold wo; rw [List.filter_map]; rfl
theorem nextP {w:World} {ops:Array Oper} {rest:List Oper} {o:Oper} {z:Act} {Q:Exit→Act→World→Prop} (hg:o.guard=none) (it:Operand) (a2:o.op=Op.next it false) (b r:Nat) (l left:List (Int × En)) (hit:z.eval it=.pointer (some ⟨r,0,none⟩)) (h:Rg Tryz.prog 25 eP w b r (bl l) (bl left))
  (a0:left=[] → wpList Tryz.prog ops Q rest (z.put o.dst (.tuple #[.bool false])) w)
  (a1:∀ y (x:En) w',(y,x)∈left→U64 y→Rg Tryz.prog 25 eP w' b r (bl l) (bl (wo left y))→w'.rangeLeft b r < w.rangeLeft b r→w.grownBy w' (some r)→w'.heap.size=w.heap.size →
   (Instr.entry (.pointer (some ⟨r,0,none⟩))).run Tryz.prog w'=.ok (.tuple #[.int .u64 y,.pointer (some ⟨x.e,0,none⟩)]) w'→wpList Tryz.prog ops Q rest (z.put o.dst (.tuple #[.bool true,.int .u64 y,.pointer (some ⟨x.e,0,none⟩)])) w'):wpList Tryz.prog ops Q (o :: rest) z w:=
 next1 w hg it a2 25 Tryz.underlying25 b r (bl l) (bl left) hit h (fun G=>a0 (by simpa [bl] using G)) fun y q w' I J F W Y h6 h7=>by
  obtain ⟨x,hx,rfl⟩:=bl_hit I
  rw [wo_map left (fun x:En=>some x.e) y] at F
  exact a1 y x w' hx J F W Y h6 h7
end
def bW (D:List (Int × Ex)) (id:Int):Int:=((fnd D id).map Ex.word).getD 0
def bV (D:List (Int × Ex)) (id old st:Int):Int:=match fnd D id with
 | none=>0
 | some x=>Wd.wSwap x.word old st
def bK (D:List (Int × Ex)) (id old st:Int):Bool:=match fnd D id with
 | none=>false
 | some x=>Wd.wSwapOk x.word old st
def bE (D:List (Int × Ex)) (id:Int):Value:=match fnd D id with
 | none=>.agg #[.int .u64 0,.int .u64 0,.int .u64 0,.int .u64 0,.int .u64 0]
 | some x=>.agg #[.int .u64 id,.int .u64 x.word,.int .u64 x.born,.int .u64 x.since,.int .u64 x.proved]
def kn {β:Type} (D:List (Int × β)) (id:Int):Int:=if (fnd D id).isSome then 0 else 9
section
variable {C R:Nat→Prop} (w:World) (p a:Nat) (D:List (Int × Ex)) (S:List Int) (id:Int)
theorem fnd_ab (L:List (Int × En)) (id:Int):fnd (ab L) id=(fnd L id).map En.x:=fnd_map (L:=L) (g:=En.x) id
theorem bW_u64 {D:List (Int × Ex)} (h:Bx C R w p a D S) (id:Int):U64 (bW D id):=by
 unfold bW
 cases hf:fnd D id with
 | none=>exact ⟨by simp,by simp⟩
 | some x=>exact (h.ui _ (fnd_some hf)).2.1
theorem load_any (h:Bx C R w p a D S) (hid:U64 id):Calls Tryz.prog 13 #[ptr p,.int .u64 id] w fun e w'=>e=.returned (.tuple #[.int .u64 (bW D id),.bool (fnd D id).isSome])∧w=w':=by
 obtain ⟨L,h,rfl⟩:=h
 refine (loadT_any w p a L S id h hid).mono fun e w' ⟨z,hw⟩=>⟨?_,hw⟩
 rw [z]
 unfold bW
 rw [fnd_ab]
 cases fnd L id <;> rfl
theorem swap_any (h:Bx C R w p a D S) (hid:U64 id) (old st now:Int) (I:U64 old) (G:U64 now):Calls Tryz.prog 83 #[ptr p,.int .u64 id,.int .u64 old,.int .i64 st,.int .u64 now] w fun e w'=>e=.returned (.tuple #[.int .u64 (bV D id old st),.bool (bK D id old st)])∧Bx C R w' p a (up D id (exS old st now)) S∧Fz C w w':=by
 obtain ⟨L,h,rfl⟩:=h
 cases hf:fnd L id with
 | none=>
  have z:fnd (ab L) id=none:=by rw [fnd_ab,hf]; rfl
  refine (swapT_miss w p a L S id h hid hf old st now).mono ?_
  rintro e w' ⟨rfl,rfl⟩
  refine ⟨by unfold bV bK; rw [z],⟨L,h,?_⟩,Fz.refl _ _⟩
  rw [up_none (fnd_no z)]
 | some x=>
  have z:fnd (ab L) id=some x.x:=by rw [fnd_ab,hf]; rfl
  refine (swapT_hit w p a L S id h hid hf old st now I G).mono ?_
  rintro e w' ⟨rfl,F,W⟩
  refine ⟨by unfold bV bK; rw [z],⟨_,F,?_⟩,W⟩
  unfold ab up
  rw [List.map_map,List.map_map]
  apply List.map_congr_left
  intro q J
  simp only [Function.comp]
  by_cases hi:q.1=id
  ·have:q.2=x:=h.ri.nd.uniq (k:=id) (by rw [← hi]; exact J) (fnd_some hf)
   rw [if_pos hi,if_pos hi,this]
   rfl
  ·rw [if_neg hi,if_neg hi]
theorem enter_any (h:Bx C R w p a D S) (hid:U64 id) (st now:Int) (J:U64 now) (I:D.length < 1000000):Calls Tryz.prog 73 #[ptr p,.int .u64 id,.int .i64 st,.int .u64 now] w fun e w'=>e=.returned (.int .i64 (eE D id st))∧Bx (ext w C) (cut w R) w' p a (if eE D id st=0 then ins D id ⟨Wd.wOf st 0,now,now,now⟩ else D) S∧Fz C w w':=by
 obtain ⟨L,h,rfl⟩:=h
 by_cases hr:id=0∨st < 0∨3 < st
 ·have z:eE (ab L) id st=2:=by unfold eE; rw [if_pos hr]
  rw [z,if_neg (by decide)]
  refine (enter_range w p id st now hr).mono ?_
  rintro e w' ⟨rfl,rfl⟩
  exact ⟨rfl,⟨L,h.extC,rfl⟩,Fz.refl _ _⟩
 ·cases hf:fnd L id with
  | none=>
   have F:fnd (ab L) id=none:=by rw [fnd_ab,hf]; rfl
   have z:eE (ab L) id st=0:=by unfold eE; rw [if_neg hr,F]; rfl
   rw [z,if_pos rfl]
   refine (enter_new w p a L S id h hid st now J hr hf (by simpa using I)).mono ?_
   rintro e w' ⟨rfl,⟨x,hx,G⟩,W⟩
   refine ⟨rfl,⟨_,G,?_⟩,W⟩
   rw [← hx]
   exact ins_map (L:=L) (g:=En.x)
  | some x=>
   have F:fnd (ab L) id=some x.x:=by rw [fnd_ab,hf]; rfl
   have z:eE (ab L) id st=10:=by unfold eE; rw [if_neg hr,F]; rfl
   rw [z,if_neg (by decide)]
   refine (enter_had w p a L S id h hid st now hr hf).mono ?_
   rintro e w' ⟨rfl,rfl⟩
   exact ⟨rfl,⟨L,h.extC,rfl⟩,Fz.refl _ _⟩
theorem publish_any (h:Bx C R w p a D S) (hid:U64 id) (G:S.length≤1000000):Calls Tryz.prog 135 #[ptr p,.int .u64 id] w fun e w'=>e=.returned (.int .i64 (kn D id))∧Bx (cut w C) (ext w R) w' p a D (if (fnd D id).isSome then Sn.sWith S id else S)∧Fz C w w':=by
 obtain ⟨L,h,rfl⟩:=h
 cases hf:fnd L id with
 | none=>
  have z:fnd (ab L) id=none:=by rw [fnd_ab,hf]; rfl
  refine (publish_miss w p a L S id h hid hf).mono ?_
  rintro e w' ⟨rfl,rfl⟩
  refine ⟨by unfold kn; rw [z]; rfl,⟨L,by rw [z]; exact h.cutC,rfl⟩,Fz.refl _ _⟩
 | some x=>
  have z:fnd (ab L) id=some x.x:=by rw [fnd_ab,hf]; rfl
  refine (publish_hit w p a L S id h hid hf G).mono ?_
  rintro e w' ⟨rfl,F,I⟩
  refine ⟨by unfold kn; rw [z]; rfl,⟨L,by rw [z]; exact F,rfl⟩,I⟩
theorem unlist_any (h:Bx C R w p a D S) (hid:U64 id) (G:S.length≤1000000):Calls Tryz.prog 235 #[ptr p,.int .u64 id] w fun e w'=>e=.returned (.int .i64 (kn D id))∧Bx (cut w C) (ext w R) w' p a D (if (fnd D id).isSome then Sn.sWithout S id else S)∧Fz C w w':=by
 obtain ⟨L,h,rfl⟩:=h
 cases hf:fnd L id with
 | none=>
  have z:fnd (ab L) id=none:=by rw [fnd_ab,hf]; rfl
  refine (unlist_miss w p a L S id h hid hf).mono ?_
  rintro e w' ⟨rfl,rfl⟩
  refine ⟨by unfold kn; rw [z]; rfl,⟨L,by rw [z]; exact h.cutC,rfl⟩,Fz.refl _ _⟩
 | some x=>
  have z:fnd (ab L) id=some x.x:=by rw [fnd_ab,hf]; rfl
  refine (unlist_hit w p a L S id h hid hf G).mono ?_
  rintro e w' ⟨rfl,F,I⟩
  refine ⟨by unfold kn; rw [z]; rfl,⟨L,by rw [z]; exact F,rfl⟩,I⟩
theorem bnew_any:Calls Tryz.prog 57 #[] w fun e w'=>e=.returned (ptr (w.heap.size+1))∧Bx (fresh w) (fun _=>False) w' (w.heap.size+1) w.heap.size [] [] ∧ Below w.heap.size w w':=
 (new_any w).mono fun e w' ⟨h,z,F⟩=>⟨h,⟨[],z,rfl⟩,F⟩
end
end Go.Proofs.YtoiklelghfckgaaGreatDoor.Ba
