/- A part of the claim: the texts Base6. -/
import Derived.Test.YtoiklelghfckgaaGreatDoorZBase1
import Derived.Test.YtoiklelghfckgaaGreatDoorZBase2
import Derived.Maps.RangeWalk
import Derived.Maps.Ext
import Derived.WalkKit
import Derived.ProofKit
set_option maxRecDepth 100000
set_option maxHeartbeats 8000000
set_option linter.unusedVariables false
namespace Go.Proofs.YtoiklelghfckgaaGreatDoor.Mt
open Go Go.ChangeMaps Go.Maps Go.MapKept Go.RowKit
structure Enc (β:Type) where
 val:β→Value
 dat:β→DataW Unit
 R:Value→Option (DataW Unit × List MemPlace)
 mk_:∀ x,R (val x)=some (dat x,[])
 inv:∀ v y,R v=some y → ∃ x,v=val x∧y=(dat x,[])
 inj:∀ x y,dat x=dat y→x=y
section lists
variable {β:Type}
def fnd (l:List (Int × β)) (k:Int):Option β:=(l.find? (fun a=>a.1 == k)).map Prod.snd
def wo (l:List (Int × β)) (k:Int):List (Int × β):=l.filter (fun a=>a.1 != k)
def Nd (l:List (Int × β)):Prop:=(l.map Prod.fst).Nodup
theorem mem_wo {l:List (Int × β)} {k:Int} {a:Int × β} : a∈wo l k↔a∈l∧a.1≠k:=by simp [wo]
theorem mem_key {l:List (Int × β)} {k:Int} : k∈l.map Prod.fst ↔ ∃ x,(k,x)∈l:=by
 constructor
 ·intro h
  obtain ⟨a,ha,rfl⟩:=List.mem_map.1 h
  exact ⟨a.2,ha⟩
 ·rintro ⟨x,hx⟩; exact List.mem_map.2 ⟨_,hx,rfl⟩
theorem wo_key {l:List (Int × β)} {k:Int} : k ∉ (wo l k).map Prod.fst:=by
 intro h
 obtain ⟨x,hx⟩:=mem_key.1 h
 exact (mem_wo.1 hx).2 rfl
theorem Nd.wo {l:List (Int × β)} (h:Nd l) (k:Int):Nd (wo l k):=by
 unfold Nd Mt.wo at *
 exact h.sublist (List.Sublist.map _ List.filter_sublist)
theorem Nd.cons {l:List (Int × β)} (h:Nd l) (k:Int) (x:β):Nd ((k,x) :: Mt.wo l k):=by
 have u:=h.wo k
 unfold Nd at *
 rw [List.map_cons,List.nodup_cons]
 exact ⟨wo_key,u⟩
theorem Nd.perm {l l':List (Int × β)} (h:Nd l) (u:l.Perm l'):Nd l':=by
 unfold Nd at *
 exact (u.map Prod.fst).nodup_iff.1 h
theorem Nd.uniq {l:List (Int × β)} (h:Nd l) {k:Int} {x y:β} (hx:(k,x)∈l) (I:(k,y)∈l):x=y:=by
 unfold Nd at h
 induction l with
 | nil=>cases hx
 | cons a r ih=>
  rw [List.map_cons,List.nodup_cons] at h
  rcases List.mem_cons.1 hx with z | F <;> rcases List.mem_cons.1 I with u | G
  ·rw [← z] at u; injection u with _ u; exact u.symm
  ·exact absurd (mem_key.2 ⟨_,G⟩) (by rw [← z] at h; exact h.1)
  ·exact absurd (mem_key.2 ⟨_,F⟩) (by rw [← u] at h; exact h.1)
  ·exact ih h.2 F G
theorem fnd_mem {l:List (Int × β)} (h:Nd l) {k:Int} {x:β} (z:(k,x)∈l):fnd l k=some x:=by
 unfold fnd
 cases hf:l.find? (fun a=>a.1 == k) with
 | none=>exact absurd (List.find?_eq_none.1 hf _ z) (by simp)
 | some a=>
  have F:=List.mem_of_find?_eq_some hf
  have u:=List.find?_some hf
  simp at u
  subst u
  simp only [Option.map_some]
  rw [h.uniq (k:=a.1) (x:=a.2) F z]
theorem fnd_none {l:List (Int × β)} {k:Int} (z:k ∉ l.map Prod.fst):fnd l k=none:=by
 unfold fnd
 cases hf:l.find? (fun a=>a.1 == k) with
 | none=>rfl
 | some a=>
  have u:=List.mem_of_find?_eq_some hf
  have h:=List.find?_some hf
  simp at h
  exact absurd (List.mem_map.2 ⟨a,u,h⟩) z
theorem fnd_some {l:List (Int × β)} {k:Int} {x:β} (h:fnd l k=some x):(k,x)∈l:=by
 unfold fnd at h
 cases hf:l.find? (fun a=>a.1 == k) with
 | none=>rw [hf] at h; cases h
 | some a=>
  rw [hf] at h
  injection h with h
  have u:=List.find?_some hf
  simp at u
  subst h u
  exact List.mem_of_find?_eq_some hf
theorem fnd_is {l:List (Int × β)} {k:Int} : (fnd l k).isSome=decide (k∈l.map Prod.fst):=by
 by_cases h:k∈l.map Prod.fst
 ·rw [decide_eq_true h]
  cases hf:fnd l k with
  | none=>
   exfalso
   unfold fnd at hf
   cases hg:l.find? (fun a=>a.1 == k) with
   | none=>
    obtain ⟨x,hx⟩:=mem_key.1 h
    exact absurd (List.find?_eq_none.1 hg _ hx) (by simp)
   | some a=>rw [hg] at hf; cases hf
  | some x=>rfl
 ·rw [fnd_none h,decide_eq_false h]; rfl
theorem fnd_no {l:List (Int × β)} {k:Int} (h:fnd l k=none):k ∉ l.map Prod.fst:=by
 have:=fnd_is (l:=l) (k:=k)
 rw [h] at this
 simpa using this.symm
theorem wo_none {l:List (Int × β)} {k:Int} (h:k ∉ l.map Prod.fst):wo l k=l:=by
 unfold wo
 rw [List.filter_eq_self]
 intro a ha
 simp
 intro e
 exact h (List.mem_map.2 ⟨a,ha,e⟩)
theorem wo_len {l:List (Int × β)} (h:Nd l) {k:Int} (hk:k∈l.map Prod.fst):(wo l k).length+1=l.length:=by
 unfold Nd at h
 induction l with
 | nil=>cases hk
 | cons a r ih=>
  rw [List.map_cons,List.nodup_cons] at h
  by_cases e:a.1=k
  ·have u:k ∉ r.map Prod.fst:=e ▸ h.1
   have:wo (a :: r) k=wo r k:=by unfold wo; rw [List.filter_cons_of_neg (by simp [e])]
   rw [this,wo_none u]; rfl
  ·have u:k∈r.map Prod.fst:=by
    rcases List.mem_cons.1 hk with z | z
    ·exact absurd z.symm e
    ·exact z
   have:wo (a :: r) k=a :: wo r k:=by unfold wo; rw [List.filter_cons_of_pos (by simp [e])]
   rw [this,List.length_cons,List.length_cons,ih h.2 u]
theorem wo_le (l:List (Int × β)) (k:Int):(wo l k).length≤l.length:=List.length_filter_le _ _
theorem perm_wo {l:List (Int × β)} (h:Nd l) {k:Int} {x:β} (F:(k,x)∈l):l.Perm ((k,x) :: wo l k):=by
 unfold Nd at h
 induction l with
 | nil=>cases F
 | cons a r ih=>
  rw [List.map_cons,List.nodup_cons] at h
  by_cases e:a.1=k
  ·have z:k ∉ r.map Prod.fst:=e ▸ h.1
   have ha:a=(k,x):=by
    rcases List.mem_cons.1 F with u | u
    ·exact u.symm
    ·exact absurd (mem_key.2 ⟨_,u⟩) z
   have:wo (a :: r) k=r:=by
    have:wo (a :: r) k=wo r k:=by unfold wo; rw [List.filter_cons_of_neg (by simp [e])]
    rw [this,wo_none z]
   rw [this,ha]
  ·have z:(k,x)∈r:=by
    rcases List.mem_cons.1 F with u | u
    ·exact absurd (by rw [← u]) e
    ·exact u
   have:wo (a :: r) k=a :: wo r k:=by unfold wo; rw [List.filter_cons_of_pos (by simp [e])]
   rw [this]
   exact ((ih h.2 z).cons a).trans (List.Perm.swap _ _ _)
end lists
section
variable {β:Type}
structure Tel (E:Enc β) (D:DataW Unit) (l:List (Int × β)):Prop where
 hit:∀ k x,(k,x)∈l → ∀ z,D.atKey (.int .u64 k) z=E.dat x
 has:∀ k,Maps.has D (.int .u64 k)=decide (k∈l.map Prod.fst)
 size:Maps.size D=l.length
theorem lit_ne {k u:Int} (h:u≠k):Lit.int .u64 u≠Lit.int .u64 k:=fun e=>h (by injection e)
variable {E:Enc β} {D:DataW Unit} {l:List (Int × β)}
theorem Tel.nil:Tel E (.map []) []:=⟨fun _ _ h=>(by cases h),fun _=>rfl,rfl⟩
theorem Tel.perm (h:Tel E D l) {l':List (Int × β)} (u:l.Perm l'):Tel E D l':=
 ⟨fun k x z=>h.hit k x (u.mem_iff.2 z),fun k=>by rw [h.has]; congr 1; exact propext (u.map Prod.fst).mem_iff,by rw [h.size,u.length_eq]⟩
theorem Tel.at_ (h:Tel E D l) (hn:Nd l) (k:Int) (z:DataW Unit):D.atKey (.int .u64 k) z=((fnd l k).map E.dat).getD z:=by
 cases hf:fnd l k with
 | none=>exact Maps.atKey_of_not_has (by rw [h.has]; simpa using fnd_no hf) z
 | some x=>exact h.hit k x (fnd_some hf) z
theorem Tel.put (h:Tel E D l) (hn:Nd l) (G:Maps.Tidy D) (k:Int) (x:β):Tel E (D.put (.int .u64 k) (E.dat x)) ((k,x) :: wo l k):=by
 refine ⟨fun J F u z=>?_,fun J=>?_,?_⟩
 ·rcases List.mem_cons.1 u with e | u
  ·injection e with e1 e2
   subst e1 e2
   exact Maps.atKey_put_same (k:=.int .u64 _) G.isMap trivial _ _
  ·obtain ⟨u,W⟩:=mem_wo.1 u
   rw [Maps.atKey_put_other (lit_ne W)]
   exact h.hit J F u z
 ·by_cases e:J=k
  ·subst e
   rw [Maps.has_put_same (k:=.int .u64 _) G.isMap trivial]
   simp
  ·rw [Maps.has_put_other (lit_ne e),h.has]
   congr 1
   rw [List.map_cons,List.mem_cons,mem_key,mem_key,eq_iff_iff]
   constructor
   ·rintro ⟨F,I⟩; exact .inr ⟨F,mem_wo.2 ⟨I,e⟩⟩
   ·rintro (h1 | ⟨F,I⟩)
    ·exact absurd h1 e
    ·exact ⟨F,(mem_wo.1 I).1⟩
 ·rw [Maps.size_put G,h.has,h.size]
  by_cases hk:k∈l.map Prod.fst
  ·rw [decide_eq_true hk,List.length_cons,wo_len hn hk]; simp
  ·rw [decide_eq_false hk,List.length_cons,wo_none hk]; simp
theorem Tel.del (h:Tel E D l) (hn:Nd l) (W:Maps.Tidy D) (k:Int):Tel E (D.del (.int .u64 k)) (wo l k):=by
 refine ⟨fun J u G z=>?_,fun J=>?_,?_⟩
 ·obtain ⟨G,Y⟩:=mem_wo.1 G
  rw [Maps.atKey_del_other (lit_ne Y)]
  exact h.hit J u G z
 ·by_cases e:J=k
  ·subst e
   rw [Maps.has_del_same,decide_eq_false wo_key]
  ·rw [Maps.has_del_other (lit_ne e),h.has]
   congr 1
   rw [mem_key,mem_key,eq_iff_iff]
   constructor
   ·rintro ⟨u,I⟩; exact ⟨u,mem_wo.2 ⟨I,e⟩⟩
   ·rintro ⟨u,I⟩; exact ⟨u,(mem_wo.1 I).1⟩
 ·have F:=Maps.size_del (k:=.int .u64 k) W
  rw [h.has,h.size] at F
  by_cases hk:k∈l.map Prod.fst
  ·have:=wo_len hn hk
   simp [hk] at F
   omega
  ·rw [wo_none hk]
   simp [hk] at F
   exact F
structure Mo (P:Program) (k:TypeId) (E:Enc β) (w:World) (m:Nat) (l:List (Int × β)):Prop where
 own:∃ D,w.ownsMap P k E.R m l.length D∧Tel E D l
 nd:Nd l
theorem own_tight {P:Program} {k:TypeId} {R:Value→Option (DataW Unit × List MemPlace)} {w:World} {b n:Nat} (h:w.ownsMap P k R b n D):w.ownsMap P k R b (Maps.size D) D:=by
 obtain ⟨es,z,G,F,I,u⟩:=h
 refine ⟨es,z,G,F,?_,u⟩
 rw [u]
 show es.size≤(List.foldr DataW.insert [] _).length
 rw [length_sorted]
 simp
variable {P:Program} {k:TypeId} {w w':World} {m:Nat}
theorem Mo.of {n:Nat} (h:w.ownsMap P k E.R m n D) (u:Tel E D l) (hn:Nd l):Mo P k E w m l:=⟨⟨D,u.size ▸ own_tight h,u⟩,hn⟩
theorem Mo.perm (h:Mo P k E w m l) {l':List (Int × β)} (u:l.Perm l'):Mo P k E w m l':=by
 obtain ⟨⟨D,z,F⟩,hn⟩:=h
 exact Mo.of z (F.perm u) (hn.perm u)
theorem Mo.made (w:World) (P:Program) (k:TypeId) (E:Enc β):Mo P k E (w.alloc (.map #[] 0)) w.heap.size []:=⟨⟨_,World.ownsMap_made w P k E.R,Tel.nil⟩,List.nodup_nil⟩
theorem Mo.kept (h:Mo P k E w m l) {row:Option Nat} (F:w.grownBy w' row) (G:some m≠row):Mo P k E w' m l:=by
 obtain ⟨⟨D,u,z⟩,hn⟩:=h
 exact ⟨⟨D,u.kept F G,z⟩,hn⟩
theorem Mo.lt (h:Mo P k E w m l):m < w.heap.size:=by
 obtain ⟨⟨D,u,z⟩,hn⟩:=h
 exact u.lt
theorem Mo.block (h:Mo P k E w m l) (I:w'.heap[m]? = w.heap[m]?):Mo P k E w' m l:=by
 obtain ⟨⟨D,⟨es,u,z,F⟩,G⟩,hn⟩:=h
 exact ⟨⟨D,⟨es,u,I.trans z,F⟩,G⟩,hn⟩
theorem Mo.alloc (h:Mo P k E w m l) (o:Obj):Mo P k E (w.alloc o) m l:=h.kept (World.grownBy_alloc w o none) (by simp)
theorem Mo.below (h:Mo P k E w m l) {B:Nat} (u:Below B w w') (z:m < B):Mo P k E w' m l:=h.block (u.block m z)
theorem Mo.later (h:Mo P k E w m l) (u:Below w.heap.size w w'):Mo P k E w' m l:=h.below u h.lt
theorem Mo.no_cell (h:Mo P k E w m l) (o:Nat) (v:Value):w.cell? ⟨m,o,none⟩≠some v:=by
 obtain ⟨⟨D,⟨es,z,u,F⟩,G⟩,hn⟩:=h
 intro hc
 simp [World.cell?,u] at hc
theorem Mo.setCell (h:Mo P k E w m l) {a:Addr} (ha:m≠a.block) (u:Value):Mo P k E (w.setCell a u) m l:=by
 obtain ⟨⟨D,z,F⟩,hn⟩:=h
 exact ⟨⟨D,z.setCell ha u,F⟩,hn⟩
end
section ops
variable {β:Type} {E:Enc β} {P:Program} {k e t:TypeId} (w:World) {ops:Array Oper} {rest:List Oper} {o:Oper} {a:Act} {Q:Exit→Act→World→Prop}
theorem wf_u64' {x:Int} (h:0≤x∧x≤18446744073709551615):(Lit.int .u64 x).wf=true:=by
 simp [Lit.wf,IntKind.min,IntKind.max,IntKind.signed,IntKind.bits]
 omega
theorem run_look2 (hk:P.underlying k=some (.int .u64)) (G:P.underlying t=some (.map k e)) (z0:β) (W:(zeroValue e).run P w=.ok (E.val z0) w) {b:Nat} {l:List (Int × β)} (h:Mo P k E w b l) {y:Int} (J:0≤y∧y≤18446744073709551615) :
  (Instr.lookup t (.map (some b)) (.int .u64 y) true).run P w=.ok (.tuple #[E.val ((fnd l y).getD z0),.bool (fnd l y).isSome]) w:=by
 obtain ⟨⟨D,z,u⟩,hn⟩:=h
 obtain ⟨v,ps,F,hv⟩:=z.look_ok (int_keyed hk) G W (E.mk_ z0) (keyOf_int_mk hk (wf_u64' J))
 obtain ⟨x,rfl,hx⟩:=E.inv v _ hv
 injection hx with hx _
 have I:x=(fnd l y).getD z0:=by
  rw [u.at_ hn] at hx
  cases hf:fnd l y with
  | none=>rw [hf] at hx; exact (E.inj _ _ hx).symm
  | some q=>rw [hf] at hx; exact (E.inj _ _ hx).symm
 rw [F,I,u.has,← fnd_is]
theorem run_look1 (hk:P.underlying k=some (.int .u64)) (G:P.underlying t=some (.map k e)) (z0:β) (W:(zeroValue e).run P w=.ok (E.val z0) w) {b:Nat} {l:List (Int × β)} (h:Mo P k E w b l) {y:Int} (J:0≤y∧y≤18446744073709551615) :
  (Instr.lookup t (.map (some b)) (.int .u64 y) false).run P w=.ok (E.val ((fnd l y).getD z0)) w:=by
 obtain ⟨⟨D,z,u⟩,hn⟩:=h
 obtain ⟨v,ps,F,hv⟩:=z.lookup (int_keyed hk) G W (E.mk_ z0) (keyOf_int_mk hk (wf_u64' J))
 obtain ⟨x,rfl,hx⟩:=E.inv v _ hv
 injection hx with hx _
 have I:x=(fnd l y).getD z0:=by
  rw [u.at_ hn] at hx
  cases hf:fnd l y with
  | none=>rw [hf] at hx; exact (E.inj _ _ hx).symm
  | some q=>rw [hf] at hx; exact (E.inj _ _ hx).symm
 rw [F,I]
theorem run_len (F:P.underlying t=some (.map k e)) {b:Nat} {l:List (Int × β)} (h:Mo P k E w b l) (G:TypeId):(Builtin.len_ #[t] G #[.map (some b)]).run P w=.ok (.int .i64 l.length) w:=by
 obtain ⟨⟨D,z,u⟩,hn⟩:=h
 rw [z.len F,u.size]
theorem run_put (hk:P.underlying k=some (.int .u64)) (J:P.underlying t=some (.map k e)) {b:Nat} {l:List (Int × β)} (h:Mo P k E w b l) (Y:l.length < 4611686018427387904) {y:Int} (W:0≤y∧y≤18446744073709551615) (x:β) :
  ∃ w',(Instr.mapUpdate t (.map (some b)) (.int .u64 y) (E.val x)).run P w=.ok () w'∧Mo P k E w' b ((y,x) :: wo l y)∧w.grownBy w' (some b):=by
 obtain ⟨⟨D,u,G⟩,hn⟩:=h
 obtain ⟨w',I,z,F⟩:=u.update (int_keyed hk) J (by unfold maxLen; omega) (keyOf_int_mk hk (wf_u64' W)) (E.mk_ x)
 exact ⟨w',I,Mo.of z (G.put hn (u.tidy (int_keyed hk)) y x) (hn.cons y x),F⟩
theorem run_del (hk:P.underlying k=some (.int .u64)) (W:P.underlying t=some (.map k e)) {b:Nat} {l:List (Int × β)} (h:Mo P k E w b l) {y:Int} (Y:0≤y∧y≤18446744073709551615) (z:TypeId) :
  ∃ w',(Builtin.delete_ #[t,k] z #[.map (some b),.int .u64 y]).run P w=.ok (.tuple #[]) w'∧Mo P k E w' b (wo l y)∧w.grownBy w' (some b):=by
 obtain ⟨⟨D,u,I⟩,hn⟩:=h
 obtain ⟨w',J,F,G⟩:=u.drop (int_keyed hk) W (keyOf_int_mk hk (wf_u64' Y)) z
 exact ⟨w',J,Mo.of F (I.del hn (u.tidy (int_keyed hk)) y) (hn.wo y),G.grown⟩
theorem look2 (F:o.guard=none) (m x:Operand) (t:TypeId) (I:o.op=Op.lookup t m x true) (k e:TypeId) (hk:P.underlying k=some (.int .u64)) (J:P.underlying t=some (.map k e)) (z0:β) (Y:(zeroValue e).run P w=.ok (E.val z0) w) (b:Nat) (l:List (Int × β))
  (G:a.eval m=.map (some b)) (h:Mo P k E w b l) (y:Int) (W:0≤y∧y≤18446744073709551615) (hx:a.eval x=.int .u64 y)
  (u:wpList P ops Q rest (a.put o.dst (.tuple #[E.val ((fnd l y).getD z0),.bool (fnd l y).isSome])) w):wpList P ops Q (o :: rest) a w:=by
 refine wpList_plain F fun K' z=>?_
 unfold Oper.wp
 simp [execOp,I,G,hx,run_look2 w hk J z0 Y h W,Result.andThen]
 exact z _ _ u
theorem look1 (F:o.guard=none) (m x:Operand) (t:TypeId) (I:o.op=Op.lookup t m x false) (k e:TypeId) (hk:P.underlying k=some (.int .u64)) (J:P.underlying t=some (.map k e)) (z0:β) (Y:(zeroValue e).run P w=.ok (E.val z0) w) (b:Nat) (l:List (Int × β))
  (G:a.eval m=.map (some b)) (h:Mo P k E w b l) (y:Int) (W:0≤y∧y≤18446744073709551615) (hx:a.eval x=.int .u64 y)
  (u:wpList P ops Q rest (a.put o.dst (E.val ((fnd l y).getD z0))) w):wpList P ops Q (o :: rest) a w:=by
 refine wpList_plain F fun K' z=>?_
 unfold Oper.wp
 simp [execOp,I,G,hx,run_look1 w hk J z0 Y h W,Result.andThen]
 exact z _ _ u
theorem put1 (G:o.guard=none) (m x v:Operand) (t:TypeId) (W:o.op=Op.mapUpdate t m x v) (k e:TypeId) (hk:P.underlying k=some (.int .u64)) (ht:P.underlying t=some (.map k e)) (b:Nat) (l:List (Int × β))
  (J:a.eval m=.map (some b)) (h:Mo P k E w b l) (I:l.length < 4611686018427387904) (y:Int) (hy:0≤y∧y≤18446744073709551615) (hx:a.eval x=.int .u64 y) (u:β) (hv:a.eval v=E.val u)
  (z:∀ w',Mo P k E w' b ((y,u) :: wo l y)→w.grownBy w' (some b)→wpList P ops Q rest (a.put o.dst undef) w'):wpList P ops Q (o :: rest) a w:=by
 refine wpList_plain G fun K' F=>?_
 obtain ⟨w',Y,r1,r2⟩:=run_put w hk ht h I hy u
 unfold Oper.wp
 simp [execOp,W,J,hx,hv,Y,Result.andThen]
 exact F _ _ (z w' r1 r2)
theorem del1 (F:o.guard=none) (m x:Operand) (t k:TypeId) (I:o.op=Op.call { callee:=Callee.builtin Builtin.delete,args:=#[m,x],argTypes:=#[t,k] }) (e:TypeId) (hk:P.underlying k=some (.int .u64)) (W:P.underlying t=some (.map k e)) (b:Nat) (l:List (Int × β))
  (G:a.eval m=.map (some b)) (h:Mo P k E w b l) (y:Int) (Y:0≤y∧y≤18446744073709551615) (hx:a.eval x=.int .u64 y)
  (u:∀ w',Mo P k E w' b (wo l y)→w.grownBy w' (some b)→wpList P ops Q rest (a.put o.dst (.tuple #[])) w'):wpList P ops Q (o :: rest) a w:=by
 refine wpList_plain F fun K' z=>?_
 obtain ⟨w',J,r1,r2⟩:=run_del w hk W h Y o.type
 unfold Oper.wp
 simp [execOp,I,resolve,invoke,builtin,G,hx,J,Result.andThen]
 exact z _ _ (u w' r1 r2)
structure Rg (P:Program) (k:TypeId) (E:Enc β) (w:World) (b r:Nat) (l left:List (Int × β)):Prop where
 rg:∃ D lf cnt,w.ranges P k E.R b r l.length D lf cnt∧Tel E D l ∧ ∀ y,lf (.int .u64 y)=decide (y∈left.map Prod.fst)
 sub:∀ z∈left,z∈l
 nd:Nd l
 ndl:Nd left
theorem Rg.mo {w:World} {b r:Nat} {l left:List (Int × β)} (h:Rg P k E w b r l left):Mo P k E w b l:=by
 obtain ⟨D,F,cnt,u,z,_⟩:=h.rg
 exact ⟨⟨D,u.owns,z⟩,h.nd⟩
theorem Rg.kept {w w':World} {b r:Nat} {l left:List (Int × β)} {row:Option Nat} (h:Rg P k E w b r l left) (I:w.grownBy w' row) (G:some b≠row) (J:some r≠row):Rg P k E w' b r l left:=by
 obtain ⟨D,W,cnt,u,z,F⟩:=h.rg
 exact ⟨⟨D,W,cnt,u.kept I G J,z,F⟩,h.sub,h.nd,h.ndl⟩
theorem Rg.alloc {w:World} {b r:Nat} {l left:List (Int × β)} (h:Rg P k E w b r l left) (o:Obj):Rg P k E (w.alloc o) b r l left:=h.kept (World.grownBy_alloc w o none) (by simp) (by simp)
theorem Rg.left_kept {w w':World} {b r:Nat} {l left:List (Int × β)} {row:Option Nat} (h:Rg P k E w b r l left) (F:w.grownBy w' row) (z:some b≠row) (G:some r≠row):w'.rangeLeft b r=w.rangeLeft b r:=by
 obtain ⟨D,W,cnt,u,I,J⟩:=h.rg
 rw [(u.kept F z G).left_eq,u.left_eq]
theorem Rg.lt {w:World} {b r:Nat} {l left:List (Int × β)} (h:Rg P k E w b r l left):r < w.heap.size∧b < w.heap.size∧r≠b:=by
 obtain ⟨D,G,cnt,u,z,F⟩:=h.rg
 exact ⟨u.lt,u.owns.lt,u.ne⟩
theorem range1 (J:o.guard=none) (m:Operand) (t:TypeId) (a0:o.op=Op.range t m) (k e:TypeId) (hk:P.underlying k=some (.int .u64)) (ht:P.underlying t=some (.map k e)) (b:Nat) (l:List (Int × β)) (W:a.eval m=.map (some b)) (h:Mo P k E w b l)
  (I:∀ w',Rg P k E w' b w.heap.size l l→w.grownBy w' none→w'.heap.size=w.heap.size+1→wpList P ops Q rest (a.put o.dst (.pointer (some ⟨w.heap.size,0,none⟩))) w'):wpList P ops Q (o :: rest) a w:=by
 obtain ⟨⟨D,Y,u⟩,hn⟩:=h
 exact wpList_range_own w J m t a0 k e (int_keyed hk) ht E.R b l.length D W Y fun w' z F G=>I w' ⟨⟨D,_,_,z,u,u.has⟩,fun _ h=>h,hn,hn⟩ F G
theorem next1 (hg:o.guard=none) (it:Operand) (ad:o.op=Op.next it false) (k:TypeId) (hk:P.underlying k=some (.int .u64)) (b r:Nat) (l left:List (Int × β)) (hit:a.eval it=.pointer (some ⟨r,0,none⟩)) (h:Rg P k E w b r l left)
  (a5:left=[] → wpList P ops Q rest (a.put o.dst (.tuple #[.bool false])) w)
  (a6:∀ y x w',(y,x)∈left→0≤y∧y≤18446744073709551615→Rg P k E w' b r l (wo left y)→w'.rangeLeft b r < w.rangeLeft b r→w.grownBy w' (some r)→w'.heap.size=w.heap.size →
   (Instr.entry (.pointer (some ⟨r,0,none⟩))).run P w'=.ok (.tuple #[.int .u64 y,E.val x]) w'→wpList P ops Q rest (a.put o.dst (.tuple #[.bool true,.int .u64 y,E.val x])) w'):wpList P ops Q (o :: rest) a w:=by
 obtain ⟨⟨D,lf,cnt,a1,hT,G⟩,a3,hn,ac⟩:=h
 refine wpList_next_ranges w hg it ad k (int_keyed hk) E.R (Value.int .u64) E.val (fun key kl F=>by obtain ⟨x,rfl,_⟩:=Maps.keyOf_int_inv hk F; exact ⟨x,rfl⟩) (fun v y hv=>by obtain ⟨c,rfl,_⟩:=E.inv v y hv; exact ⟨c,rfl⟩)
  b r l.length D lf cnt hit a1 (fun _ hl=>a5 ?_) (fun y x kl z w' ah F a0 hv a7 a2 aa a9 ae a8=>?_)
 ·cases left with
  | nil=>rfl
  | cons a r=>have:=G a.1; rw [hl] at this; simp at this
 ·obtain ⟨y',u,rfl,af⟩:=Maps.keyOf_int_inv hk F
  injection u with _ u
  subst u
  rw [G,decide_eq_true_eq] at a0
  obtain ⟨W,a4⟩:=mem_key.1 a0
  rw [E.mk_ x] at hv
  injection hv with hv
  have ag:W=x:=by
   have Y:=hT.hit y W (a3 _ a4) (.map [])
   rw [a7,← hv] at Y
   exact (E.inj _ _ Y).symm
  subst ag
  have hy:0≤y∧y≤18446744073709551615:=by
   simp [Lit.wf,IntKind.min,IntKind.max,IntKind.signed,IntKind.bits] at af
   omega
  refine a6 y W w' a4 hy ⟨⟨D,_,_,a2,hT,fun q=>?_⟩,fun z hz=>a3 z (mem_wo.1 hz).1,hn,ac.wo y⟩ ?_ a9 ae a8
  ·have e1:(Lit.int .u64 q).sameKey (.int .u64 y)=decide (q=y):=by simp [Lit.sameKey]
   rw [G,e1]
   by_cases hq:q=y
   ·subst hq
    rw [decide_eq_false (wo_key (l:=left))]
    simp
   ·rw [decide_eq_false hq]
    simp only [Bool.not_false,Bool.and_true]
    congr 1
    rw [mem_key,mem_key,eq_iff_iff]
    exact ⟨fun ⟨J,I⟩=>⟨J,mem_wo.2 ⟨I,hq⟩⟩,fun ⟨J,I⟩=>⟨J,(mem_wo.1 I).1⟩⟩
  ·rw [a2.left_eq,a1.left_eq]; exact aa
end ops
end Go.Proofs.YtoiklelghfckgaaGreatDoor.Mt
namespace Go.Proofs.YtoiklelghfckgaaGreatDoor.Le
open Go.ChangeShapes Go.WideShapes Go.ChangeAt Go.RowKit Go.Maps Rw Hi Mt
structure Ls where
 thread:Int
 since:Int
 flag:Bool
deriving DecidableEq
abbrev Z0:Ls:=⟨0,0,false⟩
abbrev eL:Enc Ls where
 val x:=.agg #[.int .i64 x.thread,.int .u64 x.since,.bool x.flag]
 dat x:=.agg [.lit (.int .i64 x.thread),.lit (.int .u64 x.since),.lit (.bool x.flag)]
 R v:=match v with
  | .agg ⟨[.int .i64 t,.int .u64 s,.bool f]⟩=>some (.agg [.lit (.int .i64 t),.lit (.int .u64 s),.lit (.bool f)],[])
  | _=>none
 mk_ x:=rfl
 inv v y h:=by
  split at h
  ·rename_i t s f
   injection h with h
   exact ⟨⟨t,s,f⟩,rfl,h.symm⟩
  ·cases h
 inj x y h:=by
  injection h with h
  injection h with h1 h
  injection h with h2 h
  injection h with h3 h
  injection h1 with h1; injection h1 with _ h1
  injection h2 with h2; injection h2 with _ h2
  injection h3 with h3; injection h3 with h3
  cases x; cases y; simp_all
abbrev eB:Enc Bool where
 val:=.bool
 dat b:=.lit (.bool b)
 R v:=match v with
  | .bool b=>some (.lit (.bool b),[])
  | _=>none
 mk_ x:=rfl
 inv v y h:=by
  split at h
  ·rename_i b
   injection h with h
   exact ⟨b,rfl,h.symm⟩
  ·cases h
 inj x y h:=by injection h with h; injection h
abbrev ML (w:World) (a:Nat) (L:List (Int × Ls)):Prop:=Mo Tryz.prog 25 eL w a L
abbrev MB (w:World) (a:Nat) (M:List (Int × Bool)):Prop:=Mo Tryz.prog 25 eB w a M
theorem zeroL (w:World):(zeroValue 121).run Tryz.prog w=.ok (eL.val Z0) w:=by kernel_rfl
theorem zeroB (w:World):(zeroValue 4).run Tryz.prog w=.ok (eB.val false) w:=by kernel_rfl
structure At where
 p:Nat
 a:Nat
 b:Nat
 q:Nat
 m:Nat
structure Bk (w:World) (x:At) (leak:Int) (L:List (Int × Ls)) (M:List (Int × Bool)) (T:List (Int × Int)):Prop where
 c0:w.cell? ⟨x.p,0,none⟩=some (.int .u64 leak)
 c1:w.cell? ⟨x.p,1,none⟩=some (.map (some x.a))
 c2:w.cell? ⟨x.p,2,none⟩=some (.map (some x.b))
 c3:w.cell? ⟨x.p,3,none⟩=some (.pointer (some ⟨x.q,0,none⟩))
 leases:ML w x.a L
 marks:MB w x.b M
 wheel:Wl.Wh w x.q x.m T
 ab:x.a≠x.b
 am:x.a≠x.m
 bm:x.b≠x.m
abbrev ptr (p:Nat):Value:=.pointer (some ⟨p,0,none⟩)
section
variable {w w':World} {x:At} {leak:Int} {L:List (Int × Ls)} {M:List (Int × Bool)} {T:List (Int × Int)}
theorem Bk.lt (h:Bk w x leak L M T):x.p < w.heap.size∧x.a < w.heap.size∧x.b < w.heap.size∧x.q < w.heap.size∧x.m < w.heap.size:=
 ⟨Lw.lt_heap h.c0,h.leases.lt,h.marks.lt,h.wheel.lt.1,h.wheel.lt.2⟩
theorem Bk.pa (h:Bk w x leak L M T):x.p≠x.a:=fun e=>h.leases.no_cell 0 _ (e ▸ h.c0)
theorem Bk.pb (h:Bk w x leak L M T):x.p≠x.b:=fun e=>h.marks.no_cell 0 _ (e ▸ h.c0)
theorem wh_no_cell {q m:Nat} (h:Wl.Wh w q m T) (o:Nat) (v:Value):w.cell? ⟨m,o,none⟩≠some v:=by
 obtain ⟨D,⟨es,z,u,F⟩,G⟩:=h.own
 intro hc
 simp [World.cell?,u] at hc
theorem Bk.pm (h:Bk w x leak L M T):x.p≠x.m:=fun e=>wh_no_cell h.wheel 0 _ (e ▸ h.c0)
theorem Bk.qa (h:Bk w x leak L M T):x.q≠x.a:=fun e=>h.leases.no_cell 0 _ (e ▸ h.wheel.cell)
theorem Bk.qb (h:Bk w x leak L M T):x.q≠x.b:=fun e=>h.marks.no_cell 0 _ (e ▸ h.wheel.cell)
theorem Bk.same (h:Bk w x leak L M T) (u:w'.heap[x.p]? = w.heap[x.p]?) (ha:w'.heap[x.a]? = w.heap[x.a]?) (z:w'.heap[x.b]? = w.heap[x.b]?) (G:w'.heap[x.q]? = w.heap[x.q]?) (F:w'.heap[x.m]? = w.heap[x.m]?):Bk w' x leak L M T:=
 ⟨(World.cell?_of_block u).trans h.c0,(World.cell?_of_block u).trans h.c1,(World.cell?_of_block u).trans h.c2,(World.cell?_of_block u).trans h.c3,h.leases.block ha,h.marks.block z,⟨(World.cell?_of_block G).trans h.wheel.cell,h.wheel.own.block F,h.wheel.tms⟩,h.ab,h.am,h.bm⟩
theorem Bk.later (h:Bk w x leak L M T) (u:Below w.heap.size w w'):Bk w' x leak L M T:=by
 obtain ⟨z,F,G,I,J⟩:=h.lt
 exact h.same (u.block _ z) (u.block _ F) (u.block _ G) (u.block _ I) (u.block _ J)
theorem Bk.turnL (h:Bk w x leak L M T) {z:List (Int × Ls)} (Y:w.grownBy w' (some x.a)) (W:ML w' x.a z):Bk w' x leak z M T:=by
 obtain ⟨F,h2,G,I,J⟩:=h.lt
 have k:∀ g,g < w.heap.size→g≠x.a→w'.heap[g]? = w.heap[g]?:=fun g a0 a1=>Y.block g a0 (fun e=>a1 (by injection e))
 have u:=k _ F h.pa
 have hq:=k _ I h.qa
 exact ⟨(World.cell?_of_block u).trans h.c0,(World.cell?_of_block u).trans h.c1,(World.cell?_of_block u).trans h.c2,(World.cell?_of_block u).trans h.c3,W,h.marks.block (k _ G h.ab.symm),⟨(World.cell?_of_block hq).trans h.wheel.cell,h.wheel.own.block (k _ J h.am.symm),h.wheel.tms⟩,h.ab,h.am,h.bm⟩
theorem Bk.turnM (h:Bk w x leak L M T) {z:List (Int × Bool)} (Y:w.grownBy w' (some x.b)) (W:MB w' x.b z):Bk w' x leak L z T:=by
 obtain ⟨F,G,h3,I,J⟩:=h.lt
 have k:∀ g,g < w.heap.size→g≠x.b→w'.heap[g]? = w.heap[g]?:=fun g a0 a1=>Y.block g a0 (fun e=>a1 (by injection e))
 have u:=k _ F h.pb
 have hq:=k _ I h.qb
 exact ⟨(World.cell?_of_block u).trans h.c0,(World.cell?_of_block u).trans h.c1,(World.cell?_of_block u).trans h.c2,(World.cell?_of_block u).trans h.c3,h.leases.block (k _ G h.ab),W,⟨(World.cell?_of_block hq).trans h.wheel.cell,h.wheel.own.block (k _ J h.bm.symm),h.wheel.tms⟩,h.ab,h.am,h.bm⟩
theorem Bk.turnT (h:Bk w x leak L M T) {z:List (Int × Int)} (W:w.grownBy w' (some x.m)) (J:Wl.Wh w' x.q x.m z):Bk w' x leak L M z:=by
 obtain ⟨F,G,I,h4,h5⟩:=h.lt
 have k:∀ g,g < w.heap.size→g≠x.m→w'.heap[g]? = w.heap[g]?:=fun g Y a0=>W.block g Y (fun e=>a0 (by injection e))
 have u:=k _ F h.pm
 exact ⟨(World.cell?_of_block u).trans h.c0,(World.cell?_of_block u).trans h.c1,(World.cell?_of_block u).trans h.c2,(World.cell?_of_block u).trans h.c3,h.leases.block (k _ G h.am),h.marks.block (k _ I h.bm),J,h.ab,h.am,h.bm⟩
theorem Bk.permL (h:Bk w x leak L M T) {u:List (Int × Ls)} (z:L.Perm u):Bk w x leak u M T:=⟨h.c0,h.c1,h.c2,h.c3,h.leases.perm z,h.marks,h.wheel,h.ab,h.am,h.bm⟩
theorem Bk.permM (h:Bk w x leak L M T) {u:List (Int × Bool)} (z:M.Perm u):Bk w x leak L u T:=⟨h.c0,h.c1,h.c2,h.c3,h.leases,h.marks.perm z,h.wheel,h.ab,h.am,h.bm⟩
end
abbrev U64 (k:Int):Prop:=0≤k∧k≤18446744073709551615
section
variable (w:World) {ops:Array Oper} {rest:List Oper} {o:Oper} {a:Act} {Q:Exit→Act→World→Prop}
theorem lookL (G:o.guard=none) (m x:Operand) (J:o.op=Op.lookup 125 m x true) (b:Nat) (L:List (Int × Ls)) (I:a.eval m=.map (some b)) (h:ML w b L) (y:Int) (Y:U64 y) (hx:a.eval x=.int .u64 y)
  (t s:Int) (f u:Bool) (W:(fnd L y).getD Z0=⟨t,s,f⟩) (F:(fnd L y).isSome=u)
  (z:wpList Tryz.prog ops Q rest (a.put o.dst (.tuple #[.agg #[.int .i64 t,.int .u64 s,.bool f],.bool u])) w):wpList Tryz.prog ops Q (o :: rest) a w:=by
 refine look2 w G m x 125 J 25 121 Tryz.underlying25 Tryz.underlying125 Z0 (zeroL w) b L I h y Y hx ?_
 rw [W,F]
 exact z
theorem lookL1 (z:o.guard=none) (m x:Operand) (G:o.op=Op.lookup 125 m x false) (b:Nat) (L:List (Int × Ls)) (F:a.eval m=.map (some b)) (h:ML w b L) (y:Int) (J:U64 y) (hx:a.eval x=.int .u64 y)
  (t s:Int) (f:Bool) (I:(fnd L y).getD Z0=⟨t,s,f⟩)
  (u:wpList Tryz.prog ops Q rest (a.put o.dst (.agg #[.int .i64 t,.int .u64 s,.bool f])) w):wpList Tryz.prog ops Q (o :: rest) a w:=by
 refine look1 w z m x 125 G 25 121 Tryz.underlying25 Tryz.underlying125 Z0 (zeroL w) b L F h y J hx ?_
 rw [I]
 exact u
end
section
variable (w:World) (x:At) (leak:Int) (L:List (Int × Ls)) (M:List (Int × Bool)) (T:List (Int × Int)) (id:Int)
theorem of_any (h:Bk w x leak L M T) (hid:U64 id) (t s:Int) (f u:Bool) (F:(fnd L id).getD Z0=⟨t,s,f⟩) (z:(fnd L id).isSome=u) :
  Calls Tryz.prog 43 #[ptr x.p,.int .u64 id] w fun e w'=>e=.returned (.tuple #[.agg #[.int .i64 t,.int .u64 s,.bool f],.bool u])∧Below w.heap.size w w':=by
 have c1:=h.c1
 have H:=Lh h
 have I:=Lh hid
 have J:=Lh F
 have G:=Lh z
 have W:=h.lt.1
 clear h hid F z
 go_enter Tryz.func43,Tryz.ntmps43
 go_wp2_with (at_lookup; refine lookL _ rfl _ _ rfl x.a L rfl (H.out.leases.later ((Below.refl _ _).alloc (Nat.le_refl _) _)) id I.out rfl t s f u J.out G.out ?_)
 refine bodyPost_ret (v:=.tuple #[.agg #[.int .i64 t,.int .u64 s,.bool f],.bool u]) ?_ rfl ⟨rfl,?_⟩
 ·simp [results,Tryz.results43,go_sem]
 ·exact ((Below.refl _ _).alloc (Nat.le_refl _) _).alloc (by simp) _
theorem holder_any (h:Bk w x leak L M T) (hid:U64 id) (t s:Int) (f u:Bool) (G:(fnd L id).getD Z0=⟨t,s,f⟩) (F:(fnd L id).isSome=u) :
  Calls Tryz.prog 14 #[ptr x.p,.int .u64 id] w fun e w'=>e=.returned (.tuple #[.int .i64 t,.bool u])∧Below w.heap.size w w':=by
 go_enter Tryz.func14,Tryz.ntmps14
 go_wp2_with fail
 refine (of_any w x leak L M T id h hid t s f u G F).mono ?_
 rintro e I ⟨rfl,z⟩
 go_wp2_with fail
 go_ret2
 exact ⟨rfl,z.alloc z.size _⟩
def holds (L:List (Int × Ls)) (id t:Int):Bool:=(fnd L id).isSome && ((fnd L id).getD Z0).thread == t
def wr (L:List (Int × Ls)) (id t:Int):Int:=if holds L id t=true then 0 else 5
theorem wrong_any (th:Int) (h:Bk w x leak L M T) (hid:U64 id) :
  Calls Tryz.prog 86 #[ptr x.p,.int .u64 id,.int .i64 th] w fun e w'=>e=.returned (.int .i64 (wr L id th))∧Below w.heap.size w w':=by
 obtain ⟨⟨t,s,f⟩,G⟩:∃ q,(fnd L id).getD Z0=q:=⟨_,rfl⟩
 obtain ⟨I,F⟩:∃ b,(fnd L id).isSome=b:=⟨_,rfl⟩
 unfold wr holds
 rw [G,F]
 have H:=Lh (holder_any w x leak L M T id h hid t s f I G F)
 clear h hid G F
 cases I
 ·go_enter Tryz.func86,Tryz.ntmps86
  go_wp2_with fail
  refine H.out.mono ?_
  rintro e J ⟨rfl,u⟩
  go_wp2_with fail
  go_ret
  exact ⟨rfl,u⟩
 ·by_cases ht:t=th
  ·subst ht
   have z:(if (true && t == t)=true then (0:Int) else 5)=0:=by simp
   rw [z]
   go_enter Tryz.func86,Tryz.ntmps86
   go_wp2_with fail
   refine H.out.mono ?_
   rintro e J ⟨rfl,u⟩
   go_wp2_with fail
   go_ret
   exact ⟨rfl,u⟩
  ·have W:(t != th)=true:=by simpa using ht
   have z:(if (true && t == th)=true then (0:Int) else 5)=5:=by simp [ht]
   rw [z]
   clear ht
   go_enter Tryz.func86,Tryz.ntmps86
   go_wp2_with fail
   refine H.out.mono ?_
   rintro e J ⟨rfl,u⟩
   go_wp2_with fail
   go_ret
   exact ⟨rfl,u⟩
theorem fr_below {a b:Option Nat} {u z:World} (h:Below u.heap.size u z):Fr a b u z:=⟨h.os,h.tape,h.output,h.size,fun k hk _ _=>h.block k hk⟩
theorem fr_grown1 {a b:Option Nat} {u z:World} (h:u.grownBy z a):Fr a b u z:=Fr.of_grown h (.inr (.inl rfl))
theorem fr_grown2 {a b:Option Nat} {u z:World} (h:u.grownBy z b):Fr a b u z:=Fr.of_grown h (.inr (.inr rfl))
theorem Fr.tr {a b:Option Nat} {u z F:World} (h:Fr a b u z) (G:Fr a b z F):Fr a b u F:=h.then G (fun k e _=>.inl e.symm) (fun k e _=>.inr e.symm)
theorem mark_no (th:Int) (h:Bk w x leak L M T) (hid:U64 id) (hw:holds L id th=false) :
  Calls Tryz.prog 37 #[ptr x.p,.int .u64 id,.int .i64 th] w fun e w'=>e=.returned (.int .i64 5)∧Below w.heap.size w w':=by
 have H:=Lh (wrong_any w x leak L M T id th h hid)
 have u:wr L id th=5:=by unfold wr; rw [hw]; rfl
 rw [u] at H
 clear h hid hw u
 go_enter Tryz.func37,Tryz.ntmps37
 go_wp2_with fail
 refine H.out.mono ?_
 rintro e F ⟨rfl,z⟩
 go_wp2_with fail
 go_ret
 exact ⟨rfl,z⟩
theorem mark_ok (th:Int) (h:Bk w x leak L M T) (hid:U64 id) (hw:holds L id th=true) (hM:M.length≤1000000) :
  Calls Tryz.prog 37 #[ptr x.p,.int .u64 id,.int .i64 th] w fun e w'=>e=.returned (.int .i64 0)∧Bk w' x leak L ((id,true) :: wo M id) T∧Fr (some x.b) none w w':=by
 have H:=Lh (wrong_any w x leak L M T id th h hid)
 have I:wr L id th=0:=by unfold wr; rw [hw]; rfl
 rw [I] at H
 have F:=Lh h
 have HI:=Lh hid
 clear h hid hw I
 go_enter Tryz.func37,Tryz.ntmps37
 go_wp2_with fail
 refine H.out.mono ?_
 rintro e w1 ⟨rfl,u⟩
 have k1:=F.out.later u
 have c2:=k1.c2
 have G:=Lh k1
 have W:=Lh u
 clear k1 u F H
 go_wp2_with (at_mapUpdate; refine put1 _ rfl _ _ _ 126 rfl 25 4 Tryz.underlying25 Tryz.underlying126 x.b M rfl G.out.marks (by omega) id HI.out rfl true rfl ?_; intro w2 J z; have a0:=Lh (G.out.turnM z J); have Y:=Lh z; clear J z)
 go_ret
 exact ⟨rfl,a0.out,Fr.tr (fr_below W.out) (fr_grown1 Y.out)⟩
theorem forget_any (h:Bk w x leak L M T) (hid:U64 id) :
  Calls Tryz.prog 142 #[ptr x.p,.int .u64 id] w fun e w'=>e=.returned (.tuple #[])∧Bk w' x leak L (wo M id) T∧Fr (some x.b) none w w':=by
 have c2:=h.c2
 have z:=Lh h
 have I:=Lh hid
 clear h hid
 go_enter Tryz.func142,Tryz.ntmps142
 go_wp2_with (at_delete; refine del1 _ rfl _ _ 126 25 rfl 4 Tryz.underlying25 Tryz.underlying126 x.b M rfl z.out.marks id I.out rfl ?_; intro W F u; have J:=Lh (z.out.turnM u F); have G:=Lh u; clear F u)
 exact bodyPost_end (v:=.tuple #[]) (by simp [results,Tryz.results142]) rfl ⟨rfl,J.out,fr_grown1 G.out⟩
theorem marked_any (h:Bk w x leak L M T) (hid:U64 id) (u:Bool) (F:(fnd M id).getD false=u) :
  Calls Tryz.prog 230 #[ptr x.p,.int .u64 id] w fun e w'=>e=.returned (.bool u)∧w=w':=by
 have c2:=h.c2
 have z:=run_look1 (E:=eB) w Tryz.underlying25 Tryz.underlying126 false (zeroB w) h.marks hid
 rw [F] at z
 have G:(Instr.lookup 126 (.map (some x.b)) (.int .u64 id) false).run Tryz.prog w=.ok (.bool u) w:=z
 clear h hid F z
 go_enter Tryz.func230,Tryz.ntmps230
 go_wp2_with fail
 go_ret
 exact ⟨by simp,rfl⟩
theorem len_any (h:Bk w x leak L M T) :
  Calls Tryz.prog 17 #[ptr x.p] w fun e w'=>e=.returned (.int .i64 L.length)∧w=w':=by
 have c1:=h.c1
 have z:∀ u,(Builtin.len_ #[125] u #[.map (some x.a)]).run Tryz.prog w=.ok (.int .i64 L.length) w:=fun u=>run_len (E:=eL) w Tryz.underlying125 h.leases u
 clear h
 go_enter Tryz.func17,Tryz.ntmps17
 go_wp2_with fail
 go_ret
 exact ⟨rfl,rfl⟩
end
end Go.Proofs.YtoiklelghfckgaaGreatDoor.Le
namespace Go.Proofs.YtoiklelghfckgaaGreatDoor.Le
open Go.ChangeShapes Go.WideShapes Go.ChangeAt Go.RowKit Go.Maps Rw Hi Mt Ck
theorem new_any (w:World) (leak:Int) :
  Calls Tryz.prog 60 #[.int .u64 leak] w fun e w'=>∃ x,e=.returned (ptr x.p)∧Bk w' x leak [] [] [] ∧ Below w.heap.size w w'∧w.heap.size≤x.p∧w.heap.size≤x.a∧w.heap.size≤x.b∧w.heap.size≤x.q∧w.heap.size≤x.m:=by
 have a3:=@run_makeMap Tryz.prog
 go_enter Tryz.func60,Tryz.ntmps60
 go_wp2_with fail
 refine (Wl.new_any _).mono ?_
 rintro e G ⟨rfl,F,u,z⟩
 have I:Below w.heap.size w ((w.alloc (.map #[] 0)).alloc (.map #[] 0)):=((Below.refl _ w).alloc (Nat.le_refl _) _).alloc (by simp) _
 simp at u z F
 have J:ML G w.heap.size []:=((Mo.made w Tryz.prog 25 eL).alloc _).below u (by omega)
 have W:MB G (w.heap.size+1) []:=by
  have h:=Mo.made (w.alloc (.map #[] 0)) Tryz.prog 25 eB
  simp at h
  exact h.below u (by omega)
 have HW:=Lh F
 have a0:=Lh J
 have a1:=Lh W
 have Y:=Lh (I.trans (u.mono (by omega)))
 have a2:=Lh z
 clear F J W I u z
 go_wp2_with fail
 go_ret
 have z:=a2.out
 refine ⟨⟨G.heap.size,w.heap.size,w.heap.size+1,w.heap.size+3,w.heap.size+2⟩,rfl,⟨by go_simp,by go_simp,by go_simp,by go_simp,a0.out.alloc _,a1.out.alloc _,HW.out.later ((Below.refl _ _).alloc (Nat.le_refl _) _),by simp,by simp,by simp⟩,Y.out.alloc (by omega) _,by simp; omega,by simp,by simp,by simp,by simp⟩
section
variable (w:World) (x:At) (leak:Int) (L:List (Int × Ls)) (M:List (Int × Bool)) (T:List (Int × Int)) (id th now:Int)
theorem begin_range (h:Bk w x leak L M T) (u:th < 0∨8≤th) :
  Calls Tryz.prog 137 #[ptr x.p,.int .u64 id,.int .i64 th,.int .u64 now] w fun e w'=>e=.returned (.int .i64 2)∧w=w':=by
 by_cases h0:th < 0
 ·have z:decide (th < 0)=true:=decide_eq_true h0
  clear h u h0
  go_enter Tryz.func137,Tryz.ntmps137
  go_wp2_with fail
  go_ret
  exact ⟨rfl,rfl⟩
 ·have z:decide (th < 0)=false:=decide_eq_false h0
  have F:decide (8≤th)=true:=decide_eq_true (by omega)
  clear h u h0
  go_enter Tryz.func137,Tryz.ntmps137
  go_wp2_with fail
  go_ret
  exact ⟨rfl,rfl⟩
theorem begin_had (h:Bk w x leak L M T) (hid:U64 id) (W:0≤th) (Y:th < 8) (u:(fnd L id).isSome=true) :
  Calls Tryz.prog 137 #[ptr x.p,.int .u64 id,.int .i64 th,.int .u64 now] w fun e w'=>e=.returned (.int .i64 10)∧Below w.heap.size w w':=by
 have q1:decide (th < 0)=false:=decide_eq_false (by omega)
 have q2:decide (8≤th)=false:=decide_eq_false (by omega)
 obtain ⟨⟨t,s,f⟩,z⟩:∃ q,(fnd L id).getD Z0=q:=⟨_,rfl⟩
 have c1:=h.c1
 have I:=Lh h
 have G:=Lh hid
 have J:=Lh z
 have F:=Lh u
 clear h hid z u W Y
 go_enter Tryz.func137,Tryz.ntmps137
 go_wp2_with (at_lookup; refine lookL _ rfl _ _ rfl x.a L rfl I.out.leases id G.out rfl t s f true J.out F.out ?_)
 go_ret
 exact ⟨rfl,(Below.refl _ _).alloc (Nat.le_refl _) _⟩
theorem begin_no_leak (h:Bk w x 0 L M T) (hid:U64 id) (h0:0≤th) (h8:th < 8) (J:(fnd L id).isSome=false) (hl:L.length < 1024) :
  Calls Tryz.prog 137 #[ptr x.p,.int .u64 id,.int .i64 th,.int .u64 now] w fun e w'=>e=.returned (.int .i64 0)∧Bk w' x 0 ((id,⟨th,now,false⟩) :: wo L id) M T∧Fr (some x.a) (some x.m) w w':=by
 have q1:decide (th < 0)=false:=decide_eq_false (by omega)
 have q2:decide (8≤th)=false:=decide_eq_false (by omega)
 obtain ⟨⟨t,s,f⟩,W⟩:∃ q,(fnd L id).getD Z0=q:=⟨_,rfl⟩
 have c1:=h.c1
 have a3:=h.lt.1
 have u:=Lh h
 have G:=Lh hid
 have HQ:=Lh W
 have Y:=Lh J
 have q3:decide ((1024:Int)≤(L.length:Int))=false:=decide_eq_false (by omega)
 have a2:∀ o,∀ F,(Builtin.len_ #[125] F #[.map (some x.a)]).run Tryz.prog (w.alloc o)=.ok (.int .i64 L.length) (w.alloc o):=fun o F=>run_len (E:=eL) _ Tryz.underlying125 (h.leases.alloc o) F
 clear h hid W J h0 h8
 go_enter Tryz.func137,Tryz.ntmps137
 go_wp2_with (first
  | (at_lookup; refine lookL _ rfl _ _ rfl x.a L rfl u.out.leases id G.out rfl t s f false HQ.out Y.out ?_)
  | (at_mapUpdate; refine put1 _ rfl _ _ _ 125 rfl 25 121 Tryz.underlying25 Tryz.underlying125 x.a L rfl (u.out.leases.alloc _) (by omega) id G.out rfl (⟨th,now,false⟩:Ls) rfl ?_; intro w2 I z; have k2:=(u.out.later ((Below.refl _ w).alloc (Nat.le_refl _) _)).turnL z I; have d0:=k2.c0; have a1:=Lh k2; have a0:=Lh z; clear k2 I z a2))
 go_ret
 exact ⟨rfl,a1.out,Fr.tr (fr_below ((Below.refl _ w).alloc (Nat.le_refl _) _)) (fr_grown1 a0.out)⟩
theorem begin_leak (h:Bk w x leak L M T) (hid:U64 id) (a7:U64 now) (a5:U64 leak) (a6:leak≠0) (h0:0≤th) (h8:th < 8) (hb:(fnd L id).isSome=false) (hl:L.length < 1024) (hT:T.length≤1024) :
  Calls Tryz.prog 137 #[ptr x.p,.int .u64 id,.int .i64 th,.int .u64 now] w fun e w'=>e=.returned (.int .i64 0)∧Bk w' x leak ((id,⟨th,now,false⟩) :: wo L id) M (Wl.arm T id (cAdd now leak))∧Fr (some x.a) (some x.m) w w':=by
 have q1:decide (th < 0)=false:=decide_eq_false (by omega)
 have q2:decide (8≤th)=false:=decide_eq_false (by omega)
 obtain ⟨⟨t,s,f⟩,hq⟩:∃ q,(fnd L id).getD Z0=q:=⟨_,rfl⟩
 have c1:=h.c1
 have ad:=h.lt.1
 have ae:=h.pm
 have W:=Lh h
 have J:=Lh hid
 have HN:=Lh a7
 have Y:=Lh a5
 have HQ:=Lh hq
 have HB:=Lh hb
 have q3:decide ((1024:Int)≤(L.length:Int))=false:=decide_eq_false (by omega)
 have q4:(leak != 0)=true:=by simpa using a6
 have ac:∀ o,∀ ty,(Builtin.len_ #[125] ty #[.map (some x.a)]).run Tryz.prog (w.alloc o)=.ok (.int .i64 L.length) (w.alloc o):=fun o ty=>run_len (E:=eL) _ Tryz.underlying125 (h.leases.alloc o) ty
 clear h hid a7 a5 a6 hq hb h0 h8
 go_enter Tryz.func137,Tryz.ntmps137
 go_wp2_with (first
  | (at_lookup; refine lookL _ rfl _ _ rfl x.a L rfl W.out.leases id J.out rfl t s f false HQ.out HB.out ?_)
  | (at_mapUpdate; refine put1 _ rfl _ _ _ 125 rfl 25 121 Tryz.underlying25 Tryz.underlying125 x.a L rfl (W.out.leases.alloc _) (by omega) id J.out rfl (⟨th,now,false⟩:Ls) rfl ?_; intro w2 a3 a0; have k2:=(W.out.later ((Below.refl _ w).alloc (Nat.le_refl _) _)).turnL a0 a3; have z:=k2.c0; have F:=k2.c3; have a2:=Lh k2; have a8:=Lh a0; clear k2 a3 a0 ac))
 refine reg_start 12 (fun w'=>w'.cell? ⟨x.p,0,none⟩=some (.int .u64 leak)∧w'.cell? ⟨x.p,3,none⟩=some (.pointer (some ⟨x.q,0,none⟩))) (by kernel_rfl) (by kernel_rfl) ?_
 intro a4
 have G:=Lh a4
 clear a4
 refine rq 0 G.out ⟨z,F⟩ rfl ?_ (hv:=fun w' hw=>by (obtain ⟨I,u⟩:=hw; go_simp; exact rfl))
 refine rq 1 G.out ⟨z,F⟩ rfl ?_ (hv:=fun w' hw=>by (obtain ⟨I,u⟩:=hw; go_simp; exact rfl))
 refine rq 2 G.out ⟨z,F⟩ rfl ?_ (hv:=fun w' hw=>by (obtain ⟨I,u⟩:=hw; go_simp; exact rfl))
 refine rq 3 G.out ⟨z,F⟩ rfl ?_ (hv:=fun w' hw=>by (obtain ⟨I,u⟩:=hw; go_simp; exact rfl))
 refine rq 4 G.out ⟨z,F⟩ rfl ?_ (hv:=fun w' hw=>by (obtain ⟨I,u⟩:=hw; go_simp; exact rfl))
 refine rq 5 G.out ⟨z,F⟩ rfl ?_ (hv:=fun w' hw=>by (obtain ⟨I,u⟩:=hw; go_simp; exact rfl))
 refine rq 6 G.out ⟨z,F⟩ rfl ?_ (hv:=fun w' hw=>by (obtain ⟨I,u⟩:=hw; go_simp; exact rfl))
 refine rq 7 G.out ⟨z,F⟩ rfl ?_ (hv:=fun w' hw=>by (obtain ⟨I,u⟩:=hw; go_simp; exact rfl))
 refine rq 8 G.out ⟨z,F⟩ rfl ?_ (hv:=fun w' hw=>by (obtain ⟨I,u⟩:=hw; go_simp; exact rfl))
 refine rq 9 G.out ⟨z,F⟩ rfl ?_ (hv:=fun w' hw=>by (obtain ⟨I,u⟩:=hw; go_simp; exact rfl))
 refine reg_only 10 rfl (by kernel_rfl) rfl ?_
 unfold Oper.wp
 go_simp
 refine (Ck.add_any now leak _ HN.out.1 HN.out.2 Y.out.1 Y.out.2).mono ?_
 rintro e w3 ⟨rfl,rfl⟩
 refine ⟨⟨z,F⟩,?_⟩
 refine reg_only 11 rfl (by kernel_rfl) rfl ?_
 unfold Oper.wp
 go_simp
 refine (Wl.arm_any w2.drew x.q x.m T id (cAdd now leak) (a2.out.wheel.later ((Below.refl _ _).drew)) J.out ⟨cAdd_lo _ _ HN.out.1 Y.out.1,cAdd_u _ _⟩ hT).mono ?_
 rintro e w3 ⟨rfl,u,a1⟩
 have k3:=(a2.out.later ((Below.refl _ _).drew)).turnT a1 u
 have aa:=Lh k3
 refine ⟨⟨k3.c0,k3.c3⟩,?_⟩
 have a9:=Lh a1
 clear k3 u a1
 refine reg_done (by kernel_rfl) ?_
 go_wp2_with fail
 go_ret
 exact ⟨rfl,aa.out,Fr.tr (fr_below ((Below.refl _ w).alloc (Nat.le_refl _) _)) (Fr.tr (fr_grown1 a8.out) (Fr.tr (fr_below ((Below.refl _ _).drew)) (fr_grown2 a9.out)))⟩
end
def flg (L:List (Int × Ls)) (id:Int):List (Int × Ls):=(id,⟨((fnd L id).getD Z0).thread,((fnd L id).getD Z0).since,true⟩) :: wo L id
def flgs (L:List (Int × Ls)) (ids:List Int):List (Int × Ls):=ids.foldl flg L
theorem flg_len (L:List (Int × Ls)) (id:Int):(flg L id).length≤L.length+1:=by
 have:=wo_le L id
 simp [flg]; omega
theorem flgs_len (ids:List Int):∀ L:List (Int × Ls),(flgs L ids).length≤L.length+ids.length:=by
 induction ids with
 | nil=>intro L; simp [flgs]
 | cons y l ih=>intro L; have h:=ih (flg L y); have u:=flg_len L y; simp [flgs] at *; omega
theorem flgs_snoc (L:List (Int × Ls)) (ids:List Int) (y:Int):flgs L (ids ++ [y])=flg (flgs L ids) y:=by simp [flgs]
theorem leaks_any (w:World) (x:At) (leak:Int) (L:List (Int × Ls)) (M:List (Int × Bool)) (T:List (Int × Int)) (now:Int) (h:Bk w x leak L M T) (ao:U64 now) (hT:T.length≤1024) (hL:L.length≤1000000) :
  Calls Tryz.prog 246 #[ptr x.p,.int .u64 now] w fun e w'=>∃ (A:Option Addr) (c:Nat),e=.returned (.slice A (Wl.due T now).length c)∧w'.ownsRow w.heap.size 25 1 (.slice A (Wl.due T now).length c) (Wl.due T now).length (((Wl.due T now).map Prod.fst).map (Value.int .u64)) ∧
   Bk w' x leak (flgs L ((Wl.due T now).map Prod.fst)) M (Wl.left T now)∧Fr (some x.a) (some x.m) w w':=by
 have c3:=h.c3
 obtain ⟨aJ,aG,aH,aK,aI⟩:=h.lt
 have HK:=Lh h
 have HN:=Lh ao
 have ac:=h.wheel.tms
 have al:(Wl.due T now).length≤1024:=Nat.le_trans (by unfold Wl.due; exact List.length_filter_le _ _) hT
 have hu:∀ a∈Wl.due T now,U64 a.1:=fun a ha=>⟨(ac.ok a (Wl.mem_due.1 ha).1).1,(ac.ok a (Wl.mem_due.1 ha).1).2.1⟩
 have HU:=Lh hu
 clear h ao ac hu
 go_enter Tryz.func246,Tryz.ntmps246
 go_wp2_with fail
 refine (Wl.due_any w x.q x.m T now HK.out.wheel HN.out hT).mono ?_
 rintro e w1 ⟨A,c,rfl,z,av,Y⟩
 obtain ⟨D,hD⟩:∃ D,Wl.due T now=D:=⟨_,rfl⟩
 rw [hD] at z al HU ⊢
 obtain ⟨n,hn⟩:∃ n,D.length=n:=⟨_,rfl⟩
 rw [hn] at z al ⊢
 have a9:=Lh hn
 have HD:=Lh hD
 have af:=Lh (HK.out.turnT Y av)
 have ae:=Lh (show Fr (some x.a) (some x.m) w w1 from fr_grown2 Y)
 have HR:=Lh z
 have au:=Y.size
 clear z av Y hn hD
 go_wp2_with fail
 go_loopw [19] (fun ad wr=>∃ k:Nat,ad=.int .i64 k∧k≤n∧w.heap.size≤wr.heap.size∧Bk wr x leak (flgs L ((D.map Prod.fst).take k)) M (Wl.left T now)∧wr.ownsRow w.heap.size 25 1 (.slice A n c) n ((D.map Prod.fst).map (Value.int .u64))∧Hid (Fr (some x.a) (some x.m) w wr)) (fun ad _=>n - (intOf ad).toNat)
 case atStart=>exact ⟨0,rfl,Nat.zero_le _,au,af.out,HR.out,ae.out⟩
 case round=>
  clear af ae HR au
  obtain ⟨k,rfl,hk,aN,I,z,aa⟩:=hrel
  by_cases hkn:k < n
  ·have qk:decide ((k:Int) < (n:Int))=true:=decide_eq_true (by omega)
   obtain ⟨b,o,y,hA,aE,hy,aB⟩:=(Rd.own_rd z).get hkn
   subst hA
   have aw:U64 y:=by
    rw [List.getElem?_map] at hy
    obtain ⟨a0,aA,rfl⟩:=Option.map_eq_some_iff.1 hy
    exact HU.out a0 (List.mem_of_getElem? aA)
   obtain ⟨⟨t,s,f⟩,hq⟩:∃ q,(fnd (flgs L ((D.map Prod.fst).take k)) y).getD Z0=q:=⟨_,rfl⟩
   have k1:=I.c1
   have aC:=I.lt
   have a2:=Lh I
   have a7:=Lh z
   have HY:=Lh hy
   have ag:=Lh aw
   have HQ:=Lh hq
   have an:(flgs L ((D.map Prod.fst).take k)).length < 4611686018427387904:=by
    have:=flgs_len ((D.map Prod.fst).take k) L
    rw [List.length_take] at this
    omega
   obtain ⟨aL,aM,-,-,-⟩:=aC
   have ay:=Lh an
   clear I z hy aw hq an
   go_wp2_with (at_lookup; refine lookL1 _ rfl _ _ rfl x.a _ rfl a2.out.leases y ag.out rfl t s f HQ.out ?_)
   obtain ⟨u,a1⟩:∃ u,u=(wr.alloc (.cells #[.int .i64 t,.int .u64 s,.bool true] 121)):=⟨_,rfl⟩
   have z0:u.cell? ⟨wr.heap.size,0,none⟩=some (.int .i64 t):=by rw [a1]; go_simp
   have z1:u.cell? ⟨wr.heap.size,1,none⟩=some (.int .u64 s):=by rw [a1]; go_simp
   have z2:u.cell? ⟨wr.heap.size,2,none⟩=some (.bool true):=by rw [a1]; go_simp
   have F:Below wr.heap.size wr u:=by rw [a1]; exact (Below.refl _ wr).alloc (Nat.le_refl _) _
   have gz:wr.grownBy u none:=⟨F.os,F.tape,F.output,F.size,fun g Y _=>F.block g Y⟩
   have zk:=a2.out.later F
   have J:=zk.c1
   have ah:=Lh zk
   have ai:=Lh (a7.out.kept gz (Or.inr (by simp [Value.ownBlock])))
   have aD:=Lh gz
   have az:=Lh (Fr.tr aa.out (fr_below F:Fr (some x.a) (some x.m) wr u))
   have aO:=F.size
   rw [← a1]
   clear a1 zk gz F aB aa a2 a7 k1
   refine reg_start 6 (fun w'=>w'.cell? ⟨x.p,1,none⟩=some (.map (some x.a))∧w'.cell? ⟨wr.heap.size,0,none⟩=some (.int .i64 t)∧w'.cell? ⟨wr.heap.size,1,none⟩=some (.int .u64 s)∧w'.cell? ⟨wr.heap.size,2,none⟩=some (.bool true)) (by kernel_rfl) (by kernel_rfl) ?_
   intro ak
   have W:=Lh ak
   clear ak
   refine rq 0 W.out ⟨J,z0,z1,z2⟩ rfl ?_ (hv:=fun w' hw=>by (obtain ⟨a3,a4,a5,a6⟩:=hw; go_simp; exact rfl))
   refine rq 1 W.out ⟨J,z0,z1,z2⟩ rfl ?_ (hv:=fun w' hw=>by (obtain ⟨a3,a4,a5,a6⟩:=hw; go_simp; exact rfl))
   refine rq 2 W.out ⟨J,z0,z1,z2⟩ rfl ?_ (hv:=fun w' hw=>by (obtain ⟨a3,a4,a5,a6⟩:=hw; go_simp; exact rfl))
   refine rq 3 W.out ⟨J,z0,z1,z2⟩ rfl ?_ (hv:=fun w' hw=>by (obtain ⟨a3,a4,a5,a6⟩:=hw; go_simp; exact rfl))
   refine rq 4 W.out ⟨J,z0,z1,z2⟩ rfl ?_ (hv:=fun w' hw=>by (obtain ⟨a3,a4,a5,a6⟩:=hw; go_simp; exact rfl))
   refine rq 5 W.out ⟨J,z0,z1,z2⟩ rfl ?_ (hv:=fun w' hw=>by (obtain ⟨a3,a4,a5,a6⟩:=hw; go_simp; exact rfl))
   refine reg_only 6 rfl (by kernel_rfl) rfl ?_
   unfold Oper.wp
   go_simp
   obtain ⟨w3,aq,aj,G⟩:=run_put (E:=eL) u.drew Tryz.underlying25 Tryz.underlying125 (ah.out.later ((Below.refl _ _).drew)).leases ay.out ag.out (⟨t,s,true⟩:Ls)
   have ar:(Instr.mapUpdate 125 (.map (some x.a)) (.int .u64 y) (.agg #[.int .i64 t,.int .u64 s,.bool true])).run Tryz.prog u.drew=.ok () w3:=aq
   rw [ar]
   go_simp
   refine reg_done (by kernel_rfl) ?_
   have k3:=(ah.out.later ((Below.refl _ _).drew)).turnL G aj
   have ax:=Lh k3
   have a8:=Lh G
   have aF:u.grownBy w3 (some x.a):=⟨G.os,G.tape.trans rfl,G.output,G.size,G.block⟩
   clear aq ar aj G k3 z0 z1 z2 J
   go_wp2_with fail
   go_roundw
   case rel=>
    refine ⟨k+1,by go_num,by omega,?_,?_,?_,?_⟩
    ·have:=a8.out.size; simp at this; omega
    ·have e1:(D.map Prod.fst).take (k+1)=(D.map Prod.fst).take k ++ [y]:=by
      obtain ⟨hj,e⟩:=List.getElem?_eq_some_iff.1 HY.out
      rw [List.take_succ_eq_append_getElem hj,e]
     rw [e1,flgs_snoc]
     unfold flg
     rw [HQ.out]
     exact ax.out
    ·exact (show u.drew.ownsRow _ _ _ _ _ _ from ai.out).kept a8.out (Or.inr (fun e=>by have:=(ai.out.lt _ e).1; omega))
    ·exact Fr.tr az.out (Fr.tr (fr_below ((Below.refl _ u).drew)) (fr_grown1 a8.out))
   case measure=>simp [intOf]; omega
  ·have qk:decide ((k:Int) < (n:Int))=false:=decide_eq_false (by omega)
   obtain rfl:k=n:=by omega
   have e1:(D.map Prod.fst).take k=D.map Prod.fst:=by rw [List.take_of_length_le]; simp [a9.out]
   rw [e1] at I
   have a2:=Lh I
   have a7:=Lh z
   clear I z
   go_wp2_with fail
   go_ret
   exact ⟨A,c,by rw [HD.out,a9.out]; rfl,by rw [HD.out,a9.out]; exact a7.out,by rw [HD.out]; exact a2.out,aa.out⟩
end Go.Proofs.YtoiklelghfckgaaGreatDoor.Le
