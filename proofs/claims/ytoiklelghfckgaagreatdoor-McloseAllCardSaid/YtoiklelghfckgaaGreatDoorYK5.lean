/- A part of the claim. -/
import Derived.Test.YtoiklelghfckgaaGreatDoorYK4
section
set_option maxRecDepth 100000
set_option maxHeartbeats 8000000
set_option linter.unusedVariables false
namespace Go.Proofs.YtoiklelghfckgaaGreatDoor.Mt
open Go Go.ChangeMaps Go.Maps Go.MapKept Go.RowKit
structure Enc (β:Type) where
 val:β->Value
 dat:β->DataW Unit
 R:Value->Option (DataW Unit × List MemPlace)
 mk_:∀ x,R (val x)=some (dat x,[])
 inv:∀ v y,R v=some y -> ∃ x,v=val x/\y=(dat x,[])
 inj:∀ x y,dat x=dat y->x=y
section lists
variable {β:Type}
def fnd (l:List (Int × β)) (k:Int):Option β:=(l.find? (fun a=>a.1 == k)).map Prod.snd
def wo (l:List (Int × β)) (k:Int):List (Int × β):=l.filter (fun a=>a.1 != k)
def Nd (l:List (Int × β)):Prop:=(l.map Prod.fst).Nodup
theorem mem_wo {l:List (Int × β)} {k:Int} {a:Int × β} : a∈wo l k↔a∈l/\a.1≠k:=by simp[wo]
theorem mem_key {l:List (Int × β)} {k:Int} : k∈l.map Prod.fst ↔ ∃ x,(k,x)∈l:=by
 constructor
 .intro h
  obtain⟨a,ha,rfl⟩:=List.mem_map.1 h
  exact⟨a.2,ha⟩
 .rintro⟨x,hx⟩; exact List.mem_map.2 ⟨_,hx,rfl⟩
theorem wo_key {l:List (Int × β)} {k:Int} : k ∉ (wo l k).map Prod.fst:=by
 intro h
 obtain⟨x,hx⟩:=mem_key.1 h
 exact (mem_wo.1 hx).2 rfl
theorem Nd.wo {l:List (Int × β)} (h:Nd l) (k:Int):Nd (wo l k):=by
 unfold Nd Mt.wo at *
 exact h.sublist (List.Sublist.map _ List.filter_sublist)
theorem Nd.cons {l:List (Int × β)} (h:Nd l) (k:Int) (x:β):Nd ((k,x) :: Mt.wo l k):=by
 have u:=h.wo k
 unfold Nd at *
 rw[List.map_cons,List.nodup_cons]
 exact⟨wo_key,u⟩
theorem Nd.perm {l l':List (Int × β)} (h:Nd l) (u:l.Perm l'):Nd l':=by
 unfold Nd at *
 exact (u.map Prod.fst).nodup_iff.1 h
theorem Nd.uniq {l:List (Int × β)} (h:Nd l) {k:Int} {x y:β} (hx:(k,x)∈l) (I:(k,y)∈l):x=y:=by
 unfold Nd at h
 induction l with
 | nil=>cases hx
 | cons a r ih=>
  rw[List.map_cons,List.nodup_cons] at h
  rcases List.mem_cons.1 hx with z | F <;> rcases List.mem_cons.1 I with u | G
  .rw[<- z] at u; injection u with _ u; exact u.symm
  .exact absurd (mem_key.2 ⟨_,G⟩) (by rw[<- z] at h; exact h.1)
  .exact absurd (mem_key.2 ⟨_,F⟩) (by rw[<- u] at h; exact h.1)
  .exact ih h.2 F G
theorem fnd_mem {l:List (Int × β)} (h:Nd l) {k:Int} {x:β} (z:(k,x)∈l):fnd l k=some x:=by
 unfold fnd
 cases hf:l.find? (fun a=>a.1 == k) with
 | none=>exact absurd (List.find?_eq_none.1 hf _ z) (by simp)
 | some a=>
  have F:=List.mem_of_find?_eq_some hf
  have u:=List.find?_some hf
  simp at u
  subst u
  simp only[Option.map_some]
  rw[h.uniq (k:=a.1) (x:=a.2) F z]
theorem fnd_none {l:List (Int × β)} {k:Int} (z:k ∉ l.map Prod.fst):fnd l k=none:=by
 unfold fnd
 cases hf:l.find? (fun a=>a.1 == k) with
 | none=>rfl
 | some a=>
  have u:=List.mem_of_find?_eq_some hf
  have h:=List.find?_some hf
  simp at h
  exact absurd (List.mem_map.2 ⟨a,u,h⟩) z
theorem fnd_some {l:List (Int × β)} {k:Int} {x:β} (h:fnd l k=some x):(k,x)∈l:=by
 unfold fnd at h
 cases hf:l.find? (fun a=>a.1 == k) with
 | none=>rw[hf] at h; cases h
 | some a=>
  rw[hf] at h
  injection h with h
  have u:=List.find?_some hf
  simp at u
  subst h u
  exact List.mem_of_find?_eq_some hf
theorem fnd_is {l:List (Int × β)} {k:Int} : (fnd l k).isSome=decide (k∈l.map Prod.fst):=by
 by_cases h:k∈l.map Prod.fst
 .rw[decide_eq_true h]
  cases hf:fnd l k with
  | none=>
   exfalso
   unfold fnd at hf
   cases hg:l.find? (fun a=>a.1 == k) with
   | none=>
    obtain⟨x,hx⟩:=mem_key.1 h
    exact absurd (List.find?_eq_none.1 hg _ hx) (by simp)
   | some a=>rw[hg] at hf; cases hf
  | some x=>rfl
 .rw[fnd_none h,decide_eq_false h]; rfl
theorem fnd_no {l:List (Int × β)} {k:Int} (h:fnd l k=none):k ∉ l.map Prod.fst:=by
 have:=fnd_is (l:=l) (k:=k)
 rw[h] at this
 simpa using this.symm
theorem wo_none {l:List (Int × β)} {k:Int} (h:k ∉ l.map Prod.fst):wo l k=l:=by
 unfold wo
 rw[List.filter_eq_self]
 intro a ha
 simp
 intro e
 exact h (List.mem_map.2 ⟨a,ha,e⟩)
theorem wo_len {l:List (Int × β)} (h:Nd l) {k:Int} (hk:k∈l.map Prod.fst):(wo l k).length+1=l.length:=by
 unfold Nd at h
 induction l with
 | nil=>cases hk
 | cons a r ih=>
  rw[List.map_cons,List.nodup_cons] at h
  by_cases e:a.1=k
  .have u:k ∉ r.map Prod.fst:=e ▸ h.1
   have:wo (a :: r) k=wo r k:=by unfold wo; rw[List.filter_cons_of_neg (by simp[e])]
   rw[this,wo_none u]; rfl
  .have u:k∈r.map Prod.fst:=by
    rcases List.mem_cons.1 hk with z | z
    .exact absurd z.symm e
    .exact z
   have:wo (a :: r) k=a :: wo r k:=by unfold wo; rw[List.filter_cons_of_pos (by simp[e])]
   rw[this,List.length_cons,List.length_cons,ih h.2 u]
theorem wo_le (l:List (Int × β)) (k:Int):(wo l k).length<=l.length:=List.length_filter_le _ _
theorem perm_wo {l:List (Int × β)} (h:Nd l) {k:Int} {x:β} (F:(k,x)∈l):l.Perm ((k,x) :: wo l k):=by
 unfold Nd at h
 induction l with
 | nil=>cases F
 | cons a r ih=>
  rw[List.map_cons,List.nodup_cons] at h
  by_cases e:a.1=k
  .have z:k ∉ r.map Prod.fst:=e ▸ h.1
   have ha:a=(k,x):=by
    rcases List.mem_cons.1 F with u | u
    .exact u.symm
    .exact absurd (mem_key.2 ⟨_,u⟩) z
   have:wo (a :: r) k=r:=by
    have:wo (a :: r) k=wo r k:=by unfold wo; rw[List.filter_cons_of_neg (by simp[e])]
    rw[this,wo_none z]
   rw[this,ha]
  .have z:(k,x)∈r:=by
    rcases List.mem_cons.1 F with u | u
    .exact absurd (by rw[<- u]) e
    .exact u
   have:wo (a :: r) k=a :: wo r k:=by unfold wo; rw[List.filter_cons_of_pos (by simp[e])]
   rw[this]
   exact ((ih h.2 z).cons a).trans (List.Perm.swap _ _ _)
end lists
section
variable {β:Type}
structure Tel (E:Enc β) (D:DataW Unit) (l:List (Int × β)):Prop where
 hit:∀ k x,(k,x)∈l -> ∀ z,D.atKey (.int .u64 k) z=E.dat x
 has:∀ k,Maps.has D (.int .u64 k)=decide (k∈l.map Prod.fst)
 size:Maps.size D=l.length
theorem lit_ne {k u:Int} (h:u≠k):Lit.int .u64 u≠Lit.int .u64 k:=fun e=>h (by injection e)
variable {E:Enc β} {D:DataW Unit} {l:List (Int × β)}
theorem Tel.nil:Tel E (.map []) []:=⟨fun _ _ h=>(by cases h),fun _=>rfl,rfl⟩
theorem Tel.perm (h:Tel E D l) {l':List (Int × β)} (u:l.Perm l'):Tel E D l':=
 ⟨fun k x z=>h.hit k x (u.mem_iff.2 z),fun k=>by rw[h.has]; congr 1; exact propext (u.map Prod.fst).mem_iff,by rw[h.size,u.length_eq]⟩
theorem Tel.at_ (h:Tel E D l) (hn:Nd l) (k:Int) (z:DataW Unit):D.atKey (.int .u64 k) z=((fnd l k).map E.dat).getD z:=by
 cases hf:fnd l k with
 | none=>exact Maps.atKey_of_not_has (by rw[h.has]; simpa using fnd_no hf) z
 | some x=>exact h.hit k x (fnd_some hf) z
theorem Tel.put (h:Tel E D l) (hn:Nd l) (G:Maps.Tidy D) (k:Int) (x:β):Tel E (D.put (.int .u64 k) (E.dat x)) ((k,x) :: wo l k):=by
 refine⟨fun J F u z=>?_,fun J=>?_,?_⟩
 .rcases List.mem_cons.1 u with e | u
  .injection e with e1 e2
   subst e1 e2
   exact Maps.atKey_put_same (k:=.int .u64 _) G.isMap trivial _ _
  .obtain⟨u,W⟩:=mem_wo.1 u
   rw[Maps.atKey_put_other (lit_ne W)]
   exact h.hit J F u z
 .by_cases e:J=k
  .subst e
   rw[Maps.has_put_same (k:=.int .u64 _) G.isMap trivial]
   simp
  .rw[Maps.has_put_other (lit_ne e),h.has]
   congr 1
   rw[List.map_cons,List.mem_cons,mem_key,mem_key,eq_iff_iff]
   constructor
   .rintro⟨F,I⟩; exact .inr ⟨F,mem_wo.2 ⟨I,e⟩⟩
   .rintro (h1 | ⟨F,I⟩)
    .exact absurd h1 e
    .exact⟨F,(mem_wo.1 I).1⟩
 .rw[Maps.size_put G,h.has,h.size]
  by_cases hk:k∈l.map Prod.fst
  .rw[decide_eq_true hk,List.length_cons,wo_len hn hk]; simp
  .rw[decide_eq_false hk,List.length_cons,wo_none hk]; simp
theorem Tel.del (h:Tel E D l) (hn:Nd l) (W:Maps.Tidy D) (k:Int):Tel E (D.del (.int .u64 k)) (wo l k):=by
 refine⟨fun J u G z=>?_,fun J=>?_,?_⟩
 .obtain⟨G,Y⟩:=mem_wo.1 G
  rw[Maps.atKey_del_other (lit_ne Y)]
  exact h.hit J u G z
 .by_cases e:J=k
  .subst e
   rw[Maps.has_del_same,decide_eq_false wo_key]
  .rw[Maps.has_del_other (lit_ne e),h.has]
   congr 1
   rw[mem_key,mem_key,eq_iff_iff]
   constructor
   .rintro⟨u,I⟩; exact⟨u,mem_wo.2 ⟨I,e⟩⟩
   .rintro⟨u,I⟩; exact⟨u,(mem_wo.1 I).1⟩
 .have F:=Maps.size_del (k:=.int .u64 k) W
  rw[h.has,h.size] at F
  by_cases hk:k∈l.map Prod.fst
  .have:=wo_len hn hk
   simp[hk] at F
   omega
  .rw[wo_none hk]
   simp[hk] at F
   exact F
structure Mo (P:Program) (k:TypeId) (E:Enc β) (w:World) (m:Nat) (l:List (Int × β)):Prop where
 own:∃ D,w.ownsMap P k E.R m l.length D/\Tel E D l
 nd:Nd l
theorem own_tight {P:Program} {k:TypeId} {R:Value->Option (DataW Unit × List MemPlace)} {w:World} {b n:Nat} (h:w.ownsMap P k R b n D):w.ownsMap P k R b (Maps.size D) D:=by
 obtain⟨es,z,G,F,I,u⟩:=h
 refine⟨es,z,G,F,?_,u⟩
 rw[u]
 show es.size<=(List.foldr DataW.insert [] _).length
 rw[length_sorted]
 simp
variable {P:Program} {k:TypeId} {w w':World} {m:Nat}
theorem Mo.of {n:Nat} (h:w.ownsMap P k E.R m n D) (u:Tel E D l) (hn:Nd l):Mo P k E w m l:=⟨⟨D,u.size ▸ own_tight h,u⟩,hn⟩
theorem Mo.perm (h:Mo P k E w m l) {l':List (Int × β)} (u:l.Perm l'):Mo P k E w m l':=by
 obtain⟨⟨D,z,F⟩,hn⟩:=h
 exact Mo.of z (F.perm u) (hn.perm u)
theorem Mo.made (w:World) (P:Program) (k:TypeId) (E:Enc β):Mo P k E (w.alloc (.map #[] 0)) w.heap.size []:=⟨⟨_,World.ownsMap_made w P k E.R,Tel.nil⟩,List.nodup_nil⟩
theorem Mo.kept (h:Mo P k E w m l) {row:Option Nat} (F:w.grownBy w' row) (G:some m≠row):Mo P k E w' m l:=by
 obtain⟨⟨D,u,z⟩,hn⟩:=h
 exact⟨⟨D,u.kept F G,z⟩,hn⟩
theorem Mo.lt (h:Mo P k E w m l):m < w.heap.size:=by
 obtain⟨⟨D,u,z⟩,hn⟩:=h
 exact u.lt
theorem Mo.block (h:Mo P k E w m l) (I:w'.heap[m]? = w.heap[m]?):Mo P k E w' m l:=by
 obtain⟨⟨D,⟨es,u,z,F⟩,G⟩,hn⟩:=h
 exact⟨⟨D,⟨es,u,I.trans z,F⟩,G⟩,hn⟩
theorem Mo.alloc (h:Mo P k E w m l) (o:Obj):Mo P k E (w.alloc o) m l:=h.kept (World.grownBy_alloc w o none) (by simp)
theorem Mo.below (h:Mo P k E w m l) {B:Nat} (u:Below B w w') (z:m < B):Mo P k E w' m l:=h.block (u.block m z)
theorem Mo.later (h:Mo P k E w m l) (u:Below w.heap.size w w'):Mo P k E w' m l:=h.below u h.lt
theorem Mo.no_cell (h:Mo P k E w m l) (o:Nat) (v:Value):w.cell? ⟨m,o,none⟩≠some v:=by
 obtain⟨⟨D,⟨es,z,u,F⟩,G⟩,hn⟩:=h
 intro hc
 simp[World.cell?,u] at hc
theorem Mo.setCell (h:Mo P k E w m l) {a:Addr} (ha:m≠a.block) (u:Value):Mo P k E (w.setCell a u) m l:=by
 obtain⟨⟨D,z,F⟩,hn⟩:=h
 exact⟨⟨D,z.setCell ha u,F⟩,hn⟩
end
section ops
variable {β:Type} {E:Enc β} {P:Program} {k e t:TypeId} (w:World) {ops:Array Oper} {rest:List Oper} {o:Oper} {a:Act} {Q:Exit->Act->World->Prop}
theorem wf_u64' {x:Int} (h:0<=x/\x<=18446744073709551615):(Lit.int .u64 x).wf=true:=by
 simp[Lit.wf,IntKind.min,IntKind.max,IntKind.signed,IntKind.bits]
 omega
theorem run_look2 (hk:P.underlying k=some (.int .u64)) (G:P.underlying t=some (.map k e)) (z0:β) (W:(zeroValue e).run P w=.ok (E.val z0) w) {b:Nat} {l:List (Int × β)} (h:Mo P k E w b l) {y:Int} (J:0<=y/\y<=18446744073709551615) :
  (Instr.lookup t (.map (some b)) (.int .u64 y) true).run P w=.ok (.tuple #[E.val ((fnd l y).getD z0),.bool (fnd l y).isSome]) w:=by
 obtain⟨⟨D,z,u⟩,hn⟩:=h
 obtain⟨v,ps,F,hv⟩:=z.look_ok (int_keyed hk) G W (E.mk_ z0) (keyOf_int_mk hk (wf_u64' J))
 obtain⟨x,rfl,hx⟩:=E.inv v _ hv
 injection hx with hx _
 have I:x=(fnd l y).getD z0:=by
  rw[u.at_ hn] at hx
  cases hf:fnd l y with
  | none=>rw[hf] at hx; exact (E.inj _ _ hx).symm
  | some q=>rw[hf] at hx; exact (E.inj _ _ hx).symm
 rw[F,I,u.has,<- fnd_is]
theorem run_look1 (hk:P.underlying k=some (.int .u64)) (G:P.underlying t=some (.map k e)) (z0:β) (W:(zeroValue e).run P w=.ok (E.val z0) w) {b:Nat} {l:List (Int × β)} (h:Mo P k E w b l) {y:Int} (J:0<=y/\y<=18446744073709551615) :
  (Instr.lookup t (.map (some b)) (.int .u64 y) false).run P w=.ok (E.val ((fnd l y).getD z0)) w:=by
 obtain⟨⟨D,z,u⟩,hn⟩:=h
 obtain⟨v,ps,F,hv⟩:=z.lookup (int_keyed hk) G W (E.mk_ z0) (keyOf_int_mk hk (wf_u64' J))
 obtain⟨x,rfl,hx⟩:=E.inv v _ hv
 injection hx with hx _
 have I:x=(fnd l y).getD z0:=by
  rw[u.at_ hn] at hx
  cases hf:fnd l y with
  | none=>rw[hf] at hx; exact (E.inj _ _ hx).symm
  | some q=>rw[hf] at hx; exact (E.inj _ _ hx).symm
 rw[F,I]
theorem run_len (F:P.underlying t=some (.map k e)) {b:Nat} {l:List (Int × β)} (h:Mo P k E w b l) (G:TypeId):(Builtin.len_ #[t] G #[.map (some b)]).run P w=.ok (.int .i64 l.length) w:=by
 obtain⟨⟨D,z,u⟩,hn⟩:=h
 rw[z.len F,u.size]
theorem run_put (hk:P.underlying k=some (.int .u64)) (J:P.underlying t=some (.map k e)) {b:Nat} {l:List (Int × β)} (h:Mo P k E w b l) (Y:l.length < 4611686018427387904) {y:Int} (W:0<=y/\y<=18446744073709551615) (x:β) :
  ∃ w',(Instr.mapUpdate t (.map (some b)) (.int .u64 y) (E.val x)).run P w=.ok () w'/\Mo P k E w' b ((y,x) :: wo l y)/\w.grownBy w' (some b):=by
 obtain⟨⟨D,u,G⟩,hn⟩:=h
 obtain⟨w',I,z,F⟩:=u.update (int_keyed hk) J (by unfold maxLen; omega) (keyOf_int_mk hk (wf_u64' W)) (E.mk_ x)
 exact⟨w',I,Mo.of z (G.put hn (u.tidy (int_keyed hk)) y x) (hn.cons y x),F⟩
theorem run_del (hk:P.underlying k=some (.int .u64)) (W:P.underlying t=some (.map k e)) {b:Nat} {l:List (Int × β)} (h:Mo P k E w b l) {y:Int} (Y:0<=y/\y<=18446744073709551615) (z:TypeId) :
  ∃ w',(Builtin.delete_ #[t,k] z #[.map (some b),.int .u64 y]).run P w=.ok (.tuple #[]) w'/\Mo P k E w' b (wo l y)/\w.grownBy w' (some b):=by
 obtain⟨⟨D,u,I⟩,hn⟩:=h
 obtain⟨w',J,F,G⟩:=u.drop (int_keyed hk) W (keyOf_int_mk hk (wf_u64' Y)) z
 exact⟨w',J,Mo.of F (I.del hn (u.tidy (int_keyed hk)) y) (hn.wo y),G.grown⟩
theorem look2 (F:o.guard=none) (m x:Operand) (t:TypeId) (I:o.op=Op.lookup t m x true) (k e:TypeId) (hk:P.underlying k=some (.int .u64)) (J:P.underlying t=some (.map k e)) (z0:β) (Y:(zeroValue e).run P w=.ok (E.val z0) w) (b:Nat) (l:List (Int × β))
  (G:a.eval m=.map (some b)) (h:Mo P k E w b l) (y:Int) (W:0<=y/\y<=18446744073709551615) (hx:a.eval x=.int .u64 y)
  (u:wpList P ops Q rest (a.put o.dst (.tuple #[E.val ((fnd l y).getD z0),.bool (fnd l y).isSome])) w):wpList P ops Q (o :: rest) a w:=by
 refine wpList_plain F fun K' z=>?_
 unfold Oper.wp
 simp[execOp,I,G,hx,run_look2 w hk J z0 Y h W,Result.andThen]
 exact z _ _ u
theorem look1 (F:o.guard=none) (m x:Operand) (t:TypeId) (I:o.op=Op.lookup t m x false) (k e:TypeId) (hk:P.underlying k=some (.int .u64)) (J:P.underlying t=some (.map k e)) (z0:β) (Y:(zeroValue e).run P w=.ok (E.val z0) w) (b:Nat) (l:List (Int × β))
  (G:a.eval m=.map (some b)) (h:Mo P k E w b l) (y:Int) (W:0<=y/\y<=18446744073709551615) (hx:a.eval x=.int .u64 y)
  (u:wpList P ops Q rest (a.put o.dst (E.val ((fnd l y).getD z0))) w):wpList P ops Q (o :: rest) a w:=by
 refine wpList_plain F fun K' z=>?_
 unfold Oper.wp
 simp[execOp,I,G,hx,run_look1 w hk J z0 Y h W,Result.andThen]
 exact z _ _ u
theorem put1 (G:o.guard=none) (m x v:Operand) (t:TypeId) (W:o.op=Op.mapUpdate t m x v) (k e:TypeId) (hk:P.underlying k=some (.int .u64)) (ht:P.underlying t=some (.map k e)) (b:Nat) (l:List (Int × β))
  (J:a.eval m=.map (some b)) (h:Mo P k E w b l) (I:l.length < 4611686018427387904) (y:Int) (hy:0<=y/\y<=18446744073709551615) (hx:a.eval x=.int .u64 y) (u:β) (hv:a.eval v=E.val u)
  (z:∀ w',Mo P k E w' b ((y,u) :: wo l y)->w.grownBy w' (some b)->wpList P ops Q rest (a.put o.dst undef) w'):wpList P ops Q (o :: rest) a w:=by
 refine wpList_plain G fun K' F=>?_
 obtain⟨w',Y,r1,r2⟩:=run_put w hk ht h I hy u
 unfold Oper.wp
 simp[execOp,W,J,hx,hv,Y,Result.andThen]
 exact F _ _ (z w' r1 r2)
theorem del1 (F:o.guard=none) (m x:Operand) (t k:TypeId) (I:o.op=Op.call { callee:=Callee.builtin Builtin.delete,args:=#[m,x],argTypes:=#[t,k] }) (e:TypeId) (hk:P.underlying k=some (.int .u64)) (W:P.underlying t=some (.map k e)) (b:Nat) (l:List (Int × β))
  (G:a.eval m=.map (some b)) (h:Mo P k E w b l) (y:Int) (Y:0<=y/\y<=18446744073709551615) (hx:a.eval x=.int .u64 y)
  (u:∀ w',Mo P k E w' b (wo l y)->w.grownBy w' (some b)->wpList P ops Q rest (a.put o.dst (.tuple #[])) w'):wpList P ops Q (o :: rest) a w:=by
 refine wpList_plain F fun K' z=>?_
 obtain⟨w',J,r1,r2⟩:=run_del w hk W h Y o.type
 unfold Oper.wp
 simp[execOp,I,resolve,invoke,builtin,G,hx,J,Result.andThen]
 exact z _ _ (u w' r1 r2)
structure Rg (P:Program) (k:TypeId) (E:Enc β) (w:World) (b r:Nat) (l left:List (Int × β)):Prop where
 rg:∃ D lf cnt,w.ranges P k E.R b r l.length D lf cnt/\Tel E D l /\ ∀ y,lf (.int .u64 y)=decide (y∈left.map Prod.fst)
 sub:∀ z∈left,z∈l
 nd:Nd l
 ndl:Nd left
theorem Rg.kept {w w':World} {b r:Nat} {l left:List (Int × β)} {row:Option Nat} (h:Rg P k E w b r l left) (I:w.grownBy w' row) (G:some b≠row) (J:some r≠row):Rg P k E w' b r l left:=by
 obtain⟨D,W,cnt,u,z,F⟩:=h.rg
 exact⟨⟨D,W,cnt,u.kept I G J,z,F⟩,h.sub,h.nd,h.ndl⟩
theorem Rg.left_kept {w w':World} {b r:Nat} {l left:List (Int × β)} {row:Option Nat} (h:Rg P k E w b r l left) (F:w.grownBy w' row) (z:some b≠row) (G:some r≠row):w'.rangeLeft b r=w.rangeLeft b r:=by
 obtain⟨D,W,cnt,u,I,J⟩:=h.rg
 rw[(u.kept F z G).left_eq,u.left_eq]
theorem range1 (J:o.guard=none) (m:Operand) (t:TypeId) (a0:o.op=Op.range t m) (k e:TypeId) (hk:P.underlying k=some (.int .u64)) (ht:P.underlying t=some (.map k e)) (b:Nat) (l:List (Int × β)) (W:a.eval m=.map (some b)) (h:Mo P k E w b l)
  (I:∀ w',Rg P k E w' b w.heap.size l l->w.grownBy w' none->w'.heap.size=w.heap.size+1->wpList P ops Q rest (a.put o.dst (.pointer (some ⟨w.heap.size,0,none⟩))) w'):wpList P ops Q (o :: rest) a w:=by
 obtain⟨⟨D,Y,u⟩,hn⟩:=h
 exact wpList_range_own w J m t a0 k e (int_keyed hk) ht E.R b l.length D W Y fun w' z F G=>I w' ⟨⟨D,_,_,z,u,u.has⟩,fun _ h=>h,hn,hn⟩ F G
theorem next1 (hg:o.guard=none) (it:Operand) (ad:o.op=Op.next it false) (k:TypeId) (hk:P.underlying k=some (.int .u64)) (b r:Nat) (l left:List (Int × β)) (hit:a.eval it=.pointer (some ⟨r,0,none⟩)) (h:Rg P k E w b r l left)
  (a5:left=[] -> wpList P ops Q rest (a.put o.dst (.tuple #[.bool false])) w)
  (a6:∀ y x w',(y,x)∈left->0<=y/\y<=18446744073709551615->Rg P k E w' b r l (wo left y)->w'.rangeLeft b r < w.rangeLeft b r->w.grownBy w' (some r)->w'.heap.size=w.heap.size ->
   (Instr.entry (.pointer (some ⟨r,0,none⟩))).run P w'=.ok (.tuple #[.int .u64 y,E.val x]) w'->wpList P ops Q rest (a.put o.dst (.tuple #[.bool true,.int .u64 y,E.val x])) w'):wpList P ops Q (o :: rest) a w:=by
 obtain⟨⟨D,lf,cnt,a1,hT,G⟩,a3,hn,ac⟩:=h
 refine wpList_next_ranges w hg it ad k (int_keyed hk) E.R (Value.int .u64) E.val (fun key kl F=>by obtain⟨x,rfl,_⟩:=Maps.keyOf_int_inv hk F; exact⟨x,rfl⟩) (fun v y hv=>by obtain⟨c,rfl,_⟩:=E.inv v y hv; exact⟨c,rfl⟩)
  b r l.length D lf cnt hit a1 (fun _ hl=>a5 ?_) (fun y x kl z w' ah F a0 hv a7 a2 aa a9 ae a8=>?_)
 .cases left with
  | nil=>rfl
  | cons a r=>have:=G a.1; rw[hl] at this; simp at this
 .obtain⟨y',u,rfl,af⟩:=Maps.keyOf_int_inv hk F
  injection u with _ u
  subst u
  rw[G,decide_eq_true_eq] at a0
  obtain⟨W,a4⟩:=mem_key.1 a0
  rw[E.mk_ x] at hv
  injection hv with hv
  have ag:W=x:=by
   have Y:=hT.hit y W (a3 _ a4) (.map [])
   rw[a7,<- hv] at Y
   exact (E.inj _ _ Y).symm
  subst ag
  have hy:0<=y/\y<=18446744073709551615:=by
   simp[Lit.wf,IntKind.min,IntKind.max,IntKind.signed,IntKind.bits] at af
   omega
  refine a6 y W w' a4 hy ⟨⟨D,_,_,a2,hT,fun q=>?_⟩,fun z hz=>a3 z (mem_wo.1 hz).1,hn,ac.wo y⟩ ?_ a9 ae a8
  .have e1:(Lit.int .u64 q).sameKey (.int .u64 y)=decide (q=y):=by simp[Lit.sameKey]
   rw[G,e1]
   by_cases hq:q=y
   .subst hq
    rw[decide_eq_false (wo_key (l:=left))]
    simp
   .rw[decide_eq_false hq]
    simp only[Bool.not_false,Bool.and_true]
    congr 1
    rw[mem_key,mem_key,eq_iff_iff]
    exact⟨fun ⟨J,I⟩=>⟨J,mem_wo.2 ⟨I,hq⟩⟩,fun ⟨J,I⟩=>⟨J,(mem_wo.1 I).1⟩⟩
  .rw[a2.left_eq,a1.left_eq]; exact aa
end ops
end Go.Proofs.YtoiklelghfckgaaGreatDoor.Mt
namespace Go.Proofs.YtoiklelghfckgaaGreatDoor.Le
open Go.ChangeShapes Go.WideShapes Go.ChangeAt Go.RowKit Go.Maps Rw Hi Mt
structure Ls where
 thread:Int
 since:Int
 flag:Bool
deriving DecidableEq
abbrev Z0:Ls:=⟨0,0,false⟩
abbrev eL:Enc Ls where
 val x:=.agg #[.int .i64 x.thread,.int .u64 x.since,.bool x.flag]
 dat x:=.agg [.lit (.int .i64 x.thread),.lit (.int .u64 x.since),.lit (.bool x.flag)]
 R v:=match v with
  | .agg ⟨[.int .i64 t,.int .u64 s,.bool f]⟩=>some (.agg [.lit (.int .i64 t),.lit (.int .u64 s),.lit (.bool f)],[])
  | _=>none
 mk_ x:=rfl
 inv v y h:=by
  split at h
  .rename_i t s f
   injection h with h
   exact⟨⟨t,s,f⟩,rfl,h.symm⟩
  .cases h
 inj x y h:=by
  injection h with h
  injection h with h1 h
  injection h with h2 h
  injection h with h3 h
  injection h1 with h1; injection h1 with _ h1
  injection h2 with h2; injection h2 with _ h2
  injection h3 with h3; injection h3 with h3
  cases x; cases y; simp_all
abbrev eB:Enc Bool where
 val:=.bool
 dat b:=.lit (.bool b)
 R v:=match v with
  | .bool b=>some (.lit (.bool b),[])
  | _=>none
 mk_ x:=rfl
 inv v y h:=by
  split at h
  .rename_i b
   injection h with h
   exact⟨b,rfl,h.symm⟩
  .cases h
 inj x y h:=by injection h with h; injection h
abbrev ML (w:World) (a:Nat) (L:List (Int × Ls)):Prop:=Mo Tryz.prog 25 eL w a L
abbrev MB (w:World) (a:Nat) (M:List (Int × Bool)):Prop:=Mo Tryz.prog 25 eB w a M
theorem zeroL (w:World):(zeroValue 121).run Tryz.prog w=.ok (eL.val Z0) w:=by kernel_rfl
theorem zeroB (w:World):(zeroValue 4).run Tryz.prog w=.ok (eB.val false) w:=by kernel_rfl
structure At where
 p:Nat
 a:Nat
 b:Nat
 q:Nat
 m:Nat
structure Bk (w:World) (x:At) (leak:Int) (L:List (Int × Ls)) (M:List (Int × Bool)) (T:List (Int × Int)):Prop where
 c0:w.cell? ⟨x.p,0,none⟩=some (.int .u64 leak)
 c1:w.cell? ⟨x.p,1,none⟩=some (.map (some x.a))
 c2:w.cell? ⟨x.p,2,none⟩=some (.map (some x.b))
 c3:w.cell? ⟨x.p,3,none⟩=some (.pointer (some ⟨x.q,0,none⟩))
 leases:ML w x.a L
 marks:MB w x.b M
 wheel:Wl.Wh w x.q x.m T
 ab:x.a≠x.b
 am:x.a≠x.m
 bm:x.b≠x.m
abbrev ptr (p:Nat):Value:=.pointer (some ⟨p,0,none⟩)
section
variable {w w':World} {x:At} {leak:Int} {L:List (Int × Ls)} {M:List (Int × Bool)} {T:List (Int × Int)}
theorem Bk.lt (h:Bk w x leak L M T):x.p < w.heap.size/\x.a < w.heap.size/\x.b < w.heap.size/\x.q < w.heap.size/\x.m < w.heap.size:=
 ⟨Lw.ltH h.c0,h.leases.lt,h.marks.lt,h.wheel.lt.1,h.wheel.lt.2⟩
theorem Bk.pa (h:Bk w x leak L M T):x.p≠x.a:=fun e=>h.leases.no_cell 0 _ (e ▸ h.c0)
theorem Bk.pb (h:Bk w x leak L M T):x.p≠x.b:=fun e=>h.marks.no_cell 0 _ (e ▸ h.c0)
theorem wh_no_cell {q m:Nat} (h:Wl.Wh w q m T) (o:Nat) (v:Value):w.cell? ⟨m,o,none⟩≠some v:=by
 obtain⟨D,⟨es,z,u,F⟩,G⟩:=h.own
 intro hc
 simp[World.cell?,u] at hc
theorem Bk.pm (h:Bk w x leak L M T):x.p≠x.m:=fun e=>wh_no_cell h.wheel 0 _ (e ▸ h.c0)
theorem Bk.qa (h:Bk w x leak L M T):x.q≠x.a:=fun e=>h.leases.no_cell 0 _ (e ▸ h.wheel.cell)
theorem Bk.qb (h:Bk w x leak L M T):x.q≠x.b:=fun e=>h.marks.no_cell 0 _ (e ▸ h.wheel.cell)
theorem Bk.same (h:Bk w x leak L M T) (u:w'.heap[x.p]? = w.heap[x.p]?) (ha:w'.heap[x.a]? = w.heap[x.a]?) (z:w'.heap[x.b]? = w.heap[x.b]?) (hq:w'.heap[x.q]? = w.heap[x.q]?) (F:w'.heap[x.m]? = w.heap[x.m]?):Bk w' x leak L M T:=
 ⟨(World.cell?_of_block u).trans h.c0,(World.cell?_of_block u).trans h.c1,(World.cell?_of_block u).trans h.c2,(World.cell?_of_block u).trans h.c3,h.leases.block ha,h.marks.block z,⟨(World.cell?_of_block hq).trans h.wheel.cell,h.wheel.own.block F,h.wheel.tms⟩,h.ab,h.am,h.bm⟩
theorem Bk.later (h:Bk w x leak L M T) (u:Below w.heap.size w w'):Bk w' x leak L M T:=by
 obtain⟨z,F,G,I,J⟩:=h.lt
 exact h.same (u.block _ z) (u.block _ F) (u.block _ G) (u.block _ I) (u.block _ J)
theorem Bk.turnL (h:Bk w x leak L M T) {z:List (Int × Ls)} (Y:w.grownBy w' (some x.a)) (W:ML w' x.a z):Bk w' x leak z M T:=by
 obtain⟨F,h2,G,I,J⟩:=h.lt
 have k:∀ g,g < w.heap.size->g≠x.a->w'.heap[g]? = w.heap[g]?:=fun g a0 a1=>Y.block g a0 (fun e=>a1 (by injection e))
 have u:=k _ F h.pa
 have hq:=k _ I h.qa
 exact⟨(World.cell?_of_block u).trans h.c0,(World.cell?_of_block u).trans h.c1,(World.cell?_of_block u).trans h.c2,(World.cell?_of_block u).trans h.c3,W,h.marks.block (k _ G h.ab.symm),⟨(World.cell?_of_block hq).trans h.wheel.cell,h.wheel.own.block (k _ J h.am.symm),h.wheel.tms⟩,h.ab,h.am,h.bm⟩
theorem Bk.turnM (h:Bk w x leak L M T) {z:List (Int × Bool)} (Y:w.grownBy w' (some x.b)) (W:MB w' x.b z):Bk w' x leak L z T:=by
 obtain⟨F,G,h3,I,J⟩:=h.lt
 have k:∀ g,g < w.heap.size->g≠x.b->w'.heap[g]? = w.heap[g]?:=fun g a0 a1=>Y.block g a0 (fun e=>a1 (by injection e))
 have u:=k _ F h.pb
 have hq:=k _ I h.qb
 exact⟨(World.cell?_of_block u).trans h.c0,(World.cell?_of_block u).trans h.c1,(World.cell?_of_block u).trans h.c2,(World.cell?_of_block u).trans h.c3,h.leases.block (k _ G h.ab),W,⟨(World.cell?_of_block hq).trans h.wheel.cell,h.wheel.own.block (k _ J h.bm.symm),h.wheel.tms⟩,h.ab,h.am,h.bm⟩
theorem Bk.turnT (h:Bk w x leak L M T) {z:List (Int × Int)} (W:w.grownBy w' (some x.m)) (J:Wl.Wh w' x.q x.m z):Bk w' x leak L M z:=by
 obtain⟨F,G,I,h4,h5⟩:=h.lt
 have k:∀ g,g < w.heap.size->g≠x.m->w'.heap[g]? = w.heap[g]?:=fun g Y a0=>W.block g Y (fun e=>a0 (by injection e))
 have u:=k _ F h.pm
 exact⟨(World.cell?_of_block u).trans h.c0,(World.cell?_of_block u).trans h.c1,(World.cell?_of_block u).trans h.c2,(World.cell?_of_block u).trans h.c3,h.leases.block (k _ G h.am),h.marks.block (k _ I h.bm),J,h.ab,h.am,h.bm⟩
theorem Bk.permL (h:Bk w x leak L M T) {u:List (Int × Ls)} (z:L.Perm u):Bk w x leak u M T:=⟨h.c0,h.c1,h.c2,h.c3,h.leases.perm z,h.marks,h.wheel,h.ab,h.am,h.bm⟩
theorem Bk.permM (h:Bk w x leak L M T) {u:List (Int × Bool)} (z:M.Perm u):Bk w x leak L u T:=⟨h.c0,h.c1,h.c2,h.c3,h.leases,h.marks.perm z,h.wheel,h.ab,h.am,h.bm⟩
end
abbrev U64 (k:Int):Prop:=0<=k/\k<=18446744073709551615
section
variable (w:World) {ops:Array Oper} {rest:List Oper} {o:Oper} {a:Act} {Q:Exit->Act->World->Prop}
theorem lookL (G:o.guard=none) (m x:Operand) (J:o.op=Op.lookup 125 m x true) (b:Nat) (L:List (Int × Ls)) (I:a.eval m=.map (some b)) (h:ML w b L) (y:Int) (W:U64 y) (hx:a.eval x=.int .u64 y)
  (t s:Int) (f u:Bool) (hq:(fnd L y).getD Z0=⟨t,s,f⟩) (F:(fnd L y).isSome=u)
  (z:wpList Tryz.prog ops Q rest (a.put o.dst (.tuple #[.agg #[.int .i64 t,.int .u64 s,.bool f],.bool u])) w):wpList Tryz.prog ops Q (o :: rest) a w:=by
 refine look2 w G m x 125 J 25 121 Tryz.underlying25 Tryz.underlying125 Z0 (zeroL w) b L I h y W hx ?_
 rw[hq,F]
 exact z
theorem lookL1 (z:o.guard=none) (m x:Operand) (G:o.op=Op.lookup 125 m x false) (b:Nat) (L:List (Int × Ls)) (F:a.eval m=.map (some b)) (h:ML w b L) (y:Int) (I:U64 y) (hx:a.eval x=.int .u64 y)
  (t s:Int) (f:Bool) (hq:(fnd L y).getD Z0=⟨t,s,f⟩)
  (u:wpList Tryz.prog ops Q rest (a.put o.dst (.agg #[.int .i64 t,.int .u64 s,.bool f])) w):wpList Tryz.prog ops Q (o :: rest) a w:=by
 refine look1 w z m x 125 G 25 121 Tryz.underlying25 Tryz.underlying125 Z0 (zeroL w) b L F h y I hx ?_
 rw[hq]
 exact u
end
section
variable (w:World) (x:At) (leak:Int) (L:List (Int × Ls)) (M:List (Int × Bool)) (T:List (Int × Int)) (id:Int)
theorem of_any (h:Bk w x leak L M T) (hid:U64 id) (t s:Int) (f u:Bool) (hq:(fnd L id).getD Z0=⟨t,s,f⟩) (z:(fnd L id).isSome=u) :
  Calls Tryz.prog 43 #[ptr x.p,.int .u64 id] w fun e w'=>e=.returned (.tuple #[.agg #[.int .i64 t,.int .u64 s,.bool f],.bool u])/\Below w.heap.size w w':=by
 have c1:=h.c1
 have H:=Lh h
 have G:=Lh hid
 have I:=Lh hq
 have F:=Lh z
 have J:=h.lt.1
 clear h hid hq z
 go_enter Tryz.func43,Tryz.ntmps43
 go_wp2_with (at_lookup; refine lookL _ rfl _ _ rfl x.a L rfl (H.out.leases.later ((Below.refl _ _).alloc (Nat.le_refl _) _)) id G.out rfl t s f u I.out F.out ?_)
 refine bodyPost_ret (v:=.tuple #[.agg #[.int .i64 t,.int .u64 s,.bool f],.bool u]) ?_ rfl ⟨rfl,?_⟩
 .simp[results,Tryz.results43,go_sem]
 .exact ((Below.refl _ _).alloc (Nat.le_refl _) _).alloc (by simp) _
theorem holder_any (h:Bk w x leak L M T) (hid:U64 id) (t s:Int) (f u:Bool) (hq:(fnd L id).getD Z0=⟨t,s,f⟩) (F:(fnd L id).isSome=u) :
  Calls Tryz.prog 14 #[ptr x.p,.int .u64 id] w fun e w'=>e=.returned (.tuple #[.int .i64 t,.bool u])/\Below w.heap.size w w':=by
 go_enter Tryz.func14,Tryz.ntmps14
 go_wp2_with fail
 refine (of_any w x leak L M T id h hid t s f u hq F).mono ?_
 rintro e G ⟨rfl,z⟩
 go_wp2_with fail
 go_ret2
 exact⟨rfl,z.alloc z.size _⟩
def holds (L:List (Int × Ls)) (id t:Int):Bool:=(fnd L id).isSome && ((fnd L id).getD Z0).thread == t
def wr (L:List (Int × Ls)) (id t:Int):Int:=if holds L id t=true then 0 else 5
theorem wrong_any (th:Int) (h:Bk w x leak L M T) (hid:U64 id) :
  Calls Tryz.prog 86 #[ptr x.p,.int .u64 id,.int .i64 th] w fun e w'=>e=.returned (.int .i64 (wr L id th))/\Below w.heap.size w w':=by
 obtain⟨⟨t,s,f⟩,hq⟩:∃ q,(fnd L id).getD Z0=q:=⟨_,rfl⟩
 obtain⟨G,F⟩:∃ b,(fnd L id).isSome=b:=⟨_,rfl⟩
 unfold wr holds
 rw[hq,F]
 have H:=Lh (holder_any w x leak L M T id h hid t s f G hq F)
 clear h hid hq F
 cases G
 .go_enter Tryz.func86,Tryz.ntmps86
  go_wp2_with fail
  refine H.out.mono ?_
  rintro e I ⟨rfl,u⟩
  go_wp2_with fail
  go_ret
  exact⟨rfl,u⟩
 .by_cases ht:t=th
  .subst ht
   have z:(if (true && t == t)=true then (0:Int) else 5)=0:=by simp
   rw[z]
   go_enter Tryz.func86,Tryz.ntmps86
   go_wp2_with fail
   refine H.out.mono ?_
   rintro e I ⟨rfl,u⟩
   go_wp2_with fail
   go_ret
   exact⟨rfl,u⟩
  .have J:(t != th)=true:=by simpa using ht
   have z:(if (true && t == th)=true then (0:Int) else 5)=5:=by simp[ht]
   rw[z]
   clear ht
   go_enter Tryz.func86,Tryz.ntmps86
   go_wp2_with fail
   refine H.out.mono ?_
   rintro e I ⟨rfl,u⟩
   go_wp2_with fail
   go_ret
   exact⟨rfl,u⟩
theorem fr_below {a b:Option Nat} {u z:World} (h:Below u.heap.size u z):Fr a b u z:=⟨h.os,h.tape,h.output,h.size,fun k hk _ _=>h.block k hk⟩
theorem fr_grown1 {a b:Option Nat} {u z:World} (h:u.grownBy z a):Fr a b u z:=Fr.of_grown h (.inr (.inl rfl))
theorem fr_grown2 {a b:Option Nat} {u z:World} (h:u.grownBy z b):Fr a b u z:=Fr.of_grown h (.inr (.inr rfl))
theorem Fr.tr {a b:Option Nat} {u z F:World} (h:Fr a b u z) (G:Fr a b z F):Fr a b u F:=h.then G (fun k e _=>.inl e.symm) (fun k e _=>.inr e.symm)
theorem end_no (th:Int) (h:Bk w x leak L M T) (hid:U64 id) (hw:holds L id th=false) :
  Calls Tryz.prog 267 #[ptr x.p,.int .u64 id,.int .i64 th] w fun e w'=>e=.returned (.int .i64 5)/\Below w.heap.size w w':=by
 have H:=Lh (wrong_any w x leak L M T id th h hid)
 have u:wr L id th=5:=by unfold wr; rw[hw]; rfl
 rw[u] at H
 clear h hid hw u
 go_enter Tryz.func267,Tryz.ntmps267
 go_wp2_with fail
 refine H.out.mono ?_
 rintro e F ⟨rfl,z⟩
 go_wp2_with fail
 go_ret
 exact⟨rfl,z⟩
theorem end_ok (th:Int) (h:Bk w x leak L M T) (hid:U64 id) (hw:holds L id th=true) :
  Calls Tryz.prog 267 #[ptr x.p,.int .u64 id,.int .i64 th] w fun e w'=>e=.returned (.int .i64 0)/\Bk w' x leak (wo L id) M (Wl.wo T id)/\Fr (some x.a) (some x.m) w w':=by
 have H:=Lh (wrong_any w x leak L M T id th h hid)
 have Y:wr L id th=0:=by unfold wr; rw[hw]; rfl
 rw[Y] at H
 have I:=Lh h
 have G:=Lh hid
 clear h hid hw Y
 go_enter Tryz.func267,Tryz.ntmps267
 go_wp2_with fail
 refine H.out.mono ?_
 rintro e w1 ⟨rfl,u⟩
 have k1:=I.out.later u
 have c1:=k1.c1
 have J:=Lh k1
 have a2:=Lh u
 clear k1 u I H
 go_wp2_with (at_delete; refine del1 _ rfl _ _ 125 25 rfl 121 Tryz.underlying25 Tryz.underlying125 x.a L rfl J.out.leases id G.out rfl ?_; intro w2 a0 z; have k2:=J.out.turnL z a0; have c3:=k2.c3; have W:=Lh k2; have a3:=Lh z; clear k2 a0 z)
 refine (Wl.disarm_any w2 x.q x.m T id W.out.wheel G.out).mono ?_
 rintro e w3 ⟨rfl,a1,F⟩
 have a5:=Lh (W.out.turnT F a1)
 have a4:=Lh F
 clear a1 F
 go_wp2_with fail
 go_ret
 exact⟨rfl,a5.out,Fr.tr (fr_below a2.out) (Fr.tr (fr_grown1 a3.out) (fr_grown2 a4.out))⟩
theorem mark_no (th:Int) (h:Bk w x leak L M T) (hid:U64 id) (hw:holds L id th=false) :
  Calls Tryz.prog 37 #[ptr x.p,.int .u64 id,.int .i64 th] w fun e w'=>e=.returned (.int .i64 5)/\Below w.heap.size w w':=by
 have H:=Lh (wrong_any w x leak L M T id th h hid)
 have u:wr L id th=5:=by unfold wr; rw[hw]; rfl
 rw[u] at H
 clear h hid hw u
 go_enter Tryz.func37,Tryz.ntmps37
 go_wp2_with fail
 refine H.out.mono ?_
 rintro e F ⟨rfl,z⟩
 go_wp2_with fail
 go_ret
 exact⟨rfl,z⟩
theorem mark_ok (th:Int) (h:Bk w x leak L M T) (hid:U64 id) (hw:holds L id th=true) (hM:M.length<=1000000) :
  Calls Tryz.prog 37 #[ptr x.p,.int .u64 id,.int .i64 th] w fun e w'=>e=.returned (.int .i64 0)/\Bk w' x leak L ((id,true) :: wo M id) T/\Fr (some x.b) none w w':=by
 have H:=Lh (wrong_any w x leak L M T id th h hid)
 have I:wr L id th=0:=by unfold wr; rw[hw]; rfl
 rw[I] at H
 have F:=Lh h
 have HI:=Lh hid
 clear h hid hw I
 go_enter Tryz.func37,Tryz.ntmps37
 go_wp2_with fail
 refine H.out.mono ?_
 rintro e w1 ⟨rfl,u⟩
 have k1:=F.out.later u
 have c2:=k1.c2
 have G:=Lh k1
 have W:=Lh u
 clear k1 u F H
 go_wp2_with (at_mapUpdate; refine put1 _ rfl _ _ _ 126 rfl 25 4 Tryz.underlying25 Tryz.underlying126 x.b M rfl G.out.marks (by omega) id HI.out rfl true rfl ?_; intro w2 J z; have a0:=Lh (G.out.turnM z J); have Y:=Lh z; clear J z)
 go_ret
 exact⟨rfl,a0.out,Fr.tr (fr_below W.out) (fr_grown1 Y.out)⟩
theorem forget_any (h:Bk w x leak L M T) (hid:U64 id) :
  Calls Tryz.prog 142 #[ptr x.p,.int .u64 id] w fun e w'=>e=.returned (.tuple #[])/\Bk w' x leak L (wo M id) T/\Fr (some x.b) none w w':=by
 have c2:=h.c2
 have z:=Lh h
 have I:=Lh hid
 clear h hid
 go_enter Tryz.func142,Tryz.ntmps142
 go_wp2_with (at_delete; refine del1 _ rfl _ _ 126 25 rfl 4 Tryz.underlying25 Tryz.underlying126 x.b M rfl z.out.marks id I.out rfl ?_; intro W F u; have J:=Lh (z.out.turnM u F); have G:=Lh u; clear F u)
 exact bodyPost_end (v:=.tuple #[]) (by simp[results,Tryz.results142]) rfl ⟨rfl,J.out,fr_grown1 G.out⟩
theorem marked_any (h:Bk w x leak L M T) (hid:U64 id) (u:Bool) (F:(fnd M id).getD false=u) :
  Calls Tryz.prog 230 #[ptr x.p,.int .u64 id] w fun e w'=>e=.returned (.bool u)/\w=w':=by
 have c2:=h.c2
 have z:=run_look1 (E:=eB) w Tryz.underlying25 Tryz.underlying126 false (zeroB w) h.marks hid
 rw[F] at z
 have G:(Instr.lookup 126 (.map (some x.b)) (.int .u64 id) false).run Tryz.prog w=.ok (.bool u) w:=z
 clear h hid F z
 go_enter Tryz.func230,Tryz.ntmps230
 go_wp2_with fail
 go_ret
 exact⟨by simp,rfl⟩
end
end Go.Proofs.YtoiklelghfckgaaGreatDoor.Le
namespace Go.Proofs.YtoiklelghfckgaaGreatDoor.Le
open Go.ChangeShapes Go.WideShapes Go.ChangeAt Go.RowKit Go.Maps Rw Hi Mt Ck
theorem new_any (w:World) (leak:Int) :
  Calls Tryz.prog 60 #[.int .u64 leak] w fun e w'=>∃ x,e=.returned (ptr x.p)/\Bk w' x leak [] [] [] /\ Below w.heap.size w w'/\w.heap.size<=x.p/\w.heap.size<=x.a/\w.heap.size<=x.b/\w.heap.size<=x.q/\w.heap.size<=x.m:=by
 have a3:=@run_makeMap Tryz.prog
 go_enter Tryz.func60,Tryz.ntmps60
 go_wp2_with fail
 refine (Wl.new_any _).mono ?_
 rintro e G ⟨rfl,F,u,z⟩
 have I:Below w.heap.size w ((w.alloc (.map #[] 0)).alloc (.map #[] 0)):=((Below.refl _ w).alloc (Nat.le_refl _) _).alloc (by simp) _
 simp at u z F
 have J:ML G w.heap.size []:=((Mo.made w Tryz.prog 25 eL).alloc _).below u (by omega)
 have W:MB G (w.heap.size+1) []:=by
  have h:=Mo.made (w.alloc (.map #[] 0)) Tryz.prog 25 eB
  simp at h
  exact h.below u (by omega)
 have HW:=Lh F
 have a0:=Lh J
 have a1:=Lh W
 have Y:=Lh (I.trans (u.mono (by omega)))
 have a2:=Lh z
 clear F J W I u z
 go_wp2_with fail
 go_ret
 have z:=a2.out
 refine⟨⟨G.heap.size,w.heap.size,w.heap.size+1,w.heap.size+3,w.heap.size+2⟩,rfl,⟨by go_simp,by go_simp,by go_simp,by go_simp,a0.out.alloc _,a1.out.alloc _,HW.out.later ((Below.refl _ _).alloc (Nat.le_refl _) _),by simp,by simp,by simp⟩,Y.out.alloc (by omega) _,by simp; omega,by simp,by simp,by simp,by simp⟩
section
variable (w:World) (x:At) (leak:Int) (L:List (Int × Ls)) (M:List (Int × Bool)) (T:List (Int × Int)) (id th now:Int)
theorem begin_range (h:Bk w x leak L M T) (u:th < 0\/8<=th) :
  Calls Tryz.prog 137 #[ptr x.p,.int .u64 id,.int .i64 th,.int .u64 now] w fun e w'=>e=.returned (.int .i64 2)/\w=w':=by
 by_cases h0:th < 0
 .have z:decide (th < 0)=true:=decide_eq_true h0
  clear h u h0
  go_enter Tryz.func137,Tryz.ntmps137
  go_wp2_with fail
  go_ret
  exact⟨rfl,rfl⟩
 .have z:decide (th < 0)=false:=decide_eq_false h0
  have F:decide (8<=th)=true:=decide_eq_true (by omega)
  clear h u h0
  go_enter Tryz.func137,Tryz.ntmps137
  go_wp2_with fail
  go_ret
  exact⟨rfl,rfl⟩
theorem begin_had (h:Bk w x leak L M T) (hid:U64 id) (J:0<=th) (W:th < 8) (u:(fnd L id).isSome=true) :
  Calls Tryz.prog 137 #[ptr x.p,.int .u64 id,.int .i64 th,.int .u64 now] w fun e w'=>e=.returned (.int .i64 10)/\Below w.heap.size w w':=by
 have Y:decide (th < 0)=false:=decide_eq_false (by omega)
 have q2:decide (8<=th)=false:=decide_eq_false (by omega)
 obtain⟨⟨t,s,f⟩,hq⟩:∃ q,(fnd L id).getD Z0=q:=⟨_,rfl⟩
 have c1:=h.c1
 have G:=Lh h
 have F:=Lh hid
 have I:=Lh hq
 have z:=Lh u
 clear h hid hq u J W
 go_enter Tryz.func137,Tryz.ntmps137
 go_wp2_with (at_lookup; refine lookL _ rfl _ _ rfl x.a L rfl G.out.leases id F.out rfl t s f true I.out z.out ?_)
 go_ret
 exact⟨rfl,(Below.refl _ _).alloc (Nat.le_refl _) _⟩
theorem begin_no_leak (h:Bk w x 0 L M T) (hid:U64 id) (h0:0<=th) (h8:th < 8) (J:(fnd L id).isSome=false) (hl:L.length < 1024) :
  Calls Tryz.prog 137 #[ptr x.p,.int .u64 id,.int .i64 th,.int .u64 now] w fun e w'=>e=.returned (.int .i64 0)/\Bk w' x 0 ((id,⟨th,now,false⟩) :: wo L id) M T/\Fr (some x.a) (some x.m) w w':=by
 have q1:decide (th < 0)=false:=decide_eq_false (by omega)
 have q2:decide (8<=th)=false:=decide_eq_false (by omega)
 obtain⟨⟨t,s,f⟩,hq⟩:∃ q,(fnd L id).getD Z0=q:=⟨_,rfl⟩
 have c1:=h.c1
 have a2:=h.lt.1
 have u:=Lh h
 have G:=Lh hid
 have HQ:=Lh hq
 have W:=Lh J
 have q3:decide ((1024:Int)<=(L.length:Int))=false:=decide_eq_false (by omega)
 have a1:∀ o,∀ F,(Builtin.len_ #[125] F #[.map (some x.a)]).run Tryz.prog (w.alloc o)=.ok (.int .i64 L.length) (w.alloc o):=fun o F=>run_len (E:=eL) _ Tryz.underlying125 (h.leases.alloc o) F
 clear h hid hq J h0 h8
 go_enter Tryz.func137,Tryz.ntmps137
 go_wp2_with (first
  | (at_lookup; refine lookL _ rfl _ _ rfl x.a L rfl u.out.leases id G.out rfl t s f false HQ.out W.out ?_)
  | (at_mapUpdate; refine put1 _ rfl _ _ _ 125 rfl 25 121 Tryz.underlying25 Tryz.underlying125 x.a L rfl (u.out.leases.alloc _) (by omega) id G.out rfl (⟨th,now,false⟩:Ls) rfl ?_; intro w2 I z; have k2:=(u.out.later ((Below.refl _ w).alloc (Nat.le_refl _) _)).turnL z I; have d0:=k2.c0; have a0:=Lh k2; have Y:=Lh z; clear k2 I z a1))
 go_ret
 exact⟨rfl,a0.out,Fr.tr (fr_below ((Below.refl _ w).alloc (Nat.le_refl _) _)) (fr_grown1 Y.out)⟩
theorem begin_leak (h:Bk w x leak L M T) (hid:U64 id) (a7:U64 now) (a5:U64 leak) (a6:leak≠0) (h0:0<=th) (h8:th < 8) (hb:(fnd L id).isSome=false) (hl:L.length < 1024) (hT:T.length<=1024) :
  Calls Tryz.prog 137 #[ptr x.p,.int .u64 id,.int .i64 th,.int .u64 now] w fun e w'=>e=.returned (.int .i64 0)/\Bk w' x leak ((id,⟨th,now,false⟩) :: wo L id) M (Wl.arm T id (cAdd now leak))/\Fr (some x.a) (some x.m) w w':=by
 have q1:decide (th < 0)=false:=decide_eq_false (by omega)
 have q2:decide (8<=th)=false:=decide_eq_false (by omega)
 obtain⟨⟨t,s,f⟩,hq⟩:∃ q,(fnd L id).getD Z0=q:=⟨_,rfl⟩
 have c1:=h.c1
 have ad:=h.lt.1
 have ae:=h.pm
 have W:=Lh h
 have J:=Lh hid
 have HN:=Lh a7
 have Y:=Lh a5
 have HQ:=Lh hq
 have HB:=Lh hb
 have q3:decide ((1024:Int)<=(L.length:Int))=false:=decide_eq_false (by omega)
 have q4:(leak != 0)=true:=by simpa using a6
 have ac:∀ o,∀ ty,(Builtin.len_ #[125] ty #[.map (some x.a)]).run Tryz.prog (w.alloc o)=.ok (.int .i64 L.length) (w.alloc o):=fun o ty=>run_len (E:=eL) _ Tryz.underlying125 (h.leases.alloc o) ty
 clear h hid a7 a5 a6 hq hb h0 h8
 go_enter Tryz.func137,Tryz.ntmps137
 go_wp2_with (first
  | (at_lookup; refine lookL _ rfl _ _ rfl x.a L rfl W.out.leases id J.out rfl t s f false HQ.out HB.out ?_)
  | (at_mapUpdate; refine put1 _ rfl _ _ _ 125 rfl 25 121 Tryz.underlying25 Tryz.underlying125 x.a L rfl (W.out.leases.alloc _) (by omega) id J.out rfl (⟨th,now,false⟩:Ls) rfl ?_; intro w2 a3 a0; have k2:=(W.out.later ((Below.refl _ w).alloc (Nat.le_refl _) _)).turnL a0 a3; have z:=k2.c0; have F:=k2.c3; have a2:=Lh k2; have a8:=Lh a0; clear k2 a3 a0 ac))
 refine rgS 12 (fun w'=>w'.cell? ⟨x.p,0,none⟩=some (.int .u64 leak)/\w'.cell? ⟨x.p,3,none⟩=some (.pointer (some ⟨x.q,0,none⟩))) (by kernel_rfl) (by kernel_rfl) ?_
 intro a4
 have G:=Lh a4
 clear a4
 refine rq 0 G.out ⟨z,F⟩ rfl ?_ (hv:=fun w' hw=>by (obtain⟨I,u⟩:=hw; go_simp; exact rfl))
 refine rq 1 G.out ⟨z,F⟩ rfl ?_ (hv:=fun w' hw=>by (obtain⟨I,u⟩:=hw; go_simp; exact rfl))
 refine rq 2 G.out ⟨z,F⟩ rfl ?_ (hv:=fun w' hw=>by (obtain⟨I,u⟩:=hw; go_simp; exact rfl))
 refine rq 3 G.out ⟨z,F⟩ rfl ?_ (hv:=fun w' hw=>by (obtain⟨I,u⟩:=hw; go_simp; exact rfl))
 refine rq 4 G.out ⟨z,F⟩ rfl ?_ (hv:=fun w' hw=>by (obtain⟨I,u⟩:=hw; go_simp; exact rfl))
 refine rq 5 G.out ⟨z,F⟩ rfl ?_ (hv:=fun w' hw=>by (obtain⟨I,u⟩:=hw; go_simp; exact rfl))
 refine rq 6 G.out ⟨z,F⟩ rfl ?_ (hv:=fun w' hw=>by (obtain⟨I,u⟩:=hw; go_simp; exact rfl))
 refine rq 7 G.out ⟨z,F⟩ rfl ?_ (hv:=fun w' hw=>by (obtain⟨I,u⟩:=hw; go_simp; exact rfl))
 refine rq 8 G.out ⟨z,F⟩ rfl ?_ (hv:=fun w' hw=>by (obtain⟨I,u⟩:=hw; go_simp; exact rfl))
 refine rq 9 G.out ⟨z,F⟩ rfl ?_ (hv:=fun w' hw=>by (obtain⟨I,u⟩:=hw; go_simp; exact rfl))
 refine rO 10 rfl (by kernel_rfl) rfl ?_
 unfold Oper.wp
 go_simp
 refine (Ck.add_any now leak _ HN.out.1 HN.out.2 Y.out.1 Y.out.2).mono ?_
 rintro e w3 ⟨rfl,rfl⟩
 refine⟨⟨z,F⟩,?_⟩
 refine rO 11 rfl (by kernel_rfl) rfl ?_
 unfold Oper.wp
 go_simp
 refine (Wl.arm_any w2.drew x.q x.m T id (cAdd now leak) (a2.out.wheel.later ((Below.refl _ _).drew)) J.out ⟨cAdd_lo _ _ HN.out.1 Y.out.1,cAdd_u _ _⟩ hT).mono ?_
 rintro e w3 ⟨rfl,u,a1⟩
 have k3:=(a2.out.later ((Below.refl _ _).drew)).turnT a1 u
 have aa:=Lh k3
 refine⟨⟨k3.c0,k3.c3⟩,?_⟩
 have a9:=Lh a1
 clear k3 u a1
 refine rgD (by kernel_rfl) ?_
 go_wp2_with fail
 go_ret
 exact⟨rfl,aa.out,Fr.tr (fr_below ((Below.refl _ w).alloc (Nat.le_refl _) _)) (Fr.tr (fr_grown1 a8.out) (Fr.tr (fr_below ((Below.refl _ _).drew)) (fr_grown2 a9.out)))⟩
end
def flg (L:List (Int × Ls)) (id:Int):List (Int × Ls):=(id,⟨((fnd L id).getD Z0).thread,((fnd L id).getD Z0).since,true⟩) :: wo L id
def flgs (L:List (Int × Ls)) (ids:List Int):List (Int × Ls):=ids.foldl flg L
theorem flg_len (L:List (Int × Ls)) (id:Int):(flg L id).length<=L.length+1:=by
 have:=wo_le L id
 simp[flg]; omega
theorem flgs_len (ids:List Int):∀ L:List (Int × Ls),(flgs L ids).length<=L.length+ids.length:=by
 induction ids with
 | nil=>intro L; simp[flgs]
 | cons y l ih=>intro L; have h:=ih (flg L y); have u:=flg_len L y; simp[flgs] at *; omega
theorem flgs_snoc (L:List (Int × Ls)) (ids:List Int) (y:Int):flgs L (ids ++ [y])=flg (flgs L ids) y:=by simp[flgs]
theorem leaks_any (w:World) (x:At) (leak:Int) (L:List (Int × Ls)) (M:List (Int × Bool)) (T:List (Int × Int)) (now:Int) (h:Bk w x leak L M T) (ao:U64 now) (hT:T.length<=1024) (hL:L.length<=1000000) :
  Calls Tryz.prog 246 #[ptr x.p,.int .u64 now] w fun e w'=>∃ (A:Option Addr) (c:Nat),e=.returned (.slice A (Wl.due T now).length c)/\w'.ownsRow w.heap.size 25 1 (.slice A (Wl.due T now).length c) (Wl.due T now).length (((Wl.due T now).map Prod.fst).map (Value.int .u64)) /\
   Bk w' x leak (flgs L ((Wl.due T now).map Prod.fst)) M (Wl.left T now)/\Fr (some x.a) (some x.m) w w':=by
 have c3:=h.c3
 obtain⟨aJ,aG,aH,aK,aI⟩:=h.lt
 have HK:=Lh h
 have HN:=Lh ao
 have ac:=h.wheel.tms
 have al:(Wl.due T now).length<=1024:=Nat.le_trans (by unfold Wl.due; exact List.length_filter_le _ _) hT
 have hu:∀ a∈Wl.due T now,U64 a.1:=fun a ha=>⟨(ac.ok a (Wl.mem_due.1 ha).1).1,(ac.ok a (Wl.mem_due.1 ha).1).2.1⟩
 have HU:=Lh hu
 clear h ao ac hu
 go_enter Tryz.func246,Tryz.ntmps246
 go_wp2_with fail
 refine (Wl.due_any w x.q x.m T now HK.out.wheel HN.out hT).mono ?_
 rintro e w1 ⟨A,c,rfl,z,av,Y⟩
 obtain⟨D,hD⟩:∃ D,Wl.due T now=D:=⟨_,rfl⟩
 rw[hD] at z al HU ⊢
 obtain⟨n,hn⟩:∃ n,D.length=n:=⟨_,rfl⟩
 rw[hn] at z al ⊢
 have a9:=Lh hn
 have HD:=Lh hD
 have af:=Lh (HK.out.turnT Y av)
 have ae:=Lh (show Fr (some x.a) (some x.m) w w1 from fr_grown2 Y)
 have HR:=Lh z
 have au:=Y.size
 clear z av Y hn hD
 go_wp2_with fail
 go_loopw [19] (fun ad wr=>∃ k:Nat,ad=.int .i64 k/\k<=n/\w.heap.size<=wr.heap.size/\Bk wr x leak (flgs L ((D.map Prod.fst).take k)) M (Wl.left T now)/\wr.ownsRow w.heap.size 25 1 (.slice A n c) n ((D.map Prod.fst).map (Value.int .u64))/\Hid (Fr (some x.a) (some x.m) w wr)) (fun ad _=>n - (intOf ad).toNat)
 case atStart=>exact⟨0,rfl,Nat.zero_le _,au,af.out,HR.out,ae.out⟩
 case round=>
  clear af ae HR au
  obtain⟨k,rfl,hk,aN,I,z,aa⟩:=hrel
  by_cases hkn:k < n
  .have qk:decide ((k:Int) < (n:Int))=true:=decide_eq_true (by omega)
   obtain⟨b,o,y,hA,aE,hy,aB⟩:=(Rd.own_rd z).get hkn
   subst hA
   have aw:U64 y:=by
    rw[List.getElem?_map] at hy
    obtain⟨a0,aA,rfl⟩:=Option.map_eq_some_iff.1 hy
    exact HU.out a0 (List.mem_of_getElem? aA)
   obtain⟨⟨t,s,f⟩,hq⟩:∃ q,(fnd (flgs L ((D.map Prod.fst).take k)) y).getD Z0=q:=⟨_,rfl⟩
   have k1:=I.c1
   have aC:=I.lt
   have a2:=Lh I
   have a7:=Lh z
   have HY:=Lh hy
   have ag:=Lh aw
   have HQ:=Lh hq
   have an:(flgs L ((D.map Prod.fst).take k)).length < 4611686018427387904:=by
    have:=flgs_len ((D.map Prod.fst).take k) L
    rw[List.length_take] at this
    omega
   obtain⟨aL,aM,-,-,-⟩:=aC
   have ay:=Lh an
   clear I z hy aw hq an
   go_wp2_with (at_lookup; refine lookL1 _ rfl _ _ rfl x.a _ rfl a2.out.leases y ag.out rfl t s f HQ.out ?_)
   obtain⟨u,a1⟩:∃ u,u=(wr.alloc (.cells #[.int .i64 t,.int .u64 s,.bool true] 121)):=⟨_,rfl⟩
   have z0:u.cell? ⟨wr.heap.size,0,none⟩=some (.int .i64 t):=by rw[a1]; go_simp
   have z1:u.cell? ⟨wr.heap.size,1,none⟩=some (.int .u64 s):=by rw[a1]; go_simp
   have z2:u.cell? ⟨wr.heap.size,2,none⟩=some (.bool true):=by rw[a1]; go_simp
   have F:Below wr.heap.size wr u:=by rw[a1]; exact (Below.refl _ wr).alloc (Nat.le_refl _) _
   have gz:wr.grownBy u none:=⟨F.os,F.tape,F.output,F.size,fun g Y _=>F.block g Y⟩
   have zk:=a2.out.later F
   have J:=zk.c1
   have ah:=Lh zk
   have ai:=Lh (a7.out.kept gz (Or.inr (by simp[Value.ownBlock])))
   have aD:=Lh gz
   have az:=Lh (Fr.tr aa.out (fr_below F:Fr (some x.a) (some x.m) wr u))
   have aO:=F.size
   rw[<- a1]
   clear a1 zk gz F aB aa a2 a7 k1
   refine rgS 6 (fun w'=>w'.cell? ⟨x.p,1,none⟩=some (.map (some x.a))/\w'.cell? ⟨wr.heap.size,0,none⟩=some (.int .i64 t)/\w'.cell? ⟨wr.heap.size,1,none⟩=some (.int .u64 s)/\w'.cell? ⟨wr.heap.size,2,none⟩=some (.bool true)) (by kernel_rfl) (by kernel_rfl) ?_
   intro ak
   have W:=Lh ak
   clear ak
   refine rq 0 W.out ⟨J,z0,z1,z2⟩ rfl ?_ (hv:=fun w' hw=>by (obtain⟨a3,a4,a5,a6⟩:=hw; go_simp; exact rfl))
   refine rq 1 W.out ⟨J,z0,z1,z2⟩ rfl ?_ (hv:=fun w' hw=>by (obtain⟨a3,a4,a5,a6⟩:=hw; go_simp; exact rfl))
   refine rq 2 W.out ⟨J,z0,z1,z2⟩ rfl ?_ (hv:=fun w' hw=>by (obtain⟨a3,a4,a5,a6⟩:=hw; go_simp; exact rfl))
   refine rq 3 W.out ⟨J,z0,z1,z2⟩ rfl ?_ (hv:=fun w' hw=>by (obtain⟨a3,a4,a5,a6⟩:=hw; go_simp; exact rfl))
   refine rq 4 W.out ⟨J,z0,z1,z2⟩ rfl ?_ (hv:=fun w' hw=>by (obtain⟨a3,a4,a5,a6⟩:=hw; go_simp; exact rfl))
   refine rq 5 W.out ⟨J,z0,z1,z2⟩ rfl ?_ (hv:=fun w' hw=>by (obtain⟨a3,a4,a5,a6⟩:=hw; go_simp; exact rfl))
   refine rO 6 rfl (by kernel_rfl) rfl ?_
   unfold Oper.wp
   go_simp
   obtain⟨w3,aq,aj,G⟩:=run_put (E:=eL) u.drew Tryz.underlying25 Tryz.underlying125 (ah.out.later ((Below.refl _ _).drew)).leases ay.out ag.out (⟨t,s,true⟩:Ls)
   have ar:(Instr.mapUpdate 125 (.map (some x.a)) (.int .u64 y) (.agg #[.int .i64 t,.int .u64 s,.bool true])).run Tryz.prog u.drew=.ok () w3:=aq
   rw[ar]
   go_simp
   refine rgD (by kernel_rfl) ?_
   have k3:=(ah.out.later ((Below.refl _ _).drew)).turnL G aj
   have ax:=Lh k3
   have a8:=Lh G
   have aF:u.grownBy w3 (some x.a):=⟨G.os,G.tape.trans rfl,G.output,G.size,G.block⟩
   clear aq ar aj G k3 z0 z1 z2 J
   go_wp2_with fail
   go_roundw
   case rel=>
    refine⟨k+1,by go_num,by omega,?_,?_,?_,?_⟩
    .have:=a8.out.size; simp at this; omega
    .have e1:(D.map Prod.fst).take (k+1)=(D.map Prod.fst).take k ++ [y]:=by
      obtain⟨hj,e⟩:=List.getElem?_eq_some_iff.1 HY.out
      rw[List.take_succ_eq_append_getElem hj,e]
     rw[e1,flgs_snoc]
     unfold flg
     rw[HQ.out]
     exact ax.out
    .exact (show u.drew.ownsRow _ _ _ _ _ _ from ai.out).kept a8.out (Or.inr (fun e=>by have:=(ai.out.lt _ e).1; omega))
    .exact Fr.tr az.out (Fr.tr (fr_below ((Below.refl _ u).drew)) (fr_grown1 a8.out))
   case measure=>simp[intOf]; omega
  .have qk:decide ((k:Int) < (n:Int))=false:=decide_eq_false (by omega)
   obtain rfl:k=n:=by omega
   have e1:(D.map Prod.fst).take k=D.map Prod.fst:=by rw[List.take_of_length_le]; simp[a9.out]
   rw[e1] at I
   have a2:=Lh I
   have a7:=Lh z
   clear I z
   go_wp2_with fail
   go_ret
   exact⟨A,c,by rw[HD.out,a9.out]; rfl,by rw[HD.out,a9.out]; exact a7.out,by rw[HD.out]; exact a2.out,aa.out⟩
end Go.Proofs.YtoiklelghfckgaaGreatDoor.Le
end
section
set_option linter.unusedVariables false
namespace Go.Proofs.YtoiklelghfckgaaGreatDoor.Le
open Go.ChangeShapes Go.WideShapes Go.ChangeAt Go.RowKit Go.Maps Rw Hi Mt Ck
theorem arm_room' {T:List (Int × Int)} {x t:Int} (h:T.length<=1000) (z:t<=1152921504606846976):Wl.arm T x t=Wl.ins (x,t) (Wl.wo T x):=by
 have u:Wl.full T x=false:=decide_eq_false (by have:=Wl.wo_len T x; omega)
 unfold Wl.arm Wl.cut
 rw[u,if_pos z]; rfl
def cnt (L:List (Int × Ls)) (t:Nat):Nat:=(L.filter (fun a=>decide (a.2.thread < (t:Int)))).length
def Sd (D:List (Int × Ls)):Prop:=D.Pairwise (fun a b=>a.1 < b.1)
theorem Sd.nd {D:List (Int × Ls)} (h:Sd D):Nd D:=by
 unfold Nd List.Nodup
 rw[List.pairwise_map]
 exact List.Pairwise.imp (fun u=>Int.ne_of_lt u) h
theorem Sd.rest {D:List (Int × Ls)} (h:Sd D) {k:Nat} {id:Int} (hk:∀ a,D[k]? = some a->id < a.1):∀ a∈D.drop k,id < a.1:=by
 intro a ha
 obtain⟨j,z,rfl⟩:=List.mem_iff_getElem.1 ha
 rw[List.getElem_drop]
 rw[List.length_drop] at z
 have u:=hk _ (List.getElem?_eq_getElem (show k < D.length by omega))
 rcases Nat.eq_zero_or_pos j with e | e
 .subst e; exact u
 .have:=List.pairwise_iff_getElem.1 h k (k+j) (by omega) (by omega) (by omega)
  exact Int.lt_trans u this
theorem Sd.put {D:List (Int × Ls)} (h:Sd D) {k:Nat} {id:Int} (x:Ls) (F:∀ a∈D.take k,a.1 < id) (z:∀ a∈D.drop k,id < a.1):Sd (D.take k ++ (id,x) :: D.drop k):=by
 refine List.pairwise_append.2 ⟨h.sublist (List.take_sublist _ _),List.pairwise_cons.2 ⟨z,h.sublist (List.drop_sublist _ _)⟩,fun a ha b u=>?_⟩
 rcases List.mem_cons.1 u with rfl | u
 .exact F a ha
 .exact Int.lt_trans (F a ha) (z b u)
theorem put_perm (D:List (Int × Ls)) (k:Nat) (a:Int × Ls):(a :: D).Perm (D.take k ++ a :: D.drop k):=by
 have h:(D.take k ++ a :: D.drop k).Perm (a :: (D.take k ++ D.drop k)):=List.perm_middle
 rw[List.take_append_drop] at h
 exact h.symm
def mk (M:List Int):List (Int × Bool):=M.map (fun i=>(i,true))
theorem mk_keys (M:List Int):(mk M).map Prod.fst=M:=by unfold mk; rw[List.map_map]; exact (List.map_congr_left fun a _=>rfl).trans (List.map_id _)
theorem mk_len (M:List Int):(mk M).length=M.length:=by unfold mk; rw[List.length_map]
theorem mk_wo (M:List Int) (id:Int):Mt.wo (mk M) id=mk (M.filter (· != id)):=by
 unfold Mt.wo mk
 rw[List.filter_map]; rfl
theorem mk_put (M:List Int) (id:Int):((id,true) :: Mt.wo (mk M) id).Perm (mk (M.filter (· != id) ++ [id])):=by
 rw[mk_wo]
 unfold mk
 rw[List.map_append]
 exact (List.perm_append_singleton _ _).symm
theorem mk_fnd (M:List Int) (id:Int):(fnd (mk M) id).getD false=decide (id∈M):=by
 have h:=fnd_is (l:=mk M) (k:=id)
 rw[mk_keys] at h
 cases hf:fnd (mk M) id with
 | none=>rw[hf] at h; exact h
 | some b=>
  rw[hf] at h
  have u:=fnd_some hf
  obtain⟨i,_,e⟩:=List.mem_map.1 u
  injection e with _ e2
  rw[<- e2,<- h]; rfl
def bE (D:List (Int × Ls)) (id th:Int):Int:=if th < 0\/8<=th then 2 else if (fnd D id).isSome=true then 10 else 0
def bL (D:List (Int × Ls)) (id th now:Int):List (Int × Ls):=if bE D id th=0 then (id,⟨th,now,false⟩) :: D else D
def bT (leak:Int) (D:List (Int × Ls)) (T:List (Int × Int)) (id th now:Int):List (Int × Int):=if bE D id th=0/\leak≠0 then Wl.arm T id (cAdd now leak) else T
theorem arm_put {T:List (Int × Int)} {id now leak:Int} (h:T.length<=1000):Wl.arm T id (cAdd now leak)=Wl.ins (id,cAdd now leak) (Wl.wo T id):=arm_room' h (cAdd_hi _ _)
theorem bL_len (D:List (Int × Ls)) (id th now:Int):(bL D id th now).length<=D.length+1:=by unfold bL; split <;> simp
theorem bT_len (leak:Int) (D:List (Int × Ls)) {T:List (Int × Int)} (id th now:Int) (h:T.length<=1000):(bT leak D T id th now).length<=T.length+1:=by
 unfold bT; split
 .rw[arm_put h]
  have z:=Wl.wo_len T id
  have u:∀ (a:Int × Int) (l:List (Int × Int)),(Wl.ins a l).length=l.length+1:=fun a l=>Wl.ins_len a l
  rw[u]; omega
 .omega
section
variable (w:World) (x:At) (leak:Int) (D:List (Int × Ls)) (M:List Int) (T:List (Int × Int)) (id th now:Int)
theorem beginU (h:Bk w x leak D (mk M) T) (hid:U64 id) (Q:U64 now) (I:U64 leak) (Y:D.length<=1000) (W:T.length<=1000) :
  Calls Tryz.prog 137 #[ptr x.p,.int .u64 id,.int .i64 th,.int .u64 now] w fun e w'=>e=.returned (.int .i64 (bE D id th))/\Bk w' x leak (bL D id th now) (mk M) (bT leak D T id th now)/\Fr (some x.a) (some x.m) w w':=by
 by_cases z:th < 0\/8<=th
 .have e:bE D id th=2:=by unfold bE; rw[if_pos z]
  have eL:bL D id th now=D:=by unfold bL; rw[e,if_neg (by decide)]
  have F:bT leak D T id th now=T:=by unfold bT; rw[e,if_neg (fun h=>absurd h.1 (by decide))]
  rw[e,eL,F]
  refine (begin_range w x leak D (mk M) T id th now h z).mono ?_
  rintro e w' ⟨rfl,rfl⟩
  exact⟨rfl,h,fr_below (Below.refl _ _)⟩
 .cases u:(fnd D id).isSome with
  | true=>
   have e:bE D id th=10:=by unfold bE; rw[if_neg z,if_pos u]
   have eL:bL D id th now=D:=by unfold bL; rw[e,if_neg (by decide)]
   have F:bT leak D T id th now=T:=by unfold bT; rw[e,if_neg (fun h=>absurd h.1 (by decide))]
   rw[e,eL,F]
   refine (begin_had w x leak D (mk M) T id th now h hid (by omega) (by omega) u).mono ?_
   rintro e w' ⟨rfl,u⟩
   exact⟨rfl,h.later u,fr_below u⟩
  | false=>
   have e:bE D id th=0:=by unfold bE; rw[if_neg z,if_neg (by rw[u]; decide)]
   have hw:Mt.wo D id=D:=wo_none (fun J=>by
    have:=fnd_is (l:=D) (k:=id)
    rw[u,decide_eq_true J] at this; cases this)
   have eL:bL D id th now=(id,⟨th,now,false⟩) :: Mt.wo D id:=by unfold bL; rw[if_pos e,hw]
   rw[e,eL]
   by_cases h0:leak=0
   .subst h0
    have F:bT 0 D T id th now=T:=by unfold bT; rw[if_neg (fun h=>absurd rfl h.2)]
    rw[F]
    refine (begin_no_leak w x D (mk M) T id th now h hid (by omega) (by omega) u (by omega)).mono ?_
    rintro e w' ⟨rfl,z,G⟩
    exact⟨rfl,z,G⟩
   .have F:bT leak D T id th now=Wl.arm T id (cAdd now leak):=by unfold bT; rw[if_pos ⟨e,h0⟩]
    rw[F]
    refine (begin_leak w x leak D (mk M) T id th now h hid Q I h0 (by omega) (by omega) u (by omega) (by omega)).mono ?_
    rintro e w' ⟨rfl,z,G⟩
    exact⟨rfl,z,G⟩
theorem endU (h:Bk w x leak D (mk M) T) (hid:U64 id) :
  Calls Tryz.prog 267 #[ptr x.p,.int .u64 id,.int .i64 th] w fun e w'=>e=.returned (.int .i64 (wr D id th))/\Bk w' x leak (if holds D id th=true then Mt.wo D id else D) (mk M) (if holds D id th=true then Wl.wo T id else T)/\Fr (some x.a) (some x.m) w w':=by
 cases hh:holds D id th with
 | true=>
  have e:wr D id th=0:=by unfold wr; rw[if_pos hh]
  rw[e,if_pos rfl,if_pos rfl]
  exact end_ok w x leak D (mk M) T id th h hid hh
 | false=>
  have e:wr D id th=5:=by unfold wr; rw[if_neg (by rw[hh]; decide)]
  rw[e,if_neg (by decide),if_neg (by decide)]
  refine (end_no w x leak D (mk M) T id th h hid hh).mono ?_
  rintro e w' ⟨rfl,u⟩
  exact⟨rfl,h.later u,fr_below u⟩
theorem markU (h:Bk w x leak D (mk M) T) (hid:U64 id) (G:M.length<=1000) :
  Calls Tryz.prog 37 #[ptr x.p,.int .u64 id,.int .i64 th] w fun e w'=>e=.returned (.int .i64 (wr D id th))/\Bk w' x leak D (mk (if holds D id th=true then M.filter (· != id) ++ [id] else M)) T/\Fr (some x.b) none w w':=by
 cases hh:holds D id th with
 | true=>
  have e:wr D id th=0:=by unfold wr; rw[if_pos hh]
  rw[e,if_pos rfl]
  refine (mark_ok w x leak D (mk M) T id th h hid hh (by rw[mk_len]; omega)).mono ?_
  rintro e w' ⟨rfl,z,F⟩
  exact⟨rfl,z.permM (mk_put M id),F⟩
 | false=>
  have e:wr D id th=5:=by unfold wr; rw[if_neg (by rw[hh]; decide)]
  rw[e,if_neg (by decide)]
  refine (mark_no w x leak D (mk M) T id th h hid hh).mono ?_
  rintro e w' ⟨rfl,u⟩
  exact⟨rfl,h.later u,fr_below u⟩
theorem forgetU (h:Bk w x leak D (mk M) T) (hid:U64 id) :
  Calls Tryz.prog 142 #[ptr x.p,.int .u64 id] w fun e w'=>e=.returned (.tuple #[])/\Bk w' x leak D (mk (M.filter (· != id))) T/\Fr (some x.b) none w w':=by
 have:=forget_any w x leak D (mk M) T id h hid
 rw[mk_wo] at this
 exact this
end
end Go.Proofs.YtoiklelghfckgaaGreatDoor.Le
end
section
set_option maxRecDepth 100000
set_option maxHeartbeats 8000000
set_option linter.unusedVariables false
namespace Go.Proofs.YtoiklelghfckgaaGreatDoor.Le
open Go.ChangeShapes Go.WideShapes Go.ChangeAt Go.RowKit Go.Maps Rw Hi Mt
def enc4 (a:Int × Ls):List Value:=[.int .u64 a.1,.int .i64 a.2.thread,.int .u64 a.2.since,.bool a.2.flag]
theorem enc4_len (a:Int × Ls):(enc4 a).length=4:=rfl
theorem enc4_one (y:Int × Ls):∀ u∈enc4 y,u.oneCell'=true:=by intro u h; simp[enc4] at h; rcases h with rfl | rfl | rfl | rfl <;> rfl
theorem info_lease:(Tryz.prog.info? 266).map (fun i=>(i.zero,i.size,i.bytes))=some (some (.agg #[.int .u64 0,.int .i64 0,.int .u64 0,.bool false]),4,32):=by kernel_rfl
abbrev Rl (w:World) (B:Nat) (A:Option Addr) (n c:Nat) (l:List (Int × Ls)):Prop:=Rs enc4 4 w B A n c l
theorem four_at {w:World} {B:Nat} {A:Option Addr} {n c:Nat} {l:List (Int × Ls)} (h:Rl w B A n c l) {k:Nat} (hk:k < n) :
  ∃ b o x t s f,A=some ⟨b,o,none⟩/\b < B/\l[k]? = some (x,⟨t,s,f⟩)/\w.cell? ⟨b,o+k * 4,none⟩=some (.int .u64 x)/\w.cell? ⟨b,o+k * 4+1,none⟩=some (.int .i64 t)/\w.cell? ⟨b,o+k * 4+2,none⟩=some (.int .u64 s)/\w.cell? ⟨b,o+k * 4+3,none⟩=some (.bool f):=by
 obtain⟨b,o,⟨x,t,s,f⟩,hA,u,hx,hc⟩:=h.get hk
 exact⟨b,o,x,t,s,f,hA,u,hx,hc 0 _ (by omega) rfl,hc 1 _ (by omega) rfl,hc 2 _ (by omega) rfl,hc 3 _ (by omega) rfl⟩
def fx (D:List (Int × Ls)) (id:Int):Int:=match D.findIdx? (fun a=>a.1 == id) with
 | some i=>(i:Int)
 | none=>-1
theorem fx_hit {D:List (Int × Ls)} {id:Int} {k:Nat} {y:Ls} (h:∀ a∈D.take k,a.1≠id) (hk:D[k]? = some (id,y)):fx D id=k:=by
 have:D.findIdx? (fun a=>a.1 == id)=some k:=by
  obtain⟨u,e⟩:=List.getElem?_eq_some_iff.1 hk
  rw[List.findIdx?_eq_some_iff_getElem]
  refine⟨u,by rw[e]; simp,fun j z=>?_⟩
  have:=h D[j] (List.mem_take_iff_getElem.2 ⟨j,by omega,rfl⟩)
  simpa using this
 unfold fx; rw[this]
theorem fx_miss {D:List (Int × Ls)} {id:Int} (h:∀ a∈D,a.1≠id):fx D id = -1:=by
 have:D.findIdx? (fun a=>a.1 == id)=none:=by
  rw[List.findIdx?_eq_none_iff]
  intro a ha
  simpa using h a ha
 unfold fx; rw[this]
theorem take_ne {D:List (Int × Ls)} {id:Int} {k:Nat} {a:Int × Ls} (h:∀ a∈D.take k,a.1≠id) (hk:D[k]? = some a) (F:a.1≠id):∀ a∈D.take (k+1),a.1≠id:=by
 obtain⟨z,rfl⟩:=List.getElem?_eq_some_iff.1 hk
 intro b u
 rw[List.take_succ_eq_append_getElem z] at u
 rcases List.mem_append.1 u with u | u
 .exact h b u
 .rw[List.mem_singleton.1 u]; exact F
theorem fx_cases (D:List (Int × Ls)) (id:Int):(fnd D id=none/\fx D id = -1) \/ ∃ (k:Nat) (y:Ls),D[k]? = some (id,y)/\(∀ a∈D.take k,a.1≠id)/\fx D id=k/\fnd D id=some y:=by
 by_cases h:∀ a∈D,a.1≠id
 .refine .inl ⟨?_,fx_miss h⟩
  refine fnd_none fun I=>?_
  obtain⟨a,ha,e⟩:=List.mem_map.1 I
  exact h a ha e
 .cases hf:D.findIdx? (fun a=>a.1 == id) with
  | none=>
   rw[List.findIdx?_eq_none_iff] at hf
   exact absurd (fun a ha=>by simpa using hf a ha) h
  | some k=>
   rw[List.findIdx?_eq_some_iff_getElem] at hf
   obtain⟨F,u,z⟩:=hf
   refine .inr ⟨k,D[k].2,?_,fun a ha=>?_,?_,?_⟩
   .rw[List.getElem?_eq_getElem F]
    have:D[k].1=id:=by simpa using u
    rw[<- this]
   .obtain⟨j,G,rfl⟩:=List.mem_take_iff_getElem.1 ha
    have:=z j (by omega)
    simpa using this
   .unfold fx
    rw[List.findIdx?_eq_some_iff_getElem.2 ⟨F,u,z⟩]
   .unfold fnd
    have J:D.find? (fun a=>a.1 == id)=some D[k]:=List.find?_eq_some_iff_getElem.2 ⟨u,k,F,rfl,fun j G=>by simpa using z j G⟩
    rw[J]; rfl
section
variable (leak:Int) (A A2 A3:Option Addr) (n c n2 c2 n3 c3 B:Nat) (D:List (Int × Ls)) (w:World)
theorem rfind_any (id:Int) (h:Rl w B A n c D) (hB:B<=w.heap.size) (hn:n<=100000) :
  Calls Tryz.prog 183 #[.agg #[.int .u64 leak,.slice A n c,.slice A2 n2 c2,.slice A3 n3 c3],.int .u64 id] w fun e w'=>e=.returned (.int .i64 (fx D id))/\Below w.heap.size w w':=by
 have Y:=Lh h
 have Q:=Lh h.len
 have b0:=Lh ((Below.refl w.heap.size w).alloc (Nat.le_refl _) (.cells #[.int .u64 leak,.slice A n c,.slice A2 n2 c2,.slice A3 n3 c3] 38))
 clear h
 go_enter Tryz.func183,Tryz.ntmps183
 go_wp2_with fail
 go_loopw [5,6,10] (fun s5 s6 i wr=>∃ k:Nat,k<=n/\i=.int .i64 k/\Hid (∀ a∈D.take k,a.1≠id)/\Below w.heap.size w wr) (fun _ _ i _=>n - (intOf i).toNat)
 case atStart=>exact⟨0,Nat.zero_le _,rfl,Lh (fun a ha=>by simp at ha),b0.out⟩
 case round=>
  obtain⟨k,hk,rfl,F,u⟩:=hrel
  by_cases hlt:k < n
  .obtain⟨b,o,x,t,s,f,rfl,hb,ha,c0,c1,c2,c3⟩:=four_at Y.out hlt
   have d0:=(u.cell (p:=⟨b,o+k * 4,none⟩) (by simp only; omega)).trans c0
   have d1:=(u.cell (p:=⟨b,o+k * 4+1,none⟩) (by simp only; omega)).trans c1
   have d2:=(u.cell (p:=⟨b,o+k * 4+2,none⟩) (by simp only; omega)).trans c2
   have d3:=(u.cell (p:=⟨b,o+k * 4+3,none⟩) (by simp only; omega)).trans c3
   have G:=Lh ha
   have a0:=u.size
   have I:=Lh (u.alloc a0 (.cells #[.int .u64 x,.int .i64 t,.int .u64 s,.bool f] 266))
   clear c0 c1 c2 c3 ha u
   by_cases hx:x=id
   .subst hx
    have z:=Lh (fx_hit F.out G.out)
    go_wp2_with fail
    go_ret
    exact⟨by rw[z.out]; rfl,I.out⟩
   .have e1:(x == id)=false:=by simpa using hx
    have W:=Lh (take_ne F.out G.out hx)
    clear hx
    go_wp2_with fail
    go_roundw
    case rel=>exact⟨k+1,by omega,by go_num,W,I.out⟩
    case measure=>simp[intOf]; omega
  .have z:Hid (fx D id = -1):=Lh (fx_miss (by
    have J:=F.out
    rw[List.take_of_length_le (by have:=Q.out; omega)] at J
    exact J))
   go_wp2_with fail
   go_ret
   exact⟨by rw[z.out]; rfl,u⟩
theorem info_u64':(Tryz.prog.info? 25).map (fun i=>(i.zero,i.size,i.bytes))=some (some (.int .u64 0),1,8):=by kernel_rfl
end
end Go.Proofs.YtoiklelghfckgaaGreatDoor.Le
namespace Go.Proofs.YtoiklelghfckgaaGreatDoor.Wl
open Go.ChangeShapes Go.WideShapes Go.ChangeAt Go.RowKit Go.Maps Rw Sl Sn Ck
def enc2 (a:Int × Int):List Value:=[.int .u64 a.1,.int .u64 a.2]
theorem e2l (a:Int × Int):(enc2 a).length=2:=rfl
theorem enc2_one (y:Int × Int):∀ u∈enc2 y,u.oneCell'=true:=by intro u h; simp[enc2] at h; rcases h with rfl | rfl <;> rfl
theorem info_timer:(Tryz.prog.info? 287).map (fun i=>(i.zero,i.size,i.bytes))=some (some (.agg #[.int .u64 0,.int .u64 0]),2,16):=by kernel_rfl
abbrev Tr (w:World) (B:Nat) (A:Option Addr) (n c:Nat) (l:List (Int × Int)):Prop:=Rs enc2 2 w B A n c l
theorem Rs.two {w:World} {B:Nat} {A:Option Addr} {n c:Nat} {l:List (Int × Int)} (h:Tr w B A n c l) {k:Nat} (hk:k < n) :
  ∃ b o x,A=some ⟨b,o,none⟩/\b < B/\l[k]? = some x/\w.cell? ⟨b,o+k * 2,none⟩=some (.int .u64 x.1)/\w.cell? ⟨b,o+k * 2+1,none⟩=some (.int .u64 x.2):=by
 obtain⟨b,o,x,hA,u,hx,hc⟩:=h.get hk
 exact⟨b,o,x,hA,u,hx,by simpa using hc 0 (.int .u64 x.1) (by omega) rfl,hc 1 (.int .u64 x.2) (by omega) rfl⟩
theorem wo_snoc_hit {l:List (Int × Int)} {k:Nat} {a:Int × Int} {key:Int} (h:l[k]? = some a) (u:a.1=key):wo (l.take (k+1)) key=wo (l.take k) key:=by
 rw[List.take_add_one,h]; simp[wo,u]
theorem wo_snoc_miss {l:List (Int × Int)} {k:Nat} {a:Int × Int} {key:Int} (h:l[k]? = some a) (u:a.1≠key):wo (l.take (k+1)) key=wo (l.take k) key ++ [a]:=by
 rw[List.take_add_one,h]; simp[wo,u]
theorem key_snoc {l:List (Int × Int)} {k:Nat} {a:Int × Int} {key:Int} (h:l[k]? = some a):decide (key∈(l.take (k+1)).map Prod.fst)=(decide (key∈(l.take k).map Prod.fst) || decide (a.1=key)):=by
 rw[List.take_add_one,h,Bool.eq_iff_iff,Bool.or_eq_true,decide_eq_true_eq,decide_eq_true_eq,decide_eq_true_eq]
 simp
 constructor
 .rintro (h | h)
  .exact .inl h
  .exact .inr h.symm
 .rintro (h | h)
  .exact .inl h
  .exact .inr h.symm
theorem twithout_any (A:Option Addr) (n c B:Nat) (l:List (Int × Int)) (key:Int) (w:World) (h:Tr w B A n c l) (hB:B<=w.heap.size) (hn:n<=100000) :
  Calls Tryz.prog 208 #[.slice A n c,.int .u64 key] w fun e w'=>∃ A' u,e=.returned (.tuple #[.slice A' (wo l key).length u,.bool (decide (key∈l.map Prod.fst))]) /\
   w'.ownsRow w.heap.size 287 2 (.slice A' (wo l key).length u) (wo l key).length (flat enc2 (wo l key))/\Below w.heap.size w w':=by
 obtain⟨i0,hi,ai,aj,ak⟩:=info_parts info_timer
 have HR:=Lh h
 have ad:=Lh h.len
 clear h
 go_enter Tryz.func208,Tryz.ntmps208
 go_wp2_with fail
 go_loopw [6,7,12] (fun v b i wr=>∃ (k q u:Nat) (A':Option Addr),k<=n/\i=.int .i64 k/\b=.bool (decide (key∈(l.take k).map Prod.fst))/\v=.slice A' q u/\q<=k/\q=(wo (l.take k) key).length /\
   wr.ownsRow w.heap.size 287 2 (.slice A' q u) q (flat enc2 (wo (l.take k) key))/\Below w.heap.size w wr) (fun _ _ i _=>n - (intOf i).toNat)
 case atStart=>exact⟨0,0,0,none,Nat.zero_le _,rfl,rfl,rfl,Nat.zero_le _,rfl,World.ownsRow_nil _ _ _ _,Below.refl _ _⟩
 case round=>
  obtain⟨k,q,u,A',hk,rfl,rfl,rfl,al,Q,F,z⟩:=hrel
  have a0:=Lh F
  have Y:=Lh Q
  clear F Q
  by_cases hlt:k < n
  .obtain⟨b,o,a,rfl,hb,ha,a5,a6⟩:=Rs.two HR.out hlt
   have d0:wr.cell? ⟨b,o+k * 2,none⟩=some (.int .u64 a.1):=(z.cell (p:=⟨b,o+k * 2,none⟩) (by simp only; omega)).trans a5
   have d1:wr.cell? ⟨b,o+k * 2+1,none⟩=some (.int .u64 a.2):=(z.cell (p:=⟨b,o+k * 2+1,none⟩) (by simp only; omega)).trans a6
   have W:=Lh ha
   have a4:=z.size
   obtain⟨x,y⟩:=a
   simp only at d0 d1
   clear a5 a6 ha
   by_cases hx:x=key
   .have e1:(x == key)=true:=by simpa using hx
    have I:=key_snoc (key:=key) W.out
    have J:=wo_snoc_hit (key:=key) W.out hx
    have EK:=Lh I
    have G:=Lh J
    have HX:=Lh hx
    have a2:=Lh (z.alloc a4 (.cells #[.int .u64 x,.int .u64 y] 287))
    clear I J hx z
    go_wp2_with fail
    go_roundw
    case rel=>
     refine⟨k+1,q,u,A',by omega,by go_num,?_,rfl,by omega,by rw[G.out]; exact Y.out,by rw[G.out]; exact a0.out.alloc _,a2.out⟩
     rw[EK.out]
     simp[HX.out]
    case measure=>simp[intOf]; omega
   .have e1:(x == key)=false:=by simpa using hx
    have I:=key_snoc (key:=key) W.out
    have J:=wo_snoc_miss (key:=key) W.out hx
    have EK:=Lh I
    have G:=Lh J
    have HX:=Lh hx
    have a3:=z.alloc a4 (.cells #[.int .u64 x,.int .u64 y] 287)
    have a2:=Lh (a3.alloc (by simp; omega) (.cells #[.int .u64 x,.int .u64 y] 287))
    have aa:Tr ((wr.alloc (.cells #[.int .u64 x,.int .u64 y] 287)).alloc (.cells #[.int .u64 x,.int .u64 y] 287)) (wr.heap.size+1+1) (some ⟨wr.heap.size+1,0,none⟩) 1 1 [(x,y)]:=by
     have:=rs_one e2l (wr.alloc (.cells #[.int .u64 x,.int .u64 y] 287)) (x,y) 287 (cs:=#[.int .u64 x,.int .u64 y]) rfl
     simpa using this
    have ag:=Lh aa
    have a8:flat enc2 (wo (l.take k) key) ++ flat enc2 [(x,y)] = flat enc2 (wo (l.take (k+1)) key):=by rw[G.out,flA]
    have ae:=Lh a8
    have a1:=Lh ((a0.out.alloc (.cells #[.int .u64 x,.int .u64 y] 287)).alloc (.cells #[.int .u64 x,.int .u64 y] 287))
    clear I J hx z a3 aa a8
    go_wp2_with (
     at_builtin
     refine apRs e2l rfl _ _ 36 rfl w.heap.size 287 i0 _ 16 Tryz.underlying36 hi ai aj ak rfl (by decide) _ q _ rfl a1.out _ _ 1 1 [(x,y)] rfl ag.out enc2_one (q+1) rfl _ ae.out (by unfold maxLen; omega) (by omega) (by simp; omega) ?_
     intro A3 c3 w3 a9 a7 ah
     have af:=Lh a9
     have ac:=Lh (a2.out.grown a7 (by simp; omega) (fun j hj=>(a1.out.lt j hj).1))
     clear a9 a7 ah)
    go_roundw
    case rel=>
     refine⟨k+1,q+1,c3,A3,by omega,by go_num,?_,rfl,by omega,by rw[G.out,List.length_append,<- Y.out]; rfl,af.out,ac.out⟩
     rw[EK.out]
     simp[HX.out]
    case measure=>simp[intOf]; omega
  .obtain rfl:k=n:=by omega
   have ht:l.take k=l:=List.take_of_length_le (by have:=ad.out; omega)
   have F:=a0.out
   have Q:=Y.out
   rw[ht] at F Q ⊢
   subst Q
   have a1:=Lh F
   clear F a0 Y ht
   go_wp2_with fail
   go_ret2
   exact⟨A',u,rfl,a1.out,z⟩
def Fm (A:Option Addr) (c:Nat):Prop:=(A=none/\c=0) \/ ∃ b o,A=some ⟨b,o,none⟩
theorem own_fm {w:World} {base:Nat} {e:TypeId} {size n:Nat} {A:Option Addr} {c:Nat} {xs:List Value} (h:w.ownsRow base e size (.slice A n c) n xs):Fm A c:=by
 rcases h.2 with ⟨u,_⟩ | ⟨g,cap,z,u,_⟩
 .injection u with u _ h2; exact .inl ⟨u,h2⟩
 .injection u with u _ h2; exact .inr ⟨g,0,u⟩
theorem bf_parts (x y key t:Int):bf (x,y) (key,t)=(decide (y < t) || (decide (y=t) && decide (x < key))):=rfl
theorem tarm_room (A:Option Addr) (n c B:Nat) (l:List (Int × Int)) (key at_:Int) (w:World) (h:Tr w B A n c l) (hB:B<=w.heap.size) (hn:n<=1024) (tms:Tms l) (ha:0<=at_/\at_<=18446744073709551615) (hf:¬ 1024<=(wo l key).length) :
  Calls Tryz.prog 184 #[.slice A n c,.int .u64 key,.int .u64 at_] w fun e w'=>∃ A1 c1,e=.returned (.tuple #[.slice A1 ((wo l key).length+1) c1,.int .i64 0]) /\
   w'.ownsRow w.heap.size 287 2 (.slice A1 ((wo l key).length+1) c1) ((wo l key).length+1) (flat enc2 (ins (key,cut at_) (wo l key)))/\Below w.heap.size w w':=by
 obtain⟨i0,hi,a5,a6,a7⟩:=info_parts info_timer
 have HR:=Lh h
 have HT:=Lh tms
 have b5:=Lh h.len
 clear h tms
 have aP:Tms (wo l key):=HT.out.filter _
 obtain⟨R,hR⟩:∃ R,wo l key=R:=⟨_,rfl⟩
 rw[hR] at aP hf ⊢
 have hd:decide ((1024:Int)<=(R.length:Int))=false:=decide_eq_false (by omega)
 have bd:decide (1024<=R.length)=false:=decide_eq_false (by omega)
 have aS:=Lh aP
 have b6:=Lh hR
 have bg:R.length<=1024:=by omega
 clear aP hR hf
 go_enter Tryz.func184,Tryz.ntmps184
 go_wp2_with fail
 refine (twithout_any A n c B l key _ HR.out hB (by omega)).mono ?_
 rw[b6.out]
 rintro e w1 ⟨A1,c1,rfl,aO,aZ⟩
 have aD:Tr w1 w1.heap.size A1 R.length c1 R:=Rs.own_rs e2l rfl aO
 have b8:=own_fm aO
 have aT:=Lh aD
 have aN:=Lh aZ
 clear aO aZ aD HR HT b5
 go_wp2_with fail
 refine (radd_any at_ 0 _ ha.1 ha.2 (by omega) (by omega)).mono ?_
 rintro e w2 ⟨rfl,rfl⟩
 rw[cut_add]
 have bc:=cut_ok ha.1
 go_wp2_with fail
 obtain⟨T,hT⟩:∃ T,w1.heap.size=T:=⟨_,rfl⟩
 rw[hT]
 have b3:(w1.alloc (.cells #[.int .u64 key,.int .u64 (cut at_)] 287)).cell? ⟨T,0,none⟩=some (.int .u64 key):=by rw[<- hT]; go_simp
 have b4:(w1.alloc (.cells #[.int .u64 key,.int .u64 (cut at_)] 287)).cell? ⟨T,1,none⟩=some (.int .u64 (cut at_)):=by rw[<- hT]; go_simp
 have aV:=Lh b3
 have aW:=Lh b4
 have aQ:=Lh (aN.out.alloc aN.out.size (.cells #[.int .u64 key,.int .u64 (cut at_)] 287))
 have aU:=Lh ((aT.out.alloc (Nat.le_refl _) (.cells #[.int .u64 key,.int .u64 (cut at_)] 287)).more (B':=(w1.alloc (.cells #[.int .u64 key,.int .u64 (cut at_)] 287)).heap.size) (by simp))
 clear hT b3 b4 aT aN
 change Code.wp _ _ _ _ (w1.alloc (.cells #[.int .u64 key,.int .u64 (cut at_)] 287))
 generalize w1.alloc (.cells #[.int .u64 key,.int .u64 (cut at_)] 287)=Q at *
 go_loopw [11] (fun i wr=>∃ k:Nat,k<=R.length/\i=.int .i64 k/\(∀ j x,j < k->R[j]? = some x->bf x (key,cut at_)=true)/\Tr wr wr.heap.size A1 R.length c1 R/\wr.cell? ⟨T,0,none⟩=some (.int .u64 key)/\wr.cell? ⟨T,1,none⟩=some (.int .u64 (cut at_))/\Below w.heap.size w wr) (fun i _=>R.length - (intOf i).toNat)
 case atStart=>exact⟨0,Nat.zero_le _,rfl,fun j x h=>absurd h (by omega),aU.out,aV.out,aW.out,aQ.out⟩
 case round=>
  clear aU aV aW aQ
  obtain⟨k,be,rfl,aY,aD,x0,x1,a4⟩:=hrel
  have ak:=Lh aD
  have aE:=Lh aY
  have b7:=aD.cap
  have bb:=aD.top
  clear aD aY
  have f0:∀ q:After wr,q.1.cell? ⟨T,0,none⟩=some (.int .u64 key):=fun q=>q.cell x0
  have f1:∀ q:After wr,q.1.cell? ⟨T,1,none⟩=some (.int .u64 (cut at_)):=fun q=>q.cell x1
  by_cases hlt:k < R.length
  .obtain⟨b,o,a,rfl,hb,aX,aJ,aK⟩:=Rs.two ak.out hlt
   have aG:=Lh aX
   obtain⟨x,y⟩:=a
   simp only at aJ aK
   have g0:∀ q:After wr,q.1.cell? ⟨b,o+k * 2,none⟩=some (.int .u64 x):=fun q=>q.cell aJ
   have g1:∀ q:After wr,q.1.cell? ⟨b,o+k * 2+1,none⟩=some (.int .u64 y):=fun q=>q.cell aK
   clear aX
   by_cases hbf:bf (x,y) (key,cut at_)=true
   .have b2:∀ u,Below wr.heap.size wr u -> ∃ q:Nat,q<=R.length/\(Value.int .i64 ((k:Int)+1))=.int .i64 q/\(∀ j z,j < q->R[j]? = some z->bf z (key,cut at_)=true)/\Tr u u.heap.size (some ⟨b,o,none⟩) R.length c1 R/\u.cell? ⟨T,0,none⟩=some (.int .u64 key)/\u.cell? ⟨T,1,none⟩=some (.int .u64 (cut at_))/\Below w.heap.size w u:=by
     intro u h3
     refine⟨k+1,by omega,by go_num,fun j z I hz=>?_,ak.out.later h3,(h3.cell (p:=⟨T,0,none⟩) (Lw.ltH x0)).trans x0,(h3.cell (p:=⟨T,1,none⟩) (Lw.ltH x1)).trans x1,a4.trans (h3.mono a4.size)⟩
     rcases Nat.lt_or_ge j k with h | h
     .exact aE.out j z h hz
     .obtain rfl:j=k:=by omega
      have:=aG.out.symm.trans hz
      injection this with this
      subst this
      exact hbf
    have aR:=Lh b2
    clear b2 a4 ak aE aG b7 bb
    by_cases hyt:y < cut at_
    .have d1:decide (y < cut at_)=true:=decide_eq_true hyt
     clear hbf hyt
     go_wp2_with fail
     refine rgA (by kernel_rfl) (by kernel_rfl) ?_
     repeat (go_big_quiet_step (fail))
     refine wpQuiet_nil ?_
     rintro u ⟨⟨_,G⟩,rfl⟩
     go_wp2_with fail
     go_roundw
     case rel=>exact aR.out u G
     case measure=>simp[intOf]; omega
    .have d1:decide (y < cut at_)=false:=decide_eq_false hyt
     rw[bf_parts,d1,Bool.false_or,Bool.and_eq_true] at hbf
     have aM:y=cut at_:=of_decide_eq_true hbf.1
     have d2:(y == cut at_)=true:=by simpa using aM
     have d3:decide (x < key)=true:=hbf.2
     clear hbf hyt aM
     go_wp2_with fail
     refine rgA (by kernel_rfl) (by kernel_rfl) ?_
     repeat (go_big_quiet_step (fail))
     refine wpQuiet_nil ?_
     rintro u ⟨⟨_,G⟩,rfl⟩
     go_wp2_with fail
     go_roundw
     case rel=>exact aR.out u G
     case measure=>simp[intOf]; omega
   .have aH:ins (key,cut at_) R=R.take k ++ (key,cut at_) :: R.drop k:=aS.out.ins_at aE.out (fun z hz=>by have:=aG.out.symm.trans hz; injection this with this; subst this; simpa using hbf)
    have aF:=Lh aH
    have b9:k < c1:=by omega
    have b0:¬ c1=k:=by omega
    have d1:decide (y < cut at_)=false:=by
     cases hq:decide (y < cut at_) with
     | false=>rfl
     | true=>exact absurd (by rw[bf_parts,hq]; rfl) hbf
    have ba:(y == cut at_)=false\/((y == cut at_)=true/\decide (x < key)=false):=by
     cases hq:(y == cut at_) with
     | false=>exact .inl rfl
     | true=>
      refine .inr ⟨rfl,?_⟩
      cases hq2:decide (x < key) with
      | false=>rfl
      | true=>
       have aM:y=cut at_:=by simpa using hq
       exact absurd (by rw[bf_parts,hq2]; simp[aM]) hbf
    clear aH hbf aE
    rcases ba with d2 | ⟨d2,d3⟩
    .go_wp2_with fail
     refine rgA (by kernel_rfl) (by kernel_rfl) ?_
     repeat (go_big_quiet_step (fail))
     refine wpQuiet_nil ?_
     rintro u ⟨⟨_,G⟩,rfl⟩
     have a3:=Lh (ak.out.later G)
     have x4:u.cell? ⟨T,0,none⟩=some (.int .u64 key):=(G.cell (p:=⟨T,0,none⟩) (Lw.ltH x0)).trans x0
     have x5:u.cell? ⟨T,1,none⟩=some (.int .u64 (cut at_)):=(G.cell (p:=⟨T,1,none⟩) (Lw.ltH x1)).trans x1
     have a0:Below w.heap.size w u:=a4.trans (G.mono a4.size)
     clear aJ aK f0 f1 g0 g1 x0 x1 G a4 ak aG
     have aB:=a0.size
     have a2:Tr u u.heap.size (some ⟨b,o,none⟩) k c1 (R.take k):=a3.out.front (by omega)
     have a1:Tr u u.heap.size (some ⟨b,o+k * 2,none⟩) (R.length - k) (c1 - k) (R.drop k):=a3.out.back (by omega) rfl (fun _=>rfl)
     obtain⟨bs,ac⟩:∃ bs,u.heap.size=bs:=⟨_,rfl⟩
     rw[ac] at a2 a1 aB
     have ad:bs<=u.heap.size:=by omega
     have aI:u.heap.size<=bs:=by omega
     have ar:=Lh a2
     have an:=Lh a1
     have a9:=Lh a0
     have af:flat enc2 (R.take k) ++ flat enc2 [(key,cut at_)] = flat enc2 (R.take k ++ [(key,cut at_)]):=(flA _ _).symm
     have ag:flat enc2 (R.take k ++ [(key,cut at_)]) ++ flat enc2 (R.drop k)=flat enc2 (ins (key,cut at_) R):=by (rw[aF.out,<- flA]) <;> (congr 1 <;> simp)
     have au:=Lh af
     have av:=Lh ag
     clear a2 a1 ac a0 a3 af ag
     go_wp2_with (first
      | (at_builtin
         refine apRs e2l rfl (.tmp 62) (.tmp 65) 36 rfl bs 287 i0 _ 16 Tryz.underlying36 hi a5 a6 a7 rfl (by decide) (.slice none 0 0) 0 [] rfl (World.ownsRow_nil _ _ _ _) _ (some ⟨b,o,none⟩) k c1 (R.take k) rfl ar.out enc2_one k (Nat.zero_add _) (flat enc2 (R.take k)) rfl (by unfold maxLen; omega) (by omega) ad ?_
         intro A3 c3 Q ah F ay
         have z0:Q.cell? ⟨T,0,none⟩=some (.int .u64 key):=F.cell x4 (by simp[Value.ownBlock])
         have z1:Q.cell? ⟨T,1,none⟩=some (.int .u64 (cut at_)):=F.cell x5 (by simp[Value.ownBlock])
         have Y:=Lh ah
         have ao:=Lh (an.out.grown F ad (fun g hg=>by cases hg))
         have W:=Lh (a9.out.grown F a9.out.size (fun j I=>by cases I))
         have aL:=F.size
         have ax:=Lh (rs_one e2l Q (key,cut at_) 287 (cs:=#[.int .u64 key,.int .u64 (cut at_)]) rfl)
         clear ah F ay)
      | (at_builtin
         refine apRs e2l rfl (.tmp 67) (.tmp 69) 36 rfl bs 287 i0 _ 16 Tryz.underlying36 hi a5 a6 a7 rfl (by decide) _ k _ rfl (Y.out.alloc _) _ _ 1 1 [(key,cut at_)] rfl ax.out enc2_one (k+1) rfl _ au.out (by unfold maxLen; omega) (by omega) (by simp; omega) ?_
         intro A4 c4 w4 ai J az
         have aa:=Lh ai
         have aq:=Lh ((ao.out.alloc (by omega) _).grown J (by simp; omega) (fun g hg=>(Y.out.lt g hg).1))
         have a8:=Lh ((W.out.alloc W.out.size _).grown J (by have:=W.out.size; simp; omega) (fun j I=>by have:=(Y.out.lt j I).1; omega))
         have aC:=J.size
         clear ai J az)
      | (at_builtin
         refine apRs e2l rfl (.tmp 71) (.tmp 74) 36 rfl bs 287 i0 _ 16 Tryz.underlying36 hi a5 a6 a7 rfl (by decide) _ (k+1) _ rfl aa.out _ (some ⟨b,o+k * 2,none⟩) ((R.length - k)) ((c1 - k)) (R.drop k) rfl aq.out enc2_one (R.length+1) (by omega) _ av.out (by unfold maxLen; omega) (by omega) (by simp at aC; omega) ?_
         intro A5 c5 w5 aj ae aA
         have aw:=Lh aj
         have al:=Lh (a8.out.grown ae a8.out.size (fun j I=>by have:=(aa.out.lt j I).1; omega))
         clear aj ae aA))
     go_ret2
     exact⟨A5,c5,rfl,own_mono aw.out (by omega),al.out⟩
    .go_wp2_with fail
     refine rgA (by kernel_rfl) (by kernel_rfl) ?_
     repeat (go_big_quiet_step (fail))
     refine wpQuiet_nil ?_
     rintro u ⟨⟨_,G⟩,rfl⟩
     have a3:=Lh (ak.out.later G)
     have x4:u.cell? ⟨T,0,none⟩=some (.int .u64 key):=(G.cell (p:=⟨T,0,none⟩) (Lw.ltH x0)).trans x0
     have x5:u.cell? ⟨T,1,none⟩=some (.int .u64 (cut at_)):=(G.cell (p:=⟨T,1,none⟩) (Lw.ltH x1)).trans x1
     have a0:Below w.heap.size w u:=a4.trans (G.mono a4.size)
     clear aJ aK f0 f1 g0 g1 x0 x1 G a4 ak aG
     have aB:=a0.size
     have a2:Tr u u.heap.size (some ⟨b,o,none⟩) k c1 (R.take k):=a3.out.front (by omega)
     have a1:Tr u u.heap.size (some ⟨b,o+k * 2,none⟩) (R.length - k) (c1 - k) (R.drop k):=a3.out.back (by omega) rfl (fun _=>rfl)
     obtain⟨bs,ac⟩:∃ bs,u.heap.size=bs:=⟨_,rfl⟩
     rw[ac] at a2 a1 aB
     have ad:bs<=u.heap.size:=by omega
     have aI:u.heap.size<=bs:=by omega
     have ar:=Lh a2
     have an:=Lh a1
     have a9:=Lh a0
     have af:flat enc2 (R.take k) ++ flat enc2 [(key,cut at_)] = flat enc2 (R.take k ++ [(key,cut at_)]):=(flA _ _).symm
     have ag:flat enc2 (R.take k ++ [(key,cut at_)]) ++ flat enc2 (R.drop k)=flat enc2 (ins (key,cut at_) R):=by (rw[aF.out,<- flA]) <;> (congr 1 <;> simp)
     have au:=Lh af
     have av:=Lh ag
     clear a2 a1 ac a0 a3 af ag
     go_wp2_with (first
      | (at_builtin
         refine apRs e2l rfl (.tmp 62) (.tmp 65) 36 rfl bs 287 i0 _ 16 Tryz.underlying36 hi a5 a6 a7 rfl (by decide) (.slice none 0 0) 0 [] rfl (World.ownsRow_nil _ _ _ _) _ (some ⟨b,o,none⟩) k c1 (R.take k) rfl ar.out enc2_one k (Nat.zero_add _) (flat enc2 (R.take k)) rfl (by unfold maxLen; omega) (by omega) ad ?_
         intro A3 c3 Q ah F ay
         have z0:Q.cell? ⟨T,0,none⟩=some (.int .u64 key):=F.cell x4 (by simp[Value.ownBlock])
         have z1:Q.cell? ⟨T,1,none⟩=some (.int .u64 (cut at_)):=F.cell x5 (by simp[Value.ownBlock])
         have Y:=Lh ah
         have ao:=Lh (an.out.grown F ad (fun g hg=>by cases hg))
         have W:=Lh (a9.out.grown F a9.out.size (fun j I=>by cases I))
         have aL:=F.size
         have ax:=Lh (rs_one e2l Q (key,cut at_) 287 (cs:=#[.int .u64 key,.int .u64 (cut at_)]) rfl)
         clear ah F ay)
      | (at_builtin
         refine apRs e2l rfl (.tmp 67) (.tmp 69) 36 rfl bs 287 i0 _ 16 Tryz.underlying36 hi a5 a6 a7 rfl (by decide) _ k _ rfl (Y.out.alloc _) _ _ 1 1 [(key,cut at_)] rfl ax.out enc2_one (k+1) rfl _ au.out (by unfold maxLen; omega) (by omega) (by simp; omega) ?_
         intro A4 c4 w4 ai J az
         have aa:=Lh ai
         have aq:=Lh ((ao.out.alloc (by omega) _).grown J (by simp; omega) (fun g hg=>(Y.out.lt g hg).1))
         have a8:=Lh ((W.out.alloc W.out.size _).grown J (by have:=W.out.size; simp; omega) (fun j I=>by have:=(Y.out.lt j I).1; omega))
         have aC:=J.size
         clear ai J az)
      | (at_builtin
         refine apRs e2l rfl (.tmp 71) (.tmp 74) 36 rfl bs 287 i0 _ 16 Tryz.underlying36 hi a5 a6 a7 rfl (by decide) _ (k+1) _ rfl aa.out _ (some ⟨b,o+k * 2,none⟩) ((R.length - k)) ((c1 - k)) (R.drop k) rfl aq.out enc2_one (R.length+1) (by omega) _ av.out (by unfold maxLen; omega) (by omega) (by simp at aC; omega) ?_
         intro A5 c5 w5 aj ae aA
         have aw:=Lh aj
         have al:=Lh (a8.out.grown ae a8.out.size (fun j I=>by have:=(aa.out.lt j I).1; omega))
         clear aj ae aA))
     go_ret2
     exact⟨A5,c5,rfl,own_mono aw.out (by omega),al.out⟩
  .obtain rfl:k=R.length:=by omega
   have aH:ins (key,cut at_) R=R.take R.length ++ (key,cut at_) :: R.drop R.length:=aS.out.ins_at aE.out (fun z hz=>by have:=(List.getElem?_eq_some_iff.1 hz).1; omega)
   have aF:=Lh aH
   clear aH aE
   rcases b8 with ⟨rfl,rfl⟩ | ⟨b,o,rfl⟩
   .obtain rfl:R=[]:=List.eq_nil_of_length_eq_zero (by omega)
    go_wp2_with fail
    refine rgA (by kernel_rfl) (by kernel_rfl) ?_
    repeat (go_big_quiet_step (fail))
    refine wpQuiet_nil ?_
    rintro u ⟨⟨_,G⟩,rfl⟩
    have a3:=Lh (ak.out.later G)
    have x4:u.cell? ⟨T,0,none⟩=some (.int .u64 key):=(G.cell (p:=⟨T,0,none⟩) (Lw.ltH x0)).trans x0
    have x5:u.cell? ⟨T,1,none⟩=some (.int .u64 (cut at_)):=(G.cell (p:=⟨T,1,none⟩) (Lw.ltH x1)).trans x1
    have a0:Below w.heap.size w u:=a4.trans (G.mono a4.size)
    clear f0 f1 x0 x1 G a4 ak
    have aB:=a0.size
    have a2:Tr u u.heap.size none 0 0 ([].take 0):=a3.out.front (by omega)
    have a1:Tr u u.heap.size none 0 0 ([].drop 0):=Rs.nil_
    obtain⟨bs,ac⟩:∃ bs,u.heap.size=bs:=⟨_,rfl⟩
    rw[ac] at a2 a1 aB
    have ad:bs<=u.heap.size:=by omega
    have aI:u.heap.size<=bs:=by omega
    have ar:=Lh a2
    have an:=Lh a1
    have a9:=Lh a0
    have af:flat enc2 ([].take 0) ++ flat enc2 [(key,cut at_)] = flat enc2 ([].take 0 ++ [(key,cut at_)]):=(flA _ _).symm
    have ag:flat enc2 ([].take 0 ++ [(key,cut at_)]) ++ flat enc2 ([].drop 0)=flat enc2 (ins (key,cut at_) []):=by (rw[aF.out,<- flA]) <;> (congr 1 <;> simp)
    have au:=Lh af
    have av:=Lh ag
    clear a2 a1 ac a0 a3 af ag
    go_wp2_with (first
     | (at_builtin
        refine apRs e2l rfl (.tmp 62) (.tmp 65) 36 rfl bs 287 i0 _ 16 Tryz.underlying36 hi a5 a6 a7 rfl (by decide) (.slice none 0 0) 0 [] rfl (World.ownsRow_nil _ _ _ _) _ none 0 0 ([].take 0) rfl ar.out enc2_one 0 (Nat.zero_add _) (flat enc2 ([].take 0)) rfl (by unfold maxLen; omega) (by omega) ad ?_
        intro A3 c3 Q ah F ay
        have z0:Q.cell? ⟨T,0,none⟩=some (.int .u64 key):=F.cell x4 (by simp[Value.ownBlock])
        have z1:Q.cell? ⟨T,1,none⟩=some (.int .u64 (cut at_)):=F.cell x5 (by simp[Value.ownBlock])
        have Y:=Lh ah
        have ao:=Lh (an.out.grown F ad (fun g hg=>by cases hg))
        have W:=Lh (a9.out.grown F a9.out.size (fun j I=>by cases I))
        have aL:=F.size
        have ax:=Lh (rs_one e2l Q (key,cut at_) 287 (cs:=#[.int .u64 key,.int .u64 (cut at_)]) rfl)
        clear ah F ay)
     | (at_builtin
        refine apRs e2l rfl (.tmp 67) (.tmp 69) 36 rfl bs 287 i0 _ 16 Tryz.underlying36 hi a5 a6 a7 rfl (by decide) _ 0 _ rfl (Y.out.alloc _) _ _ 1 1 [(key,cut at_)] rfl ax.out enc2_one (0+1) rfl _ au.out (by unfold maxLen; omega) (by omega) (by simp; omega) ?_
        intro A4 c4 w4 ai J az
        have aa:=Lh ai
        have aq:=Lh ((ao.out.alloc (by omega) _).grown J (by simp; omega) (fun g hg=>(Y.out.lt g hg).1))
        have a8:=Lh ((W.out.alloc W.out.size _).grown J (by have:=W.out.size; simp; omega) (fun j I=>by have:=(Y.out.lt j I).1; omega))
        have aC:=J.size
        clear ai J az)
     | (at_builtin
        refine apRs e2l rfl (.tmp 71) (.tmp 74) 36 rfl bs 287 i0 _ 16 Tryz.underlying36 hi a5 a6 a7 rfl (by decide) _ (0+1) _ rfl aa.out _ none (0) (0) ([].drop 0) rfl aq.out enc2_one (0+1) (by omega) _ av.out (by unfold maxLen; omega) (by omega) (by simp at aC; omega) ?_
        intro A5 c5 w5 aj ae aA
        have aw:=Lh aj
        have al:=Lh (a8.out.grown ae a8.out.size (fun j I=>by have:=(aa.out.lt j I).1; omega))
        clear aj ae aA))
    go_ret2
    exact⟨A5,c5,rfl,own_mono aw.out (by omega),al.out⟩
   .by_cases b0:c1=R.length
    .subst b0
     go_wp2_with fail
     refine rgA (by kernel_rfl) (by kernel_rfl) ?_
     repeat (go_big_quiet_step (fail))
     refine wpQuiet_nil ?_
     rintro u ⟨⟨_,G⟩,rfl⟩
     have a3:=Lh (ak.out.later G)
     have x4:u.cell? ⟨T,0,none⟩=some (.int .u64 key):=(G.cell (p:=⟨T,0,none⟩) (Lw.ltH x0)).trans x0
     have x5:u.cell? ⟨T,1,none⟩=some (.int .u64 (cut at_)):=(G.cell (p:=⟨T,1,none⟩) (Lw.ltH x1)).trans x1
     have a0:Below w.heap.size w u:=a4.trans (G.mono a4.size)
     clear f0 f1 x0 x1 G a4 ak
     have aB:=a0.size
     have a2:Tr u u.heap.size (some ⟨b,o,none⟩) R.length R.length (R.take R.length):=a3.out.front (by omega)
     have a1:Tr u u.heap.size (some ⟨b,o,none⟩) 0 0 (R.drop R.length):=by have:=a3.out.back (i:=R.length) (A':=some ⟨b,o,none⟩) (Nat.le_refl _) rfl (by omega); simpa using this
     obtain⟨bs,ac⟩:∃ bs,u.heap.size=bs:=⟨_,rfl⟩
     rw[ac] at a2 a1 aB
     have ad:bs<=u.heap.size:=by omega
     have aI:u.heap.size<=bs:=by omega
     have ar:=Lh a2
     have an:=Lh a1
     have a9:=Lh a0
     have af:flat enc2 (R.take R.length) ++ flat enc2 [(key,cut at_)] = flat enc2 (R.take R.length ++ [(key,cut at_)]):=(flA _ _).symm
     have ag:flat enc2 (R.take R.length ++ [(key,cut at_)]) ++ flat enc2 (R.drop R.length)=flat enc2 (ins (key,cut at_) R):=by (rw[aF.out,<- flA]) <;> (congr 1 <;> simp)
     have au:=Lh af
     have av:=Lh ag
     clear a2 a1 ac a0 a3 af ag
     go_wp2_with (first
      | (at_builtin
         refine apRs e2l rfl (.tmp 62) (.tmp 65) 36 rfl bs 287 i0 _ 16 Tryz.underlying36 hi a5 a6 a7 rfl (by decide) (.slice none 0 0) 0 [] rfl (World.ownsRow_nil _ _ _ _) _ (some ⟨b,o,none⟩) R.length R.length (R.take R.length) rfl ar.out enc2_one R.length (Nat.zero_add _) (flat enc2 (R.take R.length)) rfl (by unfold maxLen; omega) (by omega) ad ?_
         intro A3 c3 Q ah F ay
         have z0:Q.cell? ⟨T,0,none⟩=some (.int .u64 key):=F.cell x4 (by simp[Value.ownBlock])
         have z1:Q.cell? ⟨T,1,none⟩=some (.int .u64 (cut at_)):=F.cell x5 (by simp[Value.ownBlock])
         have Y:=Lh ah
         have ao:=Lh (an.out.grown F ad (fun g hg=>by cases hg))
         have W:=Lh (a9.out.grown F a9.out.size (fun j I=>by cases I))
         have aL:=F.size
         have ax:=Lh (rs_one e2l Q (key,cut at_) 287 (cs:=#[.int .u64 key,.int .u64 (cut at_)]) rfl)
         clear ah F ay)
      | (at_builtin
         refine apRs e2l rfl (.tmp 67) (.tmp 69) 36 rfl bs 287 i0 _ 16 Tryz.underlying36 hi a5 a6 a7 rfl (by decide) _ R.length _ rfl (Y.out.alloc _) _ _ 1 1 [(key,cut at_)] rfl ax.out enc2_one (R.length+1) rfl _ au.out (by unfold maxLen; omega) (by omega) (by simp; omega) ?_
         intro A4 c4 w4 ai J az
         have aa:=Lh ai
         have aq:=Lh ((ao.out.alloc (by omega) _).grown J (by simp; omega) (fun g hg=>(Y.out.lt g hg).1))
         have a8:=Lh ((W.out.alloc W.out.size _).grown J (by have:=W.out.size; simp; omega) (fun j I=>by have:=(Y.out.lt j I).1; omega))
         have aC:=J.size
         clear ai J az)
      | (at_builtin
         refine apRs e2l rfl (.tmp 71) (.tmp 74) 36 rfl bs 287 i0 _ 16 Tryz.underlying36 hi a5 a6 a7 rfl (by decide) _ (R.length+1) _ rfl aa.out _ (some ⟨b,o,none⟩) (0) (0) (R.drop R.length) rfl aq.out enc2_one (R.length+1) (by omega) _ av.out (by unfold maxLen; omega) (by omega) (by simp at aC; omega) ?_
         intro A5 c5 w5 aj ae aA
         have aw:=Lh aj
         have al:=Lh (a8.out.grown ae a8.out.size (fun j I=>by have:=(aa.out.lt j I).1; omega))
         clear aj ae aA))
     go_ret2
     exact⟨A5,c5,rfl,own_mono aw.out (by omega),al.out⟩
    .have b9:R.length < c1:=by omega
     go_wp2_with fail
     refine rgA (by kernel_rfl) (by kernel_rfl) ?_
     repeat (go_big_quiet_step (fail))
     refine wpQuiet_nil ?_
     rintro u ⟨⟨_,G⟩,rfl⟩
     have a3:=Lh (ak.out.later G)
     have x4:u.cell? ⟨T,0,none⟩=some (.int .u64 key):=(G.cell (p:=⟨T,0,none⟩) (Lw.ltH x0)).trans x0
     have x5:u.cell? ⟨T,1,none⟩=some (.int .u64 (cut at_)):=(G.cell (p:=⟨T,1,none⟩) (Lw.ltH x1)).trans x1
     have a0:Below w.heap.size w u:=a4.trans (G.mono a4.size)
     clear f0 f1 x0 x1 G a4 ak
     have aB:=a0.size
     have a2:Tr u u.heap.size (some ⟨b,o,none⟩) R.length c1 (R.take R.length):=a3.out.front (by omega)
     have a1:Tr u u.heap.size (some ⟨b,o+R.length * 2,none⟩) 0 (c1 - R.length) (R.drop R.length):=by have:=a3.out.back (i:=R.length) (A':=some ⟨b,o+R.length * 2,none⟩) (Nat.le_refl _) rfl (by omega); rwa [Nat.sub_self] at this
     obtain⟨bs,ac⟩:∃ bs,u.heap.size=bs:=⟨_,rfl⟩
     rw[ac] at a2 a1 aB
     have ad:bs<=u.heap.size:=by omega
     have aI:u.heap.size<=bs:=by omega
     have ar:=Lh a2
     have an:=Lh a1
     have a9:=Lh a0
     have af:flat enc2 (R.take R.length) ++ flat enc2 [(key,cut at_)] = flat enc2 (R.take R.length ++ [(key,cut at_)]):=(flA _ _).symm
     have ag:flat enc2 (R.take R.length ++ [(key,cut at_)]) ++ flat enc2 (R.drop R.length)=flat enc2 (ins (key,cut at_) R):=by (rw[aF.out,<- flA]) <;> (congr 1 <;> simp)
     have au:=Lh af
     have av:=Lh ag
     clear a2 a1 ac a0 a3 af ag
     go_wp2_with (first
      | (at_builtin
         refine apRs e2l rfl (.tmp 62) (.tmp 65) 36 rfl bs 287 i0 _ 16 Tryz.underlying36 hi a5 a6 a7 rfl (by decide) (.slice none 0 0) 0 [] rfl (World.ownsRow_nil _ _ _ _) _ (some ⟨b,o,none⟩) R.length c1 (R.take R.length) rfl ar.out enc2_one R.length (Nat.zero_add _) (flat enc2 (R.take R.length)) rfl (by unfold maxLen; omega) (by omega) ad ?_
         intro A3 c3 Q ah F ay
         have z0:Q.cell? ⟨T,0,none⟩=some (.int .u64 key):=F.cell x4 (by simp[Value.ownBlock])
         have z1:Q.cell? ⟨T,1,none⟩=some (.int .u64 (cut at_)):=F.cell x5 (by simp[Value.ownBlock])
         have Y:=Lh ah
         have ao:=Lh (an.out.grown F ad (fun g hg=>by cases hg))
         have W:=Lh (a9.out.grown F a9.out.size (fun j I=>by cases I))
         have aL:=F.size
         have ax:=Lh (rs_one e2l Q (key,cut at_) 287 (cs:=#[.int .u64 key,.int .u64 (cut at_)]) rfl)
         clear ah F ay)
      | (at_builtin
         refine apRs e2l rfl (.tmp 67) (.tmp 69) 36 rfl bs 287 i0 _ 16 Tryz.underlying36 hi a5 a6 a7 rfl (by decide) _ R.length _ rfl (Y.out.alloc _) _ _ 1 1 [(key,cut at_)] rfl ax.out enc2_one (R.length+1) rfl _ au.out (by unfold maxLen; omega) (by omega) (by simp; omega) ?_
         intro A4 c4 w4 ai J az
         have aa:=Lh ai
         have aq:=Lh ((ao.out.alloc (by omega) _).grown J (by simp; omega) (fun g hg=>(Y.out.lt g hg).1))
         have a8:=Lh ((W.out.alloc W.out.size _).grown J (by have:=W.out.size; simp; omega) (fun j I=>by have:=(Y.out.lt j I).1; omega))
         have aC:=J.size
         clear ai J az)
      | (at_builtin
         refine apRs e2l rfl (.tmp 71) (.tmp 74) 36 rfl bs 287 i0 _ 16 Tryz.underlying36 hi a5 a6 a7 rfl (by decide) _ (R.length+1) _ rfl aa.out _ (some ⟨b,o+R.length * 2,none⟩) (0) ((c1 - R.length)) (R.drop R.length) rfl aq.out enc2_one (R.length+1) (by omega) _ av.out (by unfold maxLen; omega) (by omega) (by simp at aC; omega) ?_
         intro A5 c5 w5 aj ae aA
         have aw:=Lh aj
         have al:=Lh (a8.out.grown ae a8.out.size (fun j I=>by have:=(aa.out.lt j I).1; omega))
         clear aj ae aA))
     go_ret2
     exact⟨A5,c5,rfl,own_mono aw.out (by omega),al.out⟩
end Go.Proofs.YtoiklelghfckgaaGreatDoor.Wl
namespace Go.Proofs.YtoiklelghfckgaaGreatDoor.Le
open Go.ChangeShapes Go.WideShapes Go.ChangeAt Go.RowKit Go.Maps Rw Hi Mt
def V4 (w:World) (g:Nat) (a b c d:Value):Prop:=(w.cell? ⟨g,0,none⟩=some a/\w.cell? ⟨g,1,none⟩=some b/\w.cell? ⟨g,2,none⟩=some c/\w.cell? ⟨g,3,none⟩=some d)/\w.frozen? ⟨g,0,none⟩=false/\w.frozen? ⟨g,1,none⟩=false/\w.frozen? ⟨g,2,none⟩=false/\w.frozen? ⟨g,3,none⟩=false
theorem V4.new (w:World) (t:TypeId) (a b c d:Value):V4 (w.alloc (.cells #[a,b,c,d] t)) w.heap.size a b c d:=by
 unfold V4
 refine⟨⟨?_,?_,?_,?_⟩,?_,?_,?_,?_⟩ <;> go_simp
theorem V4.below {w w':World} {g B:Nat} {a b c d:Value} (h:V4 w g a b c d) (u:Below B w w') (z:g < B):V4 w' g a b c d:=by
 obtain⟨⟨F,G,I,J⟩,f0,f1,f2,f3⟩:=h
 exact⟨⟨(u.cell (p:=⟨g,0,none⟩) z).trans F,(u.cell (p:=⟨g,1,none⟩) z).trans G,(u.cell (p:=⟨g,2,none⟩) z).trans I,(u.cell (p:=⟨g,3,none⟩) z).trans J⟩,
  (u.frozen (p:=⟨g,0,none⟩) z).trans f0,(u.frozen (p:=⟨g,1,none⟩) z).trans f1,(u.frozen (p:=⟨g,2,none⟩) z).trans f2,(u.frozen (p:=⟨g,3,none⟩) z).trans f3⟩
structure Da where
 A:Option Addr
 n:Nat
 c:Nat
 A2:Option Addr
 n2:Nat
 c2:Nat
 A3:Option Addr
 n3:Nat
 c3:Nat
abbrev Da.val (leak:Int) (d:Da):Value:=.agg #[.int .u64 leak,.slice d.A d.n d.c,.slice d.A2 d.n2 d.c2,.slice d.A3 d.n3 d.c3]
structure DkK (K:Nat->Prop) (w:World) (d:Da) (D:List (Int × Ls)) (M:List Int) (T:List (Int × Int)):Prop where
 l:Rl w w.heap.size d.A d.n d.c D
 m:Rd (Value.int .u64) w w.heap.size d.A2 d.n2 d.c2 M
 t:Wl.Tr w w.heap.size d.A3 d.n3 d.c3 T
 fm:Wl.Fm d.A3 d.c3
 fl:Wl.Fm d.A d.c
 kl:Kn K d.n d.A
 km:Kn K d.n2 d.A2
 kt:Kn K d.n3 d.A3
theorem DkK.later {K:Nat->Prop} {w w':World} {d:Da} {D:List (Int × Ls)} {M:List Int} {T:List (Int × Int)} (h:DkK K w d D M T) (u:Below w.heap.size w w'):DkK K w' d D M T:=⟨h.l.later u,h.m.later u,h.t.later u,h.fm,h.fl,h.kl,h.km,h.kt⟩
def hx (D:List (Int × Ls)) (id th:Int):Int:=if holds D id th=true then fx D id else -1
theorem boxes (leak:Int) (A A2 A3:Option Addr) (n c n2 c2 n3 c3:Nat) (w:World):Below w.heap.size w ((w.alloc (.cells #[.int .u64 leak,.slice A n c,.slice A2 n2 c2,.slice A3 n3 c3] 38)).alloc (.cells #[.int .u64 0,.slice none 0 0,.slice none 0 0,.slice none 0 0] 38))/\V4 ((w.alloc (.cells #[.int .u64 leak,.slice A n c,.slice A2 n2 c2,.slice A3 n3 c3] 38)).alloc (.cells #[.int .u64 0,.slice none 0 0,.slice none 0 0,.slice none 0 0] 38)) w.heap.size (.int .u64 leak) (.slice A n c) (.slice A2 n2 c2) (.slice A3 n3 c3)/\V4 ((w.alloc (.cells #[.int .u64 leak,.slice A n c,.slice A2 n2 c2,.slice A3 n3 c3] 38)).alloc (.cells #[.int .u64 0,.slice none 0 0,.slice none 0 0,.slice none 0 0] 38)) (w.heap.size+1) (.int .u64 0) (.slice none 0 0) (.slice none 0 0) (.slice none 0 0)/\((w.alloc (.cells #[.int .u64 leak,.slice A n c,.slice A2 n2 c2,.slice A3 n3 c3] 38)).alloc (.cells #[.int .u64 0,.slice none 0 0,.slice none 0 0,.slice none 0 0] 38)).heap.size=w.heap.size+2:=by
 have h:Below w.heap.size w (w.alloc (.cells #[.int .u64 leak,.slice A n c,.slice A2 n2 c2,.slice A3 n3 c3] 38)):=(Below.refl _ _).alloc (Nat.le_refl _) _
 refine⟨h.alloc (by simp) _,(V4.new w _ _ _ _ _).below ((Below.refl (w.heap.size+1) _).alloc (by simp) _) (by omega),?_,by simp⟩
 have:=V4.new (w.alloc (.cells #[.int .u64 leak,.slice A n c,.slice A2 n2 c2,.slice A3 n3 c3] 38)) 38 (.int .u64 0) (.slice none 0 0) (.slice none 0 0) (.slice none 0 0)
 simpa using this
section
variable (leak:Int) (A A2 A3:Option Addr) (n c n2 c2 n3 c3:Nat) (D:List (Int × Ls)) (M:List Int) (T:List (Int × Int)) (w:World)
theorem rholds_any (id th:Int) (h:Rl w w.heap.size A n c D) (hn:n<=100000) :
  Calls Tryz.prog 149 #[.agg #[.int .u64 leak,.slice A n c,.slice A2 n2 c2,.slice A3 n3 c3],.int .u64 id,.int .i64 th] w fun e w'=>e=.returned (.int .i64 (hx D id th))/\Below w.heap.size w w':=by
 have Y:Below w.heap.size w (w.alloc (.cells #[.int .u64 leak,.slice A n c,.slice A2 n2 c2,.slice A3 n3 c3] 38)):=(Below.refl _ _).alloc (Nat.le_refl _) _
 have a0:=Lh Y
 have I:=Lh (rfind_any leak A A2 A3 n c n2 c2 n3 c3 w.heap.size D (w.alloc (.cells #[.int .u64 leak,.slice A n c,.slice A2 n2 c2,.slice A3 n3 c3] 38)) id (h.below Y) (by simp) hn)
 have a1:=Lh h.len
 rcases fx_cases D id with ⟨W,z⟩ | ⟨k,⟨t,s,f⟩,hk,a5,z,W⟩
 .have e:hx D id th = -1:=by unfold hx holds; rw[W]; rfl
  rw[z] at I
  rw[e]
  clear h Y W z e
  go_enter Tryz.func149,Tryz.ntmps149
  go_wp2_with fail
  refine I.out.mono ?_
  rintro e w1 ⟨rfl,u⟩
  go_wp2_with fail
  go_ret
  exact⟨rfl,a0.out.trans (u.mono (by simp))⟩
 .have a4:k < n:=by have:=(List.getElem?_eq_some_iff.1 hk).1; have:=a1.out; omega
  obtain⟨b,o,x',F,s',f',rfl,hb,ha,c0,c1,a2,a3⟩:=four_at h a4
  have Q:=ha.symm.trans hk
  injection Q with Q
  injection Q with Q e10
  injection e10 with e10 e11 e12
  subst Q e10 e11 e12
  rw[z] at I
  have e:hx D x' th=if (F == th)=true then (k:Int) else -1:=by
   unfold hx holds; rw[W,z]; simp
  rw[e]
  have HC:=Lh c1
  clear h Y W z e c0 c1 a2 a3 ha hk a5
  by_cases ht:F=th
  .have e1:(F != th)=false:=by simpa using ht
   have J:(F == th)=true:=by simpa using ht
   rw[if_pos J]
   clear ht J
   go_enter Tryz.func149,Tryz.ntmps149
   go_wp2_with fail
   refine I.out.mono ?_
   rintro e w1 ⟨rfl,u⟩
   have G:=Lh (a0.out.trans (u.mono (by simp)))
   have d1:=(G.out.cell (p:=⟨b,o+k * 4+1,none⟩) hb).trans HC.out
   have v1:w1.cell? ⟨w.heap.size,1,none⟩=some (.slice (some ⟨b,o,none⟩) n c):=(u.cell (p:=⟨w.heap.size,1,none⟩) (by simp)).trans (by go_simp)
   clear u
   go_wp2_with fail
   go_ret
   exact⟨rfl,G.out⟩
  .have e1:(F != th)=true:=by simpa using ht
   have J:¬ (F == th)=true:=by simpa using ht
   rw[if_neg J]
   clear ht J
   go_enter Tryz.func149,Tryz.ntmps149
   go_wp2_with fail
   refine I.out.mono ?_
   rintro e w1 ⟨rfl,u⟩
   have G:=Lh (a0.out.trans (u.mono (by simp)))
   have d1:=(G.out.cell (p:=⟨b,o+k * 4+1,none⟩) hb).trans HC.out
   have v1:w1.cell? ⟨w.heap.size,1,none⟩=some (.slice (some ⟨b,o,none⟩) n c):=(u.cell (p:=⟨w.heap.size,1,none⟩) (by simp)).trans (by go_simp)
   clear u
   go_wp2_with fail
   go_ret
   exact⟨rfl,G.out⟩
theorem rforget_any {K:Nat->Prop} (id:Int) (h:DkK K w ⟨A,n,c,A2,n2,c2,A3,n3,c3⟩ D M T) (aa:∀ g,w.heap.size<=g->K g) (hn:n2<=100000) :
  Calls Tryz.prog 139 #[.agg #[.int .u64 leak,.slice A n c,.slice A2 n2 c2,.slice A3 n3 c3],.int .u64 id] w fun e w'=>∃ a0 a1,e=.returned (.agg #[.int .u64 leak,.slice A n c,.slice a0 (M.filter (· != id)).length a1,.slice A3 n3 c3])/\DkK K w' ⟨A,n,c,a0,(M.filter (· != id)).length,a1,A3,n3,c3⟩ D (M.filter (· != id)) T /\
   w'.ownsRow w.heap.size 25 1 (.slice a0 (M.filter (· != id)).length a1) (M.filter (· != id)).length ((M.filter (· != id)).map (Value.int .u64))/\Below w.heap.size w w':=by
 obtain⟨i0,hi,ay,az,aA⟩:=info_parts info_u64'
 obtain⟨ac,ag,ah,Y⟩:=boxes leak A A2 A3 n c n2 c2 n3 c3 w
 have G:=Lh h
 have al:=Lh aa
 clear aa
 have HR:=Lh h.m
 have an:=Lh h.m.len
 have ai:=Lh ac
 have a8:=Lh ag
 have a9:=Lh ah
 have au:=Lh Y
 clear h ac ag ah Y
 go_enter Tryz.func139,Tryz.ntmps139
 go_wp2_with fail
 generalize ((w.alloc (.cells #[.int .u64 leak,.slice A n c,.slice A2 n2 c2,.slice A3 n3 c3] 38)).alloc (.cells #[.int .u64 0,.slice none 0 0,.slice none 0 0,.slice none 0 0] 38))=W1 at *
 go_loopw [5,7,11] (fun v x9 i wr=>∃ (k q u:Nat) (A':Option Addr),k<=n2/\i=.int .i64 k/\v=.slice A' q u/\q<=k/\Hid (q=((M.take k).filter (· != id)).length) /\
   Hid (wr.ownsRow (w.heap.size+2) 25 1 (.slice A' q u) q (((M.take k).filter (· != id)).map (Value.int .u64)))/\Hid (Below (w.heap.size+2) W1 wr)/\w.heap.size+2<=wr.heap.size) (fun _ _ i _=>n2 - (intOf i).toNat)
 case atStart=>exact⟨0,0,0,none,Nat.zero_le _,rfl,rfl,Nat.zero_le _,rfl,World.ownsRow_nil _ _ _ _,Below.refl _ _,by rw[au.out]; exact Nat.le_refl _⟩
 case round=>
  obtain⟨k,q,u,A',hk,rfl,rfl,aB,Q,W,F,Y⟩:=hrel
  have a7:=Lh (ai.out.trans (F.out.mono (by omega)))
  by_cases hlt:k < n2
  .obtain⟨b,o,y,rfl,hb,hy,ad⟩:=HR.out.get hlt
   have d0:=(a7.out.cell (p:=⟨b,o+k,none⟩) hb).trans ad
   have a6:Hid (M.take (k+1)=M.take k ++ [y]):=Lh (by
    obtain⟨hl,e⟩:=List.getElem?_eq_some_iff.1 hy
    rw[List.take_succ_eq_append_getElem hl,e])
   clear ad hy
   by_cases hx:y=id
   .have e1:(y != id)=false:=by simpa using hx
    have I:Hid ((M.take (k+1)).filter (· != id)=(M.take k).filter (· != id)):=Lh (by rw[a6.out,List.filter_append]; simp[hx])
    clear hx
    go_wp2_with fail
    go_roundw
    case rel=>exact⟨k+1,q,u,A',by omega,by go_num,rfl,by omega,Lh (by rw[I.out]; exact Q.out),Lh (by rw[I.out]; exact W.out),F,Y⟩
    case measure=>simp[intOf]; omega
   .have e1:(y != id)=true:=by simpa using hx
    have I:Hid ((M.take (k+1)).filter (· != id)=(M.take k).filter (· != id) ++ [y]):=Lh (by rw[a6.out,List.filter_append]; simp[hx])
    have aq:=Lh (rd_one (enc:=Value.int .u64) wr y 25)
    have J:=Lh (W.out.alloc (.cells #[.int .u64 y] 25))
    have aj:=Lh (F.out.alloc (by omega) (.cells #[.int .u64 y] 25))
    have ao:Hid (((M.take k).filter (· != id)).map (Value.int .u64) ++ [y].map (Value.int .u64)=((M.take (k+1)).filter (· != id)).map (Value.int .u64)):=Lh (by rw[I.out]; simp)
    clear hx
    go_wp2_with (
     at_builtin
     refine apRd _ rfl _ _ 30 rfl (w.heap.size+2) 25 i0 (.int .u64 0) 8 Tryz.underlying30 hi ay az aA rfl _ q _ rfl J.out _ _ 1 1 [y] rfl aq.out (fun _=>rfl) (q+1) rfl _ ao.out (by unfold maxLen; omega) (by omega) (by simp; omega) ?_
     intro A4 c4 w4 af a3 av
     have ar:=Lh af
     have ak:=Lh (aj.out.grown a3 (by simp; omega) (fun j hj=>(J.out.lt j hj).1))
     have ax:=a3.size
     simp at ax
     clear af a3 av)
    go_roundw
    case rel=>exact⟨k+1,q+1,c4,A4,by omega,by go_num,rfl,by omega,Lh (by rw[I.out,List.length_append,<- Q.out]; rfl),ar,ak,by omega⟩
    case measure=>simp[intOf]; omega
  .have ht:M.take k=M:=List.take_of_length_le (by have:=an.out; omega)
   have a4:=W.out
   have ae:=Q.out
   rw[ht] at a4 ae
   subst ae
   have J:=Lh a4
   obtain⟨⟨f0,f1,f2,f3⟩,g0,g1,g2,g3⟩:=a8.out.below F.out (by omega)
   obtain⟨⟨r0,r1,r2,r3⟩,z0,z1,z2,z3⟩:=a9.out.below F.out (by omega)
   clear a4 W Q ht a8 a9 F
   go_wp2_with fail
   have a2:Below w.heap.size w (((((wr.setCell ⟨w.heap.size,2,none⟩ (.slice A' (M.filter (· != id)).length u)).setCell ⟨w.heap.size+1,0,none⟩ (.int .u64 leak)).setCell ⟨w.heap.size+1,1,none⟩ (.slice A n c)).setCell ⟨w.heap.size+1,2,none⟩ ((.slice A' (M.filter (· != id)).length u))).setCell ⟨w.heap.size+1,3,none⟩ (.slice A3 n3 c3)):=by
    repeat' (first | exact a7.out | apply Below.setCell | apply bdN | apply Below.drew | apply Below.alloc)
    all_goals (first | (simp; done) | (simp; omega))
   have a5:(((((wr.setCell ⟨w.heap.size,2,none⟩ (.slice A' (M.filter (· != id)).length u)).setCell ⟨w.heap.size+1,0,none⟩ (.int .u64 leak)).setCell ⟨w.heap.size+1,1,none⟩ (.slice A n c)).setCell ⟨w.heap.size+1,2,none⟩ ((.slice A' (M.filter (· != id)).length u))).setCell ⟨w.heap.size+1,3,none⟩ (.slice A3 n3 c3)).ownsRow (w.heap.size+2) 25 1 (.slice A' (M.filter (· != id)).length u) (M.filter (· != id)).length ((M.filter (· != id)).map (Value.int .u64)):=by
    refine Hi.owS J.out (fun z aw=>?_)
    have hg:=(J.out.lt z aw).1
    rw[heap_setCell_other _ _ z _ (fun e=>by have e:z=w.heap.size+1:=e; omega),heap_setCell_other _ _ z _ (fun e=>by have e:z=w.heap.size+1:=e; omega),heap_setCell_other _ _ z _ (fun e=>by have e:z=w.heap.size+1:=e; omega),heap_setCell_other _ _ z _ (fun e=>by have e:z=w.heap.size+1:=e; omega),heap_setCell_other _ _ z _ (fun e=>by have e:z=w.heap.size:=e; omega)]
   refine bodyPost_ret (v:=.agg #[.int .u64 leak,.slice A n c,.slice A' (M.filter (· != id)).length u,.slice A3 n3 c3]) (by simp[results,Tryz.results139,go_sem,r0,r1,r2,r3]) rfl ⟨A',u,rfl,⟨(G.out.later a2).l,Rd.own_rd a5,(G.out.later a2).t,G.out.fm,G.out.fl,G.out.kl,Kn.own a5 (fun g hg=>al.out g (by omega)),G.out.kt⟩,own_mono a5 (by omega),a2⟩
end
end Go.Proofs.YtoiklelghfckgaaGreatDoor.Le
end
