/- A part of the claim. -/
import Derived.Test.YtoiklelghfckgaaGreatDoorYK1
import Ieee.Arith
import Derived.Shelf.SlSortCmp.Whole1
import Derived.Shelf.SlMaps.Clone
import Derived.Maps.RangeWalk
import Derived.Maps.Ext
import Derived.WalkLawsBesides
import Derived.Laws.FloatArith
import Derived.Laws.Externs
section
set_option maxRecDepth 100000
set_option maxHeartbeats 8000000
set_option linter.unusedVariables false
namespace Go.Proofs.YtoiklelghfckgaaGreatDoor.Wl
def bf (a b:Int × Int):Bool:=decide (a.2 < b.2) || (decide (a.2=b.2) && decide (a.1 < b.1))
theorem bf_iff (a b:Int × Int):bf a b=true↔a.2 < b.2\/(a.2=b.2/\a.1 < b.1):=by simp[bf]
theorem bf_irrefl (a:Int × Int):¬ bf a a=true:=by rw[bf_iff]; omega
theorem bf_trans {a b c:Int × Int} (h:bf a b=true) (k:bf b c=true):bf a c=true:=by rw[bf_iff] at *; omega
theorem bf_total {a b:Int × Int} (h:a≠b) (k:¬ bf a b=true):bf b a=true:=by
 rw[bf_iff] at *
 have:¬ (a.1=b.1/\a.2=b.2):=fun ⟨u,z⟩=>h (Prod.ext u z)
 omega
theorem eq_of_mem {α:Type} {r:α->α->Prop} (u:∀ a,¬ r a a) (tr:∀ {a b c},r a b->r b c->r a c) :
  ∀ {F G:List α},F.Pairwise r->G.Pairwise r->(∀ x,x∈F↔x∈G)->F=G
 | [],[],_,_,_=>rfl
 | [],b :: l,_,_,h=>absurd ((h b).2 (by simp)) (by simp)
 | a :: l,[],_,_,h=>absurd ((h a).1 (by simp)) (by simp)
 | a :: l,b :: l',h1,h2,h=>by
  rw[List.pairwise_cons] at h1 h2
  have e:a=b:=by
   rcases List.mem_cons.1 ((h a).1 (by simp)) with e | e
   .exact e
   .rcases List.mem_cons.1 ((h b).2 (by simp)) with z | z
    .exact z.symm
    .exact absurd (tr (h1.1 b z) (h2.1 a e)) (u a)
  subst e
  congr 1
  refine eq_of_mem u tr h1.2 h2.2 (fun x=>?_)
  have hx:=h x
  simp only[List.mem_cons] at hx
  constructor
  .intro m
   rcases hx.1 (.inr m) with e | e
   .subst e; exact absurd (h1.1 x m) (u x)
   .exact e
  .intro m
   rcases hx.2 (.inr m) with e | e
   .subst e; exact absurd (h2.1 x m) (u x)
   .exact e
structure Tms (l:List (Int × Int)):Prop where
 srt:l.Pairwise (fun a b=>bf a b=true)
 nd:(l.map Prod.fst).Nodup
 ok:∀ a∈l,0<=a.1/\a.1<=18446744073709551615/\0<=a.2/\a.2<=1152921504606846976
theorem Tms.nil:Tms []:=⟨List.Pairwise.nil,List.nodup_nil,fun _ h=>by cases h⟩
theorem Tms.filter {l:List (Int × Int)} (h:Tms l) (p:Int × Int->Bool):Tms (l.filter p):=
 ⟨h.srt.filter p,h.nd.sublist (List.filter_sublist.map _),fun a ha=>h.ok a (List.mem_filter.1 ha).1⟩
theorem Tms.uniq {l:List (Int × Int)} (h:Tms l) {k t G:Int} (F:(k,t)∈l) (I:(k,G)∈l):t=G:=by
 have nd:=h.nd
 clear h
 induction l with
 | nil=>cases F
 | cons x l ih=>
  rw[List.map_cons,List.nodup_cons] at nd
  rcases List.mem_cons.1 F with z | z <;> rcases List.mem_cons.1 I with u | u
  .rw[<- z] at u; injection u with _ u; exact u.symm
  .subst z; exact absurd (List.mem_map.2 ⟨_,u,rfl⟩) nd.1
  .subst u; exact absurd (List.mem_map.2 ⟨_,z,rfl⟩) nd.1
  .exact ih z u nd.2
theorem Tms.mem_key {l:List (Int × Int)} {k:Int} : k∈l.map Prod.fst ↔ ∃ t,(k,t)∈l:=by
 rw[List.mem_map]
 constructor
 .rintro⟨⟨a,b⟩,h,rfl⟩; exact⟨b,h⟩
 .rintro⟨t,h⟩; exact⟨_,h,rfl⟩
def wo (l:List (Int × Int)) (k:Int):List (Int × Int):=l.filter (fun a=>a.1 != k)
theorem mem_wo {l:List (Int × Int)} {k:Int} {a:Int × Int} : a∈wo l k↔a∈l/\a.1≠k:=by simp[wo]
theorem wo_key {l:List (Int × Int)} {k:Int} : k ∉ (wo l k).map Prod.fst:=by
 intro h
 obtain⟨t,u⟩:=Tms.mem_key.1 h
 exact (mem_wo.1 u).2 rfl
theorem wo_none {l:List (Int × Int)} {k:Int} (h:k ∉ l.map Prod.fst):wo l k=l:=by
 unfold wo
 rw[List.filter_eq_self]
 intro a ha
 simp
 intro e
 exact h (List.mem_map.2 ⟨a,ha,e⟩)
theorem wo_len (l:List (Int × Int)) (k:Int):(wo l k).length<=l.length:=List.length_filter_le _ _
theorem wo_len_has {l:List (Int × Int)} (hn:(l.map Prod.fst).Nodup) {k:Int} (h:k∈l.map Prod.fst):(wo l k).length+1=l.length:=by
 induction l with
 | nil=>cases h
 | cons x l ih=>
  rw[List.map_cons,List.nodup_cons] at hn
  by_cases e:x.1=k
  .subst e
   have:=wo_none hn.1
   unfold wo at this ⊢
   simp[this]
  .have z:k∈l.map Prod.fst:=by
    rcases List.mem_cons.1 h with u | u
    .exact absurd u.symm e
    .exact u
   have:=ih hn.2 z
   unfold wo at this ⊢
   simp[e]
   exact this
def ins (t:Int × Int) (l:List (Int × Int)):List (Int × Int):=l.filter (fun a=>bf a t) ++ t :: l.filter (fun a=>!bf a t)
theorem mem_ins {t a:Int × Int} {l:List (Int × Int)} : a∈ins t l↔a=t\/a∈l:=by
 unfold ins
 simp only[List.mem_append,List.mem_cons,List.mem_filter]
 cases bf a t <;> simp <;> constructor <;> rintro (h | h) <;> simp[h]
theorem ins_perm (t:Int × Int) (l:List (Int × Int)):(ins t l).Perm (t :: l):=by
 unfold ins
 exact List.perm_middle.trans ((List.filter_append_perm _ l).cons t)
theorem ins_len (t:Int × Int) (l:List (Int × Int)):(ins t l).length=l.length+1:=by simpa using (ins_perm t l).length_eq
theorem Tms.ins {l:List (Int × Int)} (h:Tms l) {t:Int × Int} (hk:t.1 ∉ l.map Prod.fst) (G:0<=t.1/\t.1<=18446744073709551615/\0<=t.2/\t.2<=1152921504606846976):Tms (ins t l):=by
 refine⟨?_,?_,fun a ha=>(mem_ins.1 ha).elim (fun e=>e ▸ G) (h.ok a)⟩
 .unfold Wl.ins
  rw[List.pairwise_append]
  refine⟨h.srt.filter _,List.pairwise_cons.2 ⟨fun a ha=>?_,h.srt.filter _⟩,fun a ha b F=>?_⟩
  .have u:=List.mem_filter.1 ha
   refine bf_total (fun e=>hk ?_) (by simpa using u.2)
   subst e; exact List.mem_map.2 ⟨_,u.1,rfl⟩
  .have z:bf a t=true:=(List.mem_filter.1 ha).2
   rcases List.mem_cons.1 F with e | e
   .subst e; exact z
   .have u:=List.mem_filter.1 e
    refine bf_trans z (bf_total (fun e=>hk ?_) (by simpa using u.2))
    subst e; exact List.mem_map.2 ⟨_,u.1,rfl⟩
 .rw[((ins_perm t l).map Prod.fst).nodup_iff]
  exact List.nodup_cons.2 ⟨hk,h.nd⟩
def due (l:List (Int × Int)) (now:Int):List (Int × Int):=l.filter (fun a=>decide (a.2<=now))
def left (l:List (Int × Int)) (now:Int):List (Int × Int):=l.filter (fun a=>!decide (a.2<=now))
theorem mem_due {l:List (Int × Int)} {now:Int} {a:Int × Int} : a∈due l now↔a∈l/\a.2<=now:=by simp[due]
theorem parts {α:Type} {p:α->Bool} : ∀ {l:List α} {i:Nat},(∀ j x,j < i->l[j]? = some x->p x=true)->(∀ j x,i<=j->l[j]? = some x->p x=false)->l.filter p=l.take i/\l.filter (fun x=>!p x)=l.drop i:=by
 intro l i u z
 have e:l=l.take i ++ l.drop i:=(List.take_append_drop i l).symm
 have f1:(l.take i).filter p=l.take i:=by
  rw[List.filter_eq_self]
  intro x hx
  obtain⟨j,h⟩:=List.mem_iff_getElem?.1 hx
  rw[List.getElem?_take] at h
  split at h
  .exact u j x (by assumption) h
  .cases h
 have f2:(l.drop i).filter p=[]:=by
  rw[List.filter_eq_nil_iff]
  intro x hx
  obtain⟨j,h⟩:=List.mem_iff_getElem?.1 hx
  rw[List.getElem?_drop] at h
  simp[z (i+j) x (by omega) h]
 have F:(l.take i).filter (fun x=>!p x)=[]:=by
  rw[List.filter_eq_nil_iff]
  intro x hx
  obtain⟨j,h⟩:=List.mem_iff_getElem?.1 hx
  rw[List.getElem?_take] at h
  split at h
  .simp[u j x (by assumption) h]
  .cases h
 have G:(l.drop i).filter (fun x=>!p x)=l.drop i:=by
  rw[List.filter_eq_self]
  intro x hx
  obtain⟨j,h⟩:=List.mem_iff_getElem?.1 hx
  rw[List.getElem?_drop] at h
  simp[z (i+j) x (by omega) h]
 constructor
 .conv=>lhs; rw[e]
  rw[List.filter_append,f1,f2,List.append_nil]
 .conv=>lhs; rw[e]
  rw[List.filter_append,F,G,List.nil_append]
theorem Tms.at {l:List (Int × Int)} (h:Tms l) {i j:Nat} {a b:Int × Int} (z:i < j) (ha:l[i]? = some a) (u:l[j]? = some b):bf a b=true:=by
 obtain⟨hi,rfl⟩:=List.getElem?_eq_some_iff.1 ha
 obtain⟨F,rfl⟩:=List.getElem?_eq_some_iff.1 u
 exact List.pairwise_iff_getElem.1 h.srt i j hi F z
theorem Tms.ins_at {l:List (Int × Int)} (h:Tms l) {t:Int × Int} {i:Nat} (F:∀ j x,j < i->l[j]? = some x->bf x t=true) (G:∀ x,l[i]? = some x->bf x t=false):Wl.ins t l=l.take i ++ t :: l.drop i:=by
 unfold Wl.ins
 have:=parts (p:=fun a:Int × Int=>bf a t) (l:=l) (i:=i) (fun j x u hx=>F j x u hx) (fun j x u hx=>by
  have z:i < l.length:=by have:=(List.getElem?_eq_some_iff.1 hx).1; omega
  have hi:=G _ (List.getElem?_eq_getElem z)
  rcases Nat.lt_or_eq_of_le u with u | rfl
  .have I:=h.at u (List.getElem?_eq_getElem z) hx
   cases hc:bf x t
   .rfl
   .rw[bf_trans I hc] at hi; cases hi
  .rw[List.getElem?_eq_getElem z] at hx
   injection hx with hx
   subst hx
   exact hi)
 rw[this.1,this.2]
def cut (t:Int):Int:=if t<=1152921504606846976 then t else 1152921504606846976
def full (l:List (Int × Int)) (k:Int):Bool:=decide (1024<=(wo l k).length)
def arm (l:List (Int × Int)) (k t:Int):List (Int × Int):=if full l k then l else ins (k,cut t) (wo l k)
theorem cut_ok {t:Int} (h:0<=t):0<=cut t/\cut t<=1152921504606846976:=by unfold cut; split <;> omega
theorem Tms.put {l:List (Int × Int)} (h:Tms l) {k t:Int} (hk:0<=k/\k<=18446744073709551615) (u:0<=t/\t<=1152921504606846976):Tms (Wl.ins (k,t) (wo l k)):=
 (h.filter _).ins wo_key ⟨hk.1,hk.2,u.1,u.2⟩
theorem mem_put {l:List (Int × Int)} {k t:Int} {a:Int × Int} : a∈ins (k,t) (wo l k)↔a=(k,t)\/(a∈l/\a.1≠k):=by rw[mem_ins,mem_wo]
theorem put_len_has {l:List (Int × Int)} (hn:(l.map Prod.fst).Nodup) {k t:Int} (h:k∈l.map Prod.fst):(ins (k,t) (wo l k)).length=l.length:=by
 rw[ins_len,wo_len_has hn h]
theorem put_len_new {l:List (Int × Int)} {k t:Int} (h:k ∉ l.map Prod.fst):(ins (k,t) (wo l k)).length=l.length+1:=by
 rw[ins_len,wo_none h]
theorem full_has {l:List (Int × Int)} (hn:(l.map Prod.fst).Nodup) {k:Int} (h:k∈l.map Prod.fst) (u:l.length<=1024):full l k=false:=by
 have:=wo_len_has hn h
 simp[full]; omega
theorem full_new {l:List (Int × Int)} {k:Int} (h:k ∉ l.map Prod.fst):full l k=decide (1024<=l.length):=by
 rw[full,wo_none h]
theorem Tms.due_keys {l:List (Int × Int)} (h:Tms l) {now:Int} {tk:Int->Int} (z:∀ k t,(k,t)∈l->tk k=t) {ks:List Int} (I:ks.Pairwise (fun a b=>bf (a,tk a) (b,tk b)=true)) (G:∀ k,k∈ks ↔ ∃ t,(k,t)∈l/\t<=now):ks=(due l now).map Prod.fst:=by
 refine eq_of_mem (r:=fun a b=>bf (a,tk a) (b,tk b)=true) (fun a=>bf_irrefl _) (fun h k=>bf_trans h k) I ?_ (fun k=>?_)
 .rw[List.pairwise_map]
  refine ((h.filter _).srt).imp_of_mem (S:=fun a b:Int × Int=>bf (a.1,tk a.1) (b.1,tk b.1)=true) (fun {a b} ha hb hab=>?_)
  rw[z a.1 a.2 (List.mem_filter.1 ha).1,z b.1 b.2 (List.mem_filter.1 hb).1]
  exact hab
 .rw[G,Tms.mem_key]
  constructor
  .rintro⟨t,u,F⟩; exact⟨t,mem_due.2 ⟨u,F⟩⟩
  .rintro⟨t,u⟩; exact⟨t,(mem_due.1 u).1,(mem_due.1 u).2⟩
end Go.Proofs.YtoiklelghfckgaaGreatDoor.Wl
namespace Go.Proofs.YtoiklelghfckgaaGreatDoor.Fl
open Ieee
def rhe (a b:Nat):Nat:=a / b+(if b < 2 * (a % b)\/(b=2 * (a % b)/\(a / b) % 2=1) then 1 else 0)
theorem rhe_iff {a b k:Nat} (I:0 < b) (hk:0 < k):k<=rhe a b↔(2 * k - 1) * b < 2 * a\/((2 * k - 1) * b=2 * a/\k % 2=0):=by
 have J:a % b < b:=Nat.mod_lt _ I
 have ha:b * (a / b)+a % b=a:=Nat.div_add_mod a b
 unfold rhe
 generalize a / b=q at *
 generalize a % b=r at *
 subst ha
 rcases Nat.lt_trichotomy k (q+1) with h | h | h
 .have z:k<=q+(if b < 2 * r\/(b=2 * r/\q % 2=1) then 1 else 0):=by omega
  have F:(2 * k - 1) * b < 2 * (b * q+r):=by
   have u:(2 * k - 1) * b+b=2 * k * b:=by
    rw[<- Nat.succ_mul]; congr 1; omega
   have G:2 * k * b<=2 * (b * q):=by
    rw[Nat.mul_assoc,Nat.mul_comm k b]
    exact Nat.mul_le_mul_left _ (Nat.mul_le_mul_left _ (by omega))
   omega
  exact⟨fun _=>.inl F,fun _=>z⟩
 .subst h
  have u:(2 * (q+1) - 1) * b=2 * (b * q)+b:=by
   have:2 * (q+1) - 1=2 * q+1:=by omega
   rw[this,Nat.succ_mul,Nat.mul_assoc,Nat.mul_comm q b]
  rw[u]
  by_cases hc:b < 2 * r\/(b=2 * r/\q % 2=1)
  .rw[if_pos hc]
   exact⟨fun _=>hc.elim (fun h=>.inl (by omega)) (fun h=>.inr ⟨by omega,by omega⟩),fun _=>by omega⟩
  .rw[if_neg hc]
   refine⟨fun h=>by omega,fun h=>absurd ?_ hc⟩
   exact h.elim (fun h=>.inl (by omega)) (fun h=>.inr ⟨by omega,by omega⟩)
 .have z:¬ k<=q+(if b < 2 * r\/(b=2 * r/\q % 2=1) then 1 else 0):=by split <;> omega
  have F:2 * (b * q+r) < (2 * k - 1) * b:=by
   have u:(2 * q+3) * b<=(2 * k - 1) * b:=Nat.mul_le_mul_right _ (by omega)
   have G:(2 * q+3) * b=2 * (b * q)+3 * b:=by rw[Nat.add_mul,Nat.mul_assoc,Nat.mul_comm q b]
   omega
  exact⟨fun h=>absurd h z,fun h=>by omega⟩
theorem rhe_mono {a b c d:Nat} (G:0 < b) (I:0 < d) (h:a * d<=c * b):rhe a b<=rhe c d:=by
 rcases Nat.eq_zero_or_pos (rhe a b) with e | hk
 .omega
 have u:=(rhe_iff G hk).1 (Nat.le_refl _)
 generalize rhe a b=k at *
 rw[rhe_iff I hk]
 have z:(2 * k - 1) * d * b=(2 * k - 1) * b * d:=by rw[Nat.mul_assoc,Nat.mul_comm d b,<- Nat.mul_assoc]
 have F:2 * a * d<=2 * c * b:=by rw[Nat.mul_assoc,Nat.mul_assoc]; omega
 rcases u with u | ⟨u,Y⟩
 .refine .inl (Nat.lt_of_mul_lt_mul_right (a:=b) ?_)
  rw[z]
  exact Nat.lt_of_lt_of_le (Nat.mul_lt_mul_of_pos_right u I) F
 .have J:(2 * k - 1) * d * b<=2 * c * b:=by rw[z,u]; exact F
  have W:=Nat.le_of_mul_le_mul_right J G
  rcases Nat.lt_or_eq_of_le W with h | h
  .exact .inl h
  .exact .inr ⟨h,Y⟩
theorem rhe_eq {a b c d:Nat} (u:0 < b) (z:0 < d) (h:a * d=c * b):rhe a b=rhe c d:=
 Nat.le_antisymm (rhe_mono u z (by omega)) (rhe_mono z u (by omega))
theorem rhe_exact {a b:Nat} (h:0 < b):rhe (a * b) b=a:=by
 unfold rhe
 rw[Nat.mul_div_cancel _ h,Nat.mul_mod_left]
 simp; omega
theorem log_le {n k:Nat} (hn:0 < n) (h:2 ^ k<=n):k<=n.log2:=(Nat.le_log2 (by omega)).2 h
theorem pow_log {n:Nat} (hn:0 < n):2 ^ n.log2<=n:=Nat.log2_self_le (by omega)
theorem lt_log (n:Nat):n < 2 ^ (n.log2+1):=Nat.lt_log2_self
theorem log_mono {m n:Nat} (u:0 < m) (h:m<=n):m.log2<=n.log2:=log_le (by omega) (Nat.le_trans (pow_log u) h)
theorem log_shift {n:Nat} (hn:0 < n) (s:Nat):(n * 2 ^ s).log2=n.log2+s:=by
 have h:n.log2+s<=(n * 2 ^ s).log2:=log_le (Nat.mul_pos hn (Nat.two_pow_pos _)) (by rw[Nat.pow_add]; exact Nat.mul_le_mul_right _ (pow_log hn))
 have u:(n * 2 ^ s).log2 < n.log2+s+1:=by
  rw[Nat.log2_lt (by have:=Nat.mul_pos hn (Nat.two_pow_pos s); omega)]
  have:n * 2 ^ s < 2 ^ (n.log2+1) * 2 ^ s:=Nat.mul_lt_mul_of_pos_right (lt_log n) (Nat.two_pow_pos _)
  rw[<- Nat.pow_add] at this
  rwa [show n.log2+s+1=n.log2+1+s by omega]
 omega
theorem small_gap {n u:Nat} (h:n.log2+2 < u):2 * n < 2 ^ u:=by
 have F:=lt_log n
 have z:2 ^ (n.log2+2)<=2 ^ u:=Nat.pow_le_pow_right (by omega) (by omega)
 rw[Nat.pow_succ] at z
 omega
theorem cut_even (a0:Bool) (n u:Nat):Toward.even.cut a0 n u=rhe n (2 ^ u):=by
 unfold Toward.cut rhe
 by_cases h:u<=n.log2+2
 .rw[Nat.min_eq_left h,Nat.one_shiftLeft]
  simp only[]
  congr 1
  generalize n % 2 ^ u=r
  generalize n / 2 ^ u=q
  generalize 2 ^ u=g
  by_cases F:g < 2 * r <;> by_cases G:g=2 * r <;> by_cases z:q % 2=1 <;> simp[F,G,z]
 .rw[Nat.min_eq_right (by omega),Nat.one_shiftLeft]
  have F:2 * n < 2 ^ (n.log2+2):=by have:=lt_log n; rw[Nat.pow_succ]; omega
  have G:2 * n < 2 ^ u:=small_gap (by omega)
  simp only[]
  have I:n / 2 ^ (n.log2+2)=0:=Nat.div_eq_of_lt (by omega)
  have J:n % 2 ^ (n.log2+2)=n:=Nat.mod_eq_of_lt (by omega)
  have W:n / 2 ^ u=0:=Nat.div_eq_of_lt (by omega)
  have Y:n % 2 ^ u=n:=Nat.mod_eq_of_lt (by omega)
  rw[I,J,W,Y]
  have z:¬ (2 ^ (n.log2+2) < 2 * n):=by omega
  have h4:¬ (2 ^ (n.log2+2)=2 * n):=by omega
  have h5:¬ (2 ^ u < 2 * n):=by omega
  have h6:¬ (2 ^ u=2 * n):=by omega
  simp[z,h5,h6]
theorem cut_zero (z:Bool) (n u:Nat):Toward.zero.cut z n u=n / 2 ^ u:=by
 unfold Toward.cut
 by_cases h:u<=n.log2+2
 .rw[Nat.min_eq_left h,Nat.one_shiftLeft]; simp
 .rw[Nat.min_eq_right (by omega),Nat.one_shiftLeft]
  have F:2 * n < 2 ^ (n.log2+2):=by have:=lt_log n; rw[Nat.pow_succ]; omega
  have G:2 * n < 2 ^ u:=small_gap (by omega)
  simp only[]
  rw[Nat.div_eq_of_lt (by omega),Nat.div_eq_of_lt (by omega)]
  simp
abbrev B:Nat:=4503599627370496
abbrev INF:Nat:=9218868437227405312
abbrev SG:Nat:=9223372036854775808
theorem B_is:B=4503599627370496:=rfl
theorem INF_is:INF=9218868437227405312:=rfl
theorem SG_is:SG=9223372036854775808:=rfl
theorem binade_eq:double.binade=B:=by decide
theorem inf_eq:double.infRung=INF:=by decide
theorem sign_eq:double.signWeight=SG:=by decide
theorem least_eq:double.leastPlace = -1074:=by decide
def rung (z N:Nat):Nat:=min ((max (N.log2 - 52) z - z) * B+rhe N (2 ^ max (N.log2 - 52) z)) INF
theorem rung_mono (z:Nat) {M N:Nat} (G:0 < M) (h:M<=N):rung z M<=rung z N:=by
 have hl:=log_mono G h
 have I:0 < N:=by omega
 unfold rung
 suffices (max (M.log2 - 52) z - z) * B+rhe M (2 ^ max (M.log2 - 52) z)<=(max (N.log2 - 52) z - z) * B+rhe N (2 ^ max (N.log2 - 52) z) by omega
 have J:max (M.log2 - 52) z<=max (N.log2 - 52) z:=by omega
 have a0:M.log2<=max (M.log2 - 52) z+52:=by omega
 have W:max (M.log2 - 52) z < max (N.log2 - 52) z->N.log2=max (N.log2 - 52) z+52:=by omega
 have hz:z<=max (M.log2 - 52) z:=by omega
 generalize max (M.log2 - 52) z=L at *
 generalize max (N.log2 - 52) z=L' at *
 rcases Nat.lt_or_eq_of_le J with Y | rfl
 .have h1:rhe M (2 ^ L)<=2 * B:=by
   have e:rhe (2 * B * 2 ^ L) (2 ^ L)=2 * B:=rhe_exact (Nat.two_pow_pos _)
   rw[<- e]
   refine rhe_mono (Nat.two_pow_pos _) (Nat.two_pow_pos _) (Nat.mul_le_mul_right _ ?_)
   have F:=lt_log M
   have u:2 ^ (M.log2+1)<=2 ^ (L+52+1):=Nat.pow_le_pow_right (by omega) (by omega)
   have h4:2 ^ (L+52+1)=2 * B * 2 ^ L:=by rw[show L+52+1=53+L by omega,Nat.pow_add]; rfl
   omega
  have F:B<=rhe N (2 ^ L'):=by
   have e:rhe (B * 2 ^ L') (2 ^ L')=B:=rhe_exact (Nat.two_pow_pos _)
   conv=>lhs; rw[<- e]
   refine rhe_mono (Nat.two_pow_pos _) (Nat.two_pow_pos _) (Nat.mul_le_mul_right _ ?_)
   have u:=pow_log I
   rw[W Y,Nat.pow_add,Nat.mul_comm] at u
   exact u
  have u:(L - z) * B+B<=(L' - z) * B:=by rw[<- Nat.succ_mul]; exact Nat.mul_le_mul_right _ (by omega)
  omega
 .exact Nat.add_le_add_left (rhe_mono (Nat.two_pow_pos _) (Nat.two_pow_pos _) (Nat.mul_le_mul_right _ h)) _
theorem near_eq (h:Bool) {m:Nat} (Y:0 < m) {p b:Int} (hb:b<=p) (a0:b <= -1074):double.nearest h m p=double.word h (rung (-1074 - b).toNat (m * 2 ^ (p - b).toNat)):=by
 unfold Format.nearest
 rw[if_neg (by omega)]
 simp only[]
 rw[least_eq,binade_eq,inf_eq,cut_even]
 obtain⟨s,hs⟩:∃ s:Nat,p=b+s:=⟨(p - b).toNat,by omega⟩
 obtain⟨z,hz⟩:∃ z:Nat,b = -1074 - z:=⟨(-1074 - b).toNat,by omega⟩
 have u:(p - b).toNat=s:=by omega
 have F:(-1074 - b).toNat=z:=by omega
 rw[u,F]
 have G:=log_shift Y s
 unfold rung
 rw[G]
 have I:max (p+m.log2 - 52) (-1074)=b+(max (m.log2+s - 52) z:Nat):=by omega
 have J:(double.fractionBits:Int)=52:=rfl
 rw[J,I]
 generalize hL:max (m.log2+s - 52) z=L
 have a1:z<=L:=by omega
 have W:(b+(L:Int) - -1074).toNat=L - z:=by omega
 rw[W]
 congr 3
 rw[Nat.shiftLeft_eq]
 refine rhe_eq (Nat.two_pow_pos _) (Nat.two_pow_pos _) ?_
 rw[Nat.mul_assoc,Nat.mul_assoc,<- Nat.pow_add,<- Nat.pow_add]
 congr 2
 omega
def V (r:Nat):Nat:=if r < B then r else (B+r % B) * 2 ^ (r / B - 1)
theorem V_pos {r:Nat} (h:0 < r):0 < V r:=by
 unfold V
 split
 .exact h
 .exact Nat.mul_pos (by (have:0 < B:=(by decide)); omega) (Nat.two_pow_pos _)
theorem rung_V {r:Nat} (h:r<=INF) (I:0 < r):rung 0 (V r)=r:=by
 unfold V
 split
 .next F=>
  have z:r.log2 < 52:=by rw[Nat.log2_lt (by omega)]; exact F
  unfold rung
  rw[show max (r.log2 - 52) 0=0 by omega]
  rw[show (2:Nat) ^ 0=1 by rfl]
  have:=rhe_exact (a:=r) (b:=1) (by omega)
  rw[Nat.mul_one] at this
  rw[this]
  omega
 .next F=>
  have u:0 < B:=by decide
  have hm:r % B < B:=Nat.mod_lt _ u
  have Y:1<=r / B:=by rw[Nat.le_div_iff_mul_le u]; omega
  have G:B * (r / B)+r % B=r:=Nat.div_add_mod r B
  generalize r % B=t at *
  generalize r / B=q at *
  have z:((B+t) * 2 ^ (q - 1)).log2=52+(q - 1):=by
   rw[log_shift (by omega)]
   have J:52<=(B+t).log2:=log_le (by omega) (Nat.le_add_right B t)
   have W:(B+t).log2 < 53:=by
    rw[Nat.log2_lt (by omega)]
    have:(2:Nat) ^ 53=B+B:=by decide
    omega
   omega
  unfold rung
  rw[z,show max (52+(q - 1) - 52) 0=q - 1 by omega,rhe_exact (Nat.two_pow_pos _)]
  have:(q - 1 - 0) * B+(B+t)=r:=by
   rw[<- G,show B * q=B * (q - 1)+B by rw[<- Nat.mul_succ]; congr 1; omega,Nat.mul_comm,Nat.sub_zero]
   omega
  rw[this]
  omega
theorem V_mono {r u:Nat} (h:r<=u):V r<=V u:=by
 have F:0 < B:=by decide
 unfold V
 by_cases h1:r < B
 .rw[if_pos h1]
  by_cases z:u < B
  .rw[if_pos z]; exact h
  .rw[if_neg z]
   have:B+u % B<=(B+u % B) * 2 ^ (u / B - 1):=Nat.le_mul_of_pos_right _ (Nat.two_pow_pos _)
   omega
 .have z:¬ u < B:=by omega
  rw[if_neg h1,if_neg z]
  have hd:1<=r / B:=by rw[Nat.le_div_iff_mul_le F]; omega
  have J:r / B<=u / B:=Nat.div_le_div_right h
  have hm:r % B < B:=Nat.mod_lt _ F
  have I:B * (r / B)+r % B=r:=Nat.div_add_mod r B
  have W:B * (u / B)+u % B=u:=Nat.div_add_mod u B
  rcases Nat.lt_or_eq_of_le J with a0 | G
  .have Y:(B+r % B) * 2 ^ (r / B - 1)<=B * 2 ^ (r / B):=by
    rw[show r / B=(r / B - 1)+1 by omega,Nat.pow_succ,Nat.mul_comm _ 2,<- Nat.mul_assoc]
    simp only[Nat.add_sub_cancel]
    exact Nat.mul_le_mul_right _ (by omega)
   have h4:B * 2 ^ (r / B)<=(B+u % B) * 2 ^ (u / B - 1):=Nat.mul_le_mul (by omega) (Nat.pow_le_pow_right (by omega) (by omega))
   omega
  .rw[G]
   rw[G] at I
   exact Nat.mul_le_mul_right _ (by omega)
theorem V_le {r u:Nat} (G:r<=INF) (I:u<=INF):V r<=V u↔r<=u:=by
 refine⟨fun h=>?_,V_mono⟩
 rcases Nat.eq_zero_or_pos r with rfl | z
 .omega
 rcases Nat.eq_zero_or_pos u with rfl | F
 .have J:=V_pos z
  have W:V 0=0:=by decide
  omega
 .have:=rung_mono 0 (V_pos z) h
  rwa [rung_V G z,rung_V I F] at this
def sg (x:Nat):Bool:=decide (SG<=x)
def rg (x:Nat):Nat:=if SG<=x then x - SG else x
theorem rg_lt {x:Nat} (hx:x < 18446744073709551616):rg x < SG:=by have:=SG_is; unfold rg; split <;> omega
theorem read_parts {x:Nat} (hx:x < 18446744073709551616):(x / SG % 2 == 1)=sg x/\x % SG=rg x:=by
 have F:=SG_is
 unfold sg rg
 by_cases h:SG<=x
 .rw[if_pos h]
  have u:x / SG=1:=by rw[SG_is] at *; omega
  have z:x % SG=x - SG:=by rw[SG_is] at *; omega
  rw[u,z]
  simp[h]
 .rw[if_neg h]
  have u:x / SG=0:=by rw[SG_is] at *; omega
  have z:x % SG=x:=by rw[SG_is] at *; omega
  rw[u,z]
  simp[h]
def isN (x:Nat):Bool:=decide (INF < rg x)
theorem read_eq {x:Nat} (hx:x < 18446744073709551616) :
  (rg x < INF /\ ∃ m:Nat,∃ e:Int,double.read x=.number (sg x) m e /\ -1074<=e/\e<=971/\m * 2 ^ (e+1074).toNat=V (rg x)/\(m=0↔rg x=0)/\m < 2 * B) \/
  (rg x=INF/\double.read x=.infinity (sg x))\/(INF < rg x/\double.read x=.nan (sg x) (rg x - INF)):=by
 have Y:=rg_lt hx
 have F:=INF_is
 have G:=B_is
 obtain⟨u,z⟩:=read_parts hx
 unfold Format.read
 rw[sign_eq,binade_eq,inf_eq,least_eq,u,z]
 simp only[]
 generalize rg x=r at *
 by_cases c1:r < B
 .rw[if_pos c1]
  refine .inl ⟨by omega,r,-1074,rfl,by omega,by omega,?_,Iff.rfl,by omega⟩
  unfold V
  rw[if_pos c1]
  simp
 .rw[if_neg c1]
  by_cases c2:r < INF
  .rw[if_pos c2]
   have h:0 < B:=by decide
   have I:1<=r / B:=by rw[Nat.le_div_iff_mul_le h]; omega
   have J:r / B < 2047:=by rw[Nat.div_lt_iff_lt_mul h]; rw[F] at c2; rw[G]; omega
   have W:r % B < B:=Nat.mod_lt _ h
   refine .inl ⟨c2,B+r % B,-1074+((r / B - 1:Nat):Int),rfl,by omega,by omega,?_,by omega,by omega⟩
   unfold V
   rw[if_neg c1]
   congr 2
   omega
  .rw[if_neg c2]
   by_cases c3:r=INF
   .rw[if_pos c3]; exact .inr (.inl ⟨c3,rfl⟩)
   .rw[if_neg c3]; exact .inr (.inr ⟨by omega,rfl⟩)
theorem INF_SG:INF < SG:=by decide
def Ko (x:Nat):Int:=if sg x then -(rg x:Int) else (rg x:Int)
theorem shl_cmp {m n:Nat} {i j:Int} (hi:-1074<=i) (h:-1074<=j) :
  m * 2 ^ (i+1074).toNat=(m * 2 ^ (i - min i j).toNat) * 2 ^ (min i j+1074).toNat/\n * 2 ^ (j+1074).toNat=(n * 2 ^ (j - min i j).toNat) * 2 ^ (min i j+1074).toNat:=by
 constructor
 .rw[Nat.mul_assoc,<- Nat.pow_add]; congr 2; omega
 .rw[Nat.mul_assoc,<- Nat.pow_add]; congr 2; omega
theorem cmp_int {a b c d:Int} (u:a < b↔c < d) (z:a=b↔c=d):compare a b=compare c d:=by
 simp only[compare,compareOfLessAndEq]
 by_cases e1:a < b
 .rw[if_pos e1,if_pos (u.1 e1)]
 .rw[if_neg e1,if_neg (fun h=>e1 (u.2 h))]
  by_cases e2:a=b
  .rw[if_pos e2,if_pos (z.1 e2)]
  .rw[if_neg e2,if_neg (fun h=>e2 (z.2 h))]
theorem signed_eq (s:Bool) (m u:Nat):signed s m u=if s then -((m * 2 ^ u:Nat):Int) else ((m * 2 ^ u:Nat):Int):=by
 unfold signed; rw[Nat.shiftLeft_eq]
theorem order_eq {x y:Nat} (hx:x < 18446744073709551616) (hy:y < 18446744073709551616):double.order x y=if isN x || isN y then none else some (compare (Ko x) (Ko y)):=by
 have iS:=INF_SG
 unfold Format.order isN Ko
 rcases read_eq hx with ⟨J,m,i,ex,hi,a7,hm,a8,-⟩ | ⟨J,ex⟩ | ⟨J,ex⟩
 .rcases read_eq hy with ⟨F,n,j,u,hj,a1,hn,a2,-⟩ | ⟨F,u⟩ | ⟨F,u⟩
  .rw[ex,u]
   have c1:decide (INF < rg x)=false:=by simp; omega
   have c2:decide (INF < rg y)=false:=by simp; omega
   rw[c1,c2]
   simp only[Datum.order,Bool.or_self,Bool.false_eq_true,if_false]
   congr 1
   rw[signed_eq,signed_eq]
   obtain⟨G,I⟩:=shl_cmp (m:=m) (n:=n) hi hj
   rw[hm] at G
   rw[hn] at I
   generalize m * 2 ^ (i - min i j).toNat=M at *
   generalize n * 2 ^ (j - min i j).toNat=N at *
   have Y:0 < 2 ^ (min i j+1074).toNat:=Nat.two_pow_pos _
   generalize 2 ^ (min i j+1074).toNat=p at *
   have a0:∀ {A C:Nat},A<=C↔A * p<=C * p:=fun {A C}=>⟨fun h=>Nat.mul_le_mul_right _ h,fun h=>Nat.le_of_mul_le_mul_right h Y⟩
   have a4:M<=N↔rg x<=rg y:=by rw[a0,<- G,<- I]; exact V_le (by omega) (by omega)
   have a6:N<=M↔rg y<=rg x:=by rw[a0,<- G,<- I]; exact V_le (by omega) (by omega)
   have a3:M=0↔rg x=0:=by
    have W:V 0=0:=by decide
    have z:V (rg x)<=V 0↔rg x<=0:=V_le (by omega) (by omega)
    rw[G,W] at z
    constructor
    .intro e; subst e; simp at z; exact z
    .intro e; have:=z.2 (by omega)
     rcases Nat.eq_zero_or_pos M with h | h
     .exact h
     .have:=Nat.mul_pos h Y; omega
   have a5:N=0↔rg y=0:=by
    have W:V 0=0:=by decide
    have z:V (rg y)<=V 0↔rg y<=0:=V_le (by omega) (by omega)
    rw[I,W] at z
    constructor
    .intro e; subst e; simp at z; exact z
    .intro e; have:=z.2 (by omega)
     rcases Nat.eq_zero_or_pos N with h | h
     .exact h
     .have:=Nat.mul_pos h Y; omega
   clear G I a0 hm hn
   cases sg x <;> cases sg y <;> simp only[Bool.false_eq_true,if_false,if_true] <;> apply cmp_int <;> omega
  .rw[ex,u]
   have c1:decide (INF < rg x)=false:=by simp; omega
   have c2:decide (INF < rg y)=false:=by simp; omega
   rw[c1,c2]
   simp only[Datum.order,Bool.or_self,Bool.false_eq_true,if_false]
   congr 1
   cases sg x <;> cases sg y <;> simp only[Bool.false_eq_true,if_false,if_true,compare,compareOfLessAndEq] <;> (repeat' split) <;> first | rfl | omega
  .rw[ex,u]
   simp[Datum.order,F]
 .rcases read_eq hy with ⟨F,n,j,u,hj,a1,hn,a2,-⟩ | ⟨F,u⟩ | ⟨F,u⟩
  .rw[ex,u]
   have c1:decide (INF < rg x)=false:=by simp; omega
   have c2:decide (INF < rg y)=false:=by simp; omega
   rw[c1,c2]
   simp only[Datum.order,Bool.or_self,Bool.false_eq_true,if_false]
   congr 1
   cases sg x <;> cases sg y <;> simp only[Bool.false_eq_true,if_false,if_true,compare,compareOfLessAndEq] <;> (repeat' split) <;> first | rfl | omega
  .rw[ex,u]
   have c1:decide (INF < rg x)=false:=by simp; omega
   have c2:decide (INF < rg y)=false:=by simp; omega
   rw[c1,c2]
   simp only[Datum.order,Bool.or_self,Bool.false_eq_true,if_false]
   congr 1
   rw[J,F]
   cases sg x <;> cases sg y <;> decide
  .rw[ex,u]
   simp[Datum.order,F]
 .rw[ex]
  simp[Datum.order,J]
end Go.Proofs.YtoiklelghfckgaaGreatDoor.Fl
namespace Go.Proofs.YtoiklelghfckgaaGreatDoor.Sf
open Go.ChangeShapes Go.WideShapes Go.ChangeAt Go.RowKit Rw Go.Shelf Go.Sort
def suF (k:Nat):Nat:=if k=6 then 263 else if k=14 then 274 else if k=15 then 275 else if k=20 then 279 else if k=21 then 280 else if k=22 then 281 else if k=23 then 282 else if k=24 then 283 else if k=25 then 284 else if k=26 then 285 else if k=27 then 286 else if k=28 then 287 else if k=29 then 288 else if k=46 then 291 else if k=47 then 292 else if k=48 then 293 else if k=49 then 294 else if k=50 then 295 else if k=57 then 302 else 0
def suT (k:Nat):Nat:=if k=0 then 0 else if k=3 then 3 else if k=4 then 4 else if k=5 then 5 else if k=9 then 9 else if k=22 then 30 else if k=24 then 25 else if k=25 then 318 else if k=39 then 137 else if k=45 then 327 else if k=46 then 328 else if k=50 then 76 else if k=53 then 334 else if k=55 then 25 else if k=66 then 337 else if k=70 then 340 else if k=76 then 348 else if k=77 then 349 else 0
def suRen:Ren:={ f:=suF,t:=suT,g:=fun x=>x }
theorem suLays:SlLaysF.n6 Tryz.prog suRen:={
 mixed:=by kernel_rfl
 f6:=⟨ "slices.SortFunc[[]uint64,uint64]",by kernel_rfl,by kernel_rfl⟩
 f14:=⟨ "slices.pdqsortCmpFunc[uint64]",by kernel_rfl,by kernel_rfl⟩
 f15:=by kernel_rfl
 f20:=⟨ "slices.insertionSortCmpFunc[uint64]",by kernel_rfl,by kernel_rfl⟩
 f21:=⟨ "slices.heapSortCmpFunc[uint64]",by kernel_rfl,by kernel_rfl⟩
 f22:=⟨ "slices.breakPatternsCmpFunc[uint64]",by kernel_rfl,by kernel_rfl⟩
 f23:=⟨ "slices.choosePivotCmpFunc[uint64]",by kernel_rfl,by kernel_rfl⟩
 f24:=⟨ "slices.reverseRangeCmpFunc[uint64]",by kernel_rfl,by kernel_rfl⟩
 f25:=⟨ "slices.partialInsertionSortCmpFunc[uint64]",by kernel_rfl,by kernel_rfl⟩
 f26:=⟨ "slices.partitionEqualCmpFunc[uint64]",by kernel_rfl,by kernel_rfl⟩
 f27:=⟨ "slices.partitionCmpFunc[uint64]",by kernel_rfl,by kernel_rfl⟩
 f28:=by kernel_rfl
 f29:=by kernel_rfl
 f46:=⟨ "slices.siftDownCmpFunc[uint64]",by kernel_rfl,by kernel_rfl⟩
 f47:=by kernel_rfl
 f48:=by kernel_rfl
 f49:=⟨ "slices.medianAdjacentCmpFunc[uint64]",by kernel_rfl,by kernel_rfl⟩
 f50:=⟨ "slices.medianCmpFunc[uint64]",by kernel_rfl,by kernel_rfl⟩
 f57:=⟨ "slices.order2CmpFunc[uint64]",by kernel_rfl,by kernel_rfl⟩
 t0:=by kernel_rfl
 a0:=fun w=>by kernel_rfl
 z0:=fun w=>by kernel_rfl
 v0:=fun w=>by kernel_rfl
 t3:=by kernel_rfl
 a3:=fun w=>by kernel_rfl
 z3:=fun w=>by kernel_rfl
 v3:=fun w=>by kernel_rfl
 t4:=by kernel_rfl
 a4:=fun w=>by kernel_rfl
 z4:=fun w=>by kernel_rfl
 v4:=fun w=>by kernel_rfl
 t5:=by kernel_rfl
 a5:=fun w=>by kernel_rfl
 z5:=fun w=>by kernel_rfl
 v5:=fun w=>by kernel_rfl
 t9:=by kernel_rfl
 a9:=fun w=>by kernel_rfl
 z9:=fun w=>by kernel_rfl
 v9:=fun w=>by kernel_rfl
 t22:=by kernel_rfl
 a22:=fun w=>by kernel_rfl
 z22:=fun w=>by kernel_rfl
 v22:=fun w=>by kernel_rfl
 a24:=fun w=>by kernel_rfl
 z24:=fun w=>by kernel_rfl
 t25:=by kernel_rfl
 a25:=fun w=>by kernel_rfl
 z25:=fun w=>by kernel_rfl
 v25:=fun w=>by kernel_rfl
 t39:=by kernel_rfl
 a39:=fun w=>by kernel_rfl
 z39:=fun w=>by kernel_rfl
 v39:=fun w=>by kernel_rfl
 t45:=by kernel_rfl
 a45:=fun w=>by kernel_rfl
 z45:=fun w=>by kernel_rfl
 v45:=fun w=>by kernel_rfl
 t46:=by kernel_rfl
 a46:=fun w=>by kernel_rfl
 z46:=fun w=>by kernel_rfl
 v46:=fun w=>by kernel_rfl
 t50:=by kernel_rfl
 a50:=fun w=>by kernel_rfl
 z50:=fun w=>by kernel_rfl
 v50:=fun w=>by kernel_rfl
 t53:=by kernel_rfl
 a53:=fun w=>by kernel_rfl
 z53:=fun w=>by kernel_rfl
 v53:=fun w=>by kernel_rfl
 t55:=by kernel_rfl
 a55:=fun w=>by kernel_rfl
 z55:=fun w=>by kernel_rfl
 v55:=fun w=>by kernel_rfl
 t66:=by kernel_rfl
 a66:=fun w=>by kernel_rfl
 z66:=fun w=>by kernel_rfl
 v66:=fun w=>by kernel_rfl
 t70:=by kernel_rfl
 a70:=fun w=>by kernel_rfl
 z70:=fun w=>by kernel_rfl
 v70:=fun w=>by kernel_rfl
 t76:=by kernel_rfl
 a76:=fun w=>by kernel_rfl
 z76:=fun w=>by kernel_rfl
 v76:=fun w=>by kernel_rfl
 t77:=by kernel_rfl
 a77:=fun w=>by kernel_rfl
 z77:=fun w=>by kernel_rfl
 v77:=fun w=>by kernel_rfl }
end Go.Proofs.YtoiklelghfckgaaGreatDoor.Sf
namespace Go.Proofs.YtoiklelghfckgaaGreatDoor.Sf
open Go.ChangeShapes Go.WideShapes Go.ChangeAt Go.RowKit Rw Go.Shelf
def mcF (k:Nat):Nat:=if k=5 then 174 else if k=7 then 173 else 0
def mcT (k:Nat):Nat:=if k=4 then 4 else if k=20 then 20 else if k=23 then 252 else if k=25 then 25 else if k=3 then 25 else 0
def mcRen:Ren:={ f:=mcF,t:=mcT,g:=fun x=>x }
theorem mcLays:SlLaysW.n5 Tryz.prog mcRen:={
 mixed:=by kernel_rfl
 f5:=⟨ "maps.Clone[map[uint64]uint64,uint64,uint64]",by kernel_rfl,by kernel_rfl⟩
 f7:=by kernel_rfl
 t4:=by kernel_rfl
 a4:=fun w=>by kernel_rfl
 z4:=fun w=>by kernel_rfl
 v4:=fun w=>by kernel_rfl
 t20:=by kernel_rfl
 a20:=fun w=>by kernel_rfl
 z20:=fun w=>by kernel_rfl
 v20:=fun w=>by kernel_rfl
 t23:=by kernel_rfl
 a23:=fun w=>by kernel_rfl
 z23:=fun w=>by kernel_rfl
 v23:=fun w=>by kernel_rfl }
end Go.Proofs.YtoiklelghfckgaaGreatDoor.Sf
namespace Go.Proofs.YtoiklelghfckgaaGreatDoor.Wl
open Go.ChangeShapes Go.WideShapes Go.ChangeAt Go.RowKit Go.Maps Rw Sl Sn Ck
structure Tel (D:DataW Unit) (l:List (Int × Int)):Prop where
 hit:∀ k t,(k,t)∈l -> ∀ z,D.atKey (.int .u64 k) z=.lit (.int .u64 t)
 has:∀ k,Maps.has D (.int .u64 k)=decide (k∈l.map Prod.fst)
 size:Maps.size D=l.length
theorem lit_ne {k u:Int} (h:u≠k):Lit.int .u64 u≠Lit.int .u64 k:=fun e=>h (by injection e)
theorem Tel.miss {D:DataW Unit} {l:List (Int × Int)} (h:Tel D l) {k:Int} (hk:k ∉ l.map Prod.fst) (z:DataW Unit):D.atKey (.int .u64 k) z=z:=
 Maps.atKey_of_not_has (by rw[h.has]; simpa using hk) z
theorem Tel.put {D:DataW Unit} {l:List (Int × Int)} (h:Tel D l) (hl:Tms l) (F:Maps.Tidy D) (k t:Int):Tel (D.put (.int .u64 k) (.lit (.int .u64 t))) (ins (k,t) (wo l k)):=by
 refine⟨fun J u G z=>?_,fun J=>?_,?_⟩
 .rcases mem_put.1 G with e | ⟨G,a0⟩
  .injection e with e1 e2
   subst e1 e2
   exact Maps.atKey_put_same (k:=.int .u64 _) F.isMap trivial _ _
  .rw[Maps.atKey_put_other (lit_ne a0)]
   exact h.hit J u G z
 .by_cases e:J=k
  .subst e
   rw[Maps.has_put_same (k:=.int .u64 _) F.isMap trivial,decide_eq_true]
   exact Tms.mem_key.2 ⟨t,mem_put.2 (.inl rfl)⟩
  .rw[Maps.has_put_other (lit_ne e),h.has]
   congr 1
   rw[Tms.mem_key,Tms.mem_key,eq_iff_iff]
   constructor
   .rintro⟨u,I⟩; exact⟨u,mem_put.2 (.inr ⟨I,e⟩)⟩
   .rintro⟨u,I⟩
    rcases mem_put.1 I with W | ⟨Y,-⟩
    .injection W with e1 _; exact absurd e1 e
    .exact⟨u,Y⟩
 .rw[Maps.size_put F,h.has,h.size]
  by_cases hk:k∈l.map Prod.fst
  .rw[put_len_has hl.nd hk]; simp[hk]
  .rw[put_len_new hk]; simp[hk]
theorem Tel.del {D:DataW Unit} {l:List (Int × Int)} (h:Tel D l) (Y:Tms l) (W:Maps.Tidy D) (k:Int):Tel (D.del (.int .u64 k)) (wo l k):=by
 refine⟨fun J u G z=>?_,fun J=>?_,?_⟩
 .obtain⟨G,a0⟩:=mem_wo.1 G
  rw[Maps.atKey_del_other (lit_ne a0)]
  exact h.hit J u G z
 .by_cases e:J=k
  .subst e
   rw[Maps.has_del_same,decide_eq_false wo_key]
  .rw[Maps.has_del_other (lit_ne e),h.has]
   congr 1
   rw[Tms.mem_key,Tms.mem_key,eq_iff_iff]
   constructor
   .rintro⟨u,I⟩; exact⟨u,mem_wo.2 ⟨I,e⟩⟩
   .rintro⟨u,I⟩; exact⟨u,(mem_wo.1 I).1⟩
 .have F:=Maps.size_del (k:=.int .u64 k) W
  rw[h.has,h.size] at F
  by_cases hk:k∈l.map Prod.fst
  .have:=wo_len_has Y.nd hk
   simp[hk] at F
   omega
  .rw[wo_none hk]
   simp[hk] at F
   exact F
theorem Tel.nil:Tel (.map []) []:=⟨fun _ _ h=>(by cases h),fun _=>rfl,rfl⟩
def Mw (w:World) (m:Nat) (l:List (Int × Int)):Prop:=∃ D,w.ownsMap Tryz.prog 25 (plainElem Tryz.prog 25) m l.length D/\Tel D l
theorem own_tight {w:World} {b n:Nat} {D:DataW Unit} (h:w.ownsMap Tryz.prog 25 (plainElem Tryz.prog 25) b n D):w.ownsMap Tryz.prog 25 (plainElem Tryz.prog 25) b (Maps.size D) D:=by
 obtain⟨es,z,G,F,I,u⟩:=h
 refine⟨es,z,G,F,?_,u⟩
 rw[u]
 show es.size<=(List.foldr DataW.insert [] _).length
 rw[length_sorted]
 simp
theorem Mw.mk {w:World} {m n:Nat} {D:DataW Unit} {l:List (Int × Int)} (h:w.ownsMap Tryz.prog 25 (plainElem Tryz.prog 25) m n D) (u:Tel D l):Mw w m l:=⟨D,u.size ▸ own_tight h,u⟩
theorem Mw.kept {w w':World} {m:Nat} {l:List (Int × Int)} (h:Mw w m l) {row:Option Nat} (F:w.grownBy w' row) (G:some m≠row):Mw w' m l:=by
 obtain⟨D,u,z⟩:=h
 exact⟨D,u.kept F G,z⟩
theorem Mw.lt {w:World} {m:Nat} {l:List (Int × Int)} (h:Mw w m l):m < w.heap.size:=by
 obtain⟨D,u,z⟩:=h
 exact u.lt
theorem Mw.block {w w':World} {m:Nat} {l:List (Int × Int)} (h:Mw w m l) (I:w'.heap[m]? = w.heap[m]?):Mw w' m l:=by
 obtain⟨D,⟨es,u,z,F⟩,G⟩:=h
 exact⟨D,⟨es,u,I.trans z,F⟩,G⟩
structure Wh (w:World) (p m:Nat) (l:List (Int × Int)):Prop where
 cell:w.cell? ⟨p,0,none⟩=some (.map (some m))
 own:Mw w m l
 tms:Tms l
theorem Wh.lt {w:World} {p m:Nat} {l:List (Int × Int)} (h:Wh w p m l):p < w.heap.size/\m < w.heap.size:=⟨Lw.ltH h.cell,h.own.lt⟩
theorem Wh.ne {w:World} {p m:Nat} {l:List (Int × Int)} (h:Wh w p m l):p≠m:=by
 intro e
 subst e
 obtain⟨D,⟨es,z,u,F⟩,G⟩:=h.own
 have hc:=h.cell
 simp[World.cell?,u] at hc
theorem Wh.below {w w':World} {p m B:Nat} {l:List (Int × Int)} (h:Wh w p m l) (u:Below B w w') (F:p < B) (z:m < B):Wh w' p m l:=
 ⟨(u.cell (p:=⟨p,0,none⟩) F).trans h.cell,h.own.block (u.block m z),h.tms⟩
theorem Wh.later {w w':World} {p m:Nat} {l:List (Int × Int)} (h:Wh w p m l) (u:Below w.heap.size w w'):Wh w' p m l:=h.below u h.lt.1 h.lt.2
theorem Wh.turned {w w':World} {p m:Nat} {l l':List (Int × Int)} (h:Wh w p m l) (u:w.grownBy w' (some m)) (z:Mw w' m l') (F:Tms l'):Wh w' p m l':=
 ⟨u.cell h.cell (fun e=>h.ne (by injection e)),z,F⟩
theorem law:Keyed Tryz.prog 25:=int_keyed Tryz.underlying25
theorem zeroE (w:World):(zeroValue 25).run Tryz.prog w=.ok (.int .u64 0) w:=by kernel_rfl
theorem wf64 {k:Int} (h:0<=k/\k<=18446744073709551615):(Lit.int .u64 k).wf=true:=Sn.wf_u64 h
theorem key64 {k:Int} (h:0<=k/\k<=18446744073709551615):keyOf Tryz.prog 25 (.int .u64 k)=some (.int .u64 k):=keyOf_int_mk Tryz.underlying25 (wf64 h)
theorem new_any (w:World) :
  Calls Tryz.prog 119 #[] w fun e w'=>e=.returned (.pointer (some ⟨w.heap.size+1,0,none⟩))/\Wh w' (w.heap.size+1) w.heap.size [] /\ Below w.heap.size w w'/\w'.heap.size=w.heap.size+2:=by
 have h:=@run_makeMap Tryz.prog
 go_enter Tryz.func119,Tryz.ntmps119
 go_wp2
 go_ret
 refine⟨rfl,⟨by go_simp,Mw.mk ((World.ownsMap_made w _ _ _).alloc _) Tel.nil,Tms.nil⟩,((Below.refl _ _).alloc (Nat.le_refl _) _).alloc (by simp) _,by simp⟩
theorem len_any (w:World) (p m:Nat) (l:List (Int × Int)) (h:Wh w p m l) :
  Calls Tryz.prog 399 #[.pointer (some ⟨p,0,none⟩)] w fun e w'=>e=.returned (.int .i64 l.length)/\w=w':=by
 obtain⟨hc,⟨D,z,u⟩,-⟩:=h
 have F:=Lh u.size
 clear u
 go_enter Tryz.func399,Tryz.ntmps399
 go_wp2_with (at_len; refine wpList_len_own _ rfl _ 252 rfl 25 25 Tryz.underlying252 _ m l.length D rfl z ?_)
 go_ret
 exact⟨by rw[F.out]; rfl,rfl⟩
def tick (l:List (Int × Int)) (k:Int):Int:=((l.find? (fun a=>a.1 == k)).map Prod.snd).getD 0
theorem tick_hit {l:List (Int × Int)} (h:Tms l) {k t:Int} (z:(k,t)∈l):tick l k=t:=by
 unfold tick
 cases hf:l.find? (fun a=>a.1 == k) with
 | none=>exact absurd (List.find?_eq_none.1 hf _ z) (by simp)
 | some a=>
  have F:=List.mem_of_find?_eq_some hf
  have u:=List.find?_some hf
  simp at u
  subst u
  exact h.uniq (t:=a.2) F z
theorem tick_miss {l:List (Int × Int)} {k:Int} (z:k ∉ l.map Prod.fst):tick l k=0:=by
 unfold tick
 cases hf:l.find? (fun a=>a.1 == k) with
 | none=>rfl
 | some a=>
  have u:=List.mem_of_find?_eq_some hf
  have h:=List.find?_some hf
  simp at h
  exact absurd (List.mem_map.2 ⟨a,u,h⟩) z
theorem Tel.tick {D:DataW Unit} {l:List (Int × Int)} (h:Tel D l) (z:Tms l) (k:Int):D.atKey (.int .u64 k) (.lit (.int .u64 0))=.lit (.int .u64 (tick l k)):=by
 by_cases hk:k∈l.map Prod.fst
 .obtain⟨t,u⟩:=Tms.mem_key.1 hk
  rw[h.hit k t u,tick_hit z u]
 .rw[h.miss hk,tick_miss hk]
theorem lit_inj {a b:Int} (h:(DataW.lit (.int .u64 a):DataW Unit)=.lit (.int .u64 b)):a=b:=by
 injection h with h; injection h
section
variable (w:World) {ops:Array Oper} {rest:List Oper} {o:Oper} {a:Act} {Q:Exit->Act->World->Prop}
theorem look_ok (F:o.guard=none) (m x:Operand) (J:o.op=Op.lookup 252 m x true) (b n:Nat) (D:DataW Unit) (l:List (Int × Int)) (k:Int) (hk:0<=k/\k<=18446744073709551615)
  (G:a.eval m=.map (some b)) (I:w.ownsMap Tryz.prog 25 (plainElem Tryz.prog 25) b n D) (u:Tel D l) (tms:Tms l) (hx:a.eval x=.int .u64 k)
  (z:wpList Tryz.prog ops Q rest (a.put o.dst (.tuple #[.int .u64 (Wl.tick l k),.bool (decide (k∈l.map Prod.fst))])) w):wpList Tryz.prog ops Q (o :: rest) a w:=by
 refine wpList_lookup_own_ok_int w F m x 252 J 25 25 .u64 law Tryz.underlying252 Tryz.underlying25 (zeroE _) b n D G I _ _ hx (key64 hk) ?_
 intro c h W
 rw[u.tick tms k] at h
 obtain rfl:=lit_inj h
 rw[u.has]
 exact z
end
theorem disarm_any (w:World) (p m:Nat) (l:List (Int × Int)) (k:Int) (h:Wh w p m l) (hk:0<=k/\k<=18446744073709551615) :
  Calls Tryz.prog 277 #[.pointer (some ⟨p,0,none⟩),.int .u64 k] w fun e w'=>e=.returned (.bool (decide (k∈l.map Prod.fst)))/\Wh w' p m (wo l k)/\w.grownBy w' (some m):=by
 have H:=Lh h
 obtain⟨hc,⟨D,u,G⟩,tms⟩:=h
 have F:=Lh G
 have J:=Lh tms
 have z:=Lh hk
 clear G tms hk
 go_enter Tryz.func277,Tryz.ntmps277
 go_wp2_with (first
  | (at_lookup; refine look_ok _ rfl _ _ rfl m l.length D l k z.out rfl u F.out J.out rfl ?_)
  | (at_delete; refine wpList_delete_own _ rfl _ _ 252 25 rfl 25 law Tryz.underlying252 _ m l.length D rfl u _ _ rfl (key64 z.out) ?_; intro Y W I))
 go_ret
 exact⟨rfl,H.out.turned I.grown (Mw.mk W (F.out.del H.out.tms (u.tidy law) k)) (H.out.tms.filter _),I.grown⟩
theorem mclone_any (w:World) (m:Nat) (l:List (Int × Int)) (h:Mw w m l) :
  Calls Tryz.prog 174 #[.map (some m)] w fun e w'=>e=.returned (.map (some w.heap.size))/\Mw w' w.heap.size l/\Below w.heap.size w w'/\w'.heap.size=w.heap.size+1:=by
 obtain⟨D,⟨es,u,G,F,I,z⟩,J⟩:=h
 refine (AnyW.maps_Clone Sf.mcLays m es u w G).mono ?_
 rintro e w' ⟨rfl,rfl⟩
 exact⟨rfl,⟨D,⟨es,u,(MapKept.heap_alloc w _).1,F,I,z⟩,J⟩,(Below.refl _ w).alloc (Nat.le_refl _) _,by simp⟩
theorem clone_any (w:World) (p m:Nat) (l:List (Int × Int)) (h:Wh w p m l) :
  Calls Tryz.prog 116 #[.pointer (some ⟨p,0,none⟩)] w fun e w'=>e=.returned (.pointer (some ⟨w.heap.size+1,0,none⟩))/\Wh w' (w.heap.size+1) w.heap.size l/\Below w.heap.size w w'/\w'.heap.size=w.heap.size+2:=by
 obtain⟨hc,F,tms⟩:=h
 have J:=Lh F
 clear F
 go_enter Tryz.func116,Tryz.ntmps116
 go_wp2_with fail
 refine (mclone_any _ m l J.out).mono ?_
 rintro e Y ⟨rfl,G,z,I⟩
 have W:=Lh G
 have u:=Lh I
 clear G I
 go_wp2_with fail
 go_ret
 refine⟨by rw[u.out]; rfl,⟨by rw[<- u.out]; go_simp,W.out.kept (World.grownBy_alloc _ _ none) (by simp),tms⟩,z.alloc z.size _,by simp[u.out]⟩
theorem cut_add {t:Int} : cAdd t 0=cut t:=by unfold cAdd cut; simp
theorem grown_two (w:World) (a b:Obj) (row:Option Nat):w.grownBy ((w.alloc a).alloc b).drew row:=
 ⟨rfl,rfl,rfl,by simp; omega,fun k hk _=>(Below.heap_alloc (w.alloc a) b k (by simp; omega)).trans (Below.heap_alloc w a k hk)⟩
def armE (l:List (Int × Int)) (k:Int):Int:=if full l k then 11 else 0
theorem arm_put (w:World) (p m:Nat) (l:List (Int × Int)) (k t:Int) (h:Wh w p m l) (hk:0<=k/\k<=18446744073709551615) (ht:0<=t/\t<=18446744073709551615) (hl:l.length<=1024) (hf:full l k=false) :
  Calls Tryz.prog 185 #[.pointer (some ⟨p,0,none⟩),.int .u64 k,.int .u64 t] w fun e w'=>e=.returned (.int .i64 0)/\Wh w' p m (ins (k,cut t) (wo l k))/\w.grownBy w' (some m):=by
 have H:=Lh h
 obtain⟨hc,⟨D,F,a4⟩,tms⟩:=h
 have a5:∀ ty,(Builtin.len_ #[252] ty #[.map (some m)]).run Tryz.prog w=.ok (.int .i64 l.length) w:=fun ty=>by rw[F.len Tryz.underlying252 ty,a4.size]
 have a9:=H.out.lt.1
 have a7:=H.out.lt.2
 have a8:=H.out.ne
 have HT:=Lh a4
 have Y:=Lh tms
 have W:=Lh hk
 have z:=Lh ht
 have HO:=Lh F
 have HF:=Lh hf
 clear a4 tms hk ht hf
 by_cases hin:k∈l.map Prod.fst
 .have hd:decide (k∈l.map Prod.fst)=true:=decide_eq_true hin
  clear hin
  go_enter Tryz.func185,Tryz.ntmps185
  go_wp2_with (at_lookup; refine look_ok _ rfl _ _ rfl m l.length D l k W.out rfl F HT.out Y.out rfl ?_)
  refine rgS 8 (fun w'=>w'.cell? ⟨p,0,none⟩=some (.map (some m))) (by kernel_rfl) (by kernel_rfl) ?_
  intro hT
  have u:=Lh hT
  clear hT a5
  refine rq 0 u.out hc rfl ?_
  refine rq 1 u.out hc rfl ?_
  refine rq 2 u.out hc rfl ?_
  refine rq 3 u.out hc rfl ?_
  refine rq 4 u.out hc rfl ?_
  refine rq 5 u.out hc rfl ?_
  refine rO 6 rfl (by kernel_rfl) rfl ?_
  unfold Oper.wp
  go_simp
  refine (Ck.at_any _ _ z.out.1 z.out.2).mono ?_
  rintro e w1 ⟨rfl,rfl⟩
  have G:=alC (w:=w.drew) (a:=⟨p,0,none⟩) hc (bx (cAdd t 0))
  refine⟨G,?_⟩
  refine rO 7 rfl (by kernel_rfl) rfl ?_
  unfold Oper.wp
  go_simp
  refine (Ck.now_any _ _).mono ?_
  rintro e w1 ⟨rfl,rfl⟩
  have a0:=alC G (bx (cAdd t 0))
  refine⟨a0,?_⟩
  refine rO 8 rfl (by kernel_rfl) rfl ?_
  unfold Oper.wp
  go_simp
  obtain⟨w3,a2,J,a1⟩:=((F.alloc (bx (cAdd t 0))).alloc (bx (cAdd t 0))).drew.update law Tryz.underlying252 (by unfold maxLen; omega) (key64 W.out) (plainElem_int Tryz.underlying25 (wf64 (k:=cAdd t 0) ⟨cAdd_lo _ _ z.out.1 (by omega),cAdd_u _ _⟩))
  rw[a2]
  go_simp
  refine rgD (by kernel_rfl) ?_
  have I:w.grownBy w3 (some m):=World.grownBy.andThen (grown_two w (bx (cAdd t 0)) (bx (cAdd t 0)) (some m)) a1 (fun j hj=>.inr hj)
  rw[cut_add] at J
  have HG:=Lh (H.out.turned I (Mw.mk J (HT.out.put Y.out (F.tidy law) k (cut t))) (Y.out.put W.out (cut_ok z.out.1)))
  have a3:=Lh I
  clear I a1 J a2 hc G a0
  go_wp2
  go_ret
  exact⟨rfl,HG.out,a3.out⟩
 .have hd:decide (k∈l.map Prod.fst)=false:=decide_eq_false hin
  have a6:l.length < 1024:=by
   have:=HF.out
   rw[full_new hin] at this
   simpa using this
  clear hin
  go_enter Tryz.func185,Tryz.ntmps185
  go_wp2_with (at_lookup; refine look_ok _ rfl _ _ rfl m l.length D l k W.out rfl F HT.out Y.out rfl ?_)
  refine rgS 8 (fun w'=>w'.cell? ⟨p,0,none⟩=some (.map (some m))) (by kernel_rfl) (by kernel_rfl) ?_
  intro hT
  have u:=Lh hT
  clear hT a5
  refine rq 0 u.out hc rfl ?_
  refine rq 1 u.out hc rfl ?_
  refine rq 2 u.out hc rfl ?_
  refine rq 3 u.out hc rfl ?_
  refine rq 4 u.out hc rfl ?_
  refine rq 5 u.out hc rfl ?_
  refine rO 6 rfl (by kernel_rfl) rfl ?_
  unfold Oper.wp
  go_simp
  refine (Ck.at_any _ _ z.out.1 z.out.2).mono ?_
  rintro e w1 ⟨rfl,rfl⟩
  have G:=alC (w:=w.drew) (a:=⟨p,0,none⟩) hc (bx (cAdd t 0))
  refine⟨G,?_⟩
  refine rO 7 rfl (by kernel_rfl) rfl ?_
  unfold Oper.wp
  go_simp
  refine (Ck.now_any _ _).mono ?_
  rintro e w1 ⟨rfl,rfl⟩
  have a0:=alC G (bx (cAdd t 0))
  refine⟨a0,?_⟩
  refine rO 8 rfl (by kernel_rfl) rfl ?_
  unfold Oper.wp
  go_simp
  obtain⟨w3,a2,J,a1⟩:=((F.alloc (bx (cAdd t 0))).alloc (bx (cAdd t 0))).drew.update law Tryz.underlying252 (by unfold maxLen; omega) (key64 W.out) (plainElem_int Tryz.underlying25 (wf64 (k:=cAdd t 0) ⟨cAdd_lo _ _ z.out.1 (by omega),cAdd_u _ _⟩))
  rw[a2]
  go_simp
  refine rgD (by kernel_rfl) ?_
  have I:w.grownBy w3 (some m):=World.grownBy.andThen (grown_two w (bx (cAdd t 0)) (bx (cAdd t 0)) (some m)) a1 (fun j hj=>.inr hj)
  rw[cut_add] at J
  have HG:=Lh (H.out.turned I (Mw.mk J (HT.out.put Y.out (F.tidy law) k (cut t))) (Y.out.put W.out (cut_ok z.out.1)))
  have a3:=Lh I
  clear I a1 J a2 hc G a0
  go_wp2
  go_ret
  exact⟨rfl,HG.out,a3.out⟩
theorem arm_full (w:World) (p m:Nat) (l:List (Int × Int)) (k t:Int) (h:Wh w p m l) (hk:0<=k/\k<=18446744073709551615) (hl:l.length<=1024) (u:full l k=true) :
  Calls Tryz.prog 185 #[.pointer (some ⟨p,0,none⟩),.int .u64 k,.int .u64 t] w fun e w'=>e=.returned (.int .i64 11)/\w=w':=by
 have H:=Lh h
 obtain⟨hc,⟨D,I,F⟩,tms⟩:=h
 have z:k ∉ l.map Prod.fst:=fun z=>by rw[full_has tms.nd z hl] at u; cases u
 rw[full_new z] at u
 have a0:1024<=l.length:=by simpa using u
 have a1:∀ G,(Builtin.len_ #[252] G #[.map (some m)]).run Tryz.prog w=.ok (.int .i64 l.length) w:=fun G=>by rw[I.len Tryz.underlying252 G,F.size]
 have hd:decide (k∈l.map Prod.fst)=false:=decide_eq_false z
 have Y:=Lh F
 have W:=Lh tms
 have J:=Lh hk
 clear F tms hk u z
 go_enter Tryz.func185,Tryz.ntmps185
 go_wp2_with (at_lookup; refine look_ok _ rfl _ _ rfl m l.length D l k J.out rfl I Y.out W.out rfl ?_)
 go_ret
 exact⟨rfl,rfl⟩
theorem arm_any (w:World) (p m:Nat) (l:List (Int × Int)) (k t:Int) (h:Wh w p m l) (hk:0<=k/\k<=18446744073709551615) (G:0<=t/\t<=18446744073709551615) (z:l.length<=1024) :
  Calls Tryz.prog 185 #[.pointer (some ⟨p,0,none⟩),.int .u64 k,.int .u64 t] w fun e w'=>e=.returned (.int .i64 (armE l k))/\Wh w' p m (arm l k t)/\w.grownBy w' (some m):=by
 unfold armE arm
 cases hf:full l k with
 | true=>exact (arm_full w p m l k t h hk z hf).mono fun e w' ⟨F,u⟩=>⟨F,by subst u; exact h,by subst u; exact World.grownBy.refl _ _⟩
 | false=>exact arm_put w p m l k t h hk G z hf
end Go.Proofs.YtoiklelghfckgaaGreatDoor.Wl
namespace Go.Proofs.YtoiklelghfckgaaGreatDoor.Wl
open Go.ChangeShapes Go.WideShapes Go.ChangeAt Go.RowKit Go.Maps Rw Sl Sn Ck Go.Sort
theorem isnan_any (x:Int) (w:World):Calls Tryz.prog 276 #[.int .u64 x] w fun e w'=>e=.returned (.bool false)/\w=w':=by
 go_enter Tryz.func276,Tryz.ntmps276
 go_wp2
 go_ret
 exact⟨by simp,rfl⟩
def cmpI (x y:Int):Int:=if x < y then -1 else if y < x then 1 else 0
theorem compare_any (x y:Int) (w:World):Calls Tryz.prog 266 #[.int .u64 x,.int .u64 y] w fun e w'=>e=.returned (.int .i64 (cmpI x y))/\w=w':=by
 rcases Int.lt_trichotomy x y with h | h | h
 .have u:cmpI x y = -1:=by unfold cmpI; rw[if_pos h]
  rw[u]
  clear u
  go_enter Tryz.func266,Tryz.ntmps266
  go_wp2_with (first | (go_at_call 276; refine (isnan_any _ _).mono ?_; rintro e w' ⟨rfl,rfl⟩))
  go_ret
  exact⟨rfl,rfl⟩
 .subst h
  have u:cmpI x x=0:=by unfold cmpI; simp
  rw[u]
  clear u
  go_enter Tryz.func266,Tryz.ntmps266
  go_wp2_with (first | (go_at_call 276; refine (isnan_any _ _).mono ?_; rintro e w' ⟨rfl,rfl⟩))
  go_ret
  exact⟨rfl,rfl⟩
 .have u:cmpI x y=1:=by unfold cmpI; rw[if_neg (by omega),if_pos h]
  have z:¬ x < y:=by omega
  have F:decide (x < y)=false:=decide_eq_false z
  rw[u]
  clear u z
  go_enter Tryz.func266,Tryz.ntmps266
  go_wp2_with (first | (go_at_call 276; refine (isnan_any _ _).mono ?_; rintro e w' ⟨rfl,rfl⟩))
  go_ret
  exact⟨rfl,rfl⟩
def orI (a b:Int):Int:=if a=0 then b else a
theorem or_any (g:Nat) (a b:Int) (w:World) (u:w.cell? ⟨g,0,none⟩=some (.int .i64 a)) (z:w.cell? ⟨g,1,none⟩=some (.int .i64 b)) :
  Calls Tryz.prog 265 #[.slice (some ⟨g,0,none⟩) 2 2] w fun e w'=>e=.returned (.int .i64 (orI a b))/\w=w':=by
 by_cases ha:a=0
 .subst ha
  have h:orI 0 b=b:=by unfold orI; simp
  rw[h]
  clear h
  by_cases hb:b=0
  .subst hb
   go_enter Tryz.func265,Tryz.ntmps265
   go_wp2_with fail
   refine wp_loop_rounds 3 ?_
   rw[rounds_succ]
   go_wp2_with fail
   rw[rounds_succ]
   go_wp2_with fail
   rw[rounds_succ]
   go_wp2_with fail
   go_ret
   exact⟨rfl,rfl⟩
  .have hq:(b != 0)=true:=by simpa using hb
   clear hb
   go_enter Tryz.func265,Tryz.ntmps265
   go_wp2_with fail
   refine wp_loop_rounds 3 ?_
   rw[rounds_succ]
   go_wp2_with fail
   rw[rounds_succ]
   go_wp2_with fail
   go_ret
   exact⟨rfl,rfl⟩
 .have h:orI a b=a:=by unfold orI; rw[if_neg ha]
  have hq:(a != 0)=true:=by simpa using ha
  rw[h]
  clear h ha
  go_enter Tryz.func265,Tryz.ntmps265
  go_wp2_with fail
  refine wp_loop_rounds 3 ?_
  rw[rounds_succ]
  go_wp2_with fail
  go_ret
  exact⟨rfl,rfl⟩
theorem look_run {w:World} {b n:Nat} {D:DataW Unit} {l:List (Int × Int)} {k:Int} (hk:0<=k/\k<=18446744073709551615) (u:w.ownsMap Tryz.prog 25 (plainElem Tryz.prog 25) b n D) (F:Tel D l) (tms:Tms l) :
  (Instr.lookup 252 (.map (some b)) (.int .u64 k) false).run Tryz.prog w=.ok (.int .u64 (Wl.tick l k)) w:=by
 obtain⟨c,z,h,-⟩:=u.lookup_int law Tryz.underlying252 Tryz.underlying25 (zeroE _) (key64 hk)
 rw[F.tick tms k] at h
 obtain rfl:=lit_inj h
 exact z
theorem grow_one (w:World) (o:Obj):(w.alloc o).drew=grow (w.drewN 1) #[o]:=by
 rw[<- alloc_eq_grow]; rfl
def cf (l:List (Int × Int)) (x y:Int):Int:=orI (cmpI (Wl.tick l x) (Wl.tick l y)) (cmpI x y)
theorem clo_any (w:World) (q p m n:Nat) (D:DataW Unit) (l:List (Int × Int)) (x y:Int) (hx:0<=x/\x<=18446744073709551615) (hy:0<=y/\y<=18446744073709551615)
  (hq:w.cell? ⟨q,0,none⟩=some (.pointer (some ⟨p,0,none⟩))) (hp:w.cell? ⟨p,0,none⟩=some (.map (some m))) (ho:w.ownsMap Tryz.prog 25 (plainElem Tryz.prog 25) m n D) (ht:Tel D l) (tms:Tms l) :
  Calls Tryz.prog 264 #[.int .u64 x,.int .u64 y,.pointer (some ⟨q,0,none⟩)] w fun e w'=>e=.returned (.int .i64 (cf l x y)) /\ ∃ a os,w'=grow (w.drewN a) os:=by
 have HX:=Lh hx
 have HY:=Lh hy
 have J:=Lh ht
 have I:=Lh tms
 have HO:=Lh ho
 clear hx hy ht tms ho
 go_enter Tryz.func264,Tryz.ntmps264
 go_wp2_with fail
 refine rgS 16 (fun w'=>w'.cell? ⟨q,0,none⟩=some (.pointer (some ⟨p,0,none⟩))/\w'.cell? ⟨p,0,none⟩=some (.map (some m))/\w'.ownsMap Tryz.prog 25 (plainElem Tryz.prog 25) m n D) (by kernel_rfl) (by kernel_rfl) ?_
 intro Y
 have z:=Lh Y
 clear Y
 have W:(fun w':World=>w'.cell? ⟨q,0,none⟩=some (.pointer (some ⟨p,0,none⟩))/\w'.cell? ⟨p,0,none⟩=some (.map (some m))/\w'.ownsMap Tryz.prog 25 (plainElem Tryz.prog 25) m n D) w.drew:=⟨hq,hp,HO.out.drew⟩
 have h:=Lh W
 clear W
 refine rq 0 z.out h.out rfl ?_ (hv:=fun w' hw=>by (obtain⟨F,G,u⟩:=hw; go_simp; exact rfl))
 refine rq 1 z.out h.out rfl ?_ (hv:=fun w' hw=>by (obtain⟨F,G,u⟩:=hw; go_simp; exact rfl))
 refine rq 2 z.out h.out rfl ?_ (hv:=fun w' hw=>by (obtain⟨F,G,u⟩:=hw; go_simp; exact rfl))
 refine rq 3 z.out h.out rfl ?_ (hv:=fun w' hw=>by (obtain⟨F,G,u⟩:=hw; go_simp; exact rfl))
 refine rq 4 z.out h.out rfl ?_ (hv:=fun w' hw=>by (obtain⟨F,G,u⟩:=hw; go_simp; exact rfl))
 refine rq 5 z.out h.out rfl ?_ (hv:=fun w' hw=>by (obtain⟨F,G,u⟩:=hw; have hl:=look_run HX.out u J.out I.out; go_simp; exact rfl))
 refine rq 6 z.out h.out rfl ?_ (hv:=fun w' hw=>by (obtain⟨F,G,u⟩:=hw; go_simp; exact rfl))
 refine rq 7 z.out h.out rfl ?_ (hv:=fun w' hw=>by (obtain⟨F,G,u⟩:=hw; go_simp; exact rfl))
 refine rq 8 z.out h.out rfl ?_ (hv:=fun w' hw=>by (obtain⟨F,G,u⟩:=hw; go_simp; exact rfl))
 refine rq 9 z.out h.out rfl ?_ (hv:=fun w' hw=>by (obtain⟨F,G,u⟩:=hw; go_simp; exact rfl))
 refine rq 10 z.out h.out rfl ?_ (hv:=fun w' hw=>by (obtain⟨F,G,u⟩:=hw; go_simp; exact rfl))
 refine rq 11 z.out h.out rfl ?_ (hv:=fun w' hw=>by (obtain⟨F,G,u⟩:=hw; have hl:=look_run HY.out u J.out I.out; go_simp; exact rfl))
 refine rq 13 z.out h.out rfl ?_ (hv:=fun w' hw=>by (obtain⟨F,G,u⟩:=hw; go_simp; exact rfl))
 refine rq 14 z.out h.out rfl ?_ (hv:=fun w' hw=>by (obtain⟨F,G,u⟩:=hw; go_simp; exact rfl))
 refine rO 12 rfl (by kernel_rfl) rfl ?_
 unfold Oper.wp
 go_simp
 refine (compare_any _ _ _).mono ?_
 rintro e w1 ⟨rfl,rfl⟩
 refine⟨h.out,?_⟩
 refine rO 15 rfl (by kernel_rfl) rfl ?_
 unfold Oper.wp
 go_simp
 refine (compare_any _ _ _).mono ?_
 rintro e w1 ⟨rfl,rfl⟩
 refine⟨h.out,?_⟩
 refine rO 16 rfl (by kernel_rfl) rfl ?_
 unfold Oper.wp
 go_simp
 refine rO 17 rfl (by kernel_rfl) rfl ?_
 unfold Oper.wp
 go_simp
 refine (or_any _ (cmpI (Wl.tick l x) (Wl.tick l y)) (cmpI x y) _ (by go_simp) (by go_simp)).mono ?_
 rintro e w1 ⟨rfl,rfl⟩
 go_simp
 refine rO 18 rfl (by kernel_rfl) rfl ?_
 unfold Oper.wp
 go_simp
 refine rgD (by kernel_rfl) ?_
 go_wp2_with fail
 go_ret
 exact⟨rfl,1,_,grow_one w _⟩
theorem ins0_any (p:Option Addr) (cap:Nat) (h:Value) (w:World) :
  Calls Tryz.prog 279 #[.slice p 0 cap,.int .i64 0,.int .i64 0,h] w fun e w'=>e=.returned (.tuple #[])/\w=w':=by
 go_enter Tryz.func279,Tryz.ntmps279
 go_wp2
 refine wp_loop_rounds 1 ?_
 rw[rounds_succ]
 go_wp2
 go_end0
 exact⟨rfl,rfl⟩
theorem pdq0_any (p:Option Addr) (cap:Nat) (u:Int) (h:Value) (w:World) :
  Calls Tryz.prog 274 #[.slice p 0 cap,.int .i64 0,.int .i64 0,.int .i64 u,h] w fun e w'=>e=.returned (.tuple #[])/\w=w':=by
 go_enter Tryz.func274,Tryz.ntmps274
 go_wp2
 refine wp_loop_rounds 1 ?_
 rw[rounds_succ]
 go_wp2_with (go_at_call 279; refine (ins0_any _ _ _ _).mono ?_; rintro e w' ⟨rfl,rfl⟩)
 (try simp only[Exit.inBlock,Exit.then])
 refine bodyPost_ret (results_none rfl _ _ _) rfl ?_
 exact⟨rfl,rfl⟩
theorem blen_any (n:Nat) (w:World) (h:n<=9223372036854775807):Calls Tryz.prog 275 #[.int .u64 n] w fun e w'=>e=.returned (.int .i64 (Lib.bitLen n))/\w=w':=by
 have h:=Any.bits_Len (SlLaysF0.n15.bits (P:=Tryz.prog) (ρ:=Sf.suRen) { Sf.suLays with }) (n:Int) w (by omega) (by omega)
 exact h.mono fun e w' ⟨u,z⟩=>⟨by simpa using u,z.symm⟩
theorem sort0_any (p:Option Addr) (cap:Nat) (u:Value) (w:World) :
  Calls Tryz.prog 263 #[.slice p 0 cap,u] w fun e w'=>e=.returned (.tuple #[])/\w=w':=by
 have h:=fun w=>blen_any 0 w (by omega)
 simp only[Int.natCast_zero] at h
 go_enter Tryz.func263,Tryz.ntmps263
 go_wp2_with (first | (go_at_call 275; refine (h _).mono ?_; rintro e w' ⟨rfl,rfl⟩) | (go_at_call 274; refine (pdq0_any _ _ _ _ _).mono ?_; rintro e w' ⟨rfl,rfl⟩))
 go_end0
 exact⟨rfl,rfl⟩
end Go.Proofs.YtoiklelghfckgaaGreatDoor.Wl
namespace Go.Proofs.YtoiklelghfckgaaGreatDoor.Wl
open Go.ChangeShapes Go.WideShapes Go.ChangeAt Go.RowKit Go.Maps Rw Sl Sn Ck
def first:List (Int × Int)->Int
 | []=>0
 | a :: _=>a.2
theorem left_struck {left:Lit->Bool} {x k:Int} : (left (.int .u64 k) && !(Lit.int .u64 k).sameKey (.int .u64 x))=false↔left (.int .u64 k)=false\/k=x:=by
 have:(Lit.int .u64 k).sameKey (.int .u64 x)=decide (k=x):=by simp[Lit.sameKey]
 rw[this]
 cases left (.int .u64 k) <;> simp
theorem Tel.of_at {D:DataW Unit} {l:List (Int × Int)} (h:Tel D l) (I:Tms l) {x c:Int} (z:∀ G,D.atKey (.int .u64 x) G=.lit (.int .u64 c)):(x,c)∈l:=by
 by_cases hx:x∈l.map Prod.fst
 .obtain⟨t,F⟩:=Tms.mem_key.1 hx
  have:=h.hit x t F (.lit (.int .u64 0))
  rw[z] at this
  obtain rfl:=lit_inj this
  exact F
 .have u:=h.miss hx (.lit (.int .u64 (c+1)))
  rw[z] at u
  have:=lit_inj u
  omega
end Go.Proofs.YtoiklelghfckgaaGreatDoor.Wl
namespace Go.Proofs.YtoiklelghfckgaaGreatDoor.Sf
open Go.ChangeShapes Go.WideShapes Go.ChangeAt Go.RowKit Rw Go.Shelf Go.Sort
section
variable {α:Type} [Inhabited α]
theorem put_block (enc:α->Value) (w:World) (b n:Nat) (d:Array α) (os:Array Obj) {u:Array Value} {e:TypeId} (h:w.heap[b]? = some (.cells u e (0,0))) :
  (sortWorld enc w b 0 n d os).heap[b]? = some (.cells (putCells enc 0 d u) e (0,0)):=by
 have z:b < w.heap.size:=(Array.getElem?_eq_some_iff.1 h).1
 unfold sortWorld grow putRow mapBlock Go.Sort.ahead
 simp only[Array.getElem?_append,Array.size_modify,z,if_true,Array.getElem?_modify,h]
 rfl
theorem put_other (enc:α->Value) (w:World) (b n:Nat) (d:Array α) (os:Array Obj) {k:Nat} (hk:k < w.heap.size) (h:k≠b) :
  (sortWorld enc w b 0 n d os).heap[k]? = w.heap[k]?:=by
 unfold sortWorld grow putRow mapBlock Go.Sort.ahead
 simp only[Array.getElem?_append,Array.size_modify,hk,if_true,Array.getElem?_modify]
 rw[if_neg (fun e=>h e.symm)]
theorem put_grown (enc:α->Value) (w:World) (b n:Nat) (d:Array α) (os:Array Obj):w.grownBy (sortWorld enc w b 0 n d os) (some b):=
 ⟨rfl,rfl,rfl,by unfold sortWorld grow putRow mapBlock Go.Sort.ahead; simp,fun k hk h=>put_other enc w b n d os hk (fun e=>h (by rw[e]))⟩
theorem put_take (enc:α->Value) (d:Array α) (u:Array Value) (h:d.size<=u.size):(putCells enc 0 d u).toList.take d.size=d.toList.map enc:=by
 apply List.ext_getElem?
 intro j
 rw[List.getElem?_take,List.getElem?_map]
 by_cases hj:j < d.size
 .rw[if_pos hj]
  unfold putCells
  simp[hj,Nat.lt_of_lt_of_le hj h]
 .rw[if_neg hj,List.getElem?_eq_none (by simpa using Nat.le_of_not_lt hj)]
  rfl
theorem sort_own {ρ:Ren} (L:SlLaysF.n6 Tryz.prog ρ) (enc:α->Value) (h1:OneCell enc) (cf:α->α->Int) (hO:SWO (ltOf cf)) (g:Nat) (cb:Array Value) (eg:∀ args w,(callFunc g args).run Tryz.prog w=.ok (.enter g args) w)
  (w:World) (base:Nat) (e:TypeId) (A:Option Addr) (c:Nat) (h:List α) (Y:w.ownsRow base e 1 (.slice A h.length c) h.length (h.map enc)) (ae:0 < h.length) (ac:h.length < 4611686018427387904)
  (a7:∀ G,w.grownBy G (Value.slice A h.length c).ownBlock -> ∀ x y:α,Calls Tryz.prog g (#[enc x,enc y] ++ cb) G fun e w'=>e=.returned (.int .i64 (cf x y)) /\ ∃ q ad,w'=grow (G.drewN q) ad) :
  Calls Tryz.prog (ρ.f 6) #[.slice A h.length c,.func (.func g) #[] cb] w fun e' w'=>e'=.returned (.tuple #[]) /\ ∃ I:List α,I.Perm h/\I.Pairwise (fun x y=>ltOf cf y x=false) /\
   w'.ownsRow base e 1 (.slice A h.length c) h.length (I.map enc)/\w.grownBy w' (Value.slice A h.length c).ownBlock:=by
 have af:=Y
 rcases Y.2 with ⟨_,h0⟩ | ⟨b,cap,a3,hs,a4,J,a2,a5,a1,ag⟩
 .omega
 injection hs with hA _ hc
 subst hA hc
 have a9:b < w.heap.size:=(Array.getElem?_eq_some_iff.1 J).1
 have hH:Holds enc w b 0 h.toArray:=by
  intro j F
  have W:j < h.length:=by simpa using F
  constructor
  .rw[Nat.zero_add,Y.cellAt j (by rw[Nat.mul_one]; exact W),List.getElem?_map,List.getElem?_eq_getElem W]
   simp[W]
  .simp[World.frozen?,J]
 have a6:CmpLays1 Tryz.prog g cb enc cf b 0 h.toArray.size w:=fun m os dk hs x y=>a7 _ (put_grown enc w b m dk os) x y
 have a0:=Any.slices_SortFunc L enc h1 cf hO g cb b 0 c h.toArray w eg a6 hH a9 (by simpa using ac)
 simp only[List.size_toArray] at a0
 refine a0.mono ?_
 rintro e' w' ⟨rfl,u,n,os,hp,aa,rfl⟩
 have z:u.size=h.length:=by simpa using hp.1
 refine⟨rfl,u.toList,?_,?_,?_,put_grown enc w b n u os⟩
 .have h2:=hp.2.2
  have e1:u.extract 0 h.length=u:=by rw[<- z]; simp
  have e2:h.toArray.extract 0 h.length=h.toArray:=by simp
  rw[e1,e2] at h2
  exact h2
 .rw[List.pairwise_iff_getElem]
  intro i j hi F a8
  have:=aa i j (Nat.zero_le _) a8 (by simpa [z] using F)
  simp at hi F
  simpa [hi,F] using this
 .refine⟨by simp[z],.inr ⟨b,c,_,rfl,a4,put_block enc w b n u os J,a2,a5,?_,?_⟩⟩
  .rw[<- a1]; simp[putCells]
  .rw[Nat.mul_one,<- z]
   exact put_take enc u a3 (by rw[a1,Nat.mul_one,z]; exact a2)
end
end Go.Proofs.YtoiklelghfckgaaGreatDoor.Sf
namespace Go.Proofs.YtoiklelghfckgaaGreatDoor.Wl
open Go.ChangeShapes Go.WideShapes Go.ChangeAt Go.RowKit Go.Maps Rw Sl Sn Ck Go.Sort
abbrev U:Type:={x:Int // 0<=x/\x<=18446744073709551615}
instance:Inhabited U:=⟨⟨0,by omega⟩⟩
def encU (u:U):Value:=.int .u64 u.1
theorem encU_one:OneCell encU:=fun _=>rfl
def cfU (l:List (Int × Int)) (x y:U):Int:=cf l x.1 y.1
theorem cf_neg {l:List (Int × Int)} (x y:Int):cf l x y < 0↔bf (x,Wl.tick l x) (y,Wl.tick l y)=true:=by
 rw[bf_iff]
 unfold cf orI cmpI
 show _↔Wl.tick l x < Wl.tick l y\/(Wl.tick l x=Wl.tick l y/\x < y)
 generalize Wl.tick l x=a
 generalize Wl.tick l y=b
 by_cases h1:a < b
 .simp[h1]
 .by_cases h2:b < a
  .simp[h1,h2]; omega
  .simp[h1,h2]
   by_cases h3:x < y
   .simp[h3]; omega
   .by_cases h4:y < x <;> simp[h3,h4]
theorem ltU {l:List (Int × Int)} (x y:U):ltOf (cfU l) x y=bf (x.1,Wl.tick l x.1) (y.1,Wl.tick l y.1):=by
 have:=cf_neg (l:=l) x.1 y.1
 unfold ltOf cfU
 cases h:bf (x.1,Wl.tick l x.1) (y.1,Wl.tick l y.1)
 .simp only[decide_eq_false_iff_not]; rw[this,h]; simp
 .simp only[decide_eq_true_eq]; rw[this,h]
theorem swoU (l:List (Int × Int)):SWO (ltOf (cfU l)) where
 irrefl x:=by rw[ltU]; have:=bf_irrefl (x.1,Wl.tick l x.1); simpa using this
 trans x y z h1 h2:=by rw[ltU] at *; exact bf_trans h1 h2
 ntrans x y z h1 h2:=by
  rw[ltU] at *
  have h:¬ bf (x.1,Wl.tick l x.1) (y.1,Wl.tick l y.1)=true:=by rw[h1]; simp
  have u:¬ bf (y.1,Wl.tick l y.1) (z.1,Wl.tick l z.1)=true:=by rw[h2]; simp
  have:¬ bf (x.1,Wl.tick l x.1) (z.1,Wl.tick l z.1)=true:=by rw[bf_iff] at *; omega
  simpa using this
theorem rises {l:List (Int × Int)} {u:List U} (h:u.Pairwise (fun x y=>ltOf (cfU l) y x=false)) (hn:(u.map Subtype.val).Nodup) :
  (u.map Subtype.val).Pairwise (fun a b=>bf (a,Wl.tick l a) (b,Wl.tick l b)=true):=by
 rw[List.pairwise_map]
 have G:=List.pairwise_map.1 hn
 refine (h.and G).imp ?_
 rintro x y ⟨z,F⟩
 rw[ltU] at z
 refine bf_total (fun e=>F ?_) (by rw[z]; simp)
 injection e with e1 _
 exact e1.symm
def rem (l:List (Int × Int)) (ks:List Int):List (Int × Int):=l.filter (fun a=>!ks.contains a.1)
theorem rem_nil (l:List (Int × Int)):rem l [] = l:=by simp[rem]
theorem rem_snoc (l:List (Int × Int)) (ks:List Int) (k:Int):wo (rem l ks) k=rem l (ks ++ [k]):=by
 unfold wo rem
 rw[List.filter_filter]
 congr 1
 funext a
 by_cases h:a.1=k <;> simp[h]
theorem rem_due {l:List (Int × Int)} (h:Tms l) (now:Int):rem l ((due l now).map Prod.fst)=left l now:=by
 unfold rem left
 refine List.filter_congr (fun a ha=>?_)
 congr 1
 rw[List.contains_eq_mem]
 congr 1
 rw[eq_iff_iff,Tms.mem_key]
 constructor
 .rintro⟨t,z⟩
  obtain⟨u,F⟩:=mem_due.1 z
  have:=h.uniq (k:=a.1) (t:=a.2) ha u
  omega
 .intro u
  exact⟨a.2,mem_due.2 ⟨ha,u⟩⟩
theorem Tms.rem {l:List (Int × Int)} (h:Tms l) (ks:List Int):Tms (rem l ks):=h.filter _
theorem cut_le {t now:Int} (h:t<=1152921504606846976):t<=cut now↔t<=now:=by unfold cut; split <;> omega
theorem sort_due (w:World) (q p m n:Nat) (D:DataW Unit) (l:List (Int × Int)) (base:Nat) (A:Option Addr) (c:Nat) (h:List U) (G:w.ownsRow base 25 1 (.slice A h.length c) h.length (h.map encU))
  (hq:w.cell? ⟨q,0,none⟩=some (.pointer (some ⟨p,0,none⟩))) (hp:w.cell? ⟨p,0,none⟩=some (.map (some m))) (ho:w.ownsMap Tryz.prog 25 (plainElem Tryz.prog 25) m n D) (ht:Tel D l) (tms:Tms l) (a1:h.length<=1024)
  (W:q < base) (J:p < base) (bm:m < base) :
  Calls Tryz.prog 263 #[.slice A h.length c,.func (.func 264) #[] #[.pointer (some ⟨q,0,none⟩)]] w fun Y w'=>Y=.returned (.tuple #[]) /\ ∃ z:List U,z.Perm h/\z.Pairwise (fun x y=>ltOf (cfU l) y x=false) /\
   w'.ownsRow base 25 1 (.slice A h.length c) h.length (z.map encU)/\w.grownBy w' (Value.slice A h.length c).ownBlock:=by
 by_cases h0:h=[]
 .subst h0
  refine (sort0_any A c _ w).mono ?_
  rintro e w' ⟨rfl,rfl⟩
  exact⟨rfl,[],List.Perm.refl _,List.Pairwise.nil,G,World.grownBy.refl _ _⟩
 .have a0:0 < h.length:=List.length_pos_iff.2 h0
  have eg:∀ args w,(callFunc 264 args).run Tryz.prog w=.ok (.enter 264 args) w:=enters_of Tryz.func264 (by kernel_rfl) rfl
  have F:∀ g,g < base->some g≠(Value.slice A h.length c).ownBlock:=fun g u=>row_ne G u
  exact Sf.sort_own Sf.suLays encU encU_one (cfU l) (swoU l) 264 #[.pointer (some ⟨q,0,none⟩)] eg w base 25 A c h G a0 (by omega)
   (fun I u x y=>clo_any I q p m n D l x.1 y.1 x.2 y.2 (u.cell hq (F _ W)) (u.cell hp (F _ J)) (ho.kept u (F _ bm)) ht tms)
theorem due_any (w:World) (p m:Nat) (l:List (Int × Int)) (now:Int) (h:Wh w p m l) (aA:0<=now/\now<=18446744073709551615) (hl:l.length<=1024) :
  Calls Tryz.prog 256 #[.pointer (some ⟨p,0,none⟩),.int .u64 now] w fun e w'=>∃ A c,e=.returned (.slice A (due l now).length c) /\
   w'.ownsRow w.heap.size 25 1 (.slice A (due l now).length c) (due l now).length (((due l now).map Prod.fst).map (Value.int .u64))/\Wh w' p m (left l now)/\w.grownBy w' (some m):=by
 have H:=Lh h
 obtain⟨i0,hi,b0,b2,b3⟩:=info_parts info_u64
 have b9:=h.lt.1
 have b8:=h.lt.2
 have aD:=h.ne
 obtain⟨hc,⟨D,ho,ht⟩,tms⟩:=h
 have HT:=Lh ht
 have W:=Lh tms
 have aq:=Lh aA
 have aO:=Lh aD
 clear ht tms aA aD
 go_enter Tryz.func256,Tryz.ntmps256
 go_wp2_with fail
 refine (Ck.at_any _ _ aq.out.1 aq.out.2).mono ?_
 rintro e w' ⟨rfl,rfl⟩
 rw[cut_add]
 have aw:(((w.alloc (.cells #[.pointer (some ⟨p,0,none⟩)] 127)).alloc (bx (cut now))).alloc (.cells #[.int .u64 (cut now)] 52)).cell? ⟨p,0,none⟩=some (.map (some m)):=alC (alC (alC hc _) _) _
 go_wp2_with (at_range; refine wpList_range_own _ rfl _ 252 rfl 25 25 law Tryz.underlying252 _ m l.length D rfl (((ho.alloc _).alloc _).alloc _) ?_; intro w0 aj a3 aH)
 have e3:(((w.alloc (.cells #[.pointer (some ⟨p,0,none⟩)] 127)).alloc (bx (cut now))).alloc (.cells #[.int .u64 (cut now)] 52)).heap.size=w.heap.size+3:=by simp
 rw[e3] at aj aH
 go_frame
 simp only[e3]
 have k0:w0.cell? ⟨w.heap.size,0,none⟩=some (.pointer (some ⟨p,0,none⟩)):=a3.cell (by go_simp) (by simp)
 have k1:w0.cell? ⟨p,0,none⟩=some (.map (some m)):=a3.cell aw (by simp)
 have k2:w0.cell? ⟨w.heap.size+2,0,none⟩=some (.int .u64 (cut now)):=a3.cell (by go_simp) (by simp)
 have k3:w.grownBy w0 none:=⟨a3.os,a3.tape,a3.output,by omega,fun k hk _=>(a3.block k (by rw[e3]; omega) (by simp)).trans ((Below.heap_alloc _ _ _ (by simp; omega)).trans ((Below.heap_alloc _ _ _ (by simp; omega)).trans (Below.heap_alloc _ _ _ hk)))⟩
 clear a3 aw e3
 go_loopw [6] (fun v wr=>∃ (lf:Lit->Bool) (cnt:Nat) (A:Option Addr) (c:Nat) (u:List U),v=.slice A u.length c/\wr.ranges Tryz.prog 25 (plainElem Tryz.prog 25) m (w.heap.size+3) l.length D lf cnt /\
   wr.ownsRow (w.heap.size+4) 25 1 (.slice A u.length c) u.length (u.map encU)/\wr.cell? ⟨w.heap.size,0,none⟩=some (.pointer (some ⟨p,0,none⟩))/\wr.cell? ⟨p,0,none⟩=some (.map (some m))/\wr.cell? ⟨w.heap.size+2,0,none⟩=some (.int .u64 (cut now)) /\
   w.grownBy wr none/\w.heap.size+4<=wr.heap.size/\u.length+cnt<=l.length/\Hid ((u.map Subtype.val).Nodup /\ ∀ k,k∈u.map Subtype.val ↔ ∃ t,(k,t)∈l/\t<=now/\lf (.int .u64 k)=false))
  (fun _ wr=>wr.rangeLeft m (w.heap.size+3))
 case atStart=>
  refine⟨_,_,none,0,[],rfl,aj,World.ownsRow_nil _ _ _ _,k0,k1,k2,k3,by omega,by rw[HT.out.size]; simp,⟨by simp,fun k=>⟨fun h=>(by cases h),?_⟩⟩⟩
  rintro⟨t,z,-,F⟩
  rw[HT.out.has,decide_eq_true (Tms.mem_key.2 ⟨t,z⟩)] at F
  cases F
 case round=>
  clear k0 k1 k2 k3 aj aH
  obtain⟨lf,cnt,A,c,u,rfl,a8,G,k0,k1,k2,k3,k4,k5,a2⟩:=hrel
  go_wp2_with (at_next; refine wpList_next_ranges_ii _ rfl _ rfl 25 25 .u64 .u64 law Tryz.underlying25 Tryz.underlying25 m (w.heap.size+3) l.length _ _ _ rfl a8 ?_ ?_)
  .intro _ ax
   have ag:=Lh a8.owns
   have ad:Hid ((u.map Subtype.val).Nodup /\ ∀ k,k∈u.map Subtype.val ↔ ∃ t,(k,t)∈l/\t<=now):=by
    refine⟨a2.out.1,fun k=>?_⟩
    rw[a2.out.2]
    exact⟨fun ⟨t,z,Y,_⟩=>⟨t,z,Y⟩,fun ⟨t,z,Y⟩=>⟨t,z,Y,ax _⟩⟩
   clear a2 a8 ax
   go_wp2_with fail
   refine (sort_due wr w.heap.size p m l.length D l (w.heap.size+4) A c u G k0 k1 ag.out HT.out W.out (by omega) (by omega) (by omega) (by omega)).mono ?_
   rintro e w2 ⟨rfl,a1,ah,aE,aG,a6⟩
   have ay:a1.length=u.length:=ah.length_eq
   have af:Hid (a1.map Subtype.val=(due l now).map Prod.fst):=by
    have aC:=ah.map Subtype.val
    refine W.out.due_keys (tk:=Wl.tick l) (fun k t h=>tick_hit W.out h) (rises aE (aC.nodup_iff.2 ad.out.1)) (fun k=>?_)
    rw[aC.mem_iff,ad.out.2]
   have a0:∀ g,g < w.heap.size+4->some g≠(Value.slice A u.length c).ownBlock:=fun g hg=>row_ne G hg
   have j0:w2.cell? ⟨w.heap.size,0,none⟩=some (.pointer (some ⟨p,0,none⟩)):=a6.cell k0 (a0 _ (by show w.heap.size < _; omega))
   have j1:w2.cell? ⟨p,0,none⟩=some (.map (some m)):=a6.cell k1 (a0 _ (by show p < _; omega))
   have j3:w.grownBy w2 none:=k3.andThen a6 (fun j hj=>Or.inl (by have:=(G.lt j hj).1; omega))
   have jm:Mw w2 m l:=⟨D,ag.out.kept a6 (a0 _ (by omega)),HT.out⟩
   have j4:w.heap.size+4<=w2.heap.size:=Nat.le_trans k4 a6.size
   have ak:=Lh j3
   have al:=Lh jm
   have ar:=Lh aG
   have an:=Lh ay
   clear ag ad ah aE a6 k0 k1 k2 k3 G a0 j3 jm aG ay
   go_wp2_with fail
   go_loopw [37] (fun i wr=>∃ k:Nat,i=.int .i64 k/\k<=u.length/\Mw wr m (rem l ((a1.map Subtype.val).take k))/\wr.ownsRow (w.heap.size+4) 25 1 (.slice A u.length c) u.length (a1.map encU)/\wr.cell? ⟨w.heap.size,0,none⟩=some (.pointer (some ⟨p,0,none⟩))/\wr.cell? ⟨p,0,none⟩=some (.map (some m))/\w.grownBy wr (some m)) (fun i _=>u.length - (intOf i).toNat)
   case atStart=>exact⟨0,rfl,Nat.zero_le _,by rw[List.take_zero,rem_nil]; exact al.out,ar.out,j0,j1,ak.out.but _⟩
   case round=>
    clear j0 j1 ak al ar
    obtain⟨k,rfl,hk,aa,G,b4,b5,ae⟩:=hrel
    by_cases a9:k < u.length
    .obtain⟨b,o,x,rfl,hb,hx,aT⟩:=(Rd.own_rd G).get a9
     obtain⟨x,aK⟩:=x
     change wr.cell? ⟨b,o+k,none⟩=some (.int .u64 x) at aT
     obtain⟨D2,aB,aI⟩:=aa
     have aR:=Lh aI
     have aL:(a1.map Subtype.val)[k]? = some x:=by rw[List.getElem?_map,hx]; rfl
     have HX:=Lh aL
     have aS:=Lh aK
     clear aI hx aL aK
     go_wp2_with (at_delete; refine wpList_delete_own _ rfl _ _ 252 25 rfl 25 law Tryz.underlying252 _ m _ D2 rfl aB _ _ rfl (key64 aS.out) ?_; intro w3 aW aZ)
     have J:=aZ.grown
     have a0:(Value.slice (some ⟨b,o,none⟩) u.length c).ownBlock≠some m:=fun e=>by have:=(G.lt m e).1; omega
     go_roundw
     case rel=>
      refine⟨k+1,by go_num,by omega,?_,G.kept J (Or.inr a0),J.cell b4 (by simp; omega),J.cell b5 (fun e=>aO.out (by injection e)),ae.andThen J (fun j hj=>.inr hj)⟩
      have e1:(a1.map Subtype.val).take (k+1)=(a1.map Subtype.val).take k ++ [x]:=Sn.take_snoc HX.out
      rw[e1,<- rem_snoc]
      exact Mw.mk aW (aR.out.del (W.out.rem _) (aB.tidy law) x)
     case measure=>simp[intOf]; omega
    .have aU:k=u.length:=by omega
     subst aU
     have hn:u.length=(due l now).length:=by
      have:=congrArg List.length af.out
      simp at this
      rw[<- this]; exact an.out.symm
     have e1:(a1.map Subtype.val).take u.length=(due l now).map Prod.fst:=by rw[List.take_of_length_le (by simp[an.out]),af.out]
     rw[e1,rem_due W.out] at aa
     have aN:=Lh aa
     have HN:=Lh hn
     have aQ:=Lh G
     clear aa hn e1 G
     go_wp2_with fail
     go_ret
     refine⟨A,c,by rw[<- HN.out]; rfl,?_,H.out.turned ae aN.out (W.out.filter _),ae⟩
     have z:=own_mono aQ.out (base':=w.heap.size) (by omega)
     rw[<- HN.out,<- af.out,List.map_map]
     exact z
  .intro y t I au bb ba aV av ac a9 a5 aY b7
   have hm:=HT.out.of_at W.out av
   have hy:=(W.out.ok _ hm).1
   have a7:=(W.out.ok _ hm).2.1
   have aJ:=(W.out.ok _ hm).2.2.2
   have q0:I.cell? ⟨w.heap.size,0,none⟩=some (.pointer (some ⟨p,0,none⟩)):=a5.cell k0 (by simp)
   have q1:I.cell? ⟨p,0,none⟩=some (.map (some m)):=a5.cell k1 (by simp; omega)
   have q2:I.cell? ⟨w.heap.size+2,0,none⟩=some (.int .u64 (cut now)):=a5.cell k2 (by simp)
   have q3:w.grownBy I none:=k3.andThen a5 (fun j hj=>by cases hj; exact Or.inl (by omega))
   have aF:=G.kept a5 (Or.inr (row_ne G (by omega)).symm)
   have ao:=Lh hm
   have q4:w.heap.size+4<=I.heap.size:=by omega
   clear k0 k1 k2 k3 hm av a5 aY
   by_cases hdue:t<=now
   .have hd:decide (t<=cut now)=true:=by rw[decide_eq_true_eq,cut_le aJ]; exact hdue
    have HD:=Lh hdue
    clear hdue
    have a0:∀ g,g < w.heap.size+4->some g≠(Value.slice A u.length c).ownBlock:=fun g hg=>row_ne G hg
    have a4:=Lh a0
    clear a0
    have ai:Rd encU ((I.alloc (bx (cut now))).alloc (.cells #[.int .u64 y] 25)) ((I.alloc (bx (cut now))).heap.size+1) (some ⟨(I.alloc (bx (cut now))).heap.size,0,none⟩) 1 1 [(⟨y,hy,a7⟩:U)]:=rd_one (enc:=encU) (I.alloc (bx (cut now))) (⟨y,hy,a7⟩:U) 25
    rw[show (I.alloc (bx (cut now))).heap.size=I.heap.size+1 by simp] at ai
    have aP:=Lh ai
    have az:u.map encU ++ [(⟨y,hy,a7⟩:U)].map encU=(u ++ [(⟨y,hy,a7⟩:U)]).map encU:=List.map_append.symm
    have aM:=Lh az
    clear ai az
    go_wp2_with fail
    refine (Ck.reached_any _ _ _).mono ?_
    rintro e w2 ⟨rfl,rfl⟩
    rw[hd]
    go_wp2_with (at_builtin; (refine apRd _ rfl _ _ 30 rfl (w.heap.size+4) 25 i0 (.int .u64 0) 8 Tryz.underlying30 hi b0 b2 b3 rfl _ u.length _ rfl ((aF.alloc _).alloc _) _ _ 1 1 [(⟨y,hy,a7⟩:U)] rfl aP.out encU_one (u.length+1) rfl _ aM.out (by unfold maxLen; omega) (by omega) (by simp; omega) ?_); intro A3 c3 w3 aX J b6)
    have s3:=J.size
    simp at s3
    go_roundw
    case rel=>
     refine⟨_,au,A3,c3,u ++ [⟨y,hy,a7⟩],by simp,((ac.alloc _).alloc _).kept J (a4.out _ (by omega)) (a4.out _ (by omega)),by simpa using aX,J.cell (alC (alC q0 _) _) (a4.out _ (by show w.heap.size < _; omega)),
      J.cell (alC (alC q1 _) _) (a4.out _ (by show p < _; omega)),J.cell (alC (alC q2 _) _) (a4.out _ (by show w.heap.size+2 < _; omega)),?_,by omega,by simp; omega,?_,fun k=>?_⟩
     .refine ((q3.andThen (World.grownBy_alloc I _ none) (by simp)).andThen (World.grownBy_alloc _ _ none) (by simp)).andThen J (fun j hj=>Or.inl ?_)
      have:=(G.lt j hj).1
      omega
     .rw[List.map_append,List.nodup_append]
      refine⟨a2.out.1,by simp,fun a ha b hb=>?_⟩
      simp at hb
      subst hb
      rintro rfl
      obtain⟨t',z,-,F⟩:=(a2.out.2 _).1 ha
      rw[aV] at F
      cases F
     .rw[List.map_append,List.mem_append,a2.out.2]
      constructor
      .rintro (⟨t',z,Y,F⟩ | h)
       .exact⟨t',z,Y,left_struck.2 (.inl F)⟩
       .simp at h
        subst h
        exact⟨t,ao.out,HD.out,left_struck.2 (.inr rfl)⟩
      .rintro⟨t',z,Y,F⟩
       rcases left_struck.1 F with F | rfl
       .exact .inl ⟨t',z,Y,F⟩
       .exact .inr (by simp)
    case measure=>rw[(((ac.alloc _).alloc _).kept J (a4.out _ (by omega)) (a4.out _ (by omega))).left_eq,a8.left_eq]; exact a9
   .have hd:decide (t<=cut now)=false:=by rw[decide_eq_false_iff_not,cut_le aJ]; exact hdue
    have HD:=Lh hdue
    clear hdue
    go_wp2_with fail
    refine (Ck.reached_any _ _ _).mono ?_
    rintro e w2 ⟨rfl,rfl⟩
    rw[hd]
    go_wp2_with fail
    go_roundw
    case rel=>
     refine⟨_,au,A,c,u,rfl,ac.alloc _,aF.alloc _,alC q0 _,alC q1 _,alC q2 _,q3.andThen (World.grownBy_alloc I _ none) (by simp),by simp; omega,by omega,a2.out.1,fun k=>?_⟩
     rw[a2.out.2]
     constructor
     .rintro⟨t',z,Y,F⟩
      exact⟨t',z,Y,left_struck.2 (.inl F)⟩
     .rintro⟨t',z,Y,F⟩
      rcases left_struck.1 F with F | rfl
      .exact⟨t',z,Y,F⟩
      .have:=W.out.uniq ao.out z
       have:=HD.out
       omega
    case measure=>rw[(ac.alloc _).left_eq,a8.left_eq]; exact a9
end Go.Proofs.YtoiklelghfckgaaGreatDoor.Wl
namespace Go.Proofs.YtoiklelghfckgaaGreatDoor.Wl
open Go.ChangeShapes Go.WideShapes Go.ChangeAt Go.RowKit Go.Maps Rw Sl Sn Ck
theorem Awake4_any (w:World) :
  Calls Tryz.prog 398 #[] w fun e w'=>e=.returned (.bool true)/\Below w.heap.size w w':=by
 go_enter Tryz.func398,Tryz.ntmps398
 go_wp2_with fail
 refine (awake4_any _).mono ?_
 rintro e w' ⟨rfl,h⟩
 go_wp2_with fail
 go_ret
 exact⟨rfl,h⟩
theorem awake5_any (w:World) :
  Calls Tryz.prog 397 #[] w fun e w'=>e=.returned (.bool true)/\Below w.heap.size w w':=by
 go_enter Tryz.func397,Tryz.ntmps397
 go_wp2_with fail
 refine (Wl.new_any _).mono ?_
 rintro e w1 ⟨rfl,a2,a5,ai⟩
 obtain⟨p,hp⟩:∃ p,w.heap.size+1=p:=⟨_,rfl⟩
 obtain⟨m,hm⟩:∃ m,w.heap.size=m:=⟨_,rfl⟩
 rw[hp] at a2 ⊢
 have u:w.heap.size<=m:=by omega
 have ac:w.heap.size<=w1.heap.size:=by omega
 have ad:Wh w1 p m []:=by rw[<- hm]; exact a2
 clear a2 hp hm ai
 go_wp2_with fail
 refine (arm_any _ p m [] 7 5 ad (by decide) (by decide) (by decide)).mono ?_
 rintro e w2 ⟨rfl,ae,a6⟩
 have z:Below w.heap.size w w2:=a5.grown a6 ac (fun k hk=>by cases hk; exact u)
 clear ad a6 a5 ac
 go_wp2_with fail
 refine (arm_any _ p m _ 3 5 ae (by decide) (by decide) (by decide)).mono ?_
 rintro e w3 ⟨rfl,af,a7⟩
 have F:Below w.heap.size w w3:=z.grown a7 z.size (fun k hk=>by cases hk; exact u)
 clear ae a7 z
 go_wp2_with fail
 refine (arm_any _ p m _ 9 4 af (by decide) (by decide) (by decide)).mono ?_
 rintro e w4 ⟨rfl,a3,a8⟩
 have G:Below w.heap.size w w4:=F.grown a8 F.size (fun k hk=>by cases hk; exact u)
 have e4:arm (arm (arm [] 7 5) 3 5) 9 4=[(9,4),(3,5),(7,5)]:=by decide
 rw[e4] at a3
 clear af a8 F e4
 go_wp2_with fail
 refine (Awake4_any _).mono ?_
 rintro e w5 ⟨rfl,Y⟩
 have ag:=a3.later Y
 have I:Below w.heap.size w w5:=G.trans (Y.mono G.size)
 clear a3 G Y
 go_wp2_with fail
 refine (due_any _ p m _ 5 ag (by decide) (by decide)).mono ?_
 rintro e h ⟨A,c,rfl,a1,a4,a9⟩
 have W:due [(9,4),(3,5),(7,5)] 5=[(9,4),(3,5),(7,5)]:=by decide
 have e7:left [(9,4),(3,5),(7,5)] 5=[]:=by decide
 rw[W] at a1
 rw[e7] at a4
 rw[W]
 have J:Below w.heap.size w h:=I.grown a9 I.size (fun k hk=>by cases hk; exact u)
 have aa:h.ownsRow w5.heap.size 25 1 (.slice A 3 c) 3 ([9,3,7].map (Value.int .u64)):=a1
 have ah:=Lh aa
 clear a1 aa a9 I ag W e7
 simp only[List.length_cons,List.length_nil,Nat.zero_add,Nat.reduceAdd]
 go_wp2_with fail
 refine (equal_any _ _ _ _ _ _ [9,3,7] [9,3,7] _ _ _ ((Rd.own_rd ah.out).alloc (Nat.le_refl _) _) (rd_lit (xs:=[9,3,7]) rfl (by simp) _ rfl)).mono ?_
 rintro e w7 ⟨rfl,q,rfl⟩
 have a0:Below h.heap.size h ((h.alloc (.cells #[.int .u64 9,.int .u64 3,.int .u64 7] 25)).drewN q):=bdN ((Below.refl _ _).alloc (Nat.le_refl _) _) q
 have aj:=a4.later a0
 have b7:=J.trans (a0.mono J.size)
 clear a0 a4 J
 go_wp2_with fail
 refine (Wl.len_any _ p m _ aj).mono ?_
 rintro e w8 ⟨rfl,rfl⟩
 go_wp2_with fail
 go_ret
 exact⟨rfl,b7⟩
theorem Awake5_any (w:World) :
  Calls Tryz.prog 394 #[] w fun e w'=>e=.returned (.bool true)/\Below w.heap.size w w':=by
 go_enter Tryz.func394,Tryz.ntmps394
 go_wp2_with fail
 refine (awake5_any _).mono ?_
 rintro e w' ⟨rfl,h⟩
 go_wp2_with fail
 go_ret
 exact⟨rfl,h⟩
end Go.Proofs.YtoiklelghfckgaaGreatDoor.Wl
namespace Go.Proofs.YtoiklelghfckgaaGreatDoor.Fl
open Ieee
theorem format_eq:FloatKind.f64.format=double:=rfl
def Z:Nat:=1074
theorem Z_is:Z=1074:=rfl
theorem word_false (r:Nat):double.word false r=r:=rfl
def fl (n:Nat):Nat:=if n=0 then 0 else rung 0 (n * 2 ^ Z)
theorem near_fl (n:Nat):double.nearest false n 0=fl n:=by
 unfold fl
 by_cases h:n=0
 .subst h; rw[if_pos rfl]; decide
 .rw[if_neg h,near_eq false (by omega) (p:=0) (b:=-1074) (by omega) (by omega)]
  rw[show ((0:Int) - -1074).toNat=Z from rfl,show ((-1074:Int) - -1074).toNat=0 from rfl,word_false]
theorem floatOf (n:Nat):floatOfInt .f64 (n:Int)=fl n:=by
 rw[<- near_fl]
 unfold floatOfInt FloatKind.nearest
 first
  | rfl
  | (simp[FloatKind.encode,Format.write,format_eq])
theorem fl_mono {n m:Nat} (h:n<=m):fl n<=fl m:=by
 unfold fl
 by_cases h0:n=0
 .rw[if_pos h0]; omega
 .rw[if_neg h0,if_neg (by omega)]
  exact rung_mono 0 (Nat.mul_pos (by omega) (Nat.two_pow_pos _)) (Nat.mul_le_mul_right _ h)
theorem fl_top:fl 18446744073709551615=4895412794951729152:=by decide +kernel
theorem fl_lt {n:Nat} (h:n<=18446744073709551615):fl n<=4895412794951729152:=by
 rw[<- fl_top]; exact fl_mono h
theorem sg_small {x:Nat} (h:x < SG):sg x=false/\rg x=x:=by
 unfold sg rg
 have:¬ SG<=x:=by omega
 simp[this]
def pr (x y:Nat):Nat:=if V x * V y=0 then 0 else rung 1074 (V x * V y)
theorem mul_eq {x y:Nat} (hx:x < INF) (hy:y < INF):double.mul x y=some (pr x y):=by
 have iS:=INF_SG
 obtain⟨Y,z⟩:=sg_small (x:=x) (by omega)
 obtain⟨sy,F⟩:=sg_small (x:=y) (by omega)
 have a0:=SG_is
 rcases read_eq (x:=x) (by omega) with ⟨-,m,i,ex,hi,a1,G,-,-⟩ | ⟨h,-⟩ | ⟨h,-⟩
 .rcases read_eq (x:=y) (by omega) with ⟨-,n,j,J,hj,a2,hn,-,-⟩ | ⟨u,-⟩ | ⟨u,-⟩
  .unfold Format.mul
   rw[ex,J,Y,sy]
   simp only[Datum.product,Option.map_some,Bool.xor_self]
   rw[z] at G
   rw[F] at hn
   have hv:m * n * 2 ^ (i+j+2148).toNat=V x * V y:=by
    rw[<- G,<- hn,show (i+j+2148).toNat=(i+1074).toNat+(j+1074).toNat by omega,Nat.pow_add]
    rw[Nat.mul_mul_mul_comm]
   show some (double.nearest _ (m * n) (i+j))=_
   unfold pr
   by_cases h0:m * n=0
   .rw[h0,Nat.zero_mul] at hv
    rw[if_pos hv.symm,h0]
    congr 1
   .have I:0 < m * n:=by omega
    have W:¬ V x * V y=0:=by
     rw[<- hv]
     have:=Nat.mul_pos I (Nat.two_pow_pos (i+j+2148).toNat)
     omega
    rw[if_neg W,near_eq false I (b:=-2148) (by omega) (by omega),word_false]
    rw[<- hv,show i+j - -2148=i+j+2148 by omega,show ((-1074:Int) - -2148).toNat=1074 from rfl]
  .rw[F] at u; omega
  .rw[F] at u; omega
 .rw[z] at h; omega
 .rw[z] at h; omega
theorem pr_mono {x h y u:Nat} (z:x<=h) (F:y<=u):pr x y<=pr h u:=by
 unfold pr
 have G:V x * V y<=V h * V u:=Nat.mul_le_mul (V_mono z) (V_mono F)
 by_cases h0:V x * V y=0
 .rw[if_pos h0]; omega
 .rw[if_neg h0,if_neg (by omega)]
  exact rung_mono 1074 (by omega) G
def tr (r:Nat):Nat:=V r / 2 ^ Z
theorem tr_mono {r u:Nat} (h:r<=u):tr r<=tr u:=Nat.div_le_div_right (V_mono h)
theorem toInt_eq {r:Nat} (h:r < INF):(double.read r).toInt .zero=some (tr r:Int):=by
 have Y:=INF_SG
 have J:=SG_is
 obtain⟨I,z⟩:=sg_small (x:=r) (by omega)
 rcases read_eq (x:=r) (by omega) with ⟨-,m,e,ex,hi,W,F,-,-⟩ | ⟨u,-⟩ | ⟨u,-⟩
 .rw[ex,I]
  unfold Datum.toInt Datum.integral
  simp only[cut_zero]
  rw[z] at F
  unfold tr signed
  rw[<- F]
  simp only[Bool.false_eq_true,if_false,Nat.shiftLeft_zero]
  congr 2
  by_cases he:0<=e
  .rw[show (-e).toNat=0 by omega,Nat.pow_zero,Nat.div_one,Nat.shiftLeft_eq,show (e+1074).toNat=e.toNat+Z by rw[Z_is]; omega,Nat.pow_add,<- Nat.mul_assoc,Nat.mul_div_cancel _ (Nat.two_pow_pos _)]
  .rw[show e.toNat=0 by omega,Nat.shiftLeft_zero]
   have G:(2:Nat) ^ Z=2 ^ (-e).toNat * 2 ^ (e+1074).toNat:=by rw[<- Nat.pow_add]; congr 1; rw[Z_is]; omega
   rw[G,Nat.mul_div_mul_right _ _ (Nat.two_pow_pos _)]
 .rw[z] at u; omega
 .rw[z] at u; omega
abbrev ONE:Nat:=4607182418800017408
theorem ONE_is:ONE=4607182418800017408:=rfl
theorem pr_top:pr 4895412794951729152 4607182418800017407=4895412794951729151:=by decide +kernel
theorem tr_top:tr 4895412794951729151=18446744073709549568:=by decide +kernel
theorem pr_lt {n x:Nat} (hn:n<=18446744073709551615) (hx:x < ONE):pr (fl n) x<=4895412794951729151:=by
 rw[<- pr_top]; exact pr_mono (fl_lt hn) (by have:=ONE_is; omega)
theorem part_fits {n x:Nat} (hn:n<=18446744073709551615) (hx:x < ONE):tr (pr (fl n) x)<=18446744073709549568:=by
 rw[<- tr_top]; exact tr_mono (pr_lt hn hx)
def pos (x:Nat):Bool:=FloatKind.f64.format.order x 0 == some .gt
def ge1 (x:Nat):Bool:=FloatKind.f64.format.order x 4607182418800017408 == some .gt || FloatKind.f64.format.order x 4607182418800017408 == some .eq
def le (x y:Nat):Bool:=FloatKind.f64.format.order x y == some .lt || FloatKind.f64.format.order x y == some .eq
def part (n x:Nat):Nat:=if pos x then (if ge1 x then n else min n (tr (pr (fl n) x))) else 0
theorem cmp_gt (a b:Int):(some (compare a b) == some Ordering.gt)=decide (b < a):=by
 rcases Int.lt_trichotomy a b with h | h | h
 .have:compare a b=.lt:=by simp only[compare,compareOfLessAndEq]; rw[if_pos h]
  rw[this]; have:¬ b < a:=by omega
  simp[this]
 .subst h
  have:compare a a=.eq:=by simp only[compare,compareOfLessAndEq]; simp
  rw[this]; simp
 .have:compare a b=.gt:=by simp only[compare,compareOfLessAndEq]; rw[if_neg (by omega),if_neg (by omega)]
  rw[this]; simp[h]
theorem cmp_eq (a b:Int):(some (compare a b) == some Ordering.eq)=decide (a=b):=by
 rcases Int.lt_trichotomy a b with h | h | h
 .have:compare a b=.lt:=by simp only[compare,compareOfLessAndEq]; rw[if_pos h]
  rw[this]; have:¬ a=b:=by omega
  simp[this]
 .subst h
  have:compare a a=.eq:=by simp only[compare,compareOfLessAndEq]; simp
  rw[this]; simp
 .have:compare a b=.gt:=by simp only[compare,compareOfLessAndEq]; rw[if_neg (by omega),if_neg (by omega)]
  rw[this]; have:¬ a=b:=by omega
  simp[this]
theorem cmp_lt (a b:Int):(some (compare a b) == some Ordering.lt)=decide (a < b):=by
 rcases Int.lt_trichotomy a b with h | h | h
 .have:compare a b=.lt:=by simp only[compare,compareOfLessAndEq]; rw[if_pos h]
  rw[this]; simp[h]
 .subst h
  have:compare a a=.eq:=by simp only[compare,compareOfLessAndEq]; simp
  rw[this]; simp
 .have:compare a b=.gt:=by simp only[compare,compareOfLessAndEq]; rw[if_neg (by omega),if_neg (by omega)]
  rw[this]; have:¬ a < b:=by omega
  simp[this]
theorem Ko_small {x:Nat} (h:x < SG):Ko x=x:=by
 obtain⟨u,z⟩:=sg_small h
 unfold Ko
 rw[u,z]
 simp
theorem isN_small {x:Nat} (h:x < SG):isN x=decide (INF < x):=by unfold isN; rw[(sg_small h).2]
theorem pos_iff {x:Nat} (hx:x < 18446744073709551616):pos x=true↔0 < x/\x<=INF:=by
 have F:=INF_is
 have G:=SG_is
 have I:=INF_SG
 unfold pos
 have z1:isN 0=false:=by decide
 have z2:Ko 0=0:=by decide
 rw[format_eq,order_eq hx (by omega),z1,z2,Bool.or_false]
 by_cases h:x < SG
 .rw[isN_small h,Ko_small h]
  by_cases hn:INF < x
  .rw[decide_eq_true hn]
   exact⟨fun h=>by simp at h,fun h=>by omega⟩
  .rw[decide_eq_false hn,if_neg (by simp),cmp_gt,decide_eq_true_eq]
   omega
 .have z:sg x=true:=by unfold sg; rw[decide_eq_true_eq]; omega
  by_cases hn:isN x=true
  .rw[hn,if_pos rfl]
   exact⟨fun h=>by simp at h,fun h=>by omega⟩
  .have u:isN x=false:=by simpa using hn
   rw[u,if_neg (by simp),cmp_gt,decide_eq_true_eq]
   unfold Ko
   rw[z]
   simp only[if_true]
   omega
theorem ge1_iff {x:Nat} (z:0 < x) (F:x<=INF):ge1 x=true↔ONE<=x:=by
 have G:=INF_is
 have I:=SG_is
 have J:=INF_SG
 have W:=ONE_is
 unfold ge1
 rw[format_eq,order_eq (by omega) (by omega),isN_small (x:=x) (by omega),isN_small (x:=4607182418800017408) (by omega),Ko_small (x:=x) (by omega),Ko_small (x:=4607182418800017408) (by omega)]
 have h:decide (INF < x)=false:=by simp; omega
 have u:decide (INF < 4607182418800017408)=false:=by simp; omega
 rw[h,u]
 simp only[Bool.or_self,Bool.false_eq_true,if_false,cmp_gt,cmp_eq]
 simp; omega
end Go.Proofs.YtoiklelghfckgaaGreatDoor.Fl
namespace Go.Proofs.YtoiklelghfckgaaGreatDoor.Fl
open Go.ChangeShapes Go.WideShapes Go.ChangeAt Go.RowKit Rw Ck
theorem part_any (n x:Nat) (w:World) (hn:n<=18446744073709551615) (hx:x < 18446744073709551616) :
  Calls Tryz.prog 272 #[.int .u64 (n:Int),.float .f64 x] w fun e w'=>e=.returned (.int .u64 (part n x:Nat))/\w=w':=by
 cases hp:pos x with
 | false=>
  have u:part n x=0:=by unfold part; rw[hp]; rfl
  rw[u]
  have h1:(FloatKind.f64.format.order x 0 == some Ordering.gt)=false:=hp
  clear u hp
  go_enter Tryz.func272,Tryz.ntmps272
  go_wp2
  go_ret
  exact⟨rfl,rfl⟩
 | true=>
  have h1:(FloatKind.f64.format.order x 0 == some Ordering.gt)=true:=hp
  obtain⟨F,G⟩:=(pos_iff hx).1 hp
  cases hg:ge1 x with
  | true=>
   have u:part n x=n:=by unfold part; rw[hp,hg]; rfl
   rw[u]
   have h2:(FloatKind.f64.format.order x 4607182418800017408 == some Ordering.gt || FloatKind.f64.format.order x 4607182418800017408 == some Ordering.eq)=true:=hg
   clear u hp hg F G
   go_enter Tryz.func272,Tryz.ntmps272
   go_wp2
   go_ret
   exact⟨rfl,rfl⟩
  | false=>
   have u:part n x=min n (tr (pr (fl n) x)):=by unfold part; rw[hp,hg]; rfl
   have h2:(FloatKind.f64.format.order x 4607182418800017408 == some Ordering.gt || FloatKind.f64.format.order x 4607182418800017408 == some Ordering.eq)=false:=hg
   have z:x < ONE:=by
    have:=ge1_iff F G
    rw[hg] at this
    have W:=ONE_is
    have:¬ ONE<=x:=fun h=>by simp[h] at this
    omega
   have i1:=INF_is
   have W:=ONE_is
   have a0:=fl_lt hn
   have a1:=pr_lt hn z
   have a2:=part_fits hn z
   have I:=floatOf n
   have J:floatBits .mul .f64 (floatOfInt .f64 (n:Int)) x=some (pr (fl n) x):=by
    rw[I]
    exact mul_eq (by omega) (by omega)
   have hc:floatToIntVal .f64 (pr (fl n) x) .u64=some (tr (pr (fl n) x):Int):=by
    unfold floatToIntVal
    have:(FloatKind.decode .f64 (pr (fl n) x)).toInt .zero=some (tr (pr (fl n) x):Int):=toInt_eq (by omega)
    rw[this]
    simp only[]
    rw[if_pos]
    simp[IntKind.min,IntKind.max,IntKind.bits,IntKind.signed]
    omega
   have r1:=fun w=>run_float_arith (P:=Tryz.prog) w .mul 26 .f64 _ _ _ J
   have r2:=fun w=>run_convert_float_int (P:=Tryz.prog) w 26 25 .f64 .u64 _ _ (by kernel_rfl) Tryz.underlying25 hc
   have Y:Hid (part n x=min n (tr (pr (fl n) x))):=u
   generalize pr (fl n) x=q at *
   generalize tr q=t at *
   clear J hc u hp hg F G z i1 W a0 a1 I
   go_enter Tryz.func272,Tryz.ntmps272
   go_wp2
   go_ret
   refine⟨?_,rfl⟩
   rw[Y.out]
   simp
   omega
theorem share14 (w:World):Calls Tryz.prog 273 #[.int .u64 1,.int .u64 4] w fun e w'=>e=.returned (.float .f64 4598175219545276416)/\w=w':=by
 have h:floatBits .quo .f64 (floatOfInt .f64 1) (floatOfInt .f64 4)=some 4598175219545276416:=by decide +kernel
 have u:=fun w=>run_float_arith (P:=Tryz.prog) w .quo 26 .f64 _ _ _ h
 clear h
 go_enter Tryz.func273,Tryz.ntmps273
 go_wp2
 go_ret
 exact⟨rfl,rfl⟩
theorem part10:part 10 4598175219545276416=2:=by decide +kernel
theorem order_quarter:(FloatKind.f64.format.order 4598175219545276416 4598175219545276416 == some Ordering.eq)=true:=by decide +kernel
theorem awake6_any (w:World) :
  Calls Tryz.prog 392 #[] w fun e w'=>e=.returned (.bool true)/\Below w.heap.size w w':=by
 have hq:=order_quarter
 go_enter Tryz.func392,Tryz.ntmps392
 go_wp2_with fail
 refine (Wl.Awake5_any _).mono ?_
 rintro e u ⟨rfl,b1⟩
 go_wp2_with fail
 refine (share14 _).mono ?_
 rintro e h ⟨rfl,rfl⟩
 go_wp2_with fail
 refine (part_any 10 4598175219545276416 _ (by omega) (by omega)).mono ?_
 rintro e h ⟨rfl,rfl⟩
 rw[part10]
 go_wp2_with fail
 go_ret
 exact⟨rfl,b1⟩
end Go.Proofs.YtoiklelghfckgaaGreatDoor.Fl
end
