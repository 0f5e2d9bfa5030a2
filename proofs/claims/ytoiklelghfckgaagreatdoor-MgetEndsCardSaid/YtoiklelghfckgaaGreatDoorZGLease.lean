/- A part of the claim: the texts LeaseMath LeaseDoc LeaseU. -/
import Derived.Test.YtoiklelghfckgaaGreatDoorZBase6
set_option linter.unusedVariables false
namespace Go.Proofs.YtoiklelghfckgaaGreatDoor.Le
open Go.ChangeShapes Go.WideShapes Go.ChangeAt Go.RowKit Go.Maps Rw Hi Mt Ck
theorem arm_room' {T:List (Int × Int)} {x t:Int} (h:T.length≤1000) (z:t≤1152921504606846976):Wl.arm T x t=Wl.ins (x,t) (Wl.wo T x):=by
 have u:Wl.full T x=false:=decide_eq_false (by have:=Wl.wo_len T x; omega)
 unfold Wl.arm Wl.cut
 rw [u,if_pos z]; rfl
def cnt (L:List (Int × Ls)) (t:Nat):Nat:=(L.filter (fun a=>decide (a.2.thread < (t:Int)))).length
def Sd (D:List (Int × Ls)):Prop:=D.Pairwise (fun a b=>a.1 < b.1)
theorem Sd.nd {D:List (Int × Ls)} (h:Sd D):Nd D:=by
 unfold Nd List.Nodup
 rw [List.pairwise_map]
 exact List.Pairwise.imp (fun u=>Int.ne_of_lt u) h
theorem Sd.filter {D:List (Int × Ls)} (h:Sd D) (p:Int × Ls→Bool):Sd (D.filter p):=List.Pairwise.filter p h
theorem Sd.wo {D:List (Int × Ls)} (h:Sd D) (id:Int):Sd (Mt.wo D id):=h.filter _
theorem Sd.keys {D:List (Int × Ls)} (h:Sd D):(D.map Prod.fst).Pairwise (· ≤ ·):=by
 rw [List.pairwise_map]
 exact List.Pairwise.imp (fun u=>Int.le_of_lt u) h
theorem Sd.rest {D:List (Int × Ls)} (h:Sd D) {k:Nat} {id:Int} (hk:∀ a,D[k]? = some a→id < a.1):∀ a∈D.drop k,id < a.1:=by
 intro a ha
 obtain ⟨j,z,rfl⟩:=List.mem_iff_getElem.1 ha
 rw [List.getElem_drop]
 rw [List.length_drop] at z
 have u:=hk _ (List.getElem?_eq_getElem (show k < D.length by omega))
 rcases Nat.eq_zero_or_pos j with e | e
 ·subst e; exact u
 ·have:=List.pairwise_iff_getElem.1 h k (k+j) (by omega) (by omega) (by omega)
  exact Int.lt_trans u this
theorem Sd.put {D:List (Int × Ls)} (h:Sd D) {k:Nat} {id:Int} (x:Ls) (F:∀ a∈D.take k,a.1 < id) (z:∀ a∈D.drop k,id < a.1):Sd (D.take k ++ (id,x) :: D.drop k):=by
 refine List.pairwise_append.2 ⟨h.sublist (List.take_sublist _ _),List.pairwise_cons.2 ⟨z,h.sublist (List.drop_sublist _ _)⟩,fun a ha b u=>?_⟩
 rcases List.mem_cons.1 u with rfl | u
 ·exact F a ha
 ·exact Int.lt_trans (F a ha) (z b u)
theorem put_perm (D:List (Int × Ls)) (k:Nat) (a:Int × Ls):(a :: D).Perm (D.take k ++ a :: D.drop k):=by
 have h:(D.take k ++ a :: D.drop k).Perm (a :: (D.take k ++ D.drop k)):=List.perm_middle
 rw [List.take_append_drop] at h
 exact h.symm
def mk (M:List Int):List (Int × Bool):=M.map (fun i=>(i,true))
theorem mk_keys (M:List Int):(mk M).map Prod.fst=M:=by unfold mk; rw [List.map_map]; exact (List.map_congr_left fun a _=>rfl).trans (List.map_id _)
theorem mk_len (M:List Int):(mk M).length=M.length:=by unfold mk; rw [List.length_map]
theorem mk_wo (M:List Int) (id:Int):Mt.wo (mk M) id=mk (M.filter (· != id)):=by
 unfold Mt.wo mk
 rw [List.filter_map]; rfl
theorem mk_put (M:List Int) (id:Int):((id,true) :: Mt.wo (mk M) id).Perm (mk (M.filter (· != id) ++ [id])):=by
 rw [mk_wo]
 unfold mk
 rw [List.map_append]
 exact (List.perm_append_singleton _ _).symm
theorem mk_fnd (M:List Int) (id:Int):(fnd (mk M) id).getD false=decide (id∈M):=by
 have h:=fnd_is (l:=mk M) (k:=id)
 rw [mk_keys] at h
 cases hf:fnd (mk M) id with
 | none=>rw [hf] at h; exact h
 | some b=>
  rw [hf] at h
  have u:=fnd_some hf
  obtain ⟨i,_,e⟩:=List.mem_map.1 u
  injection e with _ e2
  rw [← e2,← h]; rfl
def bE (D:List (Int × Ls)) (id th:Int):Int:=if th < 0∨8≤th then 2 else if (fnd D id).isSome=true then 10 else 0
def bL (D:List (Int × Ls)) (id th now:Int):List (Int × Ls):=if bE D id th=0 then (id,⟨th,now,false⟩) :: D else D
def bT (leak:Int) (D:List (Int × Ls)) (T:List (Int × Int)) (id th now:Int):List (Int × Int):=if bE D id th=0∧leak≠0 then Wl.arm T id (cAdd now leak) else T
theorem arm_put {T:List (Int × Int)} {id now leak:Int} (h:T.length≤1000):Wl.arm T id (cAdd now leak)=Wl.ins (id,cAdd now leak) (Wl.wo T id):=arm_room' h (cAdd_hi _ _)
theorem bL_len (D:List (Int × Ls)) (id th now:Int):(bL D id th now).length≤D.length+1:=by unfold bL; split <;> simp
theorem bT_len (leak:Int) (D:List (Int × Ls)) {T:List (Int × Int)} (id th now:Int) (h:T.length≤1000):(bT leak D T id th now).length≤T.length+1:=by
 unfold bT; split
 ·rw [arm_put h]
  have z:=Wl.wo_len T id
  have u:∀ (a:Int × Int) (l:List (Int × Int)),(Wl.ins a l).length=l.length+1:=fun a l=>Wl.ins_len a l
  rw [u]; omega
 ·omega
section
variable (w:World) (x:At) (leak:Int) (D:List (Int × Ls)) (M:List Int) (T:List (Int × Int)) (id th now:Int)
theorem beginU (h:Bk w x leak D (mk M) T) (hid:U64 id) (Q:U64 now) (I:U64 leak) (Y:D.length≤1000) (W:T.length≤1000) :
  Calls Tryz.prog 137 #[ptr x.p,.int .u64 id,.int .i64 th,.int .u64 now] w fun e w'=>e=.returned (.int .i64 (bE D id th))∧Bk w' x leak (bL D id th now) (mk M) (bT leak D T id th now)∧Fr (some x.a) (some x.m) w w':=by
 by_cases z:th < 0∨8≤th
 ·have e:bE D id th=2:=by unfold bE; rw [if_pos z]
  have eL:bL D id th now=D:=by unfold bL; rw [e,if_neg (by decide)]
  have F:bT leak D T id th now=T:=by unfold bT; rw [e,if_neg (fun h=>absurd h.1 (by decide))]
  rw [e,eL,F]
  refine (begin_range w x leak D (mk M) T id th now h z).mono ?_
  rintro e w' ⟨rfl,rfl⟩
  exact ⟨rfl,h,fr_below (Below.refl _ _)⟩
 ·cases u:(fnd D id).isSome with
  | true=>
   have e:bE D id th=10:=by unfold bE; rw [if_neg z,if_pos u]
   have eL:bL D id th now=D:=by unfold bL; rw [e,if_neg (by decide)]
   have F:bT leak D T id th now=T:=by unfold bT; rw [e,if_neg (fun h=>absurd h.1 (by decide))]
   rw [e,eL,F]
   refine (begin_had w x leak D (mk M) T id th now h hid (by omega) (by omega) u).mono ?_
   rintro e w' ⟨rfl,u⟩
   exact ⟨rfl,h.later u,fr_below u⟩
  | false=>
   have e:bE D id th=0:=by unfold bE; rw [if_neg z,if_neg (by rw [u]; decide)]
   have hw:Mt.wo D id=D:=wo_none (fun J=>by
    have:=fnd_is (l:=D) (k:=id)
    rw [u,decide_eq_true J] at this; cases this)
   have eL:bL D id th now=(id,⟨th,now,false⟩) :: Mt.wo D id:=by unfold bL; rw [if_pos e,hw]
   rw [e,eL]
   by_cases h0:leak=0
   ·subst h0
    have F:bT 0 D T id th now=T:=by unfold bT; rw [if_neg (fun h=>absurd rfl h.2)]
    rw [F]
    refine (begin_no_leak w x D (mk M) T id th now h hid (by omega) (by omega) u (by omega)).mono ?_
    rintro e w' ⟨rfl,z,G⟩
    exact ⟨rfl,z,G⟩
   ·have F:bT leak D T id th now=Wl.arm T id (cAdd now leak):=by unfold bT; rw [if_pos ⟨e,h0⟩]
    rw [F]
    refine (begin_leak w x leak D (mk M) T id th now h hid Q I h0 (by omega) (by omega) u (by omega) (by omega)).mono ?_
    rintro e w' ⟨rfl,z,G⟩
    exact ⟨rfl,z,G⟩
theorem markU (h:Bk w x leak D (mk M) T) (hid:U64 id) (G:M.length≤1000) :
  Calls Tryz.prog 37 #[ptr x.p,.int .u64 id,.int .i64 th] w fun e w'=>e=.returned (.int .i64 (wr D id th))∧Bk w' x leak D (mk (if holds D id th=true then M.filter (· != id) ++ [id] else M)) T∧Fr (some x.b) none w w':=by
 cases hh:holds D id th with
 | true=>
  have e:wr D id th=0:=by unfold wr; rw [if_pos hh]
  rw [e,if_pos rfl]
  refine (mark_ok w x leak D (mk M) T id th h hid hh (by rw [mk_len]; omega)).mono ?_
  rintro e w' ⟨rfl,z,F⟩
  exact ⟨rfl,z.permM (mk_put M id),F⟩
 | false=>
  have e:wr D id th=5:=by unfold wr; rw [if_neg (by rw [hh]; decide)]
  rw [e,if_neg (by decide)]
  refine (mark_no w x leak D (mk M) T id th h hid hh).mono ?_
  rintro e w' ⟨rfl,u⟩
  exact ⟨rfl,h.later u,fr_below u⟩
theorem forgetU (h:Bk w x leak D (mk M) T) (hid:U64 id) :
  Calls Tryz.prog 142 #[ptr x.p,.int .u64 id] w fun e w'=>e=.returned (.tuple #[])∧Bk w' x leak D (mk (M.filter (· != id))) T∧Fr (some x.b) none w w':=by
 have:=forget_any w x leak D (mk M) T id h hid
 rw [mk_wo] at this
 exact this
end
theorem Bk.keep {w w':World} {x:At} {leak:Int} {L:List (Int × Ls)} {M:List (Int × Bool)} {T:List (Int × Int)} (h:Bk w x leak L M T) {f g:Option Nat} (F:Fr f g w w') (u:(f=some x.a∧g=some x.m)∨(f=some x.b∧g=none)) {b o:Nat} {v:Value} (hc:w.cell? ⟨b,o,none⟩=some v):w'.cell? ⟨b,o,none⟩=some v:=by
 have z:b < w.heap.size:=Lw.lt_heap hc
 have ha:b≠x.a:=fun e=>h.leases.no_cell o v (e ▸ hc)
 have G:b≠x.b:=fun e=>h.marks.no_cell o v (e ▸ hc)
 have I:b≠x.m:=fun e=>wh_no_cell h.wheel o v (e ▸ hc)
 refine (F.cell (p:=⟨b,o,none⟩) z ?_ ?_).trans hc
 ·rcases u with ⟨rfl,rfl⟩ | ⟨rfl,rfl⟩ <;> intro e <;> injection e <;> contradiction
 ·rcases u with ⟨rfl,rfl⟩ | ⟨rfl,rfl⟩
  ·intro e; injection e; contradiction
  ·intro e; cases e
theorem Rs.held {α:Type} {enc:α→List Value} {z:Nat} {w w':World} {B:Nat} {A:Option Addr} {n c:Nat} {xs:List α} (h:Rs enc z w B A n c xs) (hk:∀ b o v,w.cell? ⟨b,o,none⟩=some v→w'.cell? ⟨b,o,none⟩=some v) (I:B≤w'.heap.size):Rs enc z w' w'.heap.size A n c xs:=
 ⟨h.len,h.cap,h.top,fun hn=>by
  obtain ⟨b,o,e,G,hc⟩:=h.at_ hn
  exact ⟨b,o,e,by omega,fun j x hx i u hi F=>hk _ _ _ (hc j x hx i u hi F)⟩⟩
theorem Rd.held {α:Type} {enc:α→Value} {w w':World} {B:Nat} {A:Option Addr} {n c:Nat} {xs:List α} (h:Rd enc w B A n c xs) (hk:∀ b o v,w.cell? ⟨b,o,none⟩=some v→w'.cell? ⟨b,o,none⟩=some v) (z:B≤w'.heap.size):Rd enc w' w'.heap.size A n c xs:=
 ⟨h.len,h.cap,h.top,fun hn=>by
  obtain ⟨b,o,e,u,hc⟩:=h.at_ hn
  exact ⟨b,o,e,by omega,fun j x hx=>hk _ _ _ (hc j x hx)⟩⟩
end Go.Proofs.YtoiklelghfckgaaGreatDoor.Le
