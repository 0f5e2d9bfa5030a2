/- A part of the claim: the texts Base5. -/
import Derived.Test.YtaeemilldmhbnaaGreatDoorXBase1
import Derived.Test.YtaeemilldmhbnaaGreatDoorXGFr
import Derived.Lib.SliceRun
import Derived.ProofKit
import Derived.Deep.RegionLaw
import Derived.Shelf.RegionOpenPlain
import Derived.Lib.SlicesDelete
set_option maxRecDepth 100000
set_option maxHeartbeats 8000000
set_option linter.unusedVariables false
namespace Go.Proofs.YtaeemilldmhbnaaGreatDoor.Rw
open Go Go.RowKit
section
variable {P:Program} {ops:Array Oper} {Q:Exit→Act→World→Prop} {md:Region.Mode} {S:World→Prop} {n:Nat}
theorem wanted_of {o:Oper} {a:Act} {g:Nat} {p b:Bool} {d:Tmp} (u:o.guard=some (g,p)) (h:dstOf ops g=some d) (hv:a.tmps[d]? = some (.bool b)):Region.wanted o (yielded ops a.tmps)=(b == p):=by
 have z:yielded ops a.tmps g=some b:=by
  unfold yielded
  unfold dstOf at h
  simp only [h]
  simp [hv]
 unfold Region.wanted
 rw [u]
 simp only [z]
 cases b <;> cases p <;> rfl
theorem wanted_yes {o:Oper} {a:Act} {g:Nat} {p:Bool} {d:Tmp} (u:o.guard=some (g,p)) (h:dstOf ops g=some d) (hv:a.tmps[d]? = some (.bool p)):Region.wanted o (yielded ops a.tmps)=true:=by
 rw [wanted_of u h hv]; cases p <;> rfl
theorem at_ne {a:Act} {d:Option Tmp} {v:Value} {s:Tmp} {x:Option Value} (h:d≠some s) (hx:a.tmps[s]? = x):(a.put d v).tmps[s]? = x:=(put_at_ne a d v s h).trans hx
theorem at_eq {a:Act} {d:Tmp} {v:Value} (h:d < a.tmps.size):(a.put (some d) v).tmps[d]? = some v:=put_at_eq a d v h
theorem sz_put {a:Act} {d:Option Tmp} {v:Value} {k:Nat} (h:k < a.tmps.size):k < (a.put d v).tmps.size:=by rw [put_size]; exact h
end
end Go.Proofs.YtaeemilldmhbnaaGreatDoor.Rw
namespace Go.Proofs.YtaeemilldmhbnaaGreatDoor.Rw
open Go Go.RowKit Go.ChangeShapes Go.WideShapes Go.ChangeAt
def setsL {α:Type} : List α→Nat→List α→List α
 | xs,_,[]=>xs
 | xs,k,y :: ys=>setsL (xs.set k y) (k+1) ys
theorem setsL_eq {α:Type} : ∀ (u xs:List α) (k:Nat),k+u.length≤xs.length→setsL xs k u=xs.take k ++ u ++ xs.drop (k+u.length)
 | [],xs,k,h=>by simp [setsL]
 | y :: u,xs,k,h=>by
  simp only [List.length_cons] at h
  rw [setsL,setsL_eq u _ _ (by simp; omega)]
  rw [List.take_set,List.drop_set_of_lt (by omega),List.take_add_one,List.getElem?_eq_getElem (show k < xs.length by omega)]
  have hk:(xs.take k).length=k:=by simp; omega
  simp only [Option.toList_some,List.length_cons]
  rw [List.set_append_right k y (by omega),hk,Nat.sub_self,show k+(u.length+1)=k+1+u.length by omega]
  simp
section
variable {α:Type} {enc:α→List Value} {sz:Nat}
theorem flat_take (h:∀ x,(enc x).length=sz):∀ (xs:List α) (k:Nat),(flat enc xs).take (k * sz)=flat enc (xs.take k)
 | [],k=>by simp [flat]
 | x :: l,0=>by simp [flat]
 | x :: l,k+1=>by
  show (enc x ++ flat enc l).take _=enc x ++ flat enc (l.take k)
  rw [List.take_append,h,show (k+1) * sz - sz=k * sz by rw [Nat.add_mul]; omega,flat_take h l k,List.take_of_length_le (by rw [h,Nat.add_mul]; omega)]
theorem flat_drop (h:∀ x,(enc x).length=sz):∀ (xs:List α) (k:Nat),(flat enc xs).drop (k * sz)=flat enc (xs.drop k)
 | [],k=>by simp [flat]
 | x :: l,0=>by simp [flat]
 | x :: l,k+1=>by
  show (enc x ++ flat enc l).drop _=flat enc (l.drop k)
  rw [List.drop_append,h,show (k+1) * sz - sz=k * sz by rw [Nat.add_mul]; omega,flat_drop h l k,List.drop_of_length_le (by rw [h,Nat.add_mul]; omega),List.nil_append]
theorem flat_set (F:∀ x,(enc x).length=sz):∀ (xs:List α) (k i:Nat) (x y:α) (u:Value),xs[k]? = some x→i < sz→enc y=(enc x).set i u→(flat enc xs).set (k * sz+i) u=flat enc (xs.set k y)
 | [],k,i,x,y,u,h,_,_=>by simp at h
 | z :: l,0,i,x,y,u,h,hi,hy=>by
  simp at h; subst h
  show (enc z ++ flat enc l).set _ u=enc y ++ flat enc l
  rw [List.set_append_left _ _ (by rw [F]; omega),hy]
  simp
 | z :: l,k+1,i,x,y,u,h,hi,hy=>by
  show (enc z ++ flat enc l).set _ u=enc z ++ flat enc (l.set k y)
  rw [List.set_append_right _ _ (by rw [F,Nat.add_mul]; omega),F,show (k+1) * sz+i - sz=k * sz+i by rw [Nat.add_mul]; omega,flat_set F l k i x y u (by simpa using h) hi hy]
end
end Go.Proofs.YtaeemilldmhbnaaGreatDoor.Rw
namespace Go.Proofs.YtaeemilldmhbnaaGreatDoor.St
abbrev Sx:=Int × Int × Int
def hit (t:Int) (x:Sx):Bool:=x.1 == t
def free (x:Sx):Bool:=x.2.2 == 0
def Miss (p:Sx→Bool) (l:List Sx) (k:Nat):Prop:=∀ j x,j < k→l[j]? = some x→p x=false
theorem Miss.zero (p:Sx→Bool) (l:List Sx):Miss p l 0:=fun _ _ h=>absurd h (by omega)
theorem Miss.succ {p:Sx→Bool} {l:List Sx} {k:Nat} {x:Sx} (h:Miss p l k) (hx:l[k]? = some x) (z:p x=false):Miss p l (k+1):=by
 intro j y F u
 by_cases e:j=k
 ·subst e; rw [hx] at u; injection u with u; subst u; exact z
 ·exact h j y (by omega) u
theorem ix_some {p:Sx→Bool} {l:List Sx} {k:Nat} {x:Sx} (h:Miss p l k) (hx:l[k]? = some x) (z:p x=true):l.findIdx? p=some k:=by
 obtain ⟨hk,rfl⟩:=List.getElem?_eq_some_iff.1 hx
 rw [List.findIdx?_eq_some_iff_getElem]
 exact ⟨hk,z,fun j u=>by rw [h j _ u (List.getElem?_eq_getElem (by omega))]; simp⟩
theorem ix_none {p:Sx→Bool} {l:List Sx} (h:Miss p l l.length):l.findIdx? p=none:=by
 rw [List.findIdx?_eq_none_iff]
 intro x hx
 obtain ⟨j,u,rfl⟩:=List.getElem_of_mem hx
 exact h j _ u (List.getElem?_eq_getElem u)
theorem ix_hit {p:Sx→Bool} {l:List Sx} {k:Nat} (h:l.findIdx? p=some k):∃ x,l[k]? = some x∧p x=true∧k < l.length:=by
 rw [List.findIdx?_eq_some_iff_getElem] at h
 obtain ⟨hk,u,_⟩:=h
 exact ⟨l[k],List.getElem?_eq_getElem hk,u,hk⟩
def ixZ (p:Sx→Bool) (l:List Sx):Int:=match l.findIdx? p with
 | some k=>k
 | none=>-1
theorem ixZ_some {p:Sx→Bool} {l:List Sx} {k:Nat} (h:l.findIdx? p=some k):ixZ p l=k:=by unfold ixZ; rw [h]
theorem ixZ_none {p:Sx→Bool} {l:List Sx} (h:l.findIdx? p=none):ixZ p l = -1:=by unfold ixZ; rw [h]
def parkL (l:List Sx) (t d:Int):List Sx:=if (l.findIdx? (hit t)).isSome then l else l ++ [(t,d,0)]
def parkE (l:List Sx) (t:Int):Int:=if (l.findIdx? (hit t)).isSome then 10 else 0
def fillAt (l:List Sx) (k:Nat) (x:Sx) (i:Int):List Sx:=l.set k (x.1,x.2.1,i)
def waitN (l:List Sx):Nat:=l.countP free
theorem park_hit {l:List Sx} {t d:Int} {k:Nat} (h:l.findIdx? (hit t)=some k):parkL l t d=l∧parkE l t=10:=by simp [parkL,parkE,h]
theorem park_miss {l:List Sx} {t d:Int} (h:l.findIdx? (hit t)=none):parkL l t d=l ++ [(t,d,0)] ∧ parkE l t=0:=by simp [parkL,parkE,h]
theorem fillAt_len (l:List Sx) (k:Nat) (x:Sx) (i:Int):(fillAt l k x i).length=l.length:=by simp [fillAt]
theorem waitN_snoc {l:List Sx} {k:Nat} {x:Sx} (h:l[k]? = some x):waitN (l.take (k+1))=waitN (l.take k)+(if free x then 1 else 0):=by
 rw [List.take_add_one,h]
 simp [waitN,List.countP_append,List.countP_cons]
end Go.Proofs.YtaeemilldmhbnaaGreatDoor.St
namespace Go.Proofs.YtaeemilldmhbnaaGreatDoor.St
open Go.ChangeShapes Go.WideShapes Go.ChangeAt Go.RowKit Rw
def enc3 (x:Sx):List Value:=[.int .i64 x.1,.int .u64 x.2.1,.int .u64 x.2.2]
theorem enc3_len (x:Sx):(enc3 x).length=3:=rfl
theorem enc3_one (x:Sx):∀ u∈enc3 x,u.oneCell'=true:=by
 intro u h
 simp [enc3] at h
 rcases h with rfl | rfl | rfl <;> rfl
theorem info_slot:(Tryz.prog.info? 116).map (fun i=>(i.zero,i.size,i.bytes))=some (some (.agg #[.int .i64 0,.int .u64 0,.int .u64 0]),3,24):=by kernel_rfl
theorem three_at {w:World} {B:Nat} {A:Option Addr} {n c k:Nat} {l:List Sx} (h:Rs enc3 3 w B A n c l) (hk:k < n):∃ b o x,A=some ⟨b,o,none⟩∧b < B∧l[k]? = some x ∧
  w.cell? ⟨b,o+k * 3,none⟩=some (.int .i64 x.1)∧w.cell? ⟨b,o+k * 3+1,none⟩=some (.int .u64 x.2.1)∧w.cell? ⟨b,o+k * 3+2,none⟩=some (.int .u64 x.2.2):=by
 obtain ⟨b,o,e,u,z,F,hc⟩:=h.get hk
 exact ⟨b,o,e,u,z,F,hc 0 _ (by omega) rfl,hc 1 _ (by omega) rfl,hc 2 _ (by omega) rfl⟩
theorem waits_any (a b c:Int) (w:World) :
  Calls Tryz.prog 158 #[.agg #[.int .i64 a,.int .u64 b,.int .u64 c]] w fun e w'=>e=.returned (.bool (c == 0))∧Below w.heap.size w w':=by
 go_enter Tryz.func158,Tryz.ntmps158
 go_wp2_with fail
 go_ret
 exact ⟨rfl,(Below.refl _ _).alloc (Nat.le_refl _) _⟩
theorem isof_any (a b c t:Int) (q:Nat) (w:World) (hc:w.cell? ⟨q,0,none⟩=some (.int .i64 t)) :
  Calls Tryz.prog 117 #[.agg #[.int .i64 a,.int .u64 b,.int .u64 c],.pointer (some ⟨q,0,none⟩)] w fun e w'=>e=.returned (.bool (a == t))∧Below w.heap.size w w':=by
 have h:q < w.heap.size:=Lw.lt_heap hc
 go_enter Tryz.func117,Tryz.ntmps117
 go_wp2_with fail
 go_ret
 exact ⟨rfl,(Below.refl _ _).alloc (Nat.le_refl _) _⟩
theorem index_any (g:FuncId) (lb:Array Value) (p:Sx→Bool) (A:Option Addr) (n c B:Nat) (l:List Sx) (w:World) (h:Rs enc3 3 w B A n c l) (hB:B≤w.heap.size)
  (eg:∀ args w,(callFunc g args).run Tryz.prog w=.ok (.enter g args) w)
  (hp:∀ (a b c:Int) W,Below w.heap.size w W→Calls Tryz.prog g (#[.agg #[.int .i64 a,.int .u64 b,.int .u64 c]] ++ lb) W fun e W'=>e=.returned (.bool (p (a,b,c)))∧Below W.heap.size W W') :
  Calls Tryz.prog 116 #[.slice A n c,.func (.func g) #[] lb] w fun e w'=>e=.returned (.int .i64 (ixZ p l))∧Below w.heap.size w w':=by
 have hn:n≤9223372036854775807:=by have:=h.cap; have:=h.top; omega
 have G:=Lh h
 have HP:=Lh hp
 clear h hp
 go_enter Tryz.func116,Tryz.ntmps116
 go_wp2_with fail
 go_loopw [8] (fun i wr=>∃ k:Nat,k≤n∧i=.int .i64 k∧Miss p l k∧Below w.heap.size w wr) (fun i _=>n - (intOf i).toNat)
 case atStart=>exact ⟨0,Nat.zero_le _,rfl,Miss.zero _ _,Below.refl _ _⟩
 case round=>
  obtain ⟨k,hk,rfl,Y,u⟩:=hrel
  have F:=Lh Y
  have N:=u.size
  clear Y
  by_cases hlt:k < n
  ·obtain ⟨b,o,x,rfl,hb,hx,c0,c1,c2⟩:=three_at G.out hlt
   have d0:=(u.cell (p:=⟨b,o+k * 3,none⟩) (by simp only; omega)).trans c0
   have d1:=(u.cell (p:=⟨b,o+k * 3+1,none⟩) (by simp only; omega)).trans c1
   have d2:=(u.cell (p:=⟨b,o+k * 3+2,none⟩) (by simp only; omega)).trans c2
   obtain ⟨x0,x1,x2⟩:=x
   have I:=Lh hx
   simp only at d0 d1 d2
   clear c0 c1 c2 hx
   go_wp2_with fail
   refine (HP.out x0 x1 x2 wr u).mono ?_
   rintro e w1 ⟨rfl,J⟩
   cases hq:p (x0,x1,x2) with
   | true=>
    have z:=Lh (ixZ_some (ix_some F.out I.out hq))
    go_wp2_with fail
    go_ret
    exact ⟨by rw [z.out]; rfl,u.trans (J.mono N)⟩
   | false=>
    have a0:=Lh (F.out.succ I.out hq)
    go_wp2_with fail
    go_roundw
    case rel=>exact ⟨k+1,by omega,by go_num,a0.out,u.trans (J.mono N)⟩
    case measure=>simp [intOf]; omega
  ·have a1:k=n:=by omega
   have z:=Lh (ixZ_none (ix_none (p:=p) (l:=l) (by rw [G.out.len,← a1]; exact F.out)))
   go_wp2_with fail
   go_ret
   exact ⟨by rw [z.out]; rfl,u⟩
theorem index_free (A:Option Addr) (n c B:Nat) (l:List Sx) (w:World) (h:Rs enc3 3 w B A n c l) (u:B≤w.heap.size) :
  Calls Tryz.prog 116 #[.slice A n c,.func (.func 158) #[] #[]] w fun e w'=>e=.returned (.int .i64 (ixZ free l))∧Below w.heap.size w w':=
 index_any 158 #[] free A n c B l w h u (fun args w=>by simp [go_sem]) (fun a b c W _=>waits_any a b c W)
theorem index_of (A:Option Addr) (n c B q:Nat) (t:Int) (l:List Sx) (w:World) (h:Rs enc3 3 w B A n c l) (u:B≤w.heap.size) (hc:w.cell? ⟨q,0,none⟩=some (.int .i64 t)) :
  Calls Tryz.prog 116 #[.slice A n c,.func (.func 117) #[] #[.pointer (some ⟨q,0,none⟩)]] w fun e w'=>e=.returned (.int .i64 (ixZ (hit t) l))∧Below w.heap.size w w':=
 index_any 117 #[.pointer (some ⟨q,0,none⟩)] (hit t) A n c B l w h u (fun args w=>by simp [go_sem]) (fun a b c W z=>isof_any a b c t q W ((z.cell (p:=⟨q,0,none⟩) (Lw.lt_heap hc)).trans hc))
theorem sclone_any (A:Option Addr) (n c:Nat) (xs:List Sx) (B:Nat) (w:World) (h:Rs enc3 3 w B A n c xs) (G:B≤w.heap.size) (a1:n * 24≤140737488355328) :
  Calls Tryz.prog 109 #[.slice A n c] w fun e w'=>∃ A' z,e=.returned (.slice A' n z)∧w'.ownsRow w.heap.size 116 3 (.slice A' n z) n (flat enc3 xs)∧Below w.heap.size w w':=by
 have hn:n≤9223372036854775807:=by have:=h.cap; have:=h.top; omega
 obtain ⟨i0,hi,N,W,Y⟩:=info_parts info_slot
 cases A with
 | none=>
  have u:n=0:=by
   rcases Nat.eq_zero_or_pos n with u | u
   ·exact u
   ·obtain ⟨b,o,e,_⟩:=h.at_ u
    cases e
  subst u
  obtain rfl:=List.eq_nil_of_length_eq_zero h.len
  clear h
  have hk:=@Lib.run_eql_slice_nil Tryz.prog
  go_enter Tryz.func109,Tryz.ntmps109
  go_wp2
  go_ret
  exact ⟨_,_,rfl,World.ownsRow_nil _ _ _ _,Below.refl _ _⟩
 | some a=>
  have F:=Lh h
  clear h
  have hk:=@Lib.run_eql_slice_nil Tryz.prog
  go_enter Tryz.func109,Tryz.ntmps109
  go_wp2_with (at_builtin; refine append_rs enc3_len rfl _ _ 112 rfl w.heap.size 116 i0 _ 24 Tryz.underlying112 hi N W Y rfl (by omega) _ 0 [] rfl (World.ownsRow_lit _ #[] 0 (Nat.le_refl _) (by decide) rfl) B (some a) n c xs rfl (F.out.alloc G _) enc3_one n (Nat.zero_add _) (flat enc3 xs) rfl ?_ ?_ ?_ ?_)
  ·unfold maxLen; omega
  ·omega
  ·simp
  ·intro A' z w' J I a0
   go_wp2
   go_ret
   refine ⟨A',z,rfl,J,((Below.refl _ _).alloc (Nat.le_refl _) _).grown I (by simp) (fun k hk=>?_)⟩
   simp [Value.ownBlock] at hk
   omega
end Go.Proofs.YtaeemilldmhbnaaGreatDoor.St
namespace Go.Proofs.YtaeemilldmhbnaaGreatDoor.St
open Go.ChangeShapes Go.WideShapes Go.ChangeAt Go.RowKit Rw Hi
structure Ss (w:World) (B p:Nat) (r:Option Nat) (l:List Sx):Prop where
 row:∃ A c,w.cell? ⟨p,0,none⟩=some (.slice A l.length c)∧w.ownsRow B 116 3 (.slice A l.length c) l.length (flat enc3 l)∧(Value.slice A l.length c).ownBlock=r
 free0:w.frozen? ⟨p,0,none⟩=false
 lo:B≤p
 ne:r≠some p
theorem Ss.lt {w:World} {B p:Nat} {r:Option Nat} {l:List Sx} (h:Ss w B p r l):p < w.heap.size:=by obtain ⟨A,c,u,_⟩:=h.row; exact Lw.lt_heap u
theorem Ss.rowlt {w:World} {B p:Nat} {r:Option Nat} {l:List Sx} (h:Ss w B p r l):∀ g,r=some g→B≤g∧g < w.heap.size:=by
 intro g u
 obtain ⟨A,c,_,z,e⟩:=h.row
 exact z.lt g (e.trans u)
theorem Ss.same {w w':World} {B p:Nat} {r:Option Nat} {l:List Sx} (h:Ss w B p r l) (z:w'.heap[p]? = w.heap[p]?) (N:∀ g,r=some g→w'.heap[g]? = w.heap[g]?):Ss w' B p r l:=by
 obtain ⟨A,c,F,G,u⟩:=h.row
 have hc:∀ o,w'.cell? ⟨p,o,none⟩=w.cell? ⟨p,o,none⟩:=fun o=>by unfold World.cell?; simp only [z]
 have I:∀ o,w'.frozen? ⟨p,o,none⟩=w.frozen? ⟨p,o,none⟩:=fun o=>by unfold World.frozen?; simp only [z]
 exact ⟨⟨A,c,(hc 0).trans F,own_same G (fun g J=>N g (u.symm.trans J)),u⟩,(I 0).trans h.free0,h.lo,h.ne⟩
theorem Ss.later {w w':World} {B p:Nat} {r:Option Nat} {l:List Sx} (h:Ss w B p r l) (u:Below w.heap.size w w'):Ss w' B p r l:=
 h.same (u.block p h.lt) (fun g z=>u.block g (h.rowlt g z).2)
theorem Ss.rs {w:World} {B p:Nat} {r:Option Nat} {l:List Sx} (h:Ss w B p r l):∃ A c,w.cell? ⟨p,0,none⟩=some (.slice A l.length c)∧Rs enc3 3 w w.heap.size A l.length c l:=by
 obtain ⟨A,c,u,z,_⟩:=h.row
 exact ⟨A,c,u,Rs.own_rs enc3_len rfl z⟩
theorem Ss.put {w G:World} {B p:Nat} {r:Option Nat} {l l':List Sx} {A':Option Addr} {F u:Nat} (h:Ss w B p r l) (hn:l'.length=F) (I:w.grownBy G r) (ho:G.ownsRow B 116 3 (.slice A' F u) F (flat enc3 l'))
  (hA:(Value.slice A' F u).ownBlock=r ∨ ∃ g,(Value.slice A' F u).ownBlock=some g∧w.heap.size≤g) :
  ∃ r',Ss (G.setCell ⟨p,0,none⟩ (.slice A' F u)) B p r' l'∧Fr (some p) r w (G.setCell ⟨p,0,none⟩ (.slice A' F u))∧(∀ g,r'=some g→r=some g∨w.heap.size≤g):=by
 subst hn
 obtain ⟨A,c,h1,h2,h3⟩:=h.row
 have a0:=h.lt
 have Y:G.cell? ⟨p,0,none⟩=some (.slice A l.length c):=(I.cell h1 (fun e=>h.ne e.symm))
 have ef:G.frozen? ⟨p,0,none⟩=false:=grown_frozen I h.free0 a0 (fun e=>h.ne e.symm)
 have W:(Value.slice A' l'.length u).ownBlock≠some p:=by
  rcases hA with e | ⟨g,e,N⟩
  ·rw [e]; exact h.ne
  ·rw [e]; intro J; injection J with J; omega
 refine ⟨_,⟨⟨A',u,World.cell?_setCell_same _ _ _ Y,own_same ho (fun g z=>heap_setCell_other _ _ g _ (fun e=>W (by rw [z,show g=p from e]))),rfl⟩,by simpa using ef,h.lo,W⟩,
  (Fr.of_grown I (.inr (.inr rfl))).then (a':=some p) (b':=none) (Fr.of_grown (grown_setCell _ _ _) (.inr (.inl rfl))) (fun k hk _=>.inl hk.symm) (fun k hk _=>by cases hk),fun g z=>?_⟩
 rcases hA with e | ⟨g2,e,N⟩
 ·exact .inl (e.symm.trans z)
 ·rw [e] at z; injection z with z; subst z; exact .inr N
theorem Ss.fill {w G:World} {B p:Nat} {r:Option Nat} {l:List Sx} {k:Nat} {x:Sx} (h:Ss w B p r l) (u:Below w.heap.size w G) (hx:l[k]? = some x) (i:Int) {g c:Nat} (hc:w.cell? ⟨p,0,none⟩=some (.slice (some ⟨g,0,none⟩) l.length c)) :
  Ss (G.setCell ⟨g,k * 3+2,none⟩ (.int .u64 i)) B p r (fillAt l k x i)∧Fr (some p) r w (G.setCell ⟨g,k * 3+2,none⟩ (.int .u64 i))∧r=some g:=by
 have Y:=h.later u
 have I:G.cell? ⟨p,0,none⟩=some (.slice (some ⟨g,0,none⟩) l.length c):=(u.cell (p:=⟨p,0,none⟩) h.lt).trans hc
 obtain ⟨A,c2,z,h2,h3⟩:=Y.row
 rw [I] at z
 injection z with z
 injection z with z _ h4
 subst z h4
 have hr:r=some g:=h3.symm
 subst hr
 have a1:g≠p:=fun e=>h.ne (by rw [e])
 obtain ⟨W,F⟩:=h2.stored (k * 3+2) (.int .u64 i)
 rw [flat_set enc3_len l k 2 x (x.1,x.2.1,i) (.int .u64 i) hx (by omega) rfl] at W
 have J:(fillAt l k x i).length=l.length:=fillAt_len l k x i
 refine ⟨⟨⟨some ⟨g,0,none⟩,c,?_,?_,rfl⟩,?_,h.lo,h.ne⟩,?_,rfl⟩
 ·rw [J]; exact (World.cell?_setCell_other _ _ _ _ (fun e=>by injection e with e; exact a1 e)).trans I
 ·rw [J]; exact W
 ·simpa using (u.frozen (p:=⟨p,0,none⟩) h.lt).trans h.free0
 ·exact ⟨F.os.trans u.os,F.tape.trans u.tape,F.output.trans u.output,Nat.le_trans u.size F.size,fun q N _ a0=>(F.block q (Nat.lt_of_lt_of_le N u.size) a0).trans (u.block q N)⟩
theorem new_any (w:World) (B:Nat) (h:B≤w.heap.size) :
  Calls Tryz.prog 35 #[] w fun e w'=>∃ p,e=.returned (.pointer (some ⟨p,0,none⟩))∧Ss w' B p none [] ∧ w.heap.size≤p∧Below w.heap.size w w':=by
 go_enter Tryz.func35,Tryz.ntmps35
 go_wp2_with fail
 go_ret
 exact ⟨w.heap.size,rfl,⟨⟨none,0,by go_simp,World.ownsRow_nil _ _ _ _,rfl⟩,by go_simp,h,by simp⟩,Nat.le_refl _,(Below.refl _ _).alloc (Nat.le_refl _) _⟩
theorem place_any (w:World) (B p:Nat) (r:Option Nat) (l:List Sx) (t:Int) (h:Ss w B p r l) :
  Calls Tryz.prog 49 #[.pointer (some ⟨p,0,none⟩),.int .i64 t] w fun e w'=>e=.returned (.int .i64 (ixZ (hit t) l))∧Below w.heap.size w w':=by
 obtain ⟨A,c,G,u⟩:=h.rs
 have I:=h.lt
 have z:=Lh u
 clear h u
 generalize hn:l.length=n at *
 clear hn
 go_enter Tryz.func49,Tryz.ntmps49
 go_wp2_with fail
 refine (index_of A n c _ w.heap.size t l _ (z.out.alloc (Nat.le_refl _) _) (by simp) (by go_simp)).mono ?_
 rintro e J ⟨rfl,F⟩
 go_wp2_with fail
 go_ret
 exact ⟨rfl,((Below.refl _ _).alloc (Nat.le_refl _) _).trans (F.mono (by simp))⟩
theorem all_any (w:World) (B p:Nat) (r:Option Nat) (l:List Sx) (h:Ss w B p r l) (W:l.length≤1000) :
  Calls Tryz.prog 70 #[.pointer (some ⟨p,0,none⟩)] w fun e w'=>∃ A c,e=.returned (.slice A l.length c)∧w'.ownsRow w.heap.size 116 3 (.slice A l.length c) l.length (flat enc3 l)∧Below w.heap.size w w':=by
 obtain ⟨A,c,N,z⟩:=h.rs
 have G:=Lh z
 clear h z
 generalize hn:l.length=n at *
 clear hn
 go_enter Tryz.func70,Tryz.ntmps70
 go_wp2_with fail
 refine (sclone_any A n c l _ w G.out (Nat.le_refl _) (by omega)).mono ?_
 rintro e Y ⟨J,c1,rfl,u,I⟩
 have F:=Lh u
 clear u
 go_wp2_with fail
 go_ret
 exact ⟨_,_,rfl,F.out,I⟩
theorem clone_any (w:World) (B p:Nat) (r:Option Nat) (l:List Sx) (h:Ss w B p r l) (a2:l.length≤1000) :
  Calls Tryz.prog 43 #[.pointer (some ⟨p,0,none⟩)] w fun e w'=>∃ G r',e=.returned (.pointer (some ⟨G,0,none⟩))∧Ss w' B G r' l∧w.heap.size≤G∧(∀ g,r'=some g→w.heap.size≤g)∧Below w.heap.size w w':=by
 obtain ⟨A,c,h1,Y⟩:=h.rs
 have a1:=h.lt
 have a0:=h.lo
 have HR:=Lh Y
 clear h Y
 generalize hn:l.length=n at *
 have u:=Lh hn
 clear hn
 go_enter Tryz.func43,Tryz.ntmps43
 go_wp2_with fail
 refine (sclone_any A n c l _ w HR.out (Nat.le_refl _) (by omega)).mono ?_
 rintro e w1 ⟨I,c1,rfl,W,N⟩
 have J:=Lh W
 have hs:=N.size
 clear W
 go_wp2_with fail
 go_ret
 have F:=J.out.lt
 refine ⟨w1.heap.size,(Value.slice I n c1).ownBlock,rfl,⟨⟨I,c1,by rw [u.out]; go_simp,?_,by rw [u.out]⟩,by go_simp,by omega,?_⟩,hs,fun g z=>(F g z).1,N.alloc hs _⟩
 ·rw [u.out]
  exact own_mono (own_same J.out (fun g z=>RowKit.Below.heap_alloc w1 _ g (F g z).2)) (show B≤w.heap.size by omega)
 ·intro e
  have:=(F _ e).2
  omega
theorem waiting_any (w:World) (B p:Nat) (r:Option Nat) (l:List Sx) (h:Ss w B p r l) (a2:l.length≤1000) :
  Calls Tryz.prog 86 #[.pointer (some ⟨p,0,none⟩)] w fun e w'=>e=.returned (.int .i64 (waitN l))∧Below w.heap.size w w':=by
 obtain ⟨A,c,h1,hr⟩:=h.rs
 have HR:=Lh hr
 clear h hr
 generalize hn:l.length=n at *
 have HL:=Lh hn
 clear hn
 go_enter Tryz.func86,Tryz.ntmps86
 go_wp2_with fail
 go_loopw [3,13] (fun s i wr=>∃ k q:Nat,k≤n∧i=.int .i64 k∧s=.int .i64 q∧q≤k∧q=waitN (l.take k)∧Below w.heap.size w wr) (fun _ i _=>n - (intOf i).toNat)
 case atStart=>exact ⟨0,0,Nat.zero_le _,rfl,rfl,Nat.le_refl _,rfl,Below.refl _ _⟩
 case round=>
  obtain ⟨k,q,hk,rfl,rfl,a1,hq,z⟩:=hrel
  have G:=Lh hq
  have a0:=z.size
  clear hq
  by_cases hlt:k < n
  ·obtain ⟨b,o,x,rfl,hb,hx,c0,c1,c2⟩:=three_at HR.out hlt
   have d0:=(z.cell (p:=⟨b,o+k * 3,none⟩) (by simp only; omega)).trans c0
   have d1:=(z.cell (p:=⟨b,o+k * 3+1,none⟩) (by simp only; omega)).trans c1
   have d2:=(z.cell (p:=⟨b,o+k * 3+2,none⟩) (by simp only; omega)).trans c2
   obtain ⟨x0,x1,I⟩:=x
   have N:=Lh (waitN_snoc hx)
   simp only at d0 d1 d2
   clear c0 c1 c2 hx
   go_wp2_with fail
   refine (waits_any x0 x1 I _).mono ?_
   rintro e w1 ⟨rfl,W⟩
   have Y:Below w.heap.size w w1:=(z.alloc a0 (.cells #[.int .i64 x0,.int .u64 x1,.int .u64 I] 116)).trans (W.mono (by simp; omega))
   have J:=Lh Y
   clear W Y
   cases hz:(I == 0:Bool) with
   | true=>
    have u:q+1=waitN (l.take (k+1)):=by rw [N.out,G.out]; simp [free,hz]
    have F:=Lh u
    clear u
    go_wp2_with fail
    go_roundw
    case rel=>exact ⟨k+1,q+1,by omega,by go_num,by go_num,by omega,F.out,J.out⟩
    case measure=>simp [intOf]; omega
   | false=>
    have u:q=waitN (l.take (k+1)):=by rw [N.out,G.out]; simp [free,hz]
    have F:=Lh u
    clear u
    go_wp2_with fail
    go_roundw
    case rel=>exact ⟨k+1,q,by omega,by go_num,rfl,by omega,F.out,J.out⟩
    case measure=>simp [intOf]; omega
  ·obtain rfl:k=n:=by omega
   have u:q=waitN l:=by rw [G.out,List.take_of_length_le (by have:=HL.out; omega)]
   have F:=Lh u
   clear u G
   go_wp2_with fail
   go_ret
   exact ⟨by rw [← F.out]; rfl,z⟩
theorem park_hit_any (w:World) (B p:Nat) (r:Option Nat) (l:List Sx) (t d:Int) (k:Nat) (h:Ss w B p r l) (hi:l.findIdx? (hit t)=some k) :
  Calls Tryz.prog 13 #[.pointer (some ⟨p,0,none⟩),.int .i64 t,.int .u64 d] w fun e w'=>e=.returned (.int .i64 10)∧Below w.heap.size w w':=by
 have u:=Lh h
 have z:=Lh (ixZ_some hi)
 clear h hi
 go_enter Tryz.func13,Tryz.ntmps13
 go_wp2_with fail
 refine (place_any _ B p r l t u.out).mono ?_
 rw [z.out]
 rintro e G ⟨rfl,F⟩
 go_wp2_with fail
 go_ret
 exact ⟨rfl,F⟩
theorem park_miss_any (w:World) (B p:Nat) (r:Option Nat) (l:List Sx) (t d:Int) (h:Ss w B p r l) (hi:l.findIdx? (hit t)=none) (ac:l.length≤1000) :
  Calls Tryz.prog 13 #[.pointer (some ⟨p,0,none⟩),.int .i64 t,.int .u64 d] w fun e w'=>e=.returned (.int .i64 0) ∧ ∃ r',Ss w' B p r' (l ++ [(t,d,0)])∧Fr (some p) r w w'∧(∀ g,r'=some g→r=some g∨w.heap.size≤g):=by
 obtain ⟨i0,a5,a7,a8,a9⟩:=info_parts info_slot
 obtain ⟨A,c,h1,ho,hA⟩:=h.row
 have hl:=h.lt
 have aa:=h.lo
 have f0:=h.free0
 have J:=Lh h
 have HZ:=Lh (ixZ_none hi)
 have HO:=Lh ho
 have Y:=Lh hA
 clear h hi ho hA
 generalize hn:l.length=n at *
 have HN:=Lh hn
 clear hn
 go_enter Tryz.func13,Tryz.ntmps13
 go_wp2_with fail
 refine (place_any _ B p r l t J.out).mono ?_
 rw [HZ.out]
 rintro e N ⟨rfl,G⟩
 have e0:=(G.cell (p:=⟨p,0,none⟩) hl).trans h1
 have a6:=G.size
 have z:=Lh G
 clear G
 go_wp2_with (
  at_builtin
  refine append_rs enc3_len rfl _ _ 112 rfl B 116 i0 _ 24 Tryz.underlying112 a5 a7 a8 a9 rfl (by omega) (.slice A n c) n (flat enc3 l) rfl ((own_same HO.out (fun g hg=>z.out.block g (HO.out.lt g hg).2)).alloc _) (N.heap.size+1) _ 1 1 [(t,d,0)] rfl (rs_one enc3_len N (t,d,0) _ rfl) enc3_one (n+1) rfl (flat enc3 (l ++ [(t,d,0)])) (flat_append l _).symm ?_ ?_ ?_ ?_
  ·unfold maxLen; omega
  ·omega
  ·simp; omega
  intro A' c' W a2 u a1
  have a4:=Lh a2
  have I:w.grownBy W r:=by rw [Y.out] at u; exact ⟨u.os.trans z.out.os,u.tape.trans z.out.tape,u.output.trans z.out.output,Nat.le_trans a6 (Nat.le_trans (by simp) u.size),fun q hq F=>(u.block q (by simp; omega) F).trans ((RowKit.Below.heap_alloc N _ q (by omega)).trans (z.out.block q hq))⟩
  have HG:=Lh I
  have a0:(Value.slice A' (n+1) c').ownBlock=r ∨ ∃ g,(Value.slice A' (n+1) c').ownBlock=some g∧w.heap.size≤g:=by
   rcases a1 with e | e
   ·exact .inl (e.trans Y.out)
   ·exact .inr ⟨_,e,by simp; omega⟩
  have a3:=Lh a0
  have F:some p≠r:=fun e=>J.out.ne e.symm
  have u0:W.cell? ⟨p,0,none⟩=some (.slice A n c):=I.cell h1 F
  have uf:W.frozen? ⟨p,0,none⟩=false:=grown_frozen I f0 hl F
  clear a2 u a1 I a0 F)
 obtain ⟨r',q1,q2,q3⟩:=J.out.put (l':=l ++ [(t,d,0)]) (by simp [HN.out]) HG.out a4.out a3.out
 have Q:=Lh (show _∧_∧_ from ⟨q1,q2,q3⟩)
 clear q1 q2 q3
 go_wp2_with fail
 go_ret
 exact ⟨rfl,r',Q.out⟩
theorem fill_hit_any (w:World) (B p:Nat) (r:Option Nat) (l:List Sx) (i:Int) (k:Nat) (x:Sx) (h:Ss w B p r l) (J:l.findIdx? free=some k) (hx:l[k]? = some x) (hi:i≠0) :
  Calls Tryz.prog 205 #[.pointer (some ⟨p,0,none⟩),.int .u64 i] w fun e w'=>e=.returned (.tuple #[.int .i64 x.1,.bool true])∧Ss w' B p r (fillAt l k x i)∧Fr (some p) r w w':=by
 have a7:(i == 0)=false:=by simpa using hi
 obtain ⟨A,c,W,F,hA⟩:=h.row
 obtain ⟨x',a4,_,a1⟩:=ix_hit J
 have z:=Rs.own_rs enc3_len rfl F
 obtain ⟨b,o,y,Y,I,N,c0,c1,c2⟩:=three_at z a1
 obtain rfl:x=y:=by rw [hx] at N; injection N
 have a2:o=0:=by
  rcases F.2 with ⟨G,_⟩ | ⟨g,cap,a5,G,_⟩
  ·injection G with _ h2 _; omega
  ·injection G with h2 _ _; rw [Y] at h2; injection h2 with h2; injection h2
 subst Y a2
 simp only [Nat.zero_add] at c0 c1 c2
 have hl:=h.lt
 have a6:=z.cap
 have a8:=z.top
 have a0:w.frozen? ⟨b,k * 3+2,none⟩=false:=F.frozenAt _
 have HS:=Lh h
 have HX:=Lh hx
 have HZ:=Lh (ixZ_some J)
 have HR:=Lh z
 have a3:b≠p:=fun e=>h.ne (by rw [← hA,e]; rfl)
 have H1:=Lh W
 clear h J hx hi a4 N F hA z
 obtain ⟨x0,x1,x2⟩:=x
 simp only at c0 c1 c2 ⊢
 generalize hn:l.length=n at *
 have HN:=Lh hn
 clear hn
 go_enter Tryz.func205,Tryz.ntmps205
 go_wp2_with fail
 refine (index_free _ n c _ l _ HR.out (Nat.le_refl _)).mono ?_
 rw [HZ.out]
 rintro e w1 ⟨rfl,u⟩
 have e0:=(u.cell (p:=⟨p,0,none⟩) hl).trans W
 have d0:=(u.cell (p:=⟨b,k * 3,none⟩) I).trans c0
 have d2:=(u.cell (p:=⟨b,k * 3+2,none⟩) I).trans c2
 have f2:=(u.frozen (p:=⟨b,k * 3+2,none⟩) I).trans a0
 obtain ⟨s1,s2,s3⟩:=HS.out.fill u HX.out i (g:=b) (c:=c) (by rw [HN.out]; exact H1.out)
 have S1:=Lh s1
 have S2:=Lh s2
 have g0:(w1.setCell ⟨b,k * 3+2,none⟩ (.int .u64 i)).cell? ⟨p,0,none⟩=some (.slice (some ⟨b,0,none⟩) n c):=(World.cell?_setCell_other _ _ _ _ (fun e=>by injection e with e; exact a3 e)).trans e0
 have g1:(w1.setCell ⟨b,k * 3+2,none⟩ (.int .u64 i)).cell? ⟨b,k * 3,none⟩=some (.int .i64 x0):=(World.cell?_setCell_other _ _ _ _ (fun e=>by injection e with _ e; omega)).trans d0
 clear u s1 s2 s3
 go_wp2_with fail
 go_ret2
 exact ⟨rfl,S1.out,S2.out⟩
theorem Awake10_any (w:World) (h:Tx.Tab w) :
  Calls Tryz.prog 314 #[] w fun e w'=>e=.returned (.bool true)∧Below w.heap.size w w':=by
 go_enter Tryz.func314,Tryz.ntmps314
 go_wp2_with fail
 refine (Fc.awake10_any _ h).mono ?_
 rintro e z ⟨rfl,u⟩
 go_wp2_with fail
 go_ret
 exact ⟨rfl,u⟩
theorem awake11_any (w:World) (Y:Tx.Tab w) :
  Calls Tryz.prog 302 #[] w fun e w'=>e=.returned (.bool true)∧Below w.heap.size w w':=by
 have HT:=Lh Y
 clear Y
 go_enter Tryz.func302,Tryz.ntmps302
 go_wp2_with fail
 refine (new_any _ w.heap.size (Nat.le_refl _)).mono ?_
 rintro e w1 ⟨p,rfl,W,a6,I⟩
 go_wp2_with fail
 refine (park_miss_any _ _ _ _ _ 2 9 W rfl (by simp)).mono ?_
 rintro e w2 ⟨rfl,r2,F,a0,a4⟩
 have u:Below w.heap.size w w2:=I.trans (a0.below I.size (fun k hk=>by cases hk; omega) (fun k hk=>by cases hk))
 have q2:∀ g,r2=some g→w.heap.size≤g:=fun g J=>(F.rowlt g J).1
 clear W I a0 a4
 go_wp2_with fail
 refine (park_miss_any _ _ _ _ _ 1 5 F (by simp [List.findIdx?_cons,hit]) (by simp)).mono ?_
 rintro e w3 ⟨rfl,r3,G,a1,a5⟩
 have z:Below w.heap.size w w3:=u.trans (a1.below u.size (fun k hk=>by cases hk; omega) (fun k hk=>q2 k hk))
 have q3:∀ g,r3=some g→w.heap.size≤g:=fun g J=>(G.rowlt g J).1
 clear F u a1 a5 q2
 go_wp2_with fail
 refine (fill_hit_any _ _ _ _ _ 7 0 (2,9,0) G (by simp [List.findIdx?_cons,free]) (by simp) (by omega)).mono ?_
 rintro e w4 ⟨rfl,h4,a2⟩
 have N:Below w.heap.size w w4:=z.trans (a2.below z.size (fun k hk=>by cases hk; omega) (fun k hk=>q3 k hk))
 have h:=Lh N
 clear G z a2 q3 h4 N
 go_wp2_with fail
 refine (Awake10_any _ (HT.out.below h.out)).mono ?_
 rintro e w5 ⟨rfl,a3⟩
 go_wp2_with fail
 go_ret
 exact ⟨rfl,h.out.trans (a3.mono h.out.size)⟩
theorem Awake11_any (w:World) (h:Tx.Tab w) :
  Calls Tryz.prog 285 #[] w fun e w'=>e=.returned (.bool true)∧Below w.heap.size w w':=by
 go_enter Tryz.func285,Tryz.ntmps285
 go_wp2_with fail
 refine (awake11_any _ h).mono ?_
 rintro e z ⟨rfl,u⟩
 go_wp2_with fail
 go_ret
 exact ⟨rfl,u⟩
end Go.Proofs.YtaeemilldmhbnaaGreatDoor.St
namespace Go.Proofs.YtaeemilldmhbnaaGreatDoor.Lc
open Go.ChangeShapes Go.WideShapes Go.ChangeAt Go.RowKit Rw Hi Sl
def upd (L:Nat→List Int) (i:Nat) (xs:List Int):Nat→List Int:=fun j=>if j=i then xs else L j
theorem upd_same (L:Nat→List Int) (i:Nat) (xs:List Int):upd L i xs i=xs:=by simp [upd]
theorem upd_ne (L:Nat→List Int) {i j:Nat} (xs:List Int) (h:j≠i):upd L i xs j=L j:=by simp [upd,h]
def last4 (l:List Int):List Int:=l.drop (l.length - 4)
theorem last4_len (l:List Int):(last4 l).length≤4:=by simp [last4]; omega
theorem last4_short {l:List Int} (h:l.length≤4):last4 l=l:=by unfold last4; rw [Nat.sub_eq_zero_of_le h]; rfl
theorem last4_append (l ids:List Int):last4 (l ++ last4 ids)=last4 (l ++ ids):=by
 unfold last4
 by_cases h:ids.length≤4
 ·rw [Nat.sub_eq_zero_of_le h]; rfl
 ·have e:(ids.drop (ids.length - 4)).length=4:=by simp; omega
  rw [List.drop_append,List.drop_append]
  simp only [List.length_append,e]
  rw [List.drop_of_length_le (show l.length≤l.length+4 - 4 by omega),List.drop_of_length_le (show l.length≤l.length+ids.length - 4 by omega),List.nil_append,List.nil_append,List.drop_drop]
  congr 1
  omega
structure Lo (X:Nat→Prop) (w:World) (B p:Nat) (L:Nat→List Int):Prop where
 at_:∀ i,i < 8 → ∃ A n c,w.cell? ⟨p,i,none⟩=some (.slice A n c)∧Rd (Value.int .u64) w w.heap.size A n c (L i) ∧ ∀ g,(Value.slice A n c).ownBlock=some g→g < w.heap.size ∧ ¬ X g
 len:∀ i,i < 8→(L i).length≤4
 free:∀ i,i < 8→w.frozen? ⟨p,i,none⟩=false
 lo:B≤p
 px:¬ X p
theorem Lo.lt {X:Nat→Prop} {w:World} {B p:Nat} {L:Nat→List Int} (h:Lo X w B p L):p < w.heap.size:=by obtain ⟨A,n,c,u,_⟩:=h.at_ 0 (by omega); exact Lw.lt_heap u
theorem Lo.later {X:Nat→Prop} {w w':World} {B p:Nat} {L:Nat→List Int} (h:Lo X w B p L) (u:Below w.heap.size w w'):Lo X w' B p L:=
 ⟨fun i hi=>by
  obtain ⟨A,n,c,G,I,z⟩:=h.at_ i hi
  exact ⟨A,n,c,(u.cell (p:=⟨p,i,none⟩) h.lt).trans G,I.later u,fun g F=>⟨Nat.lt_of_lt_of_le (z g F).1 u.size,(z g F).2⟩⟩,h.len,fun i hi=>(u.frozen (p:=⟨p,i,none⟩) h.lt).trans (h.free i hi),h.lo,h.px⟩
theorem Lo.same {X:Nat→Prop} {w:World} {B p:Nat} {L u:Nat→List Int} (h:Lo X w B p L) (z:∀ i,i < 8→u i=L i):Lo X w B p u:=
 ⟨fun i hi=>by rw [z i hi]; exact h.at_ i hi,fun i hi=>by rw [z i hi]; exact h.len i hi,h.free,h.lo,h.px⟩
theorem rd_store {w:World} {A:Option Addr} {n c:Nat} {xs:List Int} {p i:Nat} {A0:Option Addr} {n0 c0:Nat} (h:Rd (Value.int .u64) w w.heap.size A n c xs) (z:w.cell? ⟨p,i,none⟩=some (.slice A0 n0 c0)) (u:Value) :
  Rd (Value.int .u64) (w.setCell ⟨p,i,none⟩ u) (w.setCell ⟨p,i,none⟩ u).heap.size A n c xs:=(h.setOther z (fun x e=>by cases e) u).more (by simp)
theorem Lo.store {X:Nat→Prop} {w:World} {B p i:Nat} {L:Nat→List Int} (h:Lo X w B p L) (hi:i < 8) {A:Option Addr} {n c:Nat} {xs:List Int} (hr:Rd (Value.int .u64) w w.heap.size A n c xs) (hl:xs.length≤4) (Y:∀ g,(Value.slice A n c).ownBlock=some g→g < w.heap.size ∧ ¬ X g) :
  Lo X (w.setCell ⟨p,i,none⟩ (.slice A n c)) B p (upd L i xs)∧Fr (some p) none w (w.setCell ⟨p,i,none⟩ (.slice A n c)):=by
 obtain ⟨A0,n0,c0,z,_⟩:=h.at_ i hi
 refine ⟨⟨fun j u=>?_,fun j u=>?_,fun j u=>by simpa using h.free j u,h.lo,h.px⟩,Fr.of_grown (grown_setCell _ _ _) (.inr (.inl rfl))⟩
 ·by_cases e:j=i
  ·subst e
   rw [upd_same]
   exact ⟨A,n,c,World.cell?_setCell_same _ _ _ z,rd_store hr z _,fun g F=>by simpa using Y g F⟩
  ·rw [upd_ne L xs e]
   obtain ⟨I,n1,c1,J,N,W⟩:=h.at_ j u
   exact ⟨I,n1,c1,(World.cell?_setCell_other _ _ _ _ (fun G=>by injection G with _ G; omega)).trans J,rd_store N z _,fun g F=>by simpa using W g F⟩
 ·by_cases e:j=i
  ·subst e; rw [upd_same]; exact hl
  ·rw [upd_ne L xs e]; exact h.len j u
theorem own_fresh {X:Nat→Prop} {w:World} {base:Nat} {e:TypeId} {sz n:Nat} {v:Value} {xs:List Value} (h:w.ownsRow base e sz v n xs) (u:∀ g,X g→g < base):∀ g,v.ownBlock=some g→g < w.heap.size ∧ ¬ X g:=fun g z=>by
 have:=h.lt g z
 exact ⟨this.2,fun hx=>by have:=u g hx; omega⟩
theorem Lo.shun {X X':Nat→Prop} {w:World} {B p:Nat} {L:Nat→List Int} (h:Lo X w B p L) (F:∀ g,X' g→X g∨w.heap.size≤g):Lo X' w B p L:=by
 refine ⟨fun i hi=>?_,h.len,h.free,h.lo,fun e=>?_⟩
 ·obtain ⟨A,n,c,G,I,u⟩:=h.at_ i hi
  refine ⟨A,n,c,G,I,fun g z=>⟨(u g z).1,fun e=>?_⟩⟩
  rcases F g e with e | e
  ·exact (u g z).2 e
  ·have:=(u g z).1; omega
 ·rcases F p e with e | e
  ·exact h.px e
  ·have:=h.lt; omega
theorem Fr.after {w w' z:World} {p:Nat} (h:Below w.heap.size w w') (u:Fr (some p) none w' z):Fr (some p) none w z:=
 ⟨u.os.trans h.os,u.tape.trans h.tape,u.output.trans h.output,Nat.le_trans h.size u.size,fun k hk F G=>(u.block k (Nat.lt_of_lt_of_le hk h.size) F G).trans (h.block k hk)⟩
theorem rd_fr {w w':World} {p:Nat} {A:Option Addr} {n c:Nat} {xs:List Int} (h:Rd (Value.int .u64) w w.heap.size A n c xs) (z:Fr (some p) none w w') (ha:∀ g,(Value.slice A n c).ownBlock=some g→g≠p):Rd (Value.int .u64) w' w'.heap.size A n c xs:=
 ⟨h.len,h.cap,h.top,fun hn=>by
  obtain ⟨b,o,e,u,hc⟩:=h.at_ hn
  subst e
  exact ⟨b,o,rfl,Nat.lt_of_lt_of_le u z.size,fun j x hx=>(z.cell (p:=⟨b,o+j,none⟩) u (fun e=>ha b rfl (by injection e)) (fun e=>by cases e)).trans (hc j x hx)⟩⟩
theorem new_any (X:Nat→Prop) (w:World) (B:Nat) (h:B≤w.heap.size) (u:∀ g,X g→g < w.heap.size) :
  Calls Tryz.prog 34 #[] w fun e w'=>∃ p,e=.returned (.pointer (some ⟨p,0,none⟩))∧Lo X w' B p (fun _=>[])∧w.heap.size≤p∧Below w.heap.size w w':=by
 go_enter Tryz.func34,Tryz.ntmps34
 go_wp2_with fail
 go_ret
 refine ⟨w.heap.size,rfl,⟨fun i hi=>⟨none,0,0,?_,Rd.nil_,fun g z=>by cases z⟩,fun i hi=>by simp,fun i hi=>?_,h,fun e=>by have:=u _ e; omega⟩,Nat.le_refl _,(Below.refl _ _).alloc (Nat.le_refl _) _⟩
 ·rcases (by omega:i=0∨i=1∨i=2∨i=3∨i=4∨i=5∨i=6∨i=7) with rfl | rfl | rfl | rfl | rfl | rfl | rfl | rfl <;> go_simp
 ·rcases (by omega:i=0∨i=1∨i=2∨i=3∨i=4∨i=5∨i=6∨i=7) with rfl | rfl | rfl | rfl | rfl | rfl | rfl | rfl <;> go_simp
theorem known_yes (t:Int) (w:World) (h:0≤t) (u:t < 8) :
  Calls Tryz.prog 192 #[.int .i64 t] w fun e w'=>e=.returned (.bool true)∧w=w':=by
 have d0:decide (0≤t)=true:=decide_eq_true h
 have d8:decide (t < 8)=true:=decide_eq_true u
 go_enter Tryz.func192,Tryz.ntmps192
 go_wp2_with fail
 go_ret
 exact ⟨rfl,rfl⟩
theorem list_in (p i:Nat) (w:World) (v:Value) (hi:i < 8) (hc:w.cell? ⟨p,i,none⟩=some v) :
  Calls Tryz.prog 142 #[.pointer (some ⟨p,0,none⟩),.int .i64 i] w fun e w'=>e=.returned v∧w=w':=by
 go_enter Tryz.func142,Tryz.ntmps142
 go_wp2_with fail
 refine (known_yes i _ (by omega) (by omega)).mono ?_
 rintro e h ⟨rfl,rfl⟩
 go_wp2_with fail
 go_ret
 exact ⟨rfl,rfl⟩
theorem newest_any (A:Option Addr) (n c B:Nat) (xs:List Int) (w:World) (h:Rd (Value.int .u64) w B A n c xs) :
  Calls Tryz.prog 225 #[.slice A n c] w fun e w'=>∃ A' J W,e=.returned (.slice A' J W)∧J≤4∧Rd (Value.int .u64) w B A' J W (last4 xs)∧w=w':=by
 have a5:=h.cap
 have a6:=h.top
 have u:=Lh h
 have N:=Lh h.len
 clear h
 by_cases hn:n≤4
 ·have hm:max (0:Int) ((n:Int) - 4)=0:=by omega
  have F:=last4_short (l:=xs) (by rw [N.out]; exact hn)
  have z:=Lh F
  clear F
  cases A with
  | none=>
   have a1:n=0:=by
    rcases Nat.eq_zero_or_pos n with G | G
    ·exact G
    ·obtain ⟨b,o,e,_⟩:=u.out.at_ G; cases e
   subst a1
   by_cases hc:c=0
   ·subst hc
    go_enter Tryz.func225,Tryz.ntmps225
    go_wp2_with fail
    go_ret
    exact ⟨_,_,_,rfl,by omega,by rw [z.out]; exact u.out,rfl⟩
   ·go_enter Tryz.func225,Tryz.ntmps225
    go_wp2_with fail
    go_ret
    exact ⟨_,_,_,rfl,by omega,by rw [z.out]; exact u.out,rfl⟩
  | some a=>
   go_enter Tryz.func225,Tryz.ntmps225
   go_wp2_with fail
   go_ret
   exact ⟨_,_,_,rfl,by omega,by rw [z.out]; exact u.out,rfl⟩
 ·obtain ⟨b,o,x,rfl,_,_,_⟩:=u.out.get (k:=0) (by omega)
  obtain ⟨m,I⟩:∃ m:Nat,n=m+4:=⟨n - 4,by omega⟩
  have hm:max (0:Int) ((n:Int) - 4)=(m:Int):=by omega
  have a3:m < c:=by omega
  have a4:¬ c=m:=by omega
  have a2:m≤n:=by omega
  have F:last4 xs=xs.drop m:=by unfold last4; rw [N.out,I]; rfl
  have Y:=u.out.back (i:=m) a2 rfl (A':=some ⟨b,o+m,none⟩) (fun _=>rfl)
  have z:=Lh F
  have a0:=Lh Y
  have HM:=Lh I
  clear F Y I
  go_enter Tryz.func225,Tryz.ntmps225
  go_wp2_with fail
  go_ret
  obtain rfl:m=n - 4:=by have:=HM.out; omega
  exact ⟨_,_,_,rfl,by omega,by rw [z.out]; exact a0.out,rfl⟩
theorem put_in (X:Nat→Prop) (w:World) (B p i:Nat) (L:Nat→List Int) (A:Option Addr) (n c:Nat) (ids:List Int) (hX:∀ g,X g→g < w.heap.size) (h:Lo X w B p L) (hi:i < 8) (hr:Rd (Value.int .u64) w w.heap.size A n c ids) (hn:n≤1000) :
  Calls Tryz.prog 207 #[.pointer (some ⟨p,0,none⟩),.int .i64 i,.slice A n c] w fun e w'=>e=.returned (.int .i64 0)∧Lo X w' B p (upd L i (last4 (L i ++ ids)))∧Fr (some p) none w w':=by
 obtain ⟨A0,n0,c0,h0,Y,_⟩:=h.at_ i hi
 have N:=h.lt
 have ag:n0≤4:=by rw [← Y.len]; exact h.len i hi
 have af:(i:Int) < 8:=by omega
 have HL:=Lh h
 have HR:=Lh hr
 have a0:=Lh Y
 have HX:=Lh hX
 clear h hr Y hX
 go_enter Tryz.func207,Tryz.ntmps207
 go_wp2_with fail
 refine (known_yes i _ (by omega) (by omega)).mono ?_
 rintro e w1 ⟨rfl,rfl⟩
 go_wp2_with fail
 refine reg_start 11 (fun w'=>Below w.heap.size w w') (by kernel_rfl) (by kernel_rfl) ?_
 intro a4
 have z:=Lh a4
 have u:=Lh (show Below w.heap.size w w.drew from (Below.refl _ _).drew)
 clear a4
 refine rq 0 z.out u.out rfl ?_
 refine rq 1 z.out u.out rfl ?_
 refine rq 2 z.out u.out rfl ?_
 refine rq 3 z.out u.out rfl ?_
 refine rq 4 z.out u.out rfl ?_
 refine rq 5 z.out u.out rfl ?_ (hv:=fun w' hw=>by (have k0:=(hw.cell (p:=⟨p,i,none⟩) N).trans h0; go_simp; exact rfl))
 refine rq 6 z.out u.out rfl ?_
 refine reg_only 7 rfl (by kernel_rfl) rfl ?_
 unfold Oper.wp
 go_simp
 refine (newest_any A n c _ ids _ (HR.out.later u.out)).mono ?_
 rintro e w2 ⟨A2,n2,c2,rfl,ah,aa,rfl⟩
 have I:=Lh aa
 clear aa
 refine ⟨u.out,?_⟩
 refine reg_only 8 rfl (by kernel_rfl) rfl ?_
 unfold Oper.wp
 go_simp
 have G:=Lh (show Below w.heap.size w (w.alloc (.cells #[.slice A0 n0 c0,.slice A2 n2 c2] 38)).drew from ((Below.refl _ _).alloc (Nat.le_refl _) _).drew)
 have a1:=Lh (show Rd (Value.int .u64) w w.heap.size A2 n2 c2 (last4 ids) from ⟨I.out.len,I.out.cap,I.out.top,I.out.at_⟩)
 refine ⟨G.out,?_⟩
 refine reg_only 9 rfl (by kernel_rfl) rfl ?_
 unfold Oper.wp
 go_simp
 refine (concat_two w.heap.size A0 A2 n0 c0 n2 c2 w.heap.size w.heap.size (L i) (last4 ids) (w.alloc (.cells #[.slice A0 n0 c0,.slice A2 n2 c2] 38)).drew (by go_simp) (by go_simp) (a0.out.below G.out) (a1.out.below G.out) (by simp) (by simp) (by simp) (by omega)).mono ?_
 rintro e w3 ⟨A3,c3,rfl,a9,a6⟩
 have J:=Lh (G.out.trans (a6.mono G.out.size))
 have ad:=Lh (Rd.own_rd a9)
 clear a6 a9 I a1 G u a0 HR
 refine ⟨J.out,?_⟩
 refine reg_only 10 rfl (by kernel_rfl) rfl ?_
 unfold Oper.wp
 go_simp
 refine ⟨J.out,?_⟩
 refine reg_done (by kernel_rfl) ?_
 go_wp2_with fail
 refine reg_start 8 (fun w'=>Below w.heap.size w w') (by kernel_rfl) (by kernel_rfl) ?_
 intro a5
 have z:=Lh a5
 have u:=Lh (show Below w.heap.size w w3.drew from J.out.drew)
 clear a5
 refine rq 0 z.out u.out rfl ?_
 refine rq 1 z.out u.out rfl ?_
 refine rq 2 z.out u.out rfl ?_
 refine rq 5 z.out u.out rfl ?_
 refine rq 6 z.out u.out rfl ?_
 refine reg_only 3 rfl (by kernel_rfl) rfl ?_
 unfold Oper.wp
 go_simp
 refine (newest_any A3 (n0+n2) c3 _ (L i ++ last4 ids) _ ad.out.drew).mono ?_
 rintro e w4 ⟨A4,n4,c4,rfl,ai,ac,rfl⟩
 have a2:=Lh ac
 clear ac
 refine ⟨u.out,?_⟩
 refine reg_only 4 rfl (by kernel_rfl) rfl ?_
 unfold Oper.wp
 go_simp
 refine (Sl.clone_any A4 n4 c4 _ _ w3.drew a2.out (Nat.le_refl _) (by omega)).mono ?_
 rintro e w5 ⟨A5,c5,rfl,W,a7⟩
 have F:=Lh (u.out.trans (a7.mono u.out.size))
 have a3:=Lh (Rd.own_rd W)
 have ae:=Lh (own_fresh W (X:=X) (fun g hg=>Nat.lt_of_lt_of_le (HX.out g hg) u.out.size))
 clear a7 W a2 u
 have a8:(last4 (L i ++ last4 ids)).length≤4:=last4_len _
 obtain ⟨q1,q2⟩:=(HL.out.later F.out).store hi a3.out a8 ae.out
 rw [last4_append] at q1
 have Q1:=Lh q1
 have Q2:=Lh (Fr.after F.out q2)
 have k0:=(F.out.cell (p:=⟨p,i,none⟩) N).trans h0
 have f0:=(F.out.frozen (p:=⟨p,i,none⟩) N).trans (HL.out.free i hi)
 clear q1 q2 a8 a3
 refine ⟨F.out,?_⟩
 refine rq 7 z.out F.out rfl ?_
 refine reg_only 8 rfl (by kernel_rfl) rfl ?_
 unfold Oper.wp
 go_simp
 refine reg_done (by kernel_rfl) ?_
 go_wp2_with fail
 go_ret
 exact ⟨rfl,Q1.out,Q2.out⟩
theorem take_some (X:Nat→Prop) (w:World) (B p i:Nat) (L:Nat→List Int) (xs:List Int) (x:Int) (h:Lo X w B p L) (hi:i < 8) (J:L i=xs ++ [x]) :
  Calls Tryz.prog 284 #[.pointer (some ⟨p,0,none⟩),.int .i64 i] w fun e w'=>e=.returned (.tuple #[.int .u64 x,.bool true])∧Lo X w' B p (upd L i xs)∧Fr (some p) none w w':=by
 obtain ⟨A0,n0,c0,G,F,a2⟩:=h.at_ i hi
 have a4:=Lh a2
 clear a2
 have hl:=h.lt
 have f0:=h.free i hi
 have W:=F.len
 have a1:=h.len i hi
 rw [J] at W a1
 obtain ⟨m,Y⟩:∃ m,xs.length=m:=⟨_,rfl⟩
 simp only [List.length_append,List.length_cons,List.length_nil,Y] at W a1
 subst W
 have a9:(i:Int) < 8:=by omega
 obtain ⟨b,o,y,rfl,hb,I,cy⟩:=F.get (k:=m) (by omega)
 have a6:y=x:=by
  rw [J,List.getElem?_append_right (by omega),Y,Nat.sub_self] at I
  injection I with I
  exact I.symm
 subst a6
 have N:=F.front (i:=m) (by omega)
 rw [J,List.take_append_of_le_length (by omega),List.take_of_length_le (by omega)] at N
 have a7:=F.cap
 have ad:=F.top
 have aa:m≤c0:=by omega
 have HL:=Lh h
 have HF:=Lh N
 have ac:((m:Int)+1 == 0)=false:=beq_eq_false_iff_ne.2 (by omega)
 have a3:xs.length≤4:=by omega
 have a5:=Lh a3
 clear h F I N J Y a3
 go_enter Tryz.func284,Tryz.ntmps284
 go_wp2_with fail
 refine (list_in p i _ _ hi G).mono ?_
 rintro e w1 ⟨rfl,rfl⟩
 go_wp2_with fail
 refine reg_start 8 (fun w'=>Below w.heap.size w w') (by kernel_rfl) (by kernel_rfl) ?_
 intro a0
 have z:=Lh a0
 have u:=Lh (show Below w.heap.size w w.drew from (Below.refl _ _).drew)
 clear a0
 refine rq 0 z.out u.out rfl ?_
 refine rq 1 z.out u.out rfl ?_
 refine rq 2 z.out u.out rfl ?_
 refine rq 3 z.out u.out rfl ?_
 refine rq 4 z.out u.out rfl ?_
 refine rq 5 z.out u.out rfl ?_
 refine rq 6 z.out u.out rfl ?_
 refine rq 7 z.out u.out rfl ?_
 have k0:=(u.out.cell (p:=⟨p,i,none⟩) hl).trans G
 have k1:=(u.out.frozen (p:=⟨p,i,none⟩) hl).trans f0
 refine reg_only 8 rfl (by kernel_rfl) rfl ?_
 unfold Oper.wp
 go_simp
 obtain ⟨q1,q2⟩:=(HL.out.later u.out).store hi (HF.out.later u.out) a5.out a4.out
 have Q1:=Lh q1
 have Q2:=Lh (Fr.after u.out q2)
 have a8:(w.setCell ⟨p,i,none⟩ (.slice (some ⟨b,o,none⟩) m c0)).cell? ⟨b,o+m,none⟩=some (.int .u64 y):=by
  refine (World.cell?_setCell_other _ _ _ _ (fun e=>?_)).trans cy
  injection e with e1 e2
  subst e1
  rw [e2] at G
  rw [cy] at G
  cases G
 clear q1 q2
 refine reg_done (by kernel_rfl) ?_
 go_wp2_with fail
 go_ret2
 exact ⟨rfl,Q1.out,Q2.out⟩
theorem all_in (X:Nat→Prop) (w:World) (B p i:Nat) (L:Nat→List Int) (h:Lo X w B p L) (hi:i < 8) :
  Calls Tryz.prog 76 #[.pointer (some ⟨p,0,none⟩),.int .i64 i] w fun e w'=>∃ A c,e=.returned (.slice A (L i).length c)∧Rd (Value.int .u64) w' w'.heap.size A (L i).length c (L i)∧(∀ g,(Value.slice A (L i).length c).ownBlock=some g→w.heap.size≤g)∧Below w.heap.size w w':=by
 obtain ⟨A0,n0,c0,N,z,_⟩:=h.at_ i hi
 have F:=z.len
 have a0:=h.len i hi
 have J:=Lh z
 rw [F] at a0 ⊢
 clear h z F
 go_enter Tryz.func76,Tryz.ntmps76
 go_wp2_with fail
 refine (list_in p i _ _ hi N).mono ?_
 rintro e w1 ⟨rfl,rfl⟩
 go_wp2_with fail
 refine (Sl.clone_any A0 n0 c0 _ _ w J.out (Nat.le_refl _) (by omega)).mono ?_
 rintro e w1 ⟨A,c,rfl,u,W⟩
 have I:=Lh (Rd.own_rd u)
 have G:=Lh u.lt
 clear u
 go_wp2_with fail
 go_ret
 exact ⟨A,c,rfl,I.out,fun g Y=>(G.out g Y).1,W⟩
theorem put_t (X:Nat→Prop) (w:World) (B p i:Nat) (t:Int) (F:t=i) (L:Nat→List Int) (A:Option Addr) (n c:Nat) (ids:List Int) (u:∀ g,X g→g < w.heap.size) (h:Lo X w B p L) (hi:i < 8) (z:Rd (Value.int .u64) w w.heap.size A n c ids) (hn:n≤1000) :
  Calls Tryz.prog 207 #[.pointer (some ⟨p,0,none⟩),.int .i64 t,.slice A n c] w fun e w'=>e=.returned (.int .i64 0)∧Lo X w' B p (upd L i (last4 (L i ++ ids)))∧Fr (some p) none w w':=by
 subst F; exact put_in X w B p i L A n c ids u h hi z hn
theorem take_some_t (X:Nat→Prop) (w:World) (B p i:Nat) (t:Int) (z:t=i) (L:Nat→List Int) (xs:List Int) (x:Int) (h:Lo X w B p L) (hi:i < 8) (u:L i=xs ++ [x]) :
  Calls Tryz.prog 284 #[.pointer (some ⟨p,0,none⟩),.int .i64 t] w fun e w'=>e=.returned (.tuple #[.int .u64 x,.bool true])∧Lo X w' B p (upd L i xs)∧Fr (some p) none w w':=by
 subst z; exact take_some X w B p i L xs x h hi u
theorem all_t (X:Nat→Prop) (w:World) (B p i:Nat) (t:Int) (u:t=i) (L:Nat→List Int) (n:Nat) (hn:(L i).length=n) (h:Lo X w B p L) (hi:i < 8) :
  Calls Tryz.prog 76 #[.pointer (some ⟨p,0,none⟩),.int .i64 t] w fun e w'=>∃ A c,e=.returned (.slice A n c)∧Rd (Value.int .u64) w' w'.heap.size A n c (L i)∧(∀ g,(Value.slice A n c).ownBlock=some g→w.heap.size≤g)∧Below w.heap.size w w':=by
 subst u hn; exact all_in X w B p i L h hi
theorem fr_bel {w w':World} {B p:Nat} (h:Fr (some p) none w w') (u:B≤w.heap.size) (z:B≤p):Below B w w':=h.below u (fun k hk=>by injection hk with hk; omega) (fun k hk=>by cases hk)
theorem rd_lit (w:World) (cs:Array Value) (xs:List Int) (h:cs.toList=xs.map (Value.int .u64)) (n:Nat) (z:xs.length=n) (hn:n≤1000):Rd (Value.int .u64) (w.alloc (.cells cs 22)) (w.alloc (.cells cs 22)).heap.size (some ⟨w.heap.size,0,none⟩) n n xs:=by
 subst z
 have u:=World.ownsRow_lit (base:=w.heap.size) (e:=22) (size:=1) w cs xs.length (Nat.le_refl _) (by unfold maxLen; omega) (by rw [← Array.length_toList,h]; simp)
 rw [h] at u
 exact Rd.own_rd u
theorem awake12_any (w:World) (hT:Tx.Tab w) :
  Calls Tryz.prog 272 #[] w fun e w'=>e=.returned (.bool true)∧Below w.heap.size w w':=by
 have HT:=Lh hT
 clear hT
 go_enter Tryz.func272,Tryz.ntmps272
 go_wp2_with fail
 refine (new_any (fun _=>False) _ w.heap.size (Nat.le_refl _) (fun g h=>h.elim)).mono ?_
 rintro e w1 ⟨p,rfl,h1,a3,I⟩
 have a4:=I.size
 go_wp2_with fail
 refine (put_t (fun _=>False) _ _ _ 1 1 rfl _ _ 5 5 [5,6,7,8,9] (fun g h=>h.elim) (h1.later ((Below.refl _ _).alloc (Nat.le_refl _) _)) (by omega) (rd_lit w1 _ _ rfl 5 rfl (by omega)) (by omega)).mono ?_
 rintro e w2 ⟨rfl,h2,a0⟩
 have b2:Below w.heap.size w w2:=(I.alloc a4 _).trans (fr_bel a0 (by simp; omega) a3)
 have z:=Lh h2
 have F:=Lh b2
 clear h1 h2 b2 I a0
 go_wp2_with fail
 refine (all_t _ _ _ _ 1 1 rfl _ 4 rfl z.out (by omega)).mono ?_
 rintro e w3 ⟨A3,c3,rfl,a1,a2,J⟩
 have a7:=z.out.lt
 have H3:=Lh (z.out.later J)
 have R3:=Lh a1
 have G:=Lh (F.out.trans (J.mono F.out.size))
 clear a1 J z F
 go_wp2_with fail
 refine (take_some_t _ _ _ _ 1 1 rfl _ [6,7,8] 9 H3.out (by omega) rfl).mono ?_
 rintro e w4 ⟨rfl,h4,W⟩
 have R4:=Lh (show Rd (Value.int .u64) w4 w4.heap.size A3 4 c3 [6,7,8,9] from rd_fr R3.out W (fun g h e=>by have:=a2 g h; omega))
 have u:=Lh (G.out.trans (fr_bel W G.out.size h4.lo))
 have a5:=u.out.size
 clear h4 W H3 R3 G a2
 go_wp2_with fail
 refine (St.Awake11_any _ (HT.out.below u.out)).mono ?_
 rintro e w5 ⟨rfl,N⟩
 have R5:=Lh (R4.out.later N)
 have Y:=Lh (u.out.trans (N.mono a5))
 have a6:=Y.out.size
 clear N R4 u
 go_wp2_with fail
 refine (equal_any A3 (some ⟨w5.heap.size,0,none⟩) 4 c3 4 4 [6,7,8,9] [6,7,8,9] _ _ _ (R5.out.alloc (Nat.le_refl _) _) (rd_lit w5 _ _ rfl 4 rfl (by omega))).mono ?_
 rintro e w6 ⟨rfl,q,rfl⟩
 rw [decide_eq_true rfl]
 go_wp2_with fail
 go_ret
 exact ⟨rfl,below_drewN (Y.out.alloc a6 _) q⟩
theorem Awake12_any (w:World) (h:Tx.Tab w) :
  Calls Tryz.prog 253 #[] w fun e w'=>e=.returned (.bool true)∧Below w.heap.size w w':=by
 go_enter Tryz.func253,Tryz.ntmps253
 go_wp2_with fail
 refine (awake12_any _ h).mono ?_
 rintro e z ⟨rfl,u⟩
 go_wp2_with fail
 go_ret
 exact ⟨rfl,u⟩
end Go.Proofs.YtaeemilldmhbnaaGreatDoor.Lc
