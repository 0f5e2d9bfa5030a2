/- A part of the claim: the texts Base5. -/
import Derived.Test.YtoiklelghfckgaaGreatDoorZBase1
import Derived.Test.YtoiklelghfckgaaGreatDoorZGFr
import Derived.Lib.SliceRun
import Derived.ProofKit
import Derived.Deep.RegionLaw
import Derived.Shelf.RegionOpenPlain
import Derived.Lib.SlicesDelete
set_option maxRecDepth 100000
set_option maxHeartbeats 8000000
set_option linter.unusedVariables false
namespace Go.Proofs.YtoiklelghfckgaaGreatDoor.Rw
open Go Go.RowKit
section
variable {P:Program} {ops:Array Oper} {Q:Exit→Act→World→Prop} {md:Region.Mode} {S:World→Prop} {n:Nat}
theorem wanted_of {o:Oper} {a:Act} {g:Nat} {p b:Bool} {d:Tmp} (u:o.guard=some (g,p)) (h:dstOf ops g=some d) (hv:a.tmps[d]? = some (.bool b)):Region.wanted o (yielded ops a.tmps)=(b == p):=by
 have z:yielded ops a.tmps g=some b:=by
  unfold yielded
  unfold dstOf at h
  simp only [h]
  simp [hv]
 unfold Region.wanted
 rw [u]
 simp only [z]
 cases b <;> cases p <;> rfl
theorem wanted_yes {o:Oper} {a:Act} {g:Nat} {p:Bool} {d:Tmp} (u:o.guard=some (g,p)) (h:dstOf ops g=some d) (hv:a.tmps[d]? = some (.bool p)):Region.wanted o (yielded ops a.tmps)=true:=by
 rw [wanted_of u h hv]; cases p <;> rfl
theorem at_ne {a:Act} {d:Option Tmp} {v:Value} {s:Tmp} {x:Option Value} (h:d≠some s) (hx:a.tmps[s]? = x):(a.put d v).tmps[s]? = x:=(put_at_ne a d v s h).trans hx
theorem at_eq {a:Act} {d:Tmp} {v:Value} (h:d < a.tmps.size):(a.put (some d) v).tmps[d]? = some v:=put_at_eq a d v h
theorem sz_put {a:Act} {d:Option Tmp} {v:Value} {k:Nat} (h:k < a.tmps.size):k < (a.put d v).tmps.size:=by rw [put_size]; exact h
end
end Go.Proofs.YtoiklelghfckgaaGreatDoor.Rw
namespace Go.Proofs.YtoiklelghfckgaaGreatDoor.Rw
open Go Go.RowKit Go.ChangeShapes Go.WideShapes Go.ChangeAt
def setsL {α:Type} : List α→Nat→List α→List α
 | xs,_,[]=>xs
 | xs,k,y :: ys=>setsL (xs.set k y) (k+1) ys
theorem setsL_eq {α:Type} : ∀ (u xs:List α) (k:Nat),k+u.length≤xs.length→setsL xs k u=xs.take k ++ u ++ xs.drop (k+u.length)
 | [],xs,k,h=>by simp [setsL]
 | y :: u,xs,k,h=>by
  simp only [List.length_cons] at h
  rw [setsL,setsL_eq u _ _ (by simp; omega)]
  rw [List.take_set,List.drop_set_of_lt (by omega),List.take_add_one,List.getElem?_eq_getElem (show k < xs.length by omega)]
  have hk:(xs.take k).length=k:=by simp; omega
  simp only [Option.toList_some,List.length_cons]
  rw [List.set_append_right k y (by omega),hk,Nat.sub_self,show k+(u.length+1)=k+1+u.length by omega]
  simp
theorem setsL_len {α:Type} : ∀ (h xs:List α) (k:Nat),(setsL xs k h).length=xs.length
 | [],_,_=>rfl
 | y :: h,xs,k=>by rw [setsL,setsL_len h]; simp
theorem own_sets {w:World} {base g n c:Nat} {e:TypeId} {size:Nat} : ∀ (u:List Value) {w:World} {xs:List Value} (k:Nat),w.ownsRow base e size (.slice (some ⟨g,0,none⟩) n c) n xs →
  (w.setCells g k u).ownsRow base e size (.slice (some ⟨g,0,none⟩) n c) n (setsL xs k u)∧w.grownBy (w.setCells g k u) (some g)
 | [],w,xs,k,h=>⟨h,World.grownBy.refl w _⟩
 | y :: u,w,xs,k,h=>by
  obtain ⟨z,F⟩:=h.stored k y
  obtain ⟨G,I⟩:=own_sets (w:=w) u (k+1) z
  exact ⟨G,F.trans I⟩
theorem own_front {w:World} {base:Nat} {e:TypeId} {size:Nat} {g n c m:Nat} {xs:List Value} (h:w.ownsRow base e size (.slice (some ⟨g,0,none⟩) n c) n xs) (W:m≤n) :
  w.ownsRow base e size (.slice (some ⟨g,0,none⟩) m c) m (xs.take (m * size)):=by
 have Y:m * size≤n * size:=Nat.mul_le_mul_right size W
 rcases h.2 with ⟨u,_⟩ | ⟨g',cap,z,u,F,J,a0,G,I,ht⟩
 ·cases u
 ·injection u with h1 _ h3
  injection h1 with h1
  injection h1 with h1
  subst h1 h3
  refine ⟨by rw [List.length_take,h.1]; omega,.inr ⟨g,c,z,rfl,F,J,by omega,G,I,?_⟩⟩
  rw [← ht,List.take_take,Nat.min_eq_left Y]
section
variable {α:Type} {enc:α→List Value} {sz:Nat}
theorem flat_take (h:∀ x,(enc x).length=sz):∀ (xs:List α) (k:Nat),(flat enc xs).take (k * sz)=flat enc (xs.take k)
 | [],k=>by simp [flat]
 | x :: l,0=>by simp [flat]
 | x :: l,k+1=>by
  show (enc x ++ flat enc l).take _=enc x ++ flat enc (l.take k)
  rw [List.take_append,h,show (k+1) * sz - sz=k * sz by rw [Nat.add_mul]; omega,flat_take h l k,List.take_of_length_le (by rw [h,Nat.add_mul]; omega)]
theorem flat_drop (h:∀ x,(enc x).length=sz):∀ (xs:List α) (k:Nat),(flat enc xs).drop (k * sz)=flat enc (xs.drop k)
 | [],k=>by simp [flat]
 | x :: l,0=>by simp [flat]
 | x :: l,k+1=>by
  show (enc x ++ flat enc l).drop _=flat enc (l.drop k)
  rw [List.drop_append,h,show (k+1) * sz - sz=k * sz by rw [Nat.add_mul]; omega,flat_drop h l k,List.drop_of_length_le (by rw [h,Nat.add_mul]; omega),List.nil_append]
theorem flat_set (F:∀ x,(enc x).length=sz):∀ (xs:List α) (k i:Nat) (x y:α) (u:Value),xs[k]? = some x→i < sz→enc y=(enc x).set i u→(flat enc xs).set (k * sz+i) u=flat enc (xs.set k y)
 | [],k,i,x,y,u,h,_,_=>by simp at h
 | z :: l,0,i,x,y,u,h,hi,hy=>by
  simp at h; subst h
  show (enc z ++ flat enc l).set _ u=enc y ++ flat enc l
  rw [List.set_append_left _ _ (by rw [F]; omega),hy]
  simp
 | z :: l,k+1,i,x,y,u,h,hi,hy=>by
  show (enc z ++ flat enc l).set _ u=enc z ++ flat enc (l.set k y)
  rw [List.set_append_right _ _ (by rw [F,Nat.add_mul]; omega),F,show (k+1) * sz+i - sz=k * sz+i by rw [Nat.add_mul]; omega,flat_set F l k i x y u (by simpa using h) hi hy]
end
theorem run_clear_any {P:Program} (w:World) (t e ty:TypeId) (z:Value) (sz:Nat) (ht:P.underlying t=some (.slice e)) (hv:∀ w,(zeroValue e).run P w=.ok z w) (hz:∀ u∈z.cells.toList,u.oneCell'=true) (hs:z.cells.size=sz) (b o n c:Nat) (hn:0 < n)
  (hc:∀ j,j < n * sz→(w.cell? ⟨b,o+j,none⟩).isSome=true) (W:∀ j,j < n * sz→w.frozen? ⟨b,o+j,none⟩=false) :
  ∃ zs:List Value,zs.length=n * sz∧(Builtin.clear_ #[t] ty #[.slice (some ⟨b,o,none⟩) n c]).run P w=.ok (.tuple #[]) (w.setCells b o zs):=by
 have F:(Builtin.zeroCells z.cells n).toList.length=n * sz:=by simp [Builtin.zeroCells,hs]
 have J:∀ v∈(Builtin.zeroCells z.cells n).toList,v.oneCell'=true:=by
  intro v I
  simp only [Builtin.zeroCells,Array.toList_map,List.mem_map] at I
  obtain ⟨i,hi,rfl⟩:=I
  have Y:i < n * z.cells.size:=by simpa using hi
  have a0:0 < z.cells.size:=by
   rcases Nat.eq_zero_or_pos z.cells.size with h | h
   ·rw [h] at Y; omega
   ·exact h
  have hm:i % z.cells.size < z.cells.size:=Nat.mod_lt _ a0
  rw [getElem!_pos z.cells _ hm]
  exact hz _ (by simp)
 have G:=run_storeCells_cells (P:=P) b o (Builtin.zeroCells z.cells n).toList 0 w (by rw [F]; simpa using hc) (by rw [F]; simpa using W) J
 simp only [Nat.add_zero] at G
 refine ⟨_,F,?_⟩
 obtain ⟨m,rfl⟩:∃ m,n=m+1:=⟨n - 1,by omega⟩
 simp [Builtin.clear_,run_underlying ht,hv,G]
end Go.Proofs.YtoiklelghfckgaaGreatDoor.Rw
namespace Go.Proofs.YtoiklelghfckgaaGreatDoor.St
abbrev Sx:=Int × Int × Int
def hit (t:Int) (x:Sx):Bool:=x.1 == t
def free (x:Sx):Bool:=x.2.2 == 0
def Miss (p:Sx→Bool) (l:List Sx) (k:Nat):Prop:=∀ j x,j < k→l[j]? = some x→p x=false
theorem Miss.zero (p:Sx→Bool) (l:List Sx):Miss p l 0:=fun _ _ h=>absurd h (by omega)
theorem Miss.succ {p:Sx→Bool} {l:List Sx} {k:Nat} {x:Sx} (h:Miss p l k) (hx:l[k]? = some x) (z:p x=false):Miss p l (k+1):=by
 intro j y F u
 by_cases e:j=k
 ·subst e; rw [hx] at u; injection u with u; subst u; exact z
 ·exact h j y (by omega) u
theorem ix_some {p:Sx→Bool} {l:List Sx} {k:Nat} {x:Sx} (h:Miss p l k) (hx:l[k]? = some x) (z:p x=true):l.findIdx? p=some k:=by
 obtain ⟨hk,rfl⟩:=List.getElem?_eq_some_iff.1 hx
 rw [List.findIdx?_eq_some_iff_getElem]
 exact ⟨hk,z,fun j u=>by rw [h j _ u (List.getElem?_eq_getElem (by omega))]; simp⟩
theorem ix_none {p:Sx→Bool} {l:List Sx} (h:Miss p l l.length):l.findIdx? p=none:=by
 rw [List.findIdx?_eq_none_iff]
 intro x hx
 obtain ⟨j,u,rfl⟩:=List.getElem_of_mem hx
 exact h j _ u (List.getElem?_eq_getElem u)
theorem ix_hit {p:Sx→Bool} {l:List Sx} {k:Nat} (h:l.findIdx? p=some k):∃ x,l[k]? = some x∧p x=true∧k < l.length:=by
 rw [List.findIdx?_eq_some_iff_getElem] at h
 obtain ⟨hk,u,_⟩:=h
 exact ⟨l[k],List.getElem?_eq_getElem hk,u,hk⟩
def ixZ (p:Sx→Bool) (l:List Sx):Int:=match l.findIdx? p with
 | some k=>k
 | none=>-1
theorem ixZ_some {p:Sx→Bool} {l:List Sx} {k:Nat} (h:l.findIdx? p=some k):ixZ p l=k:=by unfold ixZ; rw [h]
theorem ixZ_none {p:Sx→Bool} {l:List Sx} (h:l.findIdx? p=none):ixZ p l = -1:=by unfold ixZ; rw [h]
def parkL (l:List Sx) (t d:Int):List Sx:=if (l.findIdx? (hit t)).isSome then l else l ++ [(t,d,0)]
def parkE (l:List Sx) (t:Int):Int:=if (l.findIdx? (hit t)).isSome then 10 else 0
def fillAt (l:List Sx) (k:Nat) (x:Sx) (i:Int):List Sx:=l.set k (x.1,x.2.1,i)
def waitN (l:List Sx):Nat:=l.countP free
theorem park_hit {l:List Sx} {t d:Int} {k:Nat} (h:l.findIdx? (hit t)=some k):parkL l t d=l∧parkE l t=10:=by simp [parkL,parkE,h]
theorem park_miss {l:List Sx} {t d:Int} (h:l.findIdx? (hit t)=none):parkL l t d=l ++ [(t,d,0)] ∧ parkE l t=0:=by simp [parkL,parkE,h]
theorem park_len (l:List Sx) (t d:Int):(parkL l t d).length≤l.length+1:=by unfold parkL; split <;> simp
theorem fillAt_len (l:List Sx) (k:Nat) (x:Sx) (i:Int):(fillAt l k x i).length=l.length:=by simp [fillAt]
theorem erase_len {l:List Sx} {k:Nat} (h:k < l.length):(l.eraseIdx k).length+1=l.length:=by rw [List.length_eraseIdx]; simp [h]; omega
theorem waitN_snoc {l:List Sx} {k:Nat} {x:Sx} (h:l[k]? = some x):waitN (l.take (k+1))=waitN (l.take k)+(if free x then 1 else 0):=by
 rw [List.take_add_one,h]
 simp [waitN,List.countP_append,List.countP_cons]
end Go.Proofs.YtoiklelghfckgaaGreatDoor.St
namespace Go.Proofs.YtoiklelghfckgaaGreatDoor.St
open Go.ChangeShapes Go.WideShapes Go.ChangeAt Go.RowKit Rw
def enc3 (x:Sx):List Value:=[.int .i64 x.1,.int .u64 x.2.1,.int .u64 x.2.2]
theorem enc3_len (x:Sx):(enc3 x).length=3:=rfl
theorem enc3_one (x:Sx):∀ u∈enc3 x,u.oneCell'=true:=by
 intro u h
 simp [enc3] at h
 rcases h with rfl | rfl | rfl <;> rfl
theorem info_slot:(Tryz.prog.info? 179).map (fun i=>(i.zero,i.size,i.bytes))=some (some (.agg #[.int .i64 0,.int .u64 0,.int .u64 0]),3,24):=by kernel_rfl
theorem three_at {w:World} {B:Nat} {A:Option Addr} {n c k:Nat} {l:List Sx} (h:Rs enc3 3 w B A n c l) (hk:k < n):∃ b o x,A=some ⟨b,o,none⟩∧b < B∧l[k]? = some x ∧
  w.cell? ⟨b,o+k * 3,none⟩=some (.int .i64 x.1)∧w.cell? ⟨b,o+k * 3+1,none⟩=some (.int .u64 x.2.1)∧w.cell? ⟨b,o+k * 3+2,none⟩=some (.int .u64 x.2.2):=by
 obtain ⟨b,o,e,u,z,F,hc⟩:=h.get hk
 exact ⟨b,o,e,u,z,F,hc 0 _ (by omega) rfl,hc 1 _ (by omega) rfl,hc 2 _ (by omega) rfl⟩
theorem waits_any (a b c:Int) (w:World) :
  Calls Tryz.prog 248 #[.agg #[.int .i64 a,.int .u64 b,.int .u64 c]] w fun e w'=>e=.returned (.bool (c == 0))∧Below w.heap.size w w':=by
 go_enter Tryz.func248,Tryz.ntmps248
 go_wp2_with fail
 go_ret
 exact ⟨rfl,(Below.refl _ _).alloc (Nat.le_refl _) _⟩
theorem isof_any (a b c t:Int) (q:Nat) (w:World) (hc:w.cell? ⟨q,0,none⟩=some (.int .i64 t)) :
  Calls Tryz.prog 147 #[.agg #[.int .i64 a,.int .u64 b,.int .u64 c],.pointer (some ⟨q,0,none⟩)] w fun e w'=>e=.returned (.bool (a == t))∧Below w.heap.size w w':=by
 have h:q < w.heap.size:=Lw.lt_heap hc
 go_enter Tryz.func147,Tryz.ntmps147
 go_wp2_with fail
 go_ret
 exact ⟨rfl,(Below.refl _ _).alloc (Nat.le_refl _) _⟩
theorem index_any (g:FuncId) (lb:Array Value) (p:Sx→Bool) (A:Option Addr) (n c B:Nat) (l:List Sx) (w:World) (h:Rs enc3 3 w B A n c l) (hB:B≤w.heap.size)
  (eg:∀ args w,(callFunc g args).run Tryz.prog w=.ok (.enter g args) w)
  (hp:∀ (a b c:Int) W,Below w.heap.size w W→Calls Tryz.prog g (#[.agg #[.int .i64 a,.int .u64 b,.int .u64 c]] ++ lb) W fun e W'=>e=.returned (.bool (p (a,b,c)))∧Below W.heap.size W W') :
  Calls Tryz.prog 146 #[.slice A n c,.func (.func g) #[] lb] w fun e w'=>e=.returned (.int .i64 (ixZ p l))∧Below w.heap.size w w':=by
 have hn:n≤9223372036854775807:=by have:=h.cap; have:=h.top; omega
 have G:=Lh h
 have HP:=Lh hp
 clear h hp
 go_enter Tryz.func146,Tryz.ntmps146
 go_wp2_with fail
 go_loopw [8] (fun i wr=>∃ k:Nat,k≤n∧i=.int .i64 k∧Miss p l k∧Below w.heap.size w wr) (fun i _=>n - (intOf i).toNat)
 case atStart=>exact ⟨0,Nat.zero_le _,rfl,Miss.zero _ _,Below.refl _ _⟩
 case round=>
  obtain ⟨k,hk,rfl,hm,u⟩:=hrel
  have F:=Lh hm
  have Y:=u.size
  clear hm
  by_cases hlt:k < n
  ·obtain ⟨b,o,x,rfl,hb,hx,c0,c1,c2⟩:=three_at G.out hlt
   have d0:=(u.cell (p:=⟨b,o+k * 3,none⟩) (by simp only; omega)).trans c0
   have d1:=(u.cell (p:=⟨b,o+k * 3+1,none⟩) (by simp only; omega)).trans c1
   have d2:=(u.cell (p:=⟨b,o+k * 3+2,none⟩) (by simp only; omega)).trans c2
   obtain ⟨x0,x1,x2⟩:=x
   have I:=Lh hx
   simp only at d0 d1 d2
   clear c0 c1 c2 hx
   go_wp2_with fail
   refine (HP.out x0 x1 x2 wr u).mono ?_
   rintro e w1 ⟨rfl,J⟩
   cases hq:p (x0,x1,x2) with
   | true=>
    have z:=Lh (ixZ_some (ix_some F.out I.out hq))
    go_wp2_with fail
    go_ret
    exact ⟨by rw [z.out]; rfl,u.trans (J.mono Y)⟩
   | false=>
    have a0:=Lh (F.out.succ I.out hq)
    go_wp2_with fail
    go_roundw
    case rel=>exact ⟨k+1,by omega,by go_num,a0.out,u.trans (J.mono Y)⟩
    case measure=>simp [intOf]; omega
  ·have a1:k=n:=by omega
   have z:=Lh (ixZ_none (ix_none (p:=p) (l:=l) (by rw [G.out.len,← a1]; exact F.out)))
   go_wp2_with fail
   go_ret
   exact ⟨by rw [z.out]; rfl,u⟩
theorem index_free (A:Option Addr) (n c B:Nat) (l:List Sx) (w:World) (h:Rs enc3 3 w B A n c l) (u:B≤w.heap.size) :
  Calls Tryz.prog 146 #[.slice A n c,.func (.func 248) #[] #[]] w fun e w'=>e=.returned (.int .i64 (ixZ free l))∧Below w.heap.size w w':=
 index_any 248 #[] free A n c B l w h u (fun args w=>by simp [go_sem]) (fun a b c W _=>waits_any a b c W)
theorem index_of (A:Option Addr) (n c B q:Nat) (t:Int) (l:List Sx) (w:World) (h:Rs enc3 3 w B A n c l) (u:B≤w.heap.size) (hc:w.cell? ⟨q,0,none⟩=some (.int .i64 t)) :
  Calls Tryz.prog 146 #[.slice A n c,.func (.func 147) #[] #[.pointer (some ⟨q,0,none⟩)]] w fun e w'=>e=.returned (.int .i64 (ixZ (hit t) l))∧Below w.heap.size w w':=
 index_any 147 #[.pointer (some ⟨q,0,none⟩)] (hit t) A n c B l w h u (fun args w=>by simp [go_sem]) (fun a b c W z=>isof_any a b c t q W ((z.cell (p:=⟨q,0,none⟩) (Lw.lt_heap hc)).trans hc))
theorem sclone_any (A:Option Addr) (n c:Nat) (xs:List Sx) (B:Nat) (w:World) (h:Rs enc3 3 w B A n c xs) (G:B≤w.heap.size) (a2:n * 24≤140737488355328) :
  Calls Tryz.prog 113 #[.slice A n c] w fun e w'=>∃ A' z,e=.returned (.slice A' n z)∧w'.ownsRow w.heap.size 179 3 (.slice A' n z) n (flat enc3 xs)∧Below w.heap.size w w':=by
 have hn:n≤9223372036854775807:=by have:=h.cap; have:=h.top; omega
 obtain ⟨i0,hi,W,Y,a0⟩:=info_parts info_slot
 cases A with
 | none=>
  have u:n=0:=by
   rcases Nat.eq_zero_or_pos n with u | u
   ·exact u
   ·obtain ⟨b,o,e,_⟩:=h.at_ u
    cases e
  subst u
  obtain rfl:=List.eq_nil_of_length_eq_zero h.len
  clear h
  have hk:=@Lib.run_eql_slice_nil Tryz.prog
  go_enter Tryz.func113,Tryz.ntmps113
  go_wp2
  go_ret
  exact ⟨_,_,rfl,World.ownsRow_nil _ _ _ _,Below.refl _ _⟩
 | some a=>
  have F:=Lh h
  clear h
  have hk:=@Lib.run_eql_slice_nil Tryz.prog
  go_enter Tryz.func113,Tryz.ntmps113
  go_wp2_with (at_builtin; refine append_rs enc3_len rfl _ _ 175 rfl w.heap.size 179 i0 _ 24 Tryz.underlying175 hi W Y a0 rfl (by omega) _ 0 [] rfl (World.ownsRow_lit _ #[] 0 (Nat.le_refl _) (by decide) rfl) B (some a) n c xs rfl (F.out.alloc G _) enc3_one n (Nat.zero_add _) (flat enc3 xs) rfl ?_ ?_ ?_ ?_)
  ·unfold maxLen; omega
  ·omega
  ·simp
  ·intro A' z w' J I a1
   go_wp2
   go_ret
   refine ⟨A',z,rfl,J,((Below.refl _ _).alloc (Nat.le_refl _) _).grown I (by simp) (fun k hk=>?_)⟩
   simp [Value.ownBlock] at hk
   omega
end Go.Proofs.YtoiklelghfckgaaGreatDoor.St
namespace Go.Proofs.YtoiklelghfckgaaGreatDoor.St
open Go.ChangeShapes Go.WideShapes Go.ChangeAt Go.RowKit Rw Hi
theorem zero_slot (w:World):(zeroValue 179).run Tryz.prog w=.ok (.agg #[.int .i64 0,.int .u64 0,.int .u64 0]) w:=by kernel_rfl
theorem delete_list (l:List Sx) (k n:Nat) (F:l.length=n) (hk:k < n) (zs:List Value) (I:zs.length=3) :
  (setsL (setsL (flat enc3 l) (k * 3) (flat enc3 (l.drop (k+1)))) ((n - 1) * 3) zs).take ((n - 1) * 3)=flat enc3 (l.eraseIdx k):=by
 have h:(flat enc3 l).length=n * 3:=by rw [flat_len enc3_len,F]
 have z:(flat enc3 (l.drop (k+1))).length=(n - (k+1)) * 3:=by rw [flat_len enc3_len,List.length_drop,F]
 rw [setsL_eq zs _ _ (by rw [setsL_len,h]; omega),setsL_eq (flat enc3 (l.drop (k+1))) _ _ (by rw [h,z]; omega)]
 have G:((flat enc3 l).take (k * 3)).length=k * 3:=by rw [List.length_take,h]; omega
 have u:((flat enc3 l).take (k * 3) ++ flat enc3 (l.drop (k+1))).length=(n - 1) * 3:=by rw [List.length_append,G,z]; omega
 rw [List.append_assoc (List.take ((n - 1) * 3) _),List.take_append_of_le_length (by rw [List.length_take,List.length_append,u]; omega),List.take_take,Nat.min_self]
 rw [List.take_append_of_le_length (by rw [u]; omega),List.take_of_length_le (by rw [u]; omega)]
 rw [flat_take enc3_len,← flat_append,List.eraseIdx_eq_take_drop_succ]
theorem delete_j (A:Option Addr) (n c base k j:Nat) (aj:k < j) (ak:j < k+2) (l:List Sx) (w:World) (h:w.ownsRow base 179 3 (.slice A n c) n (flat enc3 l)) (hl:l.length=n) (hk:k < n) :
  Calls Tryz.prog 193 #[.slice A n c,.int .i64 k,.int .i64 j] w fun e w'=>e=.returned (.slice A (n - 1) c)∧w'.ownsRow base 179 3 (.slice A (n - 1) c) (n - 1) (flat enc3 (l.eraseIdx k))∧w.grownBy w' (Value.slice A n c).ownBlock:=by
 have a3:j=k+1:=by omega
 have mixed:Tryz.prog.follows .mixedOrders=true:=by kernel_rfl
 obtain ⟨i0,hi,au,ae,av⟩:=info_parts info_slot
 have a4:=Rs.own_rs enc3_len hl h
 obtain ⟨g,rfl⟩:∃ g,A=some ⟨g,0,none⟩:=by
  rcases h.2 with ⟨h',_⟩ | ⟨g,cap,af,h',_⟩
  ·injection h' with _ h2 _; omega
  ·injection h' with h1 _ _; exact ⟨g,h1⟩
 have ar:=a4.cap
 have ah:=a4.top
 have ai:=(h.lt g rfl).2
 obtain ⟨z,a0⟩:∃ z,z=flat enc3 (l.drop (k+1)):=⟨_,rfl⟩
 have Y:z.length=(n - (k+1)) * 3:=by rw [a0,flat_len enc3_len,List.length_drop,hl]
 have a5:∀ j,j < n * 3→(w.cell? ⟨g,j,none⟩).isSome=true:=by
  intro j hj
  rw [h.cellAt j hj,List.getElem?_eq_getElem (by rw [h.1]; exact hj)]
  rfl
 obtain ⟨ad,hA,ac⟩:∃ ad:Addr,(if c=j then (some (⟨g,0,none⟩:Addr)) else some ⟨g,j * 3,none⟩)=some ad∧Hid (∀ t u,z[t]? = some u→w.drew.cell? (ad.add t)=some u):=by
  by_cases hc:c=j
  ·refine ⟨⟨g,0,none⟩,by simp [hc],fun t u F=>?_⟩
   have h0:z.length=0:=by rw [Y]; omega
   rw [List.length_eq_zero_iff.1 h0] at F
   simp at F
  ·refine ⟨⟨g,j * 3,none⟩,by simp [hc],fun t u F=>?_⟩
   have ht:=(List.getElem?_eq_some_iff.1 F).1
   rw [Y] at ht
   rw [Addr.add_lit,World.cell?_drew,a3,h.cellAt _ (by omega),← F,a0,← flat_drop enc3_len,List.getElem?_drop]
 have s1:Hid (z.length=(n - j) * 3):=by rw [a3]; exact Y
 have s2:Hid (∀ u∈z,u.oneCell'=true):=by
  intro u F
  rw [a0] at F
  obtain ⟨x,_,hx⟩:=List.mem_flatMap.1 F
  exact enc3_one x u hx
 have s3:Hid (∀ t,t < z.length→(w.drew.cell? ⟨g,0+k * 3+t,none⟩).isSome=true∧w.drew.frozen? ⟨g,0+k * 3+t,none⟩=false):=by
  intro t ht
  rw [Y] at ht
  exact ⟨a5 _ (by omega),h.frozenAt _⟩
 obtain ⟨G,a1⟩:∃ G,G=w.drew.setCells g (0+k * 3) z:=⟨_,rfl⟩
 obtain ⟨W,I⟩:=own_sets (w:=w.drew) z (0+k * 3) h.drew
 rw [← a1] at W I
 obtain ⟨zs,aa,a6⟩:=run_clear_any (P:=Tryz.prog) G 175 179 0 _ 3 Tryz.underlying175 zero_slot (by intro u F; simp [Value.cells] at F; rcases F with rfl | rfl | rfl <;> rfl) rfl g ((n - 1) * 3) 1 (c - (n - 1)) (by omega)
  (fun j hj=>by rw [W.cellAt _ (by omega),List.getElem?_eq_getElem (by rw [W.1]; omega)]; rfl) (fun j hj=>W.frozenAt _)
 obtain ⟨a9,J⟩:=own_sets (w:=G) zs ((n - 1) * 3) W
 have a2:=own_front a9 (show n - 1≤n by omega)
 rw [Nat.zero_add,a0,delete_list l k n hl hk zs (by rw [aa])] at a2
 have a7:w.grownBy (G.setCells g ((n - 1) * 3) zs) (some g):=⟨J.os.trans I.os,J.tape.trans I.tape,J.output.trans I.output,Nat.le_trans I.size J.size,fun q hq a8=>(J.block q (Nat.lt_of_lt_of_le hq I.size) a8).trans (I.block q hq a8)⟩
 have HF:=Lh a2
 have HG:=Lh a7
 have ag:(Builtin.clear_ #[175] 0 #[.slice (some ⟨g,(n - 1) * 3,none⟩) (n - (n - 1)) (c - (n - 1))]).run Tryz.prog G=.ok (.tuple #[]) (G.setCells g ((n - 1) * 3) zs):=by rw [show n - (n - 1)=1 by omega]; exact a6
 have hW:Hid (G=w.drew.setCells g (0+k * 3) z):=a1
 have ao:k≤c:=by omega
 have an:j≤c:=by omega
 have al:j≤n:=by omega
 have aq:k+(n - j)=n - 1:=by omega
 clear h a4 a5 a0 Y a1 W I a6 a9 J a2 a7 hl aa a3
 go_enter Tryz.func193,Tryz.ntmps193
 go_wp2_with fail
 go_region_law_o (refine step_append_room rfl (.tmp 22) (.tmp 25) 175 rfl 179 i0 3 Tryz.underlying175 hi ae g 0 k c (by simp [Act.eval,Act.put]) ad (n - j) (c - j) z (by simp [Act.eval,Act.put]) s1.out ac.out s2.out (by omega) s3.out ?_; rw [← hW.out])
 go_wp2_with fail
 go_ret
 exact ⟨rfl,HF.out,HG.out⟩
structure Ss (w:World) (B p:Nat) (r:Option Nat) (l:List Sx):Prop where
 row:∃ A c,w.cell? ⟨p,0,none⟩=some (.slice A l.length c)∧w.ownsRow B 179 3 (.slice A l.length c) l.length (flat enc3 l)∧(Value.slice A l.length c).ownBlock=r
 free0:w.frozen? ⟨p,0,none⟩=false
 lo:B≤p
 ne:r≠some p
theorem Ss.lt {w:World} {B p:Nat} {r:Option Nat} {l:List Sx} (h:Ss w B p r l):p < w.heap.size:=by obtain ⟨A,c,u,_⟩:=h.row; exact Lw.lt_heap u
theorem Ss.rowlt {w:World} {B p:Nat} {r:Option Nat} {l:List Sx} (h:Ss w B p r l):∀ g,r=some g→B≤g∧g < w.heap.size:=by
 intro g u
 obtain ⟨A,c,_,z,e⟩:=h.row
 exact z.lt g (e.trans u)
theorem Ss.same {w w':World} {B p:Nat} {r:Option Nat} {l:List Sx} (h:Ss w B p r l) (z:w'.heap[p]? = w.heap[p]?) (W:∀ g,r=some g→w'.heap[g]? = w.heap[g]?):Ss w' B p r l:=by
 obtain ⟨A,c,F,G,u⟩:=h.row
 have hc:∀ o,w'.cell? ⟨p,o,none⟩=w.cell? ⟨p,o,none⟩:=fun o=>by unfold World.cell?; simp only [z]
 have I:∀ o,w'.frozen? ⟨p,o,none⟩=w.frozen? ⟨p,o,none⟩:=fun o=>by unfold World.frozen?; simp only [z]
 exact ⟨⟨A,c,(hc 0).trans F,own_same G (fun g J=>W g (u.symm.trans J)),u⟩,(I 0).trans h.free0,h.lo,h.ne⟩
theorem Ss.fr {w w':World} {B p:Nat} {r a b:Option Nat} {l:List Sx} (h:Ss w B p r l) (F:Fr a b w w') (G:some p≠a) (I:some p≠b) (z:∀ g,r=some g→some g≠a∧some g≠b):Ss w' B p r l:=
 h.same (F.block p h.lt G I) (fun g u=>F.block g (h.rowlt g u).2 (z g u).1 (z g u).2)
theorem Ss.later {w w':World} {B p:Nat} {r:Option Nat} {l:List Sx} (h:Ss w B p r l) (u:Below w.heap.size w w'):Ss w' B p r l:=
 h.same (u.block p h.lt) (fun g z=>u.block g (h.rowlt g z).2)
theorem Ss.rs {w:World} {B p:Nat} {r:Option Nat} {l:List Sx} (h:Ss w B p r l):∃ A c,w.cell? ⟨p,0,none⟩=some (.slice A l.length c)∧Rs enc3 3 w w.heap.size A l.length c l:=by
 obtain ⟨A,c,u,z,_⟩:=h.row
 exact ⟨A,c,u,Rs.own_rs enc3_len rfl z⟩
theorem Ss.put {w F:World} {B p:Nat} {r:Option Nat} {l l':List Sx} {A':Option Addr} {n' u:Nat} (h:Ss w B p r l) (hn:l'.length=n') (G:w.grownBy F r) (ho:F.ownsRow B 179 3 (.slice A' n' u) n' (flat enc3 l'))
  (hA:(Value.slice A' n' u).ownBlock=r ∨ ∃ g,(Value.slice A' n' u).ownBlock=some g∧w.heap.size≤g) :
  ∃ Y,Ss (F.setCell ⟨p,0,none⟩ (.slice A' n' u)) B p Y l'∧Fr (some p) r w (F.setCell ⟨p,0,none⟩ (.slice A' n' u))∧(∀ g,Y=some g→r=some g∨w.heap.size≤g):=by
 subst hn
 obtain ⟨A,c,h1,h2,h3⟩:=h.row
 have a0:=h.lt
 have e0:F.cell? ⟨p,0,none⟩=some (.slice A l.length c):=(G.cell h1 (fun e=>h.ne e.symm))
 have ef:F.frozen? ⟨p,0,none⟩=false:=grown_frozen G h.free0 a0 (fun e=>h.ne e.symm)
 have W:(Value.slice A' l'.length u).ownBlock≠some p:=by
  rcases hA with e | ⟨g,e,J⟩
  ·rw [e]; exact h.ne
  ·rw [e]; intro I; injection I with I; omega
 refine ⟨_,⟨⟨A',u,World.cell?_setCell_same _ _ _ e0,own_same ho (fun g z=>heap_setCell_other _ _ g _ (fun e=>W (by rw [z,show g=p from e]))),rfl⟩,by simpa using ef,h.lo,W⟩,
  (Fr.of_grown G (.inr (.inr rfl))).then (a':=some p) (b':=none) (Fr.of_grown (grown_setCell _ _ _) (.inr (.inl rfl))) (fun k hk _=>.inl hk.symm) (fun k hk _=>by cases hk),fun g z=>?_⟩
 rcases hA with e | ⟨g2,e,J⟩
 ·exact .inl (e.symm.trans z)
 ·rw [e] at z; injection z with z; subst z; exact .inr J
theorem Ss.fill {w G:World} {B p:Nat} {r:Option Nat} {l:List Sx} {k:Nat} {x:Sx} (h:Ss w B p r l) (u:Below w.heap.size w G) (hx:l[k]? = some x) (i:Int) {g c:Nat} (hc:w.cell? ⟨p,0,none⟩=some (.slice (some ⟨g,0,none⟩) l.length c)) :
  Ss (G.setCell ⟨g,k * 3+2,none⟩ (.int .u64 i)) B p r (fillAt l k x i)∧Fr (some p) r w (G.setCell ⟨g,k * 3+2,none⟩ (.int .u64 i))∧r=some g:=by
 have h':=h.later u
 have I:G.cell? ⟨p,0,none⟩=some (.slice (some ⟨g,0,none⟩) l.length c):=(u.cell (p:=⟨p,0,none⟩) h.lt).trans hc
 obtain ⟨A,c2,z,h2,h3⟩:=h'.row
 rw [I] at z
 injection z with z
 injection z with z _ h4
 subst z h4
 have hr:r=some g:=h3.symm
 subst hr
 have a1:g≠p:=fun e=>h.ne (by rw [e])
 obtain ⟨Y,F⟩:=h2.stored (k * 3+2) (.int .u64 i)
 rw [flat_set enc3_len l k 2 x (x.1,x.2.1,i) (.int .u64 i) hx (by omega) rfl] at Y
 have J:(fillAt l k x i).length=l.length:=fillAt_len l k x i
 refine ⟨⟨⟨some ⟨g,0,none⟩,c,?_,?_,rfl⟩,?_,h.lo,h.ne⟩,?_,rfl⟩
 ·rw [J]; exact (World.cell?_setCell_other _ _ _ _ (fun e=>by injection e with e; exact a1 e)).trans I
 ·rw [J]; exact Y
 ·simpa using (u.frozen (p:=⟨p,0,none⟩) h.lt).trans h.free0
 ·exact ⟨F.os.trans u.os,F.tape.trans u.tape,F.output.trans u.output,Nat.le_trans u.size F.size,fun q W _ a0=>(F.block q (Nat.lt_of_lt_of_le W u.size) a0).trans (u.block q W)⟩
theorem new_any (w:World) (B:Nat) (h:B≤w.heap.size) :
  Calls Tryz.prog 59 #[] w fun e w'=>∃ p,e=.returned (.pointer (some ⟨p,0,none⟩))∧Ss w' B p none [] ∧ w.heap.size≤p∧Below w.heap.size w w':=by
 go_enter Tryz.func59,Tryz.ntmps59
 go_wp2_with fail
 go_ret
 exact ⟨w.heap.size,rfl,⟨⟨none,0,by go_simp,World.ownsRow_nil _ _ _ _,rfl⟩,by go_simp,h,by simp⟩,Nat.le_refl _,(Below.refl _ _).alloc (Nat.le_refl _) _⟩
theorem place_any (w:World) (B p:Nat) (r:Option Nat) (l:List Sx) (t:Int) (h:Ss w B p r l) :
  Calls Tryz.prog 84 #[.pointer (some ⟨p,0,none⟩),.int .i64 t] w fun e w'=>e=.returned (.int .i64 (ixZ (hit t) l))∧Below w.heap.size w w':=by
 obtain ⟨A,c,G,u⟩:=h.rs
 have I:=h.lt
 have z:=Lh u
 clear h u
 generalize hn:l.length=n at *
 clear hn
 go_enter Tryz.func84,Tryz.ntmps84
 go_wp2_with fail
 refine (index_of A n c _ w.heap.size t l _ (z.out.alloc (Nat.le_refl _) _) (by simp) (by go_simp)).mono ?_
 rintro e J ⟨rfl,F⟩
 go_wp2_with fail
 go_ret
 exact ⟨rfl,((Below.refl _ _).alloc (Nat.le_refl _) _).trans (F.mono (by simp))⟩
theorem clone_any (w:World) (B p:Nat) (r:Option Nat) (l:List Sx) (h:Ss w B p r l) (a2:l.length≤1000) :
  Calls Tryz.prog 50 #[.pointer (some ⟨p,0,none⟩)] w fun e w'=>∃ G r',e=.returned (.pointer (some ⟨G,0,none⟩))∧Ss w' B G r' l∧w.heap.size≤G∧(∀ g,r'=some g→w.heap.size≤g)∧Below w.heap.size w w':=by
 obtain ⟨A,c,h1,hr⟩:=h.rs
 have a1:=h.lt
 have a0:=h.lo
 have HR:=Lh hr
 clear h hr
 generalize hn:l.length=n at *
 have u:=Lh hn
 clear hn
 go_enter Tryz.func50,Tryz.ntmps50
 go_wp2_with fail
 refine (sclone_any A n c l _ w HR.out (Nat.le_refl _) (by omega)).mono ?_
 rintro e w1 ⟨I,c1,rfl,Y,W⟩
 have J:=Lh Y
 have hs:=W.size
 clear Y
 go_wp2_with fail
 go_ret
 have F:=J.out.lt
 refine ⟨w1.heap.size,(Value.slice I n c1).ownBlock,rfl,⟨⟨I,c1,by rw [u.out]; go_simp,?_,by rw [u.out]⟩,by go_simp,by omega,?_⟩,hs,fun g z=>(F g z).1,W.alloc hs _⟩
 ·rw [u.out]
  exact own_mono (own_same J.out (fun g z=>RowKit.Below.heap_alloc w1 _ g (F g z).2)) (show B≤w.heap.size by omega)
 ·intro e
  have:=(F _ e).2
  omega
theorem waiting_any (w:World) (B p:Nat) (r:Option Nat) (l:List Sx) (h:Ss w B p r l) (a3:l.length≤1000) :
  Calls Tryz.prog 251 #[.pointer (some ⟨p,0,none⟩)] w fun e w'=>e=.returned (.int .i64 (waitN l))∧Below w.heap.size w w':=by
 obtain ⟨A,c,h1,hr⟩:=h.rs
 have HR:=Lh hr
 clear h hr
 generalize hn:l.length=n at *
 have HL:=Lh hn
 clear hn
 go_enter Tryz.func251,Tryz.ntmps251
 go_wp2_with fail
 go_loopw [3,13] (fun s i wr=>∃ k q:Nat,k≤n∧i=.int .i64 k∧s=.int .i64 q∧q≤k∧q=waitN (l.take k)∧Below w.heap.size w wr) (fun _ i _=>n - (intOf i).toNat)
 case atStart=>exact ⟨0,0,Nat.zero_le _,rfl,rfl,Nat.le_refl _,rfl,Below.refl _ _⟩
 case round=>
  obtain ⟨k,q,hk,rfl,rfl,a2,hq,z⟩:=hrel
  have G:=Lh hq
  have a1:=z.size
  clear hq
  by_cases hlt:k < n
  ·obtain ⟨b,o,x,rfl,hb,hx,c0,c1,c2⟩:=three_at HR.out hlt
   have d0:=(z.cell (p:=⟨b,o+k * 3,none⟩) (by simp only; omega)).trans c0
   have d1:=(z.cell (p:=⟨b,o+k * 3+1,none⟩) (by simp only; omega)).trans c1
   have d2:=(z.cell (p:=⟨b,o+k * 3+2,none⟩) (by simp only; omega)).trans c2
   obtain ⟨x0,x1,I⟩:=x
   have W:=Lh (waitN_snoc hx)
   simp only at d0 d1 d2
   clear c0 c1 c2 hx
   go_wp2_with fail
   refine (waits_any x0 x1 I _).mono ?_
   rintro e w1 ⟨rfl,Y⟩
   have a0:Below w.heap.size w w1:=(z.alloc a1 (.cells #[.int .i64 x0,.int .u64 x1,.int .u64 I] 179)).trans (Y.mono (by simp; omega))
   have J:=Lh a0
   clear Y a0
   cases hz:(I == 0:Bool) with
   | true=>
    have u:q+1=waitN (l.take (k+1)):=by rw [W.out,G.out]; simp [free,hz]
    have F:=Lh u
    clear u
    go_wp2_with fail
    go_roundw
    case rel=>exact ⟨k+1,q+1,by omega,by go_num,by go_num,by omega,F.out,J.out⟩
    case measure=>simp [intOf]; omega
   | false=>
    have u:q=waitN (l.take (k+1)):=by rw [W.out,G.out]; simp [free,hz]
    have F:=Lh u
    clear u
    go_wp2_with fail
    go_roundw
    case rel=>exact ⟨k+1,q,by omega,by go_num,rfl,by omega,F.out,J.out⟩
    case measure=>simp [intOf]; omega
  ·obtain rfl:k=n:=by omega
   have u:q=waitN l:=by rw [G.out,List.take_of_length_le (by have:=HL.out; omega)]
   have F:=Lh u
   clear u G
   go_wp2_with fail
   go_ret
   exact ⟨by rw [← F.out]; rfl,z⟩
theorem of_miss (w:World) (B p:Nat) (r:Option Nat) (l:List Sx) (t:Int) (h:Ss w B p r l) (hi:l.findIdx? (hit t)=none) :
  Calls Tryz.prog 158 #[.pointer (some ⟨p,0,none⟩),.int .i64 t] w fun e w'=>e=.returned (.tuple #[.agg #[.int .i64 0,.int .u64 0,.int .u64 0],.bool false])∧Below w.heap.size w w':=by
 have G:=Lh h
 have I:=Lh (ixZ_none hi)
 clear h hi
 go_enter Tryz.func158,Tryz.ntmps158
 go_wp2_with fail
 refine (place_any _ B p r l t (G.out.later ((Below.refl _ _).alloc (Nat.le_refl _) _))).mono ?_
 rw [I.out]
 rintro e z ⟨rfl,u⟩
 have z0:z.cell? ⟨w.heap.size,0,none⟩=some (.int .i64 0):=(u.cell (p:=⟨w.heap.size,0,none⟩) (by simp)).trans (by go_simp)
 have z1:z.cell? ⟨w.heap.size,1,none⟩=some (.int .u64 0):=(u.cell (p:=⟨w.heap.size,1,none⟩) (by simp)).trans (by go_simp)
 have z2:z.cell? ⟨w.heap.size,2,none⟩=some (.int .u64 0):=(u.cell (p:=⟨w.heap.size,2,none⟩) (by simp)).trans (by go_simp)
 have q0:z.frozen? ⟨w.heap.size,0,none⟩=false:=(u.frozen (p:=⟨w.heap.size,0,none⟩) (by simp)).trans (by go_simp)
 have J:z.frozen? ⟨w.heap.size,1,none⟩=false:=(u.frozen (p:=⟨w.heap.size,1,none⟩) (by simp)).trans (by go_simp)
 have W:z.frozen? ⟨w.heap.size,2,none⟩=false:=(u.frozen (p:=⟨w.heap.size,2,none⟩) (by simp)).trans (by go_simp)
 have F:=Lh (((Below.refl w.heap.size w).alloc (Nat.le_refl _) (.cells #[.int .i64 0,.int .u64 0,.int .u64 0] 179)).trans (u.mono (by simp)))
 clear u
 go_wp2_with fail
 exact bodyPost_ret (v:=.tuple #[.agg #[.int .i64 0,.int .u64 0,.int .u64 0],.bool false]) (by simp [results,Tryz.results158,go_sem,z0,z1,z2]) rfl ⟨rfl,((F.out.setCell (Nat.le_refl _) _).setCell (Nat.le_refl _) _).setCell (Nat.le_refl _) _⟩
theorem of_hit (w:World) (B p:Nat) (r:Option Nat) (l:List Sx) (t:Int) (k:Nat) (x:Sx) (h:Ss w B p r l) (hi:l.findIdx? (hit t)=some k) (hx:l[k]? = some x) :
  Calls Tryz.prog 158 #[.pointer (some ⟨p,0,none⟩),.int .i64 t] w fun e w'=>e=.returned (.tuple #[.agg #[.int .i64 x.1,.int .u64 x.2.1,.int .u64 x.2.2],.bool true])∧Below w.heap.size w w':=by
 obtain ⟨A,c,h1,J⟩:=h.rs
 obtain ⟨x',a2,_,a0⟩:=ix_hit hi
 have a1:=h.lt
 obtain ⟨b,o,y,rfl,G,I,c0,c1,c2⟩:=three_at J a0
 obtain rfl:x=y:=by rw [hx] at I; injection I
 obtain ⟨x0,x1,x2⟩:=x
 simp only at c0 c1 c2 ⊢
 have Y:=Lh h
 have HZ:=Lh (ixZ_some hi)
 clear h hi J hx I a2
 generalize hn:l.length=n at *
 clear hn
 go_enter Tryz.func158,Tryz.ntmps158
 go_wp2_with fail
 refine (place_any _ B p r l t (Y.out.later ((Below.refl _ _).alloc (Nat.le_refl _) _))).mono ?_
 rw [HZ.out]
 rintro e z ⟨rfl,u⟩
 have z0:z.cell? ⟨w.heap.size,0,none⟩=some (.int .i64 0):=(u.cell (p:=⟨w.heap.size,0,none⟩) (by simp)).trans (by go_simp)
 have z1:z.cell? ⟨w.heap.size,1,none⟩=some (.int .u64 0):=(u.cell (p:=⟨w.heap.size,1,none⟩) (by simp)).trans (by go_simp)
 have z2:z.cell? ⟨w.heap.size,2,none⟩=some (.int .u64 0):=(u.cell (p:=⟨w.heap.size,2,none⟩) (by simp)).trans (by go_simp)
 have q0:z.frozen? ⟨w.heap.size,0,none⟩=false:=(u.frozen (p:=⟨w.heap.size,0,none⟩) (by simp)).trans (by go_simp)
 have q1:z.frozen? ⟨w.heap.size,1,none⟩=false:=(u.frozen (p:=⟨w.heap.size,1,none⟩) (by simp)).trans (by go_simp)
 have q2:z.frozen? ⟨w.heap.size,2,none⟩=false:=(u.frozen (p:=⟨w.heap.size,2,none⟩) (by simp)).trans (by go_simp)
 have F:Below w.heap.size w z:=((Below.refl w.heap.size w).alloc (Nat.le_refl _) (.cells #[.int .i64 0,.int .u64 0,.int .u64 0] 179)).trans (u.mono (by simp))
 have e0:=(F.cell (p:=⟨p,0,none⟩) a1).trans h1
 have d0:=(F.cell (p:=⟨b,o+k * 3,none⟩) G).trans c0
 have d1:=(F.cell (p:=⟨b,o+k * 3+1,none⟩) G).trans c1
 have d2:=(F.cell (p:=⟨b,o+k * 3+2,none⟩) G).trans c2
 have W:=Lh F
 clear u F
 go_wp2_with fail
 exact bodyPost_ret (v:=.tuple #[.agg #[.int .i64 x0,.int .u64 x1,.int .u64 x2],.bool true]) (by simp [results,Tryz.results158,go_sem,z0,z1,z2]) rfl ⟨rfl,((W.out.setCell (Nat.le_refl _) _).setCell (Nat.le_refl _) _).setCell (Nat.le_refl _) _⟩
theorem park_hit_any (w:World) (B p:Nat) (r:Option Nat) (l:List Sx) (t d:Int) (k:Nat) (h:Ss w B p r l) (hi:l.findIdx? (hit t)=some k) :
  Calls Tryz.prog 35 #[.pointer (some ⟨p,0,none⟩),.int .i64 t,.int .u64 d] w fun e w'=>e=.returned (.int .i64 10)∧Below w.heap.size w w':=by
 have u:=Lh h
 have z:=Lh (ixZ_some hi)
 clear h hi
 go_enter Tryz.func35,Tryz.ntmps35
 go_wp2_with fail
 refine (place_any _ B p r l t u.out).mono ?_
 rw [z.out]
 rintro e G ⟨rfl,F⟩
 go_wp2_with fail
 go_ret
 exact ⟨rfl,F⟩
theorem park_miss_any (w:World) (B p:Nat) (r:Option Nat) (l:List Sx) (t d:Int) (h:Ss w B p r l) (hi:l.findIdx? (hit t)=none) (ac:l.length≤1000) :
  Calls Tryz.prog 35 #[.pointer (some ⟨p,0,none⟩),.int .i64 t,.int .u64 d] w fun e w'=>e=.returned (.int .i64 0) ∧ ∃ J,Ss w' B p J (l ++ [(t,d,0)])∧Fr (some p) r w w'∧(∀ g,J=some g→r=some g∨w.heap.size≤g):=by
 obtain ⟨i0,a5,a7,a8,a9⟩:=info_parts info_slot
 obtain ⟨A,c,h1,ho,hA⟩:=h.row
 have hl:=h.lt
 have aa:=h.lo
 have f0:=h.free0
 have W:=Lh h
 have HZ:=Lh (ixZ_none hi)
 have HO:=Lh ho
 have HA:=Lh hA
 clear h hi ho hA
 generalize hn:l.length=n at *
 have HN:=Lh hn
 clear hn
 go_enter Tryz.func35,Tryz.ntmps35
 go_wp2_with fail
 refine (place_any _ B p r l t W.out).mono ?_
 rw [HZ.out]
 rintro e Y ⟨rfl,G⟩
 have e0:=(G.cell (p:=⟨p,0,none⟩) hl).trans h1
 have a6:=G.size
 have z:=Lh G
 clear G
 go_wp2_with (
  at_builtin
  refine append_rs enc3_len rfl _ _ 175 rfl B 179 i0 _ 24 Tryz.underlying175 a5 a7 a8 a9 rfl (by omega) (.slice A n c) n (flat enc3 l) rfl ((own_same HO.out (fun g hg=>z.out.block g (HO.out.lt g hg).2)).alloc _) (Y.heap.size+1) _ 1 1 [(t,d,0)] rfl (rs_one enc3_len Y (t,d,0) _ rfl) enc3_one (n+1) rfl (flat enc3 (l ++ [(t,d,0)])) (flat_append l _).symm ?_ ?_ ?_ ?_
  ·unfold maxLen; omega
  ·omega
  ·simp; omega
  intro A' c' w2 a2 u a1
  have a4:=Lh a2
  have I:w.grownBy w2 r:=by rw [HA.out] at u; exact ⟨u.os.trans z.out.os,u.tape.trans z.out.tape,u.output.trans z.out.output,Nat.le_trans a6 (Nat.le_trans (by simp) u.size),fun q hq F=>(u.block q (by simp; omega) F).trans ((RowKit.Below.heap_alloc Y _ q (by omega)).trans (z.out.block q hq))⟩
  have HG:=Lh I
  have a0:(Value.slice A' (n+1) c').ownBlock=r ∨ ∃ g,(Value.slice A' (n+1) c').ownBlock=some g∧w.heap.size≤g:=by
   rcases a1 with e | e
   ·exact .inl (e.trans HA.out)
   ·exact .inr ⟨_,e,by simp; omega⟩
  have a3:=Lh a0
  have F:some p≠r:=fun e=>W.out.ne e.symm
  have u0:w2.cell? ⟨p,0,none⟩=some (.slice A n c):=I.cell h1 F
  have uf:w2.frozen? ⟨p,0,none⟩=false:=grown_frozen I f0 hl F
  clear a2 u a1 I a0 F)
 obtain ⟨J,q1,q2,q3⟩:=W.out.put (l':=l ++ [(t,d,0)]) (by simp [HN.out]) HG.out a4.out a3.out
 have Q:=Lh (show _∧_∧_ from ⟨q1,q2,q3⟩)
 clear q1 q2 q3
 go_wp2_with fail
 go_ret
 exact ⟨rfl,J,Q.out⟩
theorem fill_zero_any (w:World) (p:Nat) :
  Calls Tryz.prog 231 #[.pointer (some ⟨p,0,none⟩),.int .u64 0] w fun e w'=>e=.returned (.tuple #[.int .i64 0,.bool false])∧w=w':=by
 go_enter Tryz.func231,Tryz.ntmps231
 go_wp2_with fail
 go_ret2
 exact ⟨rfl,rfl⟩
theorem fill_miss_any (w:World) (B p:Nat) (r:Option Nat) (l:List Sx) (i:Int) (h:Ss w B p r l) (u:l.findIdx? free=none) (hi:i≠0) :
  Calls Tryz.prog 231 #[.pointer (some ⟨p,0,none⟩),.int .u64 i] w fun e w'=>e=.returned (.tuple #[.int .i64 0,.bool false])∧Below w.heap.size w w':=by
 have W:(i == 0)=false:=by simpa using hi
 obtain ⟨A,c,J,z⟩:=h.rs
 have F:=Lh z
 have G:=Lh (ixZ_none u)
 clear h u z hi
 generalize hn:l.length=n at *
 clear hn
 go_enter Tryz.func231,Tryz.ntmps231
 go_wp2_with fail
 refine (index_free A n c _ l _ F.out (Nat.le_refl _)).mono ?_
 rw [G.out]
 rintro e Y ⟨rfl,I⟩
 go_wp2_with fail
 go_ret2
 exact ⟨rfl,I⟩
theorem fill_hit_any (w:World) (B p:Nat) (r:Option Nat) (l:List Sx) (i:Int) (k:Nat) (x:Sx) (h:Ss w B p r l) (J:l.findIdx? free=some k) (hx:l[k]? = some x) (hi:i≠0) :
  Calls Tryz.prog 231 #[.pointer (some ⟨p,0,none⟩),.int .u64 i] w fun e w'=>e=.returned (.tuple #[.int .i64 x.1,.bool true])∧Ss w' B p r (fillAt l k x i)∧Fr (some p) r w w':=by
 have a8:(i == 0)=false:=by simpa using hi
 obtain ⟨A,c,Y,F,hA⟩:=h.row
 obtain ⟨x',a5,_,a2⟩:=ix_hit J
 have z:=Rs.own_rs enc3_len rfl F
 obtain ⟨b,o,y,a0,I,W,c0,c1,c2⟩:=three_at z a2
 obtain rfl:x=y:=by rw [hx] at W; injection W
 have a3:o=0:=by
  rcases F.2 with ⟨G,_⟩ | ⟨g,cap,a6,G,_⟩
  ·injection G with _ h2 _; omega
  ·injection G with h2 _ _; rw [a0] at h2; injection h2 with h2; injection h2
 subst a0 a3
 simp only [Nat.zero_add] at c0 c1 c2
 have hl:=h.lt
 have a7:=z.cap
 have a9:=z.top
 have a1:w.frozen? ⟨b,k * 3+2,none⟩=false:=F.frozenAt _
 have HS:=Lh h
 have HX:=Lh hx
 have HZ:=Lh (ixZ_some J)
 have HR:=Lh z
 have a4:b≠p:=fun e=>h.ne (by rw [← hA,e]; rfl)
 have H1:=Lh Y
 clear h J hx hi a5 W F hA z
 obtain ⟨x0,x1,x2⟩:=x
 simp only at c0 c1 c2 ⊢
 generalize hn:l.length=n at *
 have HN:=Lh hn
 clear hn
 go_enter Tryz.func231,Tryz.ntmps231
 go_wp2_with fail
 refine (index_free _ n c _ l _ HR.out (Nat.le_refl _)).mono ?_
 rw [HZ.out]
 rintro e w1 ⟨rfl,u⟩
 have e0:=(u.cell (p:=⟨p,0,none⟩) hl).trans Y
 have d0:=(u.cell (p:=⟨b,k * 3,none⟩) I).trans c0
 have d2:=(u.cell (p:=⟨b,k * 3+2,none⟩) I).trans c2
 have f2:=(u.frozen (p:=⟨b,k * 3+2,none⟩) I).trans a1
 obtain ⟨s1,s2,s3⟩:=HS.out.fill u HX.out i (g:=b) (c:=c) (by rw [HN.out]; exact H1.out)
 have S1:=Lh s1
 have S2:=Lh s2
 have g0:(w1.setCell ⟨b,k * 3+2,none⟩ (.int .u64 i)).cell? ⟨p,0,none⟩=some (.slice (some ⟨b,0,none⟩) n c):=(World.cell?_setCell_other _ _ _ _ (fun e=>by injection e with e; exact a4 e)).trans e0
 have g1:(w1.setCell ⟨b,k * 3+2,none⟩ (.int .u64 i)).cell? ⟨b,k * 3,none⟩=some (.int .i64 x0):=(World.cell?_setCell_other _ _ _ _ (fun e=>by injection e with _ e; omega)).trans d0
 clear u s1 s2 s3
 go_wp2_with fail
 go_ret2
 exact ⟨rfl,S1.out,S2.out⟩
theorem take_miss_any (w:World) (B p:Nat) (r:Option Nat) (l:List Sx) (t:Int) (h:Ss w B p r l) (hi:l.findIdx? (hit t)=none) :
  Calls Tryz.prog 160 #[.pointer (some ⟨p,0,none⟩),.int .i64 t] w fun e w'=>e=.returned (.tuple #[.int .u64 0,.bool false])∧Below w.heap.size w w':=by
 have u:=Lh h
 have z:=Lh (ixZ_none hi)
 clear h hi
 go_enter Tryz.func160,Tryz.ntmps160
 go_wp2_with fail
 refine (place_any _ B p r l t u.out).mono ?_
 rw [z.out]
 rintro e G ⟨rfl,F⟩
 go_wp2_with fail
 go_ret2
 exact ⟨rfl,F⟩
theorem take_hit_any (w:World) (B p:Nat) (r:Option Nat) (l:List Sx) (t:Int) (k:Nat) (x:Sx) (h:Ss w B p r l) (hi:l.findIdx? (hit t)=some k) (hx:l[k]? = some x) :
  Calls Tryz.prog 160 #[.pointer (some ⟨p,0,none⟩),.int .i64 t] w fun e w'=>e=.returned (.tuple #[.int .u64 x.2.2,.bool true])∧Ss w' B p r (l.eraseIdx k)∧Fr (some p) r w w':=by
 obtain ⟨A,c,h1,J,hA⟩:=h.row
 obtain ⟨x',a9,_,a2⟩:=ix_hit hi
 have W:=Rs.own_rs enc3_len rfl J
 obtain ⟨b,o,y,a3,a0,hy,c0,c1,c2⟩:=three_at W a2
 obtain rfl:x=y:=by rw [hx] at hy; injection hy
 have a7:o=0:=by
  rcases J.2 with ⟨h',_⟩ | ⟨g,cap,aa,h',_⟩
  ·injection h' with _ h2 _; omega
  ·injection h' with h2 _ _; rw [a3] at h2; injection h2 with h2; injection h2
 subst a3 a7
 simp only [Nat.zero_add] at c0 c1 c2
 have hl:=h.lt
 have f0:=h.free0
 have ac:=W.cap
 have ad:=W.top
 have a4:=erase_len a2
 have HS:=Lh h
 have HZ:=Lh (ixZ_some hi)
 have HO:=Lh J
 have HA:=Lh hA
 clear h hi hx a9 hy J hA W
 obtain ⟨x0,x1,x2⟩:=x
 simp only at c0 c1 c2 ⊢
 generalize hn:l.length=n at *
 have HN:=Lh hn
 have a6:=Lh a4
 clear hn a4
 go_enter Tryz.func160,Tryz.ntmps160
 go_wp2_with fail
 refine (place_any _ B p r l t HS.out).mono ?_
 rw [HZ.out]
 rintro e w1 ⟨rfl,F⟩
 have e0:=(F.cell (p:=⟨p,0,none⟩) hl).trans h1
 have d0:=(F.cell (p:=⟨b,k * 3,none⟩) a0).trans c0
 have d1:=(F.cell (p:=⟨b,k * 3+1,none⟩) a0).trans c1
 have d2:=(F.cell (p:=⟨b,k * 3+2,none⟩) a0).trans c2
 have u:=Lh F
 clear F
 go_wp2_with fail
 have a1:=delete_j (some ⟨b,0,none⟩) n c B k (k+1) (by omega) (by omega) l w1 (own_same HO.out (fun g hg=>u.out.block g (HO.out.lt g hg).2)) HN.out a2
 rw [show ((k+1:Nat):Int)=(k:Int)+1 by omega] at a1
 refine a1.mono ?_
 rintro e w2 ⟨rfl,a5,z⟩
 rw [HA.out] at z
 have I:w.grownBy w2 r:=⟨z.os.trans u.out.os,z.tape.trans u.out.tape,z.output.trans u.out.output,Nat.le_trans u.out.size z.size,fun q hq G=>(z.block q (Nat.lt_of_lt_of_le hq u.out.size) G).trans (u.out.block q hq)⟩
 have G:some p≠r:=fun e=>HS.out.ne e.symm
 have u0:w2.cell? ⟨p,0,none⟩=some (.slice (some ⟨b,0,none⟩) n c):=I.cell h1 G
 have uf:w2.frozen? ⟨p,0,none⟩=false:=grown_frozen I f0 hl G
 obtain ⟨r',q1,q2,q3⟩:=HS.out.put (l':=l.eraseIdx k) (n':=n - 1) (by have:=a6.out; omega) I a5 (.inl HA.out)
 have a8:r'=r:=by
  obtain ⟨A2,c3,Y,v2,v3⟩:=q1.row
  rw [World.cell?_setCell_same _ _ _ u0] at Y
  injection Y with Y
  rw [← v3,← Y]
  exact HA.out
 subst a8
 have Q:=Lh (show _∧_ from ⟨q1,q2⟩)
 clear q1 q2 q3 a1 a5 z I G
 go_wp2_with fail
 go_ret2
 exact ⟨rfl,Q.out⟩
theorem Awake10_any (w:World) (h:Tx.Tab w) :
  Calls Tryz.prog 332 #[] w fun e w'=>e=.returned (.bool true)∧Below w.heap.size w w':=by
 go_enter Tryz.func332,Tryz.ntmps332
 go_wp2_with fail
 refine (Fc.awake10_any _ h).mono ?_
 rintro e z ⟨rfl,u⟩
 go_wp2_with fail
 go_ret
 exact ⟨rfl,u⟩
theorem awake11_any (w:World) (hT:Tx.Tab w) :
  Calls Tryz.prog 321 #[] w fun e w'=>e=.returned (.bool true)∧Below w.heap.size w w':=by
 have HT:=Lh hT
 clear hT
 go_enter Tryz.func321,Tryz.ntmps321
 go_wp2_with fail
 refine (new_any _ w.heap.size (Nat.le_refl _)).mono ?_
 rintro e w1 ⟨p,rfl,Y,a6,I⟩
 go_wp2_with fail
 refine (park_miss_any _ _ _ _ _ 2 9 Y rfl (by simp)).mono ?_
 rintro e w2 ⟨rfl,r2,F,a0,a4⟩
 have u:Below w.heap.size w w2:=I.trans (a0.below I.size (fun k hk=>by cases hk; omega) (fun k hk=>by cases hk))
 have q2:∀ g,r2=some g→w.heap.size≤g:=fun g J=>(F.rowlt g J).1
 clear Y I a0 a4
 go_wp2_with fail
 refine (park_miss_any _ _ _ _ _ 1 5 F (by simp [List.findIdx?_cons,hit]) (by simp)).mono ?_
 rintro e w3 ⟨rfl,r3,G,a1,a5⟩
 have z:Below w.heap.size w w3:=u.trans (a1.below u.size (fun k hk=>by cases hk; omega) (fun k hk=>q2 k hk))
 have q3:∀ g,r3=some g→w.heap.size≤g:=fun g J=>(G.rowlt g J).1
 clear F u a1 a5 q2
 go_wp2_with fail
 refine (fill_hit_any _ _ _ _ _ 7 0 (2,9,0) G (by simp [List.findIdx?_cons,free]) (by simp) (by omega)).mono ?_
 rintro e w4 ⟨rfl,h4,a2⟩
 have W:Below w.heap.size w w4:=z.trans (a2.below z.size (fun k hk=>by cases hk; omega) (fun k hk=>q3 k hk))
 have h:=Lh W
 clear G z a2 q3 h4 W
 go_wp2_with fail
 refine (Awake10_any _ (HT.out.below h.out)).mono ?_
 rintro e w5 ⟨rfl,a3⟩
 go_wp2_with fail
 go_ret
 exact ⟨rfl,h.out.trans (a3.mono h.out.size)⟩
theorem Awake11_any (w:World) (h:Tx.Tab w) :
  Calls Tryz.prog 311 #[] w fun e w'=>e=.returned (.bool true)∧Below w.heap.size w w':=by
 go_enter Tryz.func311,Tryz.ntmps311
 go_wp2_with fail
 refine (awake11_any _ h).mono ?_
 rintro e z ⟨rfl,u⟩
 go_wp2_with fail
 go_ret
 exact ⟨rfl,u⟩
end Go.Proofs.YtoiklelghfckgaaGreatDoor.St
namespace Go.Proofs.YtoiklelghfckgaaGreatDoor.Lc
open Go.ChangeShapes Go.WideShapes Go.ChangeAt Go.RowKit Rw Hi Sl
def upd (L:Nat→List Int) (i:Nat) (xs:List Int):Nat→List Int:=fun j=>if j=i then xs else L j
theorem upd_same (L:Nat→List Int) (i:Nat) (xs:List Int):upd L i xs i=xs:=by simp [upd]
theorem upd_ne (L:Nat→List Int) {i j:Nat} (xs:List Int) (h:j≠i):upd L i xs j=L j:=by simp [upd,h]
def last4 (l:List Int):List Int:=l.drop (l.length - 4)
theorem last4_len (l:List Int):(last4 l).length≤4:=by simp [last4]; omega
theorem last4_short {l:List Int} (h:l.length≤4):last4 l=l:=by unfold last4; rw [Nat.sub_eq_zero_of_le h]; rfl
theorem last4_append (l ids:List Int):last4 (l ++ last4 ids)=last4 (l ++ ids):=by
 unfold last4
 by_cases h:ids.length≤4
 ·rw [Nat.sub_eq_zero_of_le h]; rfl
 ·have e:(ids.drop (ids.length - 4)).length=4:=by simp; omega
  rw [List.drop_append,List.drop_append]
  simp only [List.length_append,e]
  rw [List.drop_of_length_le (show l.length≤l.length+4 - 4 by omega),List.drop_of_length_le (show l.length≤l.length+ids.length - 4 by omega),List.nil_append,List.nil_append,List.drop_drop]
  congr 1
  omega
structure Lo (X:Nat→Prop) (w:World) (B p:Nat) (L:Nat→List Int):Prop where
 at_:∀ i,i < 8 → ∃ A n c,w.cell? ⟨p,i,none⟩=some (.slice A n c)∧Rd (Value.int .u64) w w.heap.size A n c (L i) ∧ ∀ g,(Value.slice A n c).ownBlock=some g→g < w.heap.size ∧ ¬ X g
 len:∀ i,i < 8→(L i).length≤4
 free:∀ i,i < 8→w.frozen? ⟨p,i,none⟩=false
 lo:B≤p
 px:¬ X p
theorem Lo.lt {X:Nat→Prop} {w:World} {B p:Nat} {L:Nat→List Int} (h:Lo X w B p L):p < w.heap.size:=by obtain ⟨A,n,c,u,_⟩:=h.at_ 0 (by omega); exact Lw.lt_heap u
theorem Lo.later {X:Nat→Prop} {w w':World} {B p:Nat} {L:Nat→List Int} (h:Lo X w B p L) (u:Below w.heap.size w w'):Lo X w' B p L:=
 ⟨fun i hi=>by
  obtain ⟨A,n,c,G,I,z⟩:=h.at_ i hi
  exact ⟨A,n,c,(u.cell (p:=⟨p,i,none⟩) h.lt).trans G,I.later u,fun g F=>⟨Nat.lt_of_lt_of_le (z g F).1 u.size,(z g F).2⟩⟩,h.len,fun i hi=>(u.frozen (p:=⟨p,i,none⟩) h.lt).trans (h.free i hi),h.lo,h.px⟩
theorem Lo.same {X:Nat→Prop} {w:World} {B p:Nat} {L u:Nat→List Int} (h:Lo X w B p L) (z:∀ i,i < 8→u i=L i):Lo X w B p u:=
 ⟨fun i hi=>by rw [z i hi]; exact h.at_ i hi,fun i hi=>by rw [z i hi]; exact h.len i hi,h.free,h.lo,h.px⟩
theorem rd_store {w:World} {A:Option Addr} {n c:Nat} {xs:List Int} {p i:Nat} {z:Option Addr} {G c0:Nat} (h:Rd (Value.int .u64) w w.heap.size A n c xs) (F:w.cell? ⟨p,i,none⟩=some (.slice z G c0)) (u:Value) :
  Rd (Value.int .u64) (w.setCell ⟨p,i,none⟩ u) (w.setCell ⟨p,i,none⟩ u).heap.size A n c xs:=(h.setOther F (fun x e=>by cases e) u).more (by simp)
theorem Lo.store {X:Nat→Prop} {w:World} {B p i:Nat} {L:Nat→List Int} (h:Lo X w B p L) (hi:i < 8) {A:Option Addr} {n c:Nat} {xs:List Int} (hr:Rd (Value.int .u64) w w.heap.size A n c xs) (hl:xs.length≤4) (hX:∀ g,(Value.slice A n c).ownBlock=some g→g < w.heap.size ∧ ¬ X g) :
  Lo X (w.setCell ⟨p,i,none⟩ (.slice A n c)) B p (upd L i xs)∧Fr (some p) none w (w.setCell ⟨p,i,none⟩ (.slice A n c)):=by
 obtain ⟨A0,n0,c0,z,_⟩:=h.at_ i hi
 refine ⟨⟨fun j u=>?_,fun j u=>?_,fun j u=>by simpa using h.free j u,h.lo,h.px⟩,Fr.of_grown (grown_setCell _ _ _) (.inr (.inl rfl))⟩
 ·by_cases e:j=i
  ·subst e
   rw [upd_same]
   exact ⟨A,n,c,World.cell?_setCell_same _ _ _ z,rd_store hr z _,fun g F=>by simpa using hX g F⟩
  ·rw [upd_ne L xs e]
   obtain ⟨I,n1,c1,J,W,Y⟩:=h.at_ j u
   exact ⟨I,n1,c1,(World.cell?_setCell_other _ _ _ _ (fun G=>by injection G with _ G; omega)).trans J,rd_store W z _,fun g F=>by simpa using Y g F⟩
 ·by_cases e:j=i
  ·subst e; rw [upd_same]; exact hl
  ·rw [upd_ne L xs e]; exact h.len j u
theorem own_fresh {X:Nat→Prop} {w:World} {base:Nat} {e:TypeId} {sz n:Nat} {v:Value} {xs:List Value} (h:w.ownsRow base e sz v n xs) (u:∀ g,X g→g < base):∀ g,v.ownBlock=some g→g < w.heap.size ∧ ¬ X g:=fun g z=>by
 have:=h.lt g z
 exact ⟨this.2,fun hx=>by have:=u g hx; omega⟩
theorem Lo.grown {X:Nat→Prop} {w w':World} {B p:Nat} {L:Nat→List Int} {row:Option Nat} (h:Lo X w B p L) (z:w.grownBy w' row) (W:∀ g,row=some g→X g):Lo X w' B p L:=by
 have J:w'.heap[p]? = w.heap[p]?:=z.block p h.lt (fun e=>h.px (W p e.symm))
 refine ⟨fun i hi=>?_,h.len,fun i hi=>?_,h.lo,h.px⟩
 ·obtain ⟨A,n,c,Y,u,F⟩:=h.at_ i hi
  refine ⟨A,n,c,by unfold World.cell?; simp only [J]; exact Y,⟨u.len,u.cap,u.top,fun hn=>?_⟩,fun g I=>⟨Nat.lt_of_lt_of_le (F g I).1 z.size,(F g I).2⟩⟩
  obtain ⟨b,o,e,G,hc⟩:=u.at_ hn
  subst e
  refine ⟨b,o,rfl,Nat.lt_of_lt_of_le G z.size,fun j x hx=>?_⟩
  have a0:w'.heap[b]? = w.heap[b]?:=z.block b G (fun e=>(F b rfl).2 (W b e.symm))
  unfold World.cell?
  simp only [a0]
  exact hc j x hx
 ·unfold World.frozen?; simp only [J]; exact h.free i hi
theorem Lo.shun {X F:Nat→Prop} {w:World} {B p:Nat} {L:Nat→List Int} (h:Lo X w B p L) (G:∀ g,F g→X g∨w.heap.size≤g):Lo F w B p L:=by
 refine ⟨fun i hi=>?_,h.len,h.free,h.lo,fun e=>?_⟩
 ·obtain ⟨A,n,c,I,J,u⟩:=h.at_ i hi
  refine ⟨A,n,c,I,J,fun g z=>⟨(u g z).1,fun e=>?_⟩⟩
  rcases G g e with e | e
  ·exact (u g z).2 e
  ·have:=(u g z).1; omega
 ·rcases G p e with e | e
  ·exact h.px e
  ·have:=h.lt; omega
theorem Fr.of_below {w w':World} {a b:Option Nat} (h:Below w.heap.size w w'):Fr a b w w':=⟨h.os,h.tape,h.output,h.size,fun k hk _ _=>h.block k hk⟩
theorem Fr.after {w w' z:World} {p:Nat} (h:Below w.heap.size w w') (u:Fr (some p) none w' z):Fr (some p) none w z:=
 ⟨u.os.trans h.os,u.tape.trans h.tape,u.output.trans h.output,Nat.le_trans h.size u.size,fun k hk F G=>(u.block k (Nat.lt_of_lt_of_le hk h.size) F G).trans (h.block k hk)⟩
theorem rd_fr {w w':World} {p:Nat} {A:Option Addr} {n c:Nat} {xs:List Int} (h:Rd (Value.int .u64) w w.heap.size A n c xs) (z:Fr (some p) none w w') (ha:∀ g,(Value.slice A n c).ownBlock=some g→g≠p):Rd (Value.int .u64) w' w'.heap.size A n c xs:=
 ⟨h.len,h.cap,h.top,fun hn=>by
  obtain ⟨b,o,e,u,hc⟩:=h.at_ hn
  subst e
  exact ⟨b,o,rfl,Nat.lt_of_lt_of_le u z.size,fun j x hx=>(z.cell (p:=⟨b,o+j,none⟩) u (fun e=>ha b rfl (by injection e)) (fun e=>by cases e)).trans (hc j x hx)⟩⟩
theorem new_any (X:Nat→Prop) (w:World) (B:Nat) (h:B≤w.heap.size) (u:∀ g,X g→g < w.heap.size) :
  Calls Tryz.prog 58 #[] w fun e w'=>∃ p,e=.returned (.pointer (some ⟨p,0,none⟩))∧Lo X w' B p (fun _=>[])∧w.heap.size≤p∧Below w.heap.size w w':=by
 go_enter Tryz.func58,Tryz.ntmps58
 go_wp2_with fail
 go_ret
 refine ⟨w.heap.size,rfl,⟨fun i hi=>⟨none,0,0,?_,Rd.nil_,fun g z=>by cases z⟩,fun i hi=>by simp,fun i hi=>?_,h,fun e=>by have:=u _ e; omega⟩,Nat.le_refl _,(Below.refl _ _).alloc (Nat.le_refl _) _⟩
 ·rcases (by omega:i=0∨i=1∨i=2∨i=3∨i=4∨i=5∨i=6∨i=7) with rfl | rfl | rfl | rfl | rfl | rfl | rfl | rfl <;> go_simp
 ·rcases (by omega:i=0∨i=1∨i=2∨i=3∨i=4∨i=5∨i=6∨i=7) with rfl | rfl | rfl | rfl | rfl | rfl | rfl | rfl <;> go_simp
theorem known_yes (t:Int) (w:World) (h:0≤t) (u:t < 8) :
  Calls Tryz.prog 213 #[.int .i64 t] w fun e w'=>e=.returned (.bool true)∧w=w':=by
 have z:decide (0≤t)=true:=decide_eq_true h
 have d8:decide (t < 8)=true:=decide_eq_true u
 go_enter Tryz.func213,Tryz.ntmps213
 go_wp2_with fail
 go_ret
 exact ⟨rfl,rfl⟩
theorem known_no (t:Int) (w:World) (h:t < 0∨8≤t) :
  Calls Tryz.prog 213 #[.int .i64 t] w fun e w'=>e=.returned (.bool false)∧w=w':=by
 by_cases h0:0≤t
 ·have u:decide (0≤t)=true:=decide_eq_true h0
  have d8:decide (t < 8)=false:=decide_eq_false (by omega)
  go_enter Tryz.func213,Tryz.ntmps213
  go_wp2_with fail
  go_ret
  exact ⟨rfl,rfl⟩
 ·have u:decide (0≤t)=false:=decide_eq_false h0
  go_enter Tryz.func213,Tryz.ntmps213
  go_wp2_with fail
  go_ret
  exact ⟨rfl,rfl⟩
theorem list_nil (t:Int) (w:World) :
  Calls Tryz.prog 191 #[.pointer none,.int .i64 t] w fun e w'=>e=.returned (.slice none 0 0)∧w=w':=by
 go_enter Tryz.func191,Tryz.ntmps191
 go_wp2_with fail
 go_ret
 exact ⟨rfl,rfl⟩
theorem list_out (p:Nat) (t:Int) (w:World) (h:t < 0∨8≤t) :
  Calls Tryz.prog 191 #[.pointer (some ⟨p,0,none⟩),.int .i64 t] w fun e w'=>e=.returned (.slice none 0 0)∧w=w':=by
 go_enter Tryz.func191,Tryz.ntmps191
 go_wp2_with fail
 refine (known_no t _ h).mono ?_
 rintro e u ⟨rfl,rfl⟩
 go_wp2_with fail
 go_ret
 exact ⟨rfl,rfl⟩
theorem list_in (p i:Nat) (w:World) (v:Value) (hi:i < 8) (hc:w.cell? ⟨p,i,none⟩=some v) :
  Calls Tryz.prog 191 #[.pointer (some ⟨p,0,none⟩),.int .i64 i] w fun e w'=>e=.returned v∧w=w':=by
 go_enter Tryz.func191,Tryz.ntmps191
 go_wp2_with fail
 refine (known_yes i _ (by omega) (by omega)).mono ?_
 rintro e h ⟨rfl,rfl⟩
 go_wp2_with fail
 go_ret
 exact ⟨rfl,rfl⟩
theorem newest_any (A:Option Addr) (n c B:Nat) (xs:List Int) (w:World) (h:Rd (Value.int .u64) w B A n c xs) :
  Calls Tryz.prog 250 #[.slice A n c] w fun e w'=>∃ A' n' W,e=.returned (.slice A' n' W)∧n'≤4∧Rd (Value.int .u64) w B A' n' W (last4 xs)∧w=w':=by
 have a5:=h.cap
 have a6:=h.top
 have u:=Lh h
 have J:=Lh h.len
 clear h
 by_cases hn:n≤4
 ·have hm:max (0:Int) ((n:Int) - 4)=0:=by omega
  have F:=last4_short (l:=xs) (by rw [J.out]; exact hn)
  have z:=Lh F
  clear F
  cases A with
  | none=>
   have a1:n=0:=by
    rcases Nat.eq_zero_or_pos n with G | G
    ·exact G
    ·obtain ⟨b,o,e,_⟩:=u.out.at_ G; cases e
   subst a1
   by_cases hc:c=0
   ·subst hc
    go_enter Tryz.func250,Tryz.ntmps250
    go_wp2_with fail
    go_ret
    exact ⟨_,_,_,rfl,by omega,by rw [z.out]; exact u.out,rfl⟩
   ·go_enter Tryz.func250,Tryz.ntmps250
    go_wp2_with fail
    go_ret
    exact ⟨_,_,_,rfl,by omega,by rw [z.out]; exact u.out,rfl⟩
  | some a=>
   go_enter Tryz.func250,Tryz.ntmps250
   go_wp2_with fail
   go_ret
   exact ⟨_,_,_,rfl,by omega,by rw [z.out]; exact u.out,rfl⟩
 ·obtain ⟨b,o,x,rfl,_,_,_⟩:=u.out.get (k:=0) (by omega)
  obtain ⟨m,I⟩:∃ m:Nat,n=m+4:=⟨n - 4,by omega⟩
  have hm:max (0:Int) ((n:Int) - 4)=(m:Int):=by omega
  have a3:m < c:=by omega
  have a4:¬ c=m:=by omega
  have a2:m≤n:=by omega
  have F:last4 xs=xs.drop m:=by unfold last4; rw [J.out,I]; rfl
  have Y:=u.out.back (i:=m) a2 rfl (A':=some ⟨b,o+m,none⟩) (fun _=>rfl)
  have z:=Lh F
  have a0:=Lh Y
  have HM:=Lh I
  clear F Y I
  go_enter Tryz.func250,Tryz.ntmps250
  go_wp2_with fail
  go_ret
  obtain rfl:m=n - 4:=by have:=HM.out; omega
  exact ⟨_,_,_,rfl,by omega,by rw [z.out]; exact a0.out,rfl⟩
theorem put_out (p:Nat) (t:Int) (A:Option Addr) (n c:Nat) (w:World) (h:t < 0∨8≤t) :
  Calls Tryz.prog 233 #[.pointer (some ⟨p,0,none⟩),.int .i64 t,.slice A n c] w fun e w'=>e=.returned (.int .i64 2)∧w=w':=by
 go_enter Tryz.func233,Tryz.ntmps233
 go_wp2_with fail
 refine (known_no t _ h).mono ?_
 rintro e u ⟨rfl,rfl⟩
 go_wp2_with fail
 go_ret
 exact ⟨rfl,rfl⟩
theorem put_in (X:Nat→Prop) (w:World) (B p i:Nat) (L:Nat→List Int) (A:Option Addr) (n c:Nat) (ids:List Int) (hX:∀ g,X g→g < w.heap.size) (h:Lo X w B p L) (hi:i < 8) (hr:Rd (Value.int .u64) w w.heap.size A n c ids) (hn:n≤1000) :
  Calls Tryz.prog 233 #[.pointer (some ⟨p,0,none⟩),.int .i64 i,.slice A n c] w fun e w'=>e=.returned (.int .i64 0)∧Lo X w' B p (upd L i (last4 (L i ++ ids)))∧Fr (some p) none w w':=by
 obtain ⟨W,J,c0,h0,a1,_⟩:=h.at_ i hi
 have hl:=h.lt
 have ai:J≤4:=by rw [← a1.len]; exact h.len i hi
 have ah:(i:Int) < 8:=by omega
 have HL:=Lh h
 have HR:=Lh hr
 have a2:=Lh a1
 have HX:=Lh hX
 clear h hr a1 hX
 go_enter Tryz.func233,Tryz.ntmps233
 go_wp2_with fail
 refine (known_yes i _ (by omega) (by omega)).mono ?_
 rintro e w1 ⟨rfl,rfl⟩
 go_wp2_with fail
 refine reg_start 11 (fun w'=>Below w.heap.size w w') (by kernel_rfl) (by kernel_rfl) ?_
 intro a6
 have z:=Lh a6
 have u:=Lh (show Below w.heap.size w w.drew from (Below.refl _ _).drew)
 clear a6
 refine rq 0 z.out u.out rfl ?_
 refine rq 1 z.out u.out rfl ?_
 refine rq 2 z.out u.out rfl ?_
 refine rq 3 z.out u.out rfl ?_
 refine rq 4 z.out u.out rfl ?_
 refine rq 5 z.out u.out rfl ?_ (hv:=fun w' hw=>by (have k0:=(hw.cell (p:=⟨p,i,none⟩) hl).trans h0; go_simp; exact rfl))
 refine rq 6 z.out u.out rfl ?_
 refine reg_only 7 rfl (by kernel_rfl) rfl ?_
 unfold Oper.wp
 go_simp
 refine (newest_any A n c _ ids _ (HR.out.later u.out)).mono ?_
 rintro e w2 ⟨A2,n2,c2,rfl,aj,ad,rfl⟩
 have I:=Lh ad
 clear ad
 refine ⟨u.out,?_⟩
 refine reg_only 8 rfl (by kernel_rfl) rfl ?_
 unfold Oper.wp
 go_simp
 have G:=Lh (show Below w.heap.size w (w.alloc (.cells #[.slice W J c0,.slice A2 n2 c2] 30)).drew from ((Below.refl _ _).alloc (Nat.le_refl _) _).drew)
 have a3:=Lh (show Rd (Value.int .u64) w w.heap.size A2 n2 c2 (last4 ids) from ⟨I.out.len,I.out.cap,I.out.top,I.out.at_⟩)
 refine ⟨G.out,?_⟩
 refine reg_only 9 rfl (by kernel_rfl) rfl ?_
 unfold Oper.wp
 go_simp
 refine (concat_two w.heap.size W A2 J c0 n2 c2 w.heap.size w.heap.size (L i) (last4 ids) (w.alloc (.cells #[.slice W J c0,.slice A2 n2 c2] 30)).drew (by go_simp) (by go_simp) (a2.out.below G.out) (a3.out.below G.out) (by simp) (by simp) (by simp) (by omega)).mono ?_
 rintro e w3 ⟨A3,c3,rfl,ac,a8⟩
 have Y:=Lh (G.out.trans (a8.mono G.out.size))
 have af:=Lh (Rd.own_rd ac)
 clear a8 ac I a3 G u a2 HR
 refine ⟨Y.out,?_⟩
 refine reg_only 10 rfl (by kernel_rfl) rfl ?_
 unfold Oper.wp
 go_simp
 refine ⟨Y.out,?_⟩
 refine reg_done (by kernel_rfl) ?_
 go_wp2_with fail
 refine reg_start 8 (fun w'=>Below w.heap.size w w') (by kernel_rfl) (by kernel_rfl) ?_
 intro a7
 have z:=Lh a7
 have u:=Lh (show Below w.heap.size w w3.drew from Y.out.drew)
 clear a7
 refine rq 0 z.out u.out rfl ?_
 refine rq 1 z.out u.out rfl ?_
 refine rq 2 z.out u.out rfl ?_
 refine rq 5 z.out u.out rfl ?_
 refine rq 6 z.out u.out rfl ?_
 refine reg_only 3 rfl (by kernel_rfl) rfl ?_
 unfold Oper.wp
 go_simp
 refine (newest_any A3 (J+n2) c3 _ (L i ++ last4 ids) _ af.out.drew).mono ?_
 rintro e w4 ⟨A4,n4,c4,rfl,ak,ae,rfl⟩
 have a4:=Lh ae
 clear ae
 refine ⟨u.out,?_⟩
 refine reg_only 4 rfl (by kernel_rfl) rfl ?_
 unfold Oper.wp
 go_simp
 refine (Sl.clone_any A4 n4 c4 _ _ w3.drew a4.out (Nat.le_refl _) (by omega)).mono ?_
 rintro e w5 ⟨A5,c5,rfl,a0,a9⟩
 have F:=Lh (u.out.trans (a9.mono u.out.size))
 have a5:=Lh (Rd.own_rd a0)
 have ag:=Lh (own_fresh a0 (X:=X) (fun g hg=>Nat.lt_of_lt_of_le (HX.out g hg) u.out.size))
 clear a9 a0 a4 u
 have aa:(last4 (L i ++ last4 ids)).length≤4:=last4_len _
 obtain ⟨q1,q2⟩:=(HL.out.later F.out).store hi a5.out aa ag.out
 rw [last4_append] at q1
 have Q1:=Lh q1
 have Q2:=Lh (Fr.after F.out q2)
 have k0:=(F.out.cell (p:=⟨p,i,none⟩) hl).trans h0
 have f0:=(F.out.frozen (p:=⟨p,i,none⟩) hl).trans (HL.out.free i hi)
 clear q1 q2 aa a5
 refine ⟨F.out,?_⟩
 refine rq 7 z.out F.out rfl ?_
 refine reg_only 8 rfl (by kernel_rfl) rfl ?_
 unfold Oper.wp
 go_simp
 refine reg_done (by kernel_rfl) ?_
 go_wp2_with fail
 go_ret
 exact ⟨rfl,Q1.out,Q2.out⟩
theorem take_none (p:Option Addr) (t:Int) (w:World) (h:p=none ∨ ∃ b,p=some ⟨b,0,none⟩∧(t < 0∨8≤t)) :
  Calls Tryz.prog 153 #[.pointer p,.int .i64 t] w fun e w'=>e=.returned (.tuple #[.int .u64 0,.bool false])∧w=w':=by
 rcases h with rfl | ⟨b,rfl,h⟩
 ·go_enter Tryz.func153,Tryz.ntmps153
  go_wp2_with fail
  refine (list_nil t _).mono ?_
  rintro e u ⟨rfl,rfl⟩
  go_wp2_with fail
  go_ret2
  exact ⟨rfl,rfl⟩
 ·go_enter Tryz.func153,Tryz.ntmps153
  go_wp2_with fail
  refine (list_out b t _ h).mono ?_
  rintro e u ⟨rfl,rfl⟩
  go_wp2_with fail
  go_ret2
  exact ⟨rfl,rfl⟩
theorem take_empty (X:Nat→Prop) (w:World) (B p i:Nat) (L:Nat→List Int) (h:Lo X w B p L) (hi:i < 8) (F:L i=[]) :
  Calls Tryz.prog 153 #[.pointer (some ⟨p,0,none⟩),.int .i64 i] w fun e w'=>e=.returned (.tuple #[.int .u64 0,.bool false])∧w=w':=by
 obtain ⟨J,I,c0,z,u,_⟩:=h.at_ i hi
 have G:I=0:=by rw [← u.len,F]; rfl
 subst G
 clear h u
 go_enter Tryz.func153,Tryz.ntmps153
 go_wp2_with fail
 refine (list_in p i _ _ hi z).mono ?_
 rintro e W ⟨rfl,rfl⟩
 go_wp2_with fail
 go_ret2
 exact ⟨rfl,rfl⟩
theorem take_some (X:Nat→Prop) (w:World) (B p i:Nat) (L:Nat→List Int) (xs:List Int) (x:Int) (h:Lo X w B p L) (hi:i < 8) (J:L i=xs ++ [x]) :
  Calls Tryz.prog 153 #[.pointer (some ⟨p,0,none⟩),.int .i64 i] w fun e w'=>e=.returned (.tuple #[.int .u64 x,.bool true])∧Lo X w' B p (upd L i xs)∧Fr (some p) none w w':=by
 obtain ⟨A0,n0,c0,G,F,a2⟩:=h.at_ i hi
 have a4:=Lh a2
 clear a2
 have hl:=h.lt
 have f0:=h.free i hi
 have Y:=F.len
 have a1:=h.len i hi
 rw [J] at Y a1
 obtain ⟨m,hm⟩:∃ m,xs.length=m:=⟨_,rfl⟩
 simp only [List.length_append,List.length_cons,List.length_nil,hm] at Y a1
 subst Y
 have a9:(i:Int) < 8:=by omega
 obtain ⟨b,o,y,rfl,hb,I,cy⟩:=F.get (k:=m) (by omega)
 have a6:y=x:=by
  rw [J,List.getElem?_append_right (by omega),hm,Nat.sub_self] at I
  injection I with I
  exact I.symm
 subst a6
 have W:=F.front (i:=m) (by omega)
 rw [J,List.take_append_of_le_length (by omega),List.take_of_length_le (by omega)] at W
 have a7:=F.cap
 have ad:=F.top
 have aa:m≤c0:=by omega
 have HL:=Lh h
 have HF:=Lh W
 have ac:((m:Int)+1 == 0)=false:=beq_eq_false_iff_ne.2 (by omega)
 have a3:xs.length≤4:=by omega
 have a5:=Lh a3
 clear h F I W J hm a3
 go_enter Tryz.func153,Tryz.ntmps153
 go_wp2_with fail
 refine (list_in p i _ _ hi G).mono ?_
 rintro e w1 ⟨rfl,rfl⟩
 go_wp2_with fail
 refine reg_start 8 (fun w'=>Below w.heap.size w w') (by kernel_rfl) (by kernel_rfl) ?_
 intro a0
 have z:=Lh a0
 have u:=Lh (show Below w.heap.size w w.drew from (Below.refl _ _).drew)
 clear a0
 refine rq 0 z.out u.out rfl ?_
 refine rq 1 z.out u.out rfl ?_
 refine rq 2 z.out u.out rfl ?_
 refine rq 3 z.out u.out rfl ?_
 refine rq 4 z.out u.out rfl ?_
 refine rq 5 z.out u.out rfl ?_
 refine rq 6 z.out u.out rfl ?_
 refine rq 7 z.out u.out rfl ?_
 have k0:=(u.out.cell (p:=⟨p,i,none⟩) hl).trans G
 have k1:=(u.out.frozen (p:=⟨p,i,none⟩) hl).trans f0
 refine reg_only 8 rfl (by kernel_rfl) rfl ?_
 unfold Oper.wp
 go_simp
 obtain ⟨q1,q2⟩:=(HL.out.later u.out).store hi (HF.out.later u.out) a5.out a4.out
 have Q1:=Lh q1
 have Q2:=Lh (Fr.after u.out q2)
 have a8:(w.setCell ⟨p,i,none⟩ (.slice (some ⟨b,o,none⟩) m c0)).cell? ⟨b,o+m,none⟩=some (.int .u64 y):=by
  refine (World.cell?_setCell_other _ _ _ _ (fun e=>?_)).trans cy
  injection e with e1 e2
  subst e1
  rw [e2] at G
  rw [cy] at G
  cases G
 clear q1 q2
 refine reg_done (by kernel_rfl) ?_
 go_wp2_with fail
 go_ret2
 exact ⟨rfl,Q1.out,Q2.out⟩
theorem all_in (X:Nat→Prop) (w:World) (B p i:Nat) (L:Nat→List Int) (h:Lo X w B p L) (hi:i < 8) :
  Calls Tryz.prog 310 #[.pointer (some ⟨p,0,none⟩),.int .i64 i] w fun e w'=>∃ A c,e=.returned (.slice A (L i).length c)∧Rd (Value.int .u64) w' w'.heap.size A (L i).length c (L i)∧(∀ g,(Value.slice A (L i).length c).ownBlock=some g→w.heap.size≤g)∧Below w.heap.size w w':=by
 obtain ⟨G,n0,c0,Y,z,_⟩:=h.at_ i hi
 have F:=z.len
 have a0:=h.len i hi
 have W:=Lh z
 rw [F] at a0 ⊢
 clear h z F
 go_enter Tryz.func310,Tryz.ntmps310
 go_wp2_with fail
 refine (list_in p i _ _ hi Y).mono ?_
 rintro e w1 ⟨rfl,rfl⟩
 go_wp2_with fail
 refine (Sl.clone_any G n0 c0 _ _ w W.out (Nat.le_refl _) (by omega)).mono ?_
 rintro e w1 ⟨A,c,rfl,u,hb⟩
 have J:=Lh (Rd.own_rd u)
 have I:=Lh u.lt
 clear u
 go_wp2_with fail
 go_ret
 exact ⟨A,c,rfl,J.out,fun g hg=>(I.out g hg).1,hb⟩
theorem put_t (X:Nat→Prop) (w:World) (B p i:Nat) (t:Int) (F:t=i) (L:Nat→List Int) (A:Option Addr) (n c:Nat) (ids:List Int) (u:∀ g,X g→g < w.heap.size) (h:Lo X w B p L) (hi:i < 8) (z:Rd (Value.int .u64) w w.heap.size A n c ids) (hn:n≤1000) :
  Calls Tryz.prog 233 #[.pointer (some ⟨p,0,none⟩),.int .i64 t,.slice A n c] w fun e w'=>e=.returned (.int .i64 0)∧Lo X w' B p (upd L i (last4 (L i ++ ids)))∧Fr (some p) none w w':=by
 subst F; exact put_in X w B p i L A n c ids u h hi z hn
theorem take_some_t (X:Nat→Prop) (w:World) (B p i:Nat) (t:Int) (z:t=i) (L:Nat→List Int) (xs:List Int) (x:Int) (h:Lo X w B p L) (hi:i < 8) (u:L i=xs ++ [x]) :
  Calls Tryz.prog 153 #[.pointer (some ⟨p,0,none⟩),.int .i64 t] w fun e w'=>e=.returned (.tuple #[.int .u64 x,.bool true])∧Lo X w' B p (upd L i xs)∧Fr (some p) none w w':=by
 subst z; exact take_some X w B p i L xs x h hi u
theorem all_t (X:Nat→Prop) (w:World) (B p i:Nat) (t:Int) (u:t=i) (L:Nat→List Int) (n:Nat) (hn:(L i).length=n) (h:Lo X w B p L) (hi:i < 8) :
  Calls Tryz.prog 310 #[.pointer (some ⟨p,0,none⟩),.int .i64 t] w fun e w'=>∃ A c,e=.returned (.slice A n c)∧Rd (Value.int .u64) w' w'.heap.size A n c (L i)∧(∀ g,(Value.slice A n c).ownBlock=some g→w.heap.size≤g)∧Below w.heap.size w w':=by
 subst u hn; exact all_in X w B p i L h hi
theorem fr_bel {w w':World} {B p:Nat} (h:Fr (some p) none w w') (u:B≤w.heap.size) (z:B≤p):Below B w w':=h.below u (fun k hk=>by injection hk with hk; omega) (fun k hk=>by cases hk)
theorem rd_lit (w:World) (cs:Array Value) (xs:List Int) (h:cs.toList=xs.map (Value.int .u64)) (n:Nat) (z:xs.length=n) (hn:n≤1000):Rd (Value.int .u64) (w.alloc (.cells cs 25)) (w.alloc (.cells cs 25)).heap.size (some ⟨w.heap.size,0,none⟩) n n xs:=by
 subst z
 have u:=World.ownsRow_lit (base:=w.heap.size) (e:=25) (size:=1) w cs xs.length (Nat.le_refl _) (by unfold maxLen; omega) (by rw [← Array.length_toList,h]; simp)
 rw [h] at u
 exact Rd.own_rd u
theorem awake12_any (w:World) (hT:Tx.Tab w) :
  Calls Tryz.prog 301 #[] w fun e w'=>e=.returned (.bool true)∧Below w.heap.size w w':=by
 have HT:=Lh hT
 clear hT
 go_enter Tryz.func301,Tryz.ntmps301
 go_wp2_with fail
 refine (new_any (fun _=>False) _ w.heap.size (Nat.le_refl _) (fun g h=>h.elim)).mono ?_
 rintro e w1 ⟨p,rfl,h1,a3,I⟩
 have a4:=I.size
 go_wp2_with fail
 refine (put_t (fun _=>False) _ _ _ 1 1 rfl _ _ 5 5 [5,6,7,8,9] (fun g h=>h.elim) (h1.later ((Below.refl _ _).alloc (Nat.le_refl _) _)) (by omega) (rd_lit w1 _ _ rfl 5 rfl (by omega)) (by omega)).mono ?_
 rintro e w2 ⟨rfl,h2,a0⟩
 have b2:Below w.heap.size w w2:=(I.alloc a4 _).trans (fr_bel a0 (by simp; omega) a3)
 have z:=Lh h2
 have F:=Lh b2
 clear h1 h2 b2 I a0
 go_wp2_with fail
 refine (all_t _ _ _ _ 1 1 rfl _ 4 rfl z.out (by omega)).mono ?_
 rintro e w3 ⟨A3,c3,rfl,a1,a2,J⟩
 have a7:=z.out.lt
 have H3:=Lh (z.out.later J)
 have R3:=Lh a1
 have G:=Lh (F.out.trans (J.mono F.out.size))
 clear a1 J z F
 go_wp2_with fail
 refine (take_some_t _ _ _ _ 1 1 rfl _ [6,7,8] 9 H3.out (by omega) rfl).mono ?_
 rintro e w4 ⟨rfl,h4,Y⟩
 have R4:=Lh (show Rd (Value.int .u64) w4 w4.heap.size A3 4 c3 [6,7,8,9] from rd_fr R3.out Y (fun g h e=>by have:=a2 g h; omega))
 have u:=Lh (G.out.trans (fr_bel Y G.out.size h4.lo))
 have a5:=u.out.size
 clear h4 Y H3 R3 G a2
 go_wp2_with fail
 refine (St.Awake11_any _ (HT.out.below u.out)).mono ?_
 rintro e w5 ⟨rfl,W⟩
 have R5:=Lh (R4.out.later W)
 have B5:=Lh (u.out.trans (W.mono a5))
 have a6:=B5.out.size
 clear W R4 u
 go_wp2_with fail
 refine (equal_any A3 (some ⟨w5.heap.size,0,none⟩) 4 c3 4 4 [6,7,8,9] [6,7,8,9] _ _ _ (R5.out.alloc (Nat.le_refl _) _) (rd_lit w5 _ _ rfl 4 rfl (by omega))).mono ?_
 rintro e w6 ⟨rfl,q,rfl⟩
 rw [decide_eq_true rfl]
 go_wp2_with fail
 go_ret
 exact ⟨rfl,below_drewN (B5.out.alloc a6 _) q⟩
theorem Awake12_any (w:World) (h:Tx.Tab w) :
  Calls Tryz.prog 290 #[] w fun e w'=>e=.returned (.bool true)∧Below w.heap.size w w':=by
 go_enter Tryz.func290,Tryz.ntmps290
 go_wp2_with fail
 refine (awake12_any _ h).mono ?_
 rintro e z ⟨rfl,u⟩
 go_wp2_with fail
 go_ret
 exact ⟨rfl,u⟩
end Go.Proofs.YtoiklelghfckgaaGreatDoor.Lc
