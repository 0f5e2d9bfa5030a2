/- A part of the claim. -/
import Derived.Test.YtoiklelghfckgaaGreatDoorYK3
import Derived.Lib.SliceRun
import Derived.Deep.RegionLaw
import Derived.Shelf.RegionOpenPlain
import Derived.Lib.SlicesDelete
import Derived.Shelf.Bits.Mul64
import Derived.Lib.LaidU8
import Derived.Laws.MakeOwn
import Derived.Laws.Bits64b
import Derived.Deep.CutRange
import Derived.Deep.CutBlock
section
set_option maxRecDepth 100000
set_option maxHeartbeats 8000000
set_option linter.unusedVariables false
namespace Go.Proofs.YtoiklelghfckgaaGreatDoor.Rw
open Go Go.RowKit
section
variable {P:Program} {ops:Array Oper} {Q:Exit->Act->World->Prop} {md:Region.Mode} {S:World->Prop} {n:Nat}
theorem wanted_of {o:Oper} {a:Act} {g:Nat} {p b:Bool} {d:Tmp} (u:o.guard=some (g,p)) (h:dstOf ops g=some d) (hv:a.tmps[d]? = some (.bool b)):Region.wanted o (yielded ops a.tmps)=(b == p):=by
 have z:yielded ops a.tmps g=some b:=by
  unfold yielded
  unfold dstOf at h
  simp only[h]
  simp[hv]
 unfold Region.wanted
 rw[u]
 simp only[z]
 cases b <;> cases p <;> rfl
theorem wY {o:Oper} {a:Act} {g:Nat} {p:Bool} {d:Tmp} (u:o.guard=some (g,p)) (h:dstOf ops g=some d) (hv:a.tmps[d]? = some (.bool p)):Region.wanted o (yielded ops a.tmps)=true:=by
 rw[wanted_of u h hv]; cases p <;> rfl
theorem at_ne {a:Act} {d:Option Tmp} {v:Value} {s:Tmp} {x:Option Value} (h:d≠some s) (hx:a.tmps[s]? = x):(a.put d v).tmps[s]? = x:=(put_at_ne a d v s h).trans hx
theorem at_eq {a:Act} {d:Tmp} {v:Value} (h:d < a.tmps.size):(a.put (some d) v).tmps[d]? = some v:=put_at_eq a d v h
theorem sz_put {a:Act} {d:Option Tmp} {v:Value} {k:Nat} (h:k < a.tmps.size):k < (a.put d v).tmps.size:=by rw[put_size]; exact h
end
end Go.Proofs.YtoiklelghfckgaaGreatDoor.Rw
namespace Go.Proofs.YtoiklelghfckgaaGreatDoor.Rw
open Go Go.RowKit Go.ChangeShapes Go.WideShapes Go.ChangeAt
section
variable {α:Type} {enc:α->List Value} {sz:Nat}
theorem flat_set (F:∀ x,(enc x).length=sz):∀ (xs:List α) (k i:Nat) (x y:α) (u:Value),xs[k]? = some x->i < sz->enc y=(enc x).set i u->(flat enc xs).set (k * sz+i) u=flat enc (xs.set k y)
 | [],k,i,x,y,u,h,_,_=>by simp at h
 | z :: l,0,i,x,y,u,h,hi,hy=>by
  simp at h; subst h
  show (enc z ++ flat enc l).set _ u=enc y ++ flat enc l
  rw[List.set_append_left _ _ (by rw[F]; omega),hy]
  simp
 | z :: l,k+1,i,x,y,u,h,hi,hy=>by
  show (enc z ++ flat enc l).set _ u=enc z ++ flat enc (l.set k y)
  rw[List.set_append_right _ _ (by rw[F,Nat.add_mul]; omega),F,show (k+1) * sz+i - sz=k * sz+i by rw[Nat.add_mul]; omega,flat_set F l k i x y u (by simpa using h) hi hy]
end
end Go.Proofs.YtoiklelghfckgaaGreatDoor.Rw
namespace Go.Proofs.YtoiklelghfckgaaGreatDoor.St
abbrev Sx:=Int × Int × Int
def hit (t:Int) (x:Sx):Bool:=x.1 == t
def free (x:Sx):Bool:=x.2.2 == 0
def Miss (p:Sx->Bool) (l:List Sx) (k:Nat):Prop:=∀ j x,j < k->l[j]? = some x->p x=false
theorem Miss.zero (p:Sx->Bool) (l:List Sx):Miss p l 0:=fun _ _ h=>absurd h (by omega)
theorem Miss.succ {p:Sx->Bool} {l:List Sx} {k:Nat} {x:Sx} (h:Miss p l k) (hx:l[k]? = some x) (z:p x=false):Miss p l (k+1):=by
 intro j y F u
 by_cases e:j=k
 .subst e; rw[hx] at u; injection u with u; subst u; exact z
 .exact h j y (by omega) u
theorem ix_some {p:Sx->Bool} {l:List Sx} {k:Nat} {x:Sx} (h:Miss p l k) (hx:l[k]? = some x) (z:p x=true):l.findIdx? p=some k:=by
 obtain⟨hk,rfl⟩:=List.getElem?_eq_some_iff.1 hx
 rw[List.findIdx?_eq_some_iff_getElem]
 exact⟨hk,z,fun j u=>by rw[h j _ u (List.getElem?_eq_getElem (by omega))]; simp⟩
theorem ix_none {p:Sx->Bool} {l:List Sx} (h:Miss p l l.length):l.findIdx? p=none:=by
 rw[List.findIdx?_eq_none_iff]
 intro x hx
 obtain⟨j,u,rfl⟩:=List.getElem_of_mem hx
 exact h j _ u (List.getElem?_eq_getElem u)
theorem ix_hit {p:Sx->Bool} {l:List Sx} {k:Nat} (h:l.findIdx? p=some k):∃ x,l[k]? = some x/\p x=true/\k < l.length:=by
 rw[List.findIdx?_eq_some_iff_getElem] at h
 obtain⟨hk,u,_⟩:=h
 exact⟨l[k],List.getElem?_eq_getElem hk,u,hk⟩
def ixZ (p:Sx->Bool) (l:List Sx):Int:=match l.findIdx? p with
 | some k=>k
 | none=>-1
theorem ixZ_some {p:Sx->Bool} {l:List Sx} {k:Nat} (h:l.findIdx? p=some k):ixZ p l=k:=by unfold ixZ; rw[h]
theorem ixZ_none {p:Sx->Bool} {l:List Sx} (h:l.findIdx? p=none):ixZ p l = -1:=by unfold ixZ; rw[h]
def parkL (l:List Sx) (t d:Int):List Sx:=if (l.findIdx? (hit t)).isSome then l else l ++ [(t,d,0)]
def parkE (l:List Sx) (t:Int):Int:=if (l.findIdx? (hit t)).isSome then 10 else 0
def fillAt (l:List Sx) (k:Nat) (x:Sx) (i:Int):List Sx:=l.set k (x.1,x.2.1,i)
def waitN (l:List Sx):Nat:=l.countP free
theorem park_hit {l:List Sx} {t d:Int} {k:Nat} (h:l.findIdx? (hit t)=some k):parkL l t d=l/\parkE l t=10:=by simp[parkL,parkE,h]
theorem park_miss {l:List Sx} {t d:Int} (h:l.findIdx? (hit t)=none):parkL l t d=l ++ [(t,d,0)] /\ parkE l t=0:=by simp[parkL,parkE,h]
theorem fillAt_len (l:List Sx) (k:Nat) (x:Sx) (i:Int):(fillAt l k x i).length=l.length:=by simp[fillAt]
theorem waitN_snoc {l:List Sx} {k:Nat} {x:Sx} (h:l[k]? = some x):waitN (l.take (k+1))=waitN (l.take k)+(if free x then 1 else 0):=by
 rw[List.take_add_one,h]
 simp[waitN,List.countP_append,List.countP_cons]
end Go.Proofs.YtoiklelghfckgaaGreatDoor.St
namespace Go.Proofs.YtoiklelghfckgaaGreatDoor.St
open Go.ChangeShapes Go.WideShapes Go.ChangeAt Go.RowKit Rw
def enc3 (x:Sx):List Value:=[.int .i64 x.1,.int .u64 x.2.1,.int .u64 x.2.2]
theorem enc3_len (x:Sx):(enc3 x).length=3:=rfl
theorem enc3_one (x:Sx):∀ u∈enc3 x,u.oneCell'=true:=by
 intro u h
 simp[enc3] at h
 rcases h with rfl | rfl | rfl <;> rfl
theorem info_slot:(Tryz.prog.info? 179).map (fun i=>(i.zero,i.size,i.bytes))=some (some (.agg #[.int .i64 0,.int .u64 0,.int .u64 0]),3,24):=by kernel_rfl
theorem three_at {w:World} {B:Nat} {A:Option Addr} {n c k:Nat} {l:List Sx} (h:Rs enc3 3 w B A n c l) (hk:k < n):∃ b o x,A=some ⟨b,o,none⟩/\b < B/\l[k]? = some x /\
  w.cell? ⟨b,o+k * 3,none⟩=some (.int .i64 x.1)/\w.cell? ⟨b,o+k * 3+1,none⟩=some (.int .u64 x.2.1)/\w.cell? ⟨b,o+k * 3+2,none⟩=some (.int .u64 x.2.2):=by
 obtain⟨b,o,e,u,z,F,hc⟩:=h.get hk
 exact⟨b,o,e,u,z,F,hc 0 _ (by omega) rfl,hc 1 _ (by omega) rfl,hc 2 _ (by omega) rfl⟩
theorem waits_any (a b c:Int) (w:World) :
  Calls Tryz.prog 248 #[.agg #[.int .i64 a,.int .u64 b,.int .u64 c]] w fun e w'=>e=.returned (.bool (c == 0))/\Below w.heap.size w w':=by
 go_enter Tryz.func248,Tryz.ntmps248
 go_wp2_with fail
 go_ret
 exact⟨rfl,(Below.refl _ _).alloc (Nat.le_refl _) _⟩
theorem isof_any (a b c t:Int) (q:Nat) (w:World) (hc:w.cell? ⟨q,0,none⟩=some (.int .i64 t)) :
  Calls Tryz.prog 147 #[.agg #[.int .i64 a,.int .u64 b,.int .u64 c],.pointer (some ⟨q,0,none⟩)] w fun e w'=>e=.returned (.bool (a == t))/\Below w.heap.size w w':=by
 have hq:q < w.heap.size:=Lw.ltH hc
 go_enter Tryz.func147,Tryz.ntmps147
 go_wp2_with fail
 go_ret
 exact⟨rfl,(Below.refl _ _).alloc (Nat.le_refl _) _⟩
theorem index_any (g:FuncId) (lb:Array Value) (p:Sx->Bool) (A:Option Addr) (n c B:Nat) (l:List Sx) (w:World) (h:Rs enc3 3 w B A n c l) (hB:B<=w.heap.size)
  (eg:∀ args w,(callFunc g args).run Tryz.prog w=.ok (.enter g args) w)
  (hp:∀ (a b c:Int) W,Below w.heap.size w W->Calls Tryz.prog g (#[.agg #[.int .i64 a,.int .u64 b,.int .u64 c]] ++ lb) W fun e W'=>e=.returned (.bool (p (a,b,c)))/\Below W.heap.size W W') :
  Calls Tryz.prog 146 #[.slice A n c,.func (.func g) #[] lb] w fun e w'=>e=.returned (.int .i64 (ixZ p l))/\Below w.heap.size w w':=by
 have hn:n<=9223372036854775807:=by have:=h.cap; have:=h.top; omega
 have G:=Lh h
 have HP:=Lh hp
 clear h hp
 go_enter Tryz.func146,Tryz.ntmps146
 go_wp2_with fail
 go_loopw [8] (fun i wr=>∃ k:Nat,k<=n/\i=.int .i64 k/\Miss p l k/\Below w.heap.size w wr) (fun i _=>n - (intOf i).toNat)
 case atStart=>exact⟨0,Nat.zero_le _,rfl,Miss.zero _ _,Below.refl _ _⟩
 case round=>
  obtain⟨k,hk,rfl,hm,u⟩:=hrel
  have F:=Lh hm
  have Y:=u.size
  clear hm
  by_cases hlt:k < n
  .obtain⟨b,o,x,rfl,hb,hx,c0,c1,c2⟩:=three_at G.out hlt
   have d0:=(u.cell (p:=⟨b,o+k * 3,none⟩) (by simp only; omega)).trans c0
   have d1:=(u.cell (p:=⟨b,o+k * 3+1,none⟩) (by simp only; omega)).trans c1
   have d2:=(u.cell (p:=⟨b,o+k * 3+2,none⟩) (by simp only; omega)).trans c2
   obtain⟨x0,x1,x2⟩:=x
   have I:=Lh hx
   simp only at d0 d1 d2
   clear c0 c1 c2 hx
   go_wp2_with fail
   refine (HP.out x0 x1 x2 wr u).mono ?_
   rintro e w1 ⟨rfl,J⟩
   cases hq:p (x0,x1,x2) with
   | true=>
    have z:=Lh (ixZ_some (ix_some F.out I.out hq))
    go_wp2_with fail
    go_ret
    exact⟨by rw[z.out]; rfl,u.trans (J.mono Y)⟩
   | false=>
    have a0:=Lh (F.out.succ I.out hq)
    go_wp2_with fail
    go_roundw
    case rel=>exact⟨k+1,by omega,by go_num,a0.out,u.trans (J.mono Y)⟩
    case measure=>simp[intOf]; omega
  .have a1:k=n:=by omega
   have z:=Lh (ixZ_none (ix_none (p:=p) (l:=l) (by rw[G.out.len,<- a1]; exact F.out)))
   go_wp2_with fail
   go_ret
   exact⟨by rw[z.out]; rfl,u⟩
theorem index_free (A:Option Addr) (n c B:Nat) (l:List Sx) (w:World) (h:Rs enc3 3 w B A n c l) (u:B<=w.heap.size) :
  Calls Tryz.prog 146 #[.slice A n c,.func (.func 248) #[] #[]] w fun e w'=>e=.returned (.int .i64 (ixZ free l))/\Below w.heap.size w w':=
 index_any 248 #[] free A n c B l w h u (fun args w=>by simp[go_sem]) (fun a b c W _=>waits_any a b c W)
theorem index_of (A:Option Addr) (n c B q:Nat) (t:Int) (l:List Sx) (w:World) (h:Rs enc3 3 w B A n c l) (u:B<=w.heap.size) (hc:w.cell? ⟨q,0,none⟩=some (.int .i64 t)) :
  Calls Tryz.prog 146 #[.slice A n c,.func (.func 147) #[] #[.pointer (some ⟨q,0,none⟩)]] w fun e w'=>e=.returned (.int .i64 (ixZ (hit t) l))/\Below w.heap.size w w':=
 index_any 147 #[.pointer (some ⟨q,0,none⟩)] (hit t) A n c B l w h u (fun args w=>by simp[go_sem]) (fun a b c W z=>isof_any a b c t q W ((z.cell (p:=⟨q,0,none⟩) (Lw.ltH hc)).trans hc))
theorem sclone_any (A:Option Addr) (n c:Nat) (xs:List Sx) (B:Nat) (w:World) (h:Rs enc3 3 w B A n c xs) (G:B<=w.heap.size) (a2:n * 24<=140737488355328) :
  Calls Tryz.prog 113 #[.slice A n c] w fun e w'=>∃ A' z,e=.returned (.slice A' n z)/\w'.ownsRow w.heap.size 179 3 (.slice A' n z) n (flat enc3 xs)/\Below w.heap.size w w':=by
 have hn:n<=9223372036854775807:=by have:=h.cap; have:=h.top; omega
 obtain⟨i0,hi,W,Y,a0⟩:=info_parts info_slot
 cases A with
 | none=>
  have u:n=0:=by
   rcases Nat.eq_zero_or_pos n with u | u
   .exact u
   .obtain⟨b,o,e,_⟩:=h.at_ u
    cases e
  subst u
  obtain rfl:=List.eq_nil_of_length_eq_zero h.len
  clear h
  have hk:=@Lib.run_eql_slice_nil Tryz.prog
  go_enter Tryz.func113,Tryz.ntmps113
  go_wp2
  go_ret
  exact⟨_,_,rfl,World.ownsRow_nil _ _ _ _,Below.refl _ _⟩
 | some a=>
  have F:=Lh h
  clear h
  have hk:=@Lib.run_eql_slice_nil Tryz.prog
  go_enter Tryz.func113,Tryz.ntmps113
  go_wp2_with (at_builtin; refine apRs enc3_len rfl _ _ 175 rfl w.heap.size 179 i0 _ 24 Tryz.underlying175 hi W Y a0 rfl (by omega) _ 0 [] rfl (World.ownsRow_lit _ #[] 0 (Nat.le_refl _) (by decide) rfl) B (some a) n c xs rfl (F.out.alloc G _) enc3_one n (Nat.zero_add _) (flat enc3 xs) rfl ?_ ?_ ?_ ?_)
  .unfold maxLen; omega
  .omega
  .simp
  .intro A' z w' J I a1
   go_wp2
   go_ret
   refine⟨A',z,rfl,J,((Below.refl _ _).alloc (Nat.le_refl _) _).grown I (by simp) (fun k hk=>?_)⟩
   simp[Value.ownBlock] at hk
   omega
end Go.Proofs.YtoiklelghfckgaaGreatDoor.St
namespace Go.Proofs.YtoiklelghfckgaaGreatDoor.St
open Go.ChangeShapes Go.WideShapes Go.ChangeAt Go.RowKit Rw Hi
structure Ss (w:World) (B p:Nat) (r:Option Nat) (l:List Sx):Prop where
 row:∃ A c,w.cell? ⟨p,0,none⟩=some (.slice A l.length c)/\w.ownsRow B 179 3 (.slice A l.length c) l.length (flat enc3 l)/\(Value.slice A l.length c).ownBlock=r
 free0:w.frozen? ⟨p,0,none⟩=false
 lo:B<=p
 ne:r≠some p
theorem Ss.lt {w:World} {B p:Nat} {r:Option Nat} {l:List Sx} (h:Ss w B p r l):p < w.heap.size:=by obtain⟨A,c,u,_⟩:=h.row; exact Lw.ltH u
theorem Ss.rowlt {w:World} {B p:Nat} {r:Option Nat} {l:List Sx} (h:Ss w B p r l):∀ g,r=some g->B<=g/\g < w.heap.size:=by
 intro g u
 obtain⟨A,c,_,z,e⟩:=h.row
 exact z.lt g (e.trans u)
theorem Ss.same {w w':World} {B p:Nat} {r:Option Nat} {l:List Sx} (h:Ss w B p r l) (z:w'.heap[p]? = w.heap[p]?) (W:∀ g,r=some g->w'.heap[g]? = w.heap[g]?):Ss w' B p r l:=by
 obtain⟨A,c,F,G,u⟩:=h.row
 have hc:∀ o,w'.cell? ⟨p,o,none⟩=w.cell? ⟨p,o,none⟩:=fun o=>by unfold World.cell?; simp only[z]
 have I:∀ o,w'.frozen? ⟨p,o,none⟩=w.frozen? ⟨p,o,none⟩:=fun o=>by unfold World.frozen?; simp only[z]
 exact⟨⟨A,c,(hc 0).trans F,owS G (fun g J=>W g (u.symm.trans J)),u⟩,(I 0).trans h.free0,h.lo,h.ne⟩
theorem Ss.later {w w':World} {B p:Nat} {r:Option Nat} {l:List Sx} (h:Ss w B p r l) (u:Below w.heap.size w w'):Ss w' B p r l:=
 h.same (u.block p h.lt) (fun g z=>u.block g (h.rowlt g z).2)
theorem Ss.rs {w:World} {B p:Nat} {r:Option Nat} {l:List Sx} (h:Ss w B p r l):∃ A c,w.cell? ⟨p,0,none⟩=some (.slice A l.length c)/\Rs enc3 3 w w.heap.size A l.length c l:=by
 obtain⟨A,c,u,z,_⟩:=h.row
 exact⟨A,c,u,Rs.own_rs enc3_len rfl z⟩
theorem Ss.put {w G:World} {B p:Nat} {r:Option Nat} {l l':List Sx} {A':Option Addr} {F u:Nat} (h:Ss w B p r l) (hn:l'.length=F) (I:w.grownBy G r) (ho:G.ownsRow B 179 3 (.slice A' F u) F (flat enc3 l'))
  (hA:(Value.slice A' F u).ownBlock=r \/ ∃ g,(Value.slice A' F u).ownBlock=some g/\w.heap.size<=g) :
  ∃ r',Ss (G.setCell ⟨p,0,none⟩ (.slice A' F u)) B p r' l'/\Fr (some p) r w (G.setCell ⟨p,0,none⟩ (.slice A' F u))/\(∀ g,r'=some g->r=some g\/w.heap.size<=g):=by
 subst hn
 obtain⟨A,c,h1,h2,h3⟩:=h.row
 have a0:=h.lt
 have e0:G.cell? ⟨p,0,none⟩=some (.slice A l.length c):=(I.cell h1 (fun e=>h.ne e.symm))
 have ef:G.frozen? ⟨p,0,none⟩=false:=gfz I h.free0 a0 (fun e=>h.ne e.symm)
 have Y:(Value.slice A' l'.length u).ownBlock≠some p:=by
  rcases hA with e | ⟨g,e,W⟩
  .rw[e]; exact h.ne
  .rw[e]; intro J; injection J with J; omega
 refine⟨_,⟨⟨A',u,World.cell?_setCell_same _ _ _ e0,owS ho (fun g z=>heap_setCell_other _ _ g _ (fun e=>Y (by rw[z,show g=p from e]))),rfl⟩,by simpa using ef,h.lo,Y⟩,
  (Fr.of_grown I (.inr (.inr rfl))).then (a':=some p) (b':=none) (Fr.of_grown (gsC _ _ _) (.inr (.inl rfl))) (fun k hk _=>.inl hk.symm) (fun k hk _=>by cases hk),fun g z=>?_⟩
 rcases hA with e | ⟨g2,e,W⟩
 .exact .inl (e.symm.trans z)
 .rw[e] at z; injection z with z; subst z; exact .inr W
theorem Ss.fill {w G:World} {B p:Nat} {r:Option Nat} {l:List Sx} {k:Nat} {x:Sx} (h:Ss w B p r l) (u:Below w.heap.size w G) (hx:l[k]? = some x) (i:Int) {g c:Nat} (hc:w.cell? ⟨p,0,none⟩=some (.slice (some ⟨g,0,none⟩) l.length c)) :
  Ss (G.setCell ⟨g,k * 3+2,none⟩ (.int .u64 i)) B p r (fillAt l k x i)/\Fr (some p) r w (G.setCell ⟨g,k * 3+2,none⟩ (.int .u64 i))/\r=some g:=by
 have Y:=h.later u
 have I:G.cell? ⟨p,0,none⟩=some (.slice (some ⟨g,0,none⟩) l.length c):=(u.cell (p:=⟨p,0,none⟩) h.lt).trans hc
 obtain⟨A,c2,z,h2,h3⟩:=Y.row
 rw[I] at z
 injection z with z
 injection z with z _ h4
 subst z h4
 have hr:r=some g:=h3.symm
 subst hr
 have a1:g≠p:=fun e=>h.ne (by rw[e])
 obtain⟨W,F⟩:=h2.stored (k * 3+2) (.int .u64 i)
 rw[flat_set enc3_len l k 2 x (x.1,x.2.1,i) (.int .u64 i) hx (by omega) rfl] at W
 have J:(fillAt l k x i).length=l.length:=fillAt_len l k x i
 refine⟨⟨⟨some ⟨g,0,none⟩,c,?_,?_,rfl⟩,?_,h.lo,h.ne⟩,?_,rfl⟩
 .rw[J]; exact (World.cell?_setCell_other _ _ _ _ (fun e=>by injection e with e; exact a1 e)).trans I
 .rw[J]; exact W
 .simpa using (u.frozen (p:=⟨p,0,none⟩) h.lt).trans h.free0
 .exact⟨F.os.trans u.os,F.tape.trans u.tape,F.output.trans u.output,Nat.le_trans u.size F.size,fun q hq _ a0=>(F.block q (Nat.lt_of_lt_of_le hq u.size) a0).trans (u.block q hq)⟩
theorem new_any (w:World) (B:Nat) (h:B<=w.heap.size) :
  Calls Tryz.prog 59 #[] w fun e w'=>∃ p,e=.returned (.pointer (some ⟨p,0,none⟩))/\Ss w' B p none [] /\ w.heap.size<=p/\Below w.heap.size w w':=by
 go_enter Tryz.func59,Tryz.ntmps59
 go_wp2_with fail
 go_ret
 exact⟨w.heap.size,rfl,⟨⟨none,0,by go_simp,World.ownsRow_nil _ _ _ _,rfl⟩,by go_simp,h,by simp⟩,Nat.le_refl _,(Below.refl _ _).alloc (Nat.le_refl _) _⟩
theorem place_any (w:World) (B p:Nat) (r:Option Nat) (l:List Sx) (t:Int) (h:Ss w B p r l) :
  Calls Tryz.prog 84 #[.pointer (some ⟨p,0,none⟩),.int .i64 t] w fun e w'=>e=.returned (.int .i64 (ixZ (hit t) l))/\Below w.heap.size w w':=by
 obtain⟨A,c,G,u⟩:=h.rs
 have I:=h.lt
 have z:=Lh u
 clear h u
 generalize hn:l.length=n at *
 clear hn
 go_enter Tryz.func84,Tryz.ntmps84
 go_wp2_with fail
 refine (index_of A n c _ w.heap.size t l _ (z.out.alloc (Nat.le_refl _) _) (by simp) (by go_simp)).mono ?_
 rintro e J ⟨rfl,F⟩
 go_wp2_with fail
 go_ret
 exact⟨rfl,((Below.refl _ _).alloc (Nat.le_refl _) _).trans (F.mono (by simp))⟩
theorem clone_any (w:World) (B p:Nat) (r:Option Nat) (l:List Sx) (h:Ss w B p r l) (a2:l.length<=1000) :
  Calls Tryz.prog 50 #[.pointer (some ⟨p,0,none⟩)] w fun e w'=>∃ G r',e=.returned (.pointer (some ⟨G,0,none⟩))/\Ss w' B G r' l/\w.heap.size<=G/\(∀ g,r'=some g->w.heap.size<=g)/\Below w.heap.size w w':=by
 obtain⟨A,c,h1,hr⟩:=h.rs
 have a1:=h.lt
 have a0:=h.lo
 have HR:=Lh hr
 clear h hr
 generalize hn:l.length=n at *
 have u:=Lh hn
 clear hn
 go_enter Tryz.func50,Tryz.ntmps50
 go_wp2_with fail
 refine (sclone_any A n c l _ w HR.out (Nat.le_refl _) (by omega)).mono ?_
 rintro e w1 ⟨I,c1,rfl,Y,W⟩
 have J:=Lh Y
 have hs:=W.size
 clear Y
 go_wp2_with fail
 go_ret
 have F:=J.out.lt
 refine⟨w1.heap.size,(Value.slice I n c1).ownBlock,rfl,⟨⟨I,c1,by rw[u.out]; go_simp,?_,by rw[u.out]⟩,by go_simp,by omega,?_⟩,hs,fun g z=>(F g z).1,W.alloc hs _⟩
 .rw[u.out]
  exact own_mono (owS J.out (fun g z=>RowKit.Below.heap_alloc w1 _ g (F g z).2)) (show B<=w.heap.size by omega)
 .intro e
  have:=(F _ e).2
  omega
theorem waiting_any (w:World) (B p:Nat) (r:Option Nat) (l:List Sx) (h:Ss w B p r l) (a3:l.length<=1000) :
  Calls Tryz.prog 251 #[.pointer (some ⟨p,0,none⟩)] w fun e w'=>e=.returned (.int .i64 (waitN l))/\Below w.heap.size w w':=by
 obtain⟨A,c,h1,hr⟩:=h.rs
 have HR:=Lh hr
 clear h hr
 generalize hn:l.length=n at *
 have HL:=Lh hn
 clear hn
 go_enter Tryz.func251,Tryz.ntmps251
 go_wp2_with fail
 go_loopw [3,13] (fun s i wr=>∃ k q:Nat,k<=n/\i=.int .i64 k/\s=.int .i64 q/\q<=k/\q=waitN (l.take k)/\Below w.heap.size w wr) (fun _ i _=>n - (intOf i).toNat)
 case atStart=>exact⟨0,0,Nat.zero_le _,rfl,rfl,Nat.le_refl _,rfl,Below.refl _ _⟩
 case round=>
  obtain⟨k,q,hk,rfl,rfl,a2,hq,z⟩:=hrel
  have G:=Lh hq
  have a1:=z.size
  clear hq
  by_cases hlt:k < n
  .obtain⟨b,o,x,rfl,hb,hx,c0,c1,c2⟩:=three_at HR.out hlt
   have d0:=(z.cell (p:=⟨b,o+k * 3,none⟩) (by simp only; omega)).trans c0
   have d1:=(z.cell (p:=⟨b,o+k * 3+1,none⟩) (by simp only; omega)).trans c1
   have d2:=(z.cell (p:=⟨b,o+k * 3+2,none⟩) (by simp only; omega)).trans c2
   obtain⟨x0,x1,I⟩:=x
   have W:=Lh (waitN_snoc hx)
   simp only at d0 d1 d2
   clear c0 c1 c2 hx
   go_wp2_with fail
   refine (waits_any x0 x1 I _).mono ?_
   rintro e w1 ⟨rfl,Y⟩
   have a0:Below w.heap.size w w1:=(z.alloc a1 (.cells #[.int .i64 x0,.int .u64 x1,.int .u64 I] 179)).trans (Y.mono (by simp; omega))
   have J:=Lh a0
   clear Y a0
   cases hz:(I == 0:Bool) with
   | true=>
    have u:q+1=waitN (l.take (k+1)):=by rw[W.out,G.out]; simp[free,hz]
    have F:=Lh u
    clear u
    go_wp2_with fail
    go_roundw
    case rel=>exact⟨k+1,q+1,by omega,by go_num,by go_num,by omega,F.out,J.out⟩
    case measure=>simp[intOf]; omega
   | false=>
    have u:q=waitN (l.take (k+1)):=by rw[W.out,G.out]; simp[free,hz]
    have F:=Lh u
    clear u
    go_wp2_with fail
    go_roundw
    case rel=>exact⟨k+1,q,by omega,by go_num,rfl,by omega,F.out,J.out⟩
    case measure=>simp[intOf]; omega
  .obtain rfl:k=n:=by omega
   have u:q=waitN l:=by rw[G.out,List.take_of_length_le (by have:=HL.out; omega)]
   have F:=Lh u
   clear u G
   go_wp2_with fail
   go_ret
   exact⟨by rw[<- F.out]; rfl,z⟩
theorem park_hit_any (w:World) (B p:Nat) (r:Option Nat) (l:List Sx) (t d:Int) (k:Nat) (h:Ss w B p r l) (hi:l.findIdx? (hit t)=some k) :
  Calls Tryz.prog 35 #[.pointer (some ⟨p,0,none⟩),.int .i64 t,.int .u64 d] w fun e w'=>e=.returned (.int .i64 10)/\Below w.heap.size w w':=by
 have u:=Lh h
 have z:=Lh (ixZ_some hi)
 clear h hi
 go_enter Tryz.func35,Tryz.ntmps35
 go_wp2_with fail
 refine (place_any _ B p r l t u.out).mono ?_
 rw[z.out]
 rintro e G ⟨rfl,F⟩
 go_wp2_with fail
 go_ret
 exact⟨rfl,F⟩
theorem park_miss_any (w:World) (B p:Nat) (r:Option Nat) (l:List Sx) (t d:Int) (h:Ss w B p r l) (hi:l.findIdx? (hit t)=none) (ac:l.length<=1000) :
  Calls Tryz.prog 35 #[.pointer (some ⟨p,0,none⟩),.int .i64 t,.int .u64 d] w fun e w'=>e=.returned (.int .i64 0) /\ ∃ J,Ss w' B p J (l ++ [(t,d,0)])/\Fr (some p) r w w'/\(∀ g,J=some g->r=some g\/w.heap.size<=g):=by
 obtain⟨i0,a5,a7,a8,a9⟩:=info_parts info_slot
 obtain⟨A,c,h1,ho,hA⟩:=h.row
 have hl:=h.lt
 have aa:=h.lo
 have f0:=h.free0
 have W:=Lh h
 have HZ:=Lh (ixZ_none hi)
 have HO:=Lh ho
 have HA:=Lh hA
 clear h hi ho hA
 generalize hn:l.length=n at *
 have HN:=Lh hn
 clear hn
 go_enter Tryz.func35,Tryz.ntmps35
 go_wp2_with fail
 refine (place_any _ B p r l t W.out).mono ?_
 rw[HZ.out]
 rintro e Y ⟨rfl,G⟩
 have e0:=(G.cell (p:=⟨p,0,none⟩) hl).trans h1
 have a6:=G.size
 have z:=Lh G
 clear G
 go_wp2_with (
  at_builtin
  refine apRs enc3_len rfl _ _ 175 rfl B 179 i0 _ 24 Tryz.underlying175 a5 a7 a8 a9 rfl (by omega) (.slice A n c) n (flat enc3 l) rfl ((owS HO.out (fun g hg=>z.out.block g (HO.out.lt g hg).2)).alloc _) (Y.heap.size+1) _ 1 1 [(t,d,0)] rfl (rs_one enc3_len Y (t,d,0) _ rfl) enc3_one (n+1) rfl (flat enc3 (l ++ [(t,d,0)])) (flA l _).symm ?_ ?_ ?_ ?_
  .unfold maxLen; omega
  .omega
  .simp; omega
  intro A' c' w2 a2 u a1
  have a4:=Lh a2
  have I:w.grownBy w2 r:=by rw[HA.out] at u; exact⟨u.os.trans z.out.os,u.tape.trans z.out.tape,u.output.trans z.out.output,Nat.le_trans a6 (Nat.le_trans (by simp) u.size),fun q hq F=>(u.block q (by simp; omega) F).trans ((RowKit.Below.heap_alloc Y _ q (by omega)).trans (z.out.block q hq))⟩
  have HG:=Lh I
  have a0:(Value.slice A' (n+1) c').ownBlock=r \/ ∃ g,(Value.slice A' (n+1) c').ownBlock=some g/\w.heap.size<=g:=by
   rcases a1 with e | e
   .exact .inl (e.trans HA.out)
   .exact .inr ⟨_,e,by simp; omega⟩
  have a3:=Lh a0
  have F:some p≠r:=fun e=>W.out.ne e.symm
  have u0:w2.cell? ⟨p,0,none⟩=some (.slice A n c):=I.cell h1 F
  have uf:w2.frozen? ⟨p,0,none⟩=false:=gfz I f0 hl F
  clear a2 u a1 I a0 F)
 obtain⟨J,q1,q2,q3⟩:=W.out.put (l':=l ++ [(t,d,0)]) (by simp[HN.out]) HG.out a4.out a3.out
 have Q:=Lh (show _/\_/\_ from⟨q1,q2,q3⟩)
 clear q1 q2 q3
 go_wp2_with fail
 go_ret
 exact⟨rfl,J,Q.out⟩
theorem fill_zero_any (w:World) (p:Nat) :
  Calls Tryz.prog 231 #[.pointer (some ⟨p,0,none⟩),.int .u64 0] w fun e w'=>e=.returned (.tuple #[.int .i64 0,.bool false])/\w=w':=by
 go_enter Tryz.func231,Tryz.ntmps231
 go_wp2_with fail
 go_ret2
 exact⟨rfl,rfl⟩
theorem fill_miss_any (w:World) (B p:Nat) (r:Option Nat) (l:List Sx) (i:Int) (h:Ss w B p r l) (u:l.findIdx? free=none) (hi:i≠0) :
  Calls Tryz.prog 231 #[.pointer (some ⟨p,0,none⟩),.int .u64 i] w fun e w'=>e=.returned (.tuple #[.int .i64 0,.bool false])/\Below w.heap.size w w':=by
 have W:(i == 0)=false:=by simpa using hi
 obtain⟨A,c,J,z⟩:=h.rs
 have F:=Lh z
 have G:=Lh (ixZ_none u)
 clear h u z hi
 generalize hn:l.length=n at *
 clear hn
 go_enter Tryz.func231,Tryz.ntmps231
 go_wp2_with fail
 refine (index_free A n c _ l _ F.out (Nat.le_refl _)).mono ?_
 rw[G.out]
 rintro e Y ⟨rfl,I⟩
 go_wp2_with fail
 go_ret2
 exact⟨rfl,I⟩
theorem fill_hit_any (w:World) (B p:Nat) (r:Option Nat) (l:List Sx) (i:Int) (k:Nat) (x:Sx) (h:Ss w B p r l) (J:l.findIdx? free=some k) (hx:l[k]? = some x) (hi:i≠0) :
  Calls Tryz.prog 231 #[.pointer (some ⟨p,0,none⟩),.int .u64 i] w fun e w'=>e=.returned (.tuple #[.int .i64 x.1,.bool true])/\Ss w' B p r (fillAt l k x i)/\Fr (some p) r w w':=by
 have a8:(i == 0)=false:=by simpa using hi
 obtain⟨A,c,Y,F,hA⟩:=h.row
 obtain⟨x',a5,_,a2⟩:=ix_hit J
 have z:=Rs.own_rs enc3_len rfl F
 obtain⟨b,o,y,a0,I,W,c0,c1,c2⟩:=three_at z a2
 obtain rfl:x=y:=by rw[hx] at W; injection W
 have a3:o=0:=by
  rcases F.2 with ⟨G,_⟩ | ⟨g,cap,a6,G,_⟩
  .injection G with _ h2 _; omega
  .injection G with h2 _ _; rw[a0] at h2; injection h2 with h2; injection h2
 subst a0 a3
 simp only[Nat.zero_add] at c0 c1 c2
 have hl:=h.lt
 have a7:=z.cap
 have a9:=z.top
 have a1:w.frozen? ⟨b,k * 3+2,none⟩=false:=F.frozenAt _
 have HS:=Lh h
 have HX:=Lh hx
 have HZ:=Lh (ixZ_some J)
 have HR:=Lh z
 have a4:b≠p:=fun e=>h.ne (by rw[<- hA,e]; rfl)
 have H1:=Lh Y
 clear h J hx hi a5 W F hA z
 obtain⟨x0,x1,x2⟩:=x
 simp only at c0 c1 c2 ⊢
 generalize hn:l.length=n at *
 have HN:=Lh hn
 clear hn
 go_enter Tryz.func231,Tryz.ntmps231
 go_wp2_with fail
 refine (index_free _ n c _ l _ HR.out (Nat.le_refl _)).mono ?_
 rw[HZ.out]
 rintro e w1 ⟨rfl,u⟩
 have e0:=(u.cell (p:=⟨p,0,none⟩) hl).trans Y
 have d0:=(u.cell (p:=⟨b,k * 3,none⟩) I).trans c0
 have d2:=(u.cell (p:=⟨b,k * 3+2,none⟩) I).trans c2
 have f2:=(u.frozen (p:=⟨b,k * 3+2,none⟩) I).trans a1
 obtain⟨s1,s2,s3⟩:=HS.out.fill u HX.out i (g:=b) (c:=c) (by rw[HN.out]; exact H1.out)
 have S1:=Lh s1
 have S2:=Lh s2
 have g0:(w1.setCell ⟨b,k * 3+2,none⟩ (.int .u64 i)).cell? ⟨p,0,none⟩=some (.slice (some ⟨b,0,none⟩) n c):=(World.cell?_setCell_other _ _ _ _ (fun e=>by injection e with e; exact a4 e)).trans e0
 have g1:(w1.setCell ⟨b,k * 3+2,none⟩ (.int .u64 i)).cell? ⟨b,k * 3,none⟩=some (.int .i64 x0):=(World.cell?_setCell_other _ _ _ _ (fun e=>by injection e with _ e; omega)).trans d0
 clear u s1 s2 s3
 go_wp2_with fail
 go_ret2
 exact⟨rfl,S1.out,S2.out⟩
theorem Awake10_any (w:World) (h:Tx.Tab w) :
  Calls Tryz.prog 332 #[] w fun e w'=>e=.returned (.bool true)/\Below w.heap.size w w':=by
 go_enter Tryz.func332,Tryz.ntmps332
 go_wp2_with fail
 refine (Fc.awake10_any _ h).mono ?_
 rintro e z ⟨rfl,u⟩
 go_wp2_with fail
 go_ret
 exact⟨rfl,u⟩
theorem awake11_any (w:World) (hT:Tx.Tab w) :
  Calls Tryz.prog 321 #[] w fun e w'=>e=.returned (.bool true)/\Below w.heap.size w w':=by
 have HT:=Lh hT
 clear hT
 go_enter Tryz.func321,Tryz.ntmps321
 go_wp2_with fail
 refine (new_any _ w.heap.size (Nat.le_refl _)).mono ?_
 rintro e w1 ⟨p,rfl,Y,a6,I⟩
 go_wp2_with fail
 refine (park_miss_any _ _ _ _ _ 2 9 Y rfl (by simp)).mono ?_
 rintro e w2 ⟨rfl,r2,F,a0,a4⟩
 have u:Below w.heap.size w w2:=I.trans (a0.below I.size (fun k hk=>by cases hk; omega) (fun k hk=>by cases hk))
 have q2:∀ g,r2=some g->w.heap.size<=g:=fun g J=>(F.rowlt g J).1
 clear Y I a0 a4
 go_wp2_with fail
 refine (park_miss_any _ _ _ _ _ 1 5 F (by simp[List.findIdx?_cons,hit]) (by simp)).mono ?_
 rintro e w3 ⟨rfl,r3,G,a1,a5⟩
 have z:Below w.heap.size w w3:=u.trans (a1.below u.size (fun k hk=>by cases hk; omega) (fun k hk=>q2 k hk))
 have q3:∀ g,r3=some g->w.heap.size<=g:=fun g J=>(G.rowlt g J).1
 clear F u a1 a5 q2
 go_wp2_with fail
 refine (fill_hit_any _ _ _ _ _ 7 0 (2,9,0) G (by simp[List.findIdx?_cons,free]) (by simp) (by omega)).mono ?_
 rintro e w4 ⟨rfl,h4,a2⟩
 have W:Below w.heap.size w w4:=z.trans (a2.below z.size (fun k hk=>by cases hk; omega) (fun k hk=>q3 k hk))
 have h:=Lh W
 clear G z a2 q3 h4 W
 go_wp2_with fail
 refine (Awake10_any _ (HT.out.below h.out)).mono ?_
 rintro e w5 ⟨rfl,a3⟩
 go_wp2_with fail
 go_ret
 exact⟨rfl,h.out.trans (a3.mono h.out.size)⟩
theorem Awake11_any (w:World) (h:Tx.Tab w) :
  Calls Tryz.prog 311 #[] w fun e w'=>e=.returned (.bool true)/\Below w.heap.size w w':=by
 go_enter Tryz.func311,Tryz.ntmps311
 go_wp2_with fail
 refine (awake11_any _ h).mono ?_
 rintro e z ⟨rfl,u⟩
 go_wp2_with fail
 go_ret
 exact⟨rfl,u⟩
end Go.Proofs.YtoiklelghfckgaaGreatDoor.St
namespace Go.Proofs.YtoiklelghfckgaaGreatDoor.Lc
open Go.ChangeShapes Go.WideShapes Go.ChangeAt Go.RowKit Rw Hi Sl
def upd (L:Nat->List Int) (i:Nat) (xs:List Int):Nat->List Int:=fun j=>if j=i then xs else L j
theorem upd_same (L:Nat->List Int) (i:Nat) (xs:List Int):upd L i xs i=xs:=by simp[upd]
theorem upd_ne (L:Nat->List Int) {i j:Nat} (xs:List Int) (h:j≠i):upd L i xs j=L j:=by simp[upd,h]
def last4 (l:List Int):List Int:=l.drop (l.length - 4)
theorem last4_len (l:List Int):(last4 l).length<=4:=by simp[last4]; omega
theorem last4_short {l:List Int} (h:l.length<=4):last4 l=l:=by unfold last4; rw[Nat.sub_eq_zero_of_le h]; rfl
theorem last4_append (l ids:List Int):last4 (l ++ last4 ids)=last4 (l ++ ids):=by
 unfold last4
 by_cases h:ids.length<=4
 .rw[Nat.sub_eq_zero_of_le h]; rfl
 .have e:(ids.drop (ids.length - 4)).length=4:=by simp; omega
  rw[List.drop_append,List.drop_append]
  simp only[List.length_append,e]
  rw[List.drop_of_length_le (show l.length<=l.length+4 - 4 by omega),List.drop_of_length_le (show l.length<=l.length+ids.length - 4 by omega),List.nil_append,List.nil_append,List.drop_drop]
  congr 1
  omega
structure Lo (X:Nat->Prop) (w:World) (B p:Nat) (L:Nat->List Int):Prop where
 at_:∀ i,i < 8 -> ∃ A n c,w.cell? ⟨p,i,none⟩=some (.slice A n c)/\Rd (Value.int .u64) w w.heap.size A n c (L i) /\ ∀ g,(Value.slice A n c).ownBlock=some g->g < w.heap.size /\ ¬ X g
 len:∀ i,i < 8->(L i).length<=4
 free:∀ i,i < 8->w.frozen? ⟨p,i,none⟩=false
 lo:B<=p
 px:¬ X p
theorem Lo.lt {X:Nat->Prop} {w:World} {B p:Nat} {L:Nat->List Int} (h:Lo X w B p L):p < w.heap.size:=by obtain⟨A,n,c,u,_⟩:=h.at_ 0 (by omega); exact Lw.ltH u
theorem Lo.later {X:Nat->Prop} {w w':World} {B p:Nat} {L:Nat->List Int} (h:Lo X w B p L) (u:Below w.heap.size w w'):Lo X w' B p L:=
 ⟨fun i hi=>by
  obtain⟨A,n,c,G,I,z⟩:=h.at_ i hi
  exact⟨A,n,c,(u.cell (p:=⟨p,i,none⟩) h.lt).trans G,I.later u,fun g F=>⟨Nat.lt_of_lt_of_le (z g F).1 u.size,(z g F).2⟩⟩,h.len,fun i hi=>(u.frozen (p:=⟨p,i,none⟩) h.lt).trans (h.free i hi),h.lo,h.px⟩
theorem Lo.same {X:Nat->Prop} {w:World} {B p:Nat} {L u:Nat->List Int} (h:Lo X w B p L) (z:∀ i,i < 8->u i=L i):Lo X w B p u:=
 ⟨fun i hi=>by rw[z i hi]; exact h.at_ i hi,fun i hi=>by rw[z i hi]; exact h.len i hi,h.free,h.lo,h.px⟩
theorem rd_store {w:World} {A:Option Addr} {n c:Nat} {xs:List Int} {p i:Nat} {z:Option Addr} {G c0:Nat} (h:Rd (Value.int .u64) w w.heap.size A n c xs) (F:w.cell? ⟨p,i,none⟩=some (.slice z G c0)) (u:Value) :
  Rd (Value.int .u64) (w.setCell ⟨p,i,none⟩ u) (w.setCell ⟨p,i,none⟩ u).heap.size A n c xs:=(h.setOther F (fun x e=>by cases e) u).more (by simp)
theorem Lo.store {X:Nat->Prop} {w:World} {B p i:Nat} {L:Nat->List Int} (h:Lo X w B p L) (hi:i < 8) {A:Option Addr} {n c:Nat} {xs:List Int} (hr:Rd (Value.int .u64) w w.heap.size A n c xs) (hl:xs.length<=4) (hX:∀ g,(Value.slice A n c).ownBlock=some g->g < w.heap.size /\ ¬ X g) :
  Lo X (w.setCell ⟨p,i,none⟩ (.slice A n c)) B p (upd L i xs)/\Fr (some p) none w (w.setCell ⟨p,i,none⟩ (.slice A n c)):=by
 obtain⟨A0,n0,c0,z,_⟩:=h.at_ i hi
 refine⟨⟨fun j u=>?_,fun j u=>?_,fun j u=>by simpa using h.free j u,h.lo,h.px⟩,Fr.of_grown (gsC _ _ _) (.inr (.inl rfl))⟩
 .by_cases e:j=i
  .subst e
   rw[upd_same]
   exact⟨A,n,c,World.cell?_setCell_same _ _ _ z,rd_store hr z _,fun g F=>by simpa using hX g F⟩
  .rw[upd_ne L xs e]
   obtain⟨I,n1,c1,J,W,Y⟩:=h.at_ j u
   exact⟨I,n1,c1,(World.cell?_setCell_other _ _ _ _ (fun G=>by injection G with _ G; omega)).trans J,rd_store W z _,fun g F=>by simpa using Y g F⟩
 .by_cases e:j=i
  .subst e; rw[upd_same]; exact hl
  .rw[upd_ne L xs e]; exact h.len j u
theorem own_fresh {X:Nat->Prop} {w:World} {base:Nat} {e:TypeId} {sz n:Nat} {v:Value} {xs:List Value} (h:w.ownsRow base e sz v n xs) (u:∀ g,X g->g < base):∀ g,v.ownBlock=some g->g < w.heap.size /\ ¬ X g:=fun g z=>by
 have:=h.lt g z
 exact⟨this.2,fun hx=>by have:=u g hx; omega⟩
theorem Lo.shun {X F:Nat->Prop} {w:World} {B p:Nat} {L:Nat->List Int} (h:Lo X w B p L) (G:∀ g,F g->X g\/w.heap.size<=g):Lo F w B p L:=by
 refine⟨fun i hi=>?_,h.len,h.free,h.lo,fun e=>?_⟩
 .obtain⟨A,n,c,I,J,u⟩:=h.at_ i hi
  refine⟨A,n,c,I,J,fun g z=>⟨(u g z).1,fun e=>?_⟩⟩
  rcases G g e with e | e
  .exact (u g z).2 e
  .have:=(u g z).1; omega
 .rcases G p e with e | e
  .exact h.px e
  .have:=h.lt; omega
theorem Fr.after {w w' z:World} {p:Nat} (h:Below w.heap.size w w') (u:Fr (some p) none w' z):Fr (some p) none w z:=
 ⟨u.os.trans h.os,u.tape.trans h.tape,u.output.trans h.output,Nat.le_trans h.size u.size,fun k hk F G=>(u.block k (Nat.lt_of_lt_of_le hk h.size) F G).trans (h.block k hk)⟩
theorem rd_fr {w w':World} {p:Nat} {A:Option Addr} {n c:Nat} {xs:List Int} (h:Rd (Value.int .u64) w w.heap.size A n c xs) (z:Fr (some p) none w w') (ha:∀ g,(Value.slice A n c).ownBlock=some g->g≠p):Rd (Value.int .u64) w' w'.heap.size A n c xs:=
 ⟨h.len,h.cap,h.top,fun hn=>by
  obtain⟨b,o,e,u,hc⟩:=h.at_ hn
  subst e
  exact⟨b,o,rfl,Nat.lt_of_lt_of_le u z.size,fun j x hx=>(z.cell (p:=⟨b,o+j,none⟩) u (fun e=>ha b rfl (by injection e)) (fun e=>by cases e)).trans (hc j x hx)⟩⟩
theorem new_any (X:Nat->Prop) (w:World) (B:Nat) (h:B<=w.heap.size) (u:∀ g,X g->g < w.heap.size) :
  Calls Tryz.prog 58 #[] w fun e w'=>∃ p,e=.returned (.pointer (some ⟨p,0,none⟩))/\Lo X w' B p (fun _=>[])/\w.heap.size<=p/\Below w.heap.size w w':=by
 go_enter Tryz.func58,Tryz.ntmps58
 go_wp2_with fail
 go_ret
 refine⟨w.heap.size,rfl,⟨fun i hi=>⟨none,0,0,?_,Rd.nil_,fun g z=>by cases z⟩,fun i hi=>by simp,fun i hi=>?_,h,fun e=>by have:=u _ e; omega⟩,Nat.le_refl _,(Below.refl _ _).alloc (Nat.le_refl _) _⟩
 .rcases (by omega:i=0\/i=1\/i=2\/i=3\/i=4\/i=5\/i=6\/i=7) with rfl | rfl | rfl | rfl | rfl | rfl | rfl | rfl <;> go_simp
 .rcases (by omega:i=0\/i=1\/i=2\/i=3\/i=4\/i=5\/i=6\/i=7) with rfl | rfl | rfl | rfl | rfl | rfl | rfl | rfl <;> go_simp
theorem known_yes (t:Int) (w:World) (h:0<=t) (u:t < 8) :
  Calls Tryz.prog 213 #[.int .i64 t] w fun e w'=>e=.returned (.bool true)/\w=w':=by
 have z:decide (0<=t)=true:=decide_eq_true h
 have d8:decide (t < 8)=true:=decide_eq_true u
 go_enter Tryz.func213,Tryz.ntmps213
 go_wp2_with fail
 go_ret
 exact⟨rfl,rfl⟩
theorem known_no (t:Int) (w:World) (h:t < 0\/8<=t) :
  Calls Tryz.prog 213 #[.int .i64 t] w fun e w'=>e=.returned (.bool false)/\w=w':=by
 by_cases h0:0<=t
 .have u:decide (0<=t)=true:=decide_eq_true h0
  have d8:decide (t < 8)=false:=decide_eq_false (by omega)
  go_enter Tryz.func213,Tryz.ntmps213
  go_wp2_with fail
  go_ret
  exact⟨rfl,rfl⟩
 .have u:decide (0<=t)=false:=decide_eq_false h0
  go_enter Tryz.func213,Tryz.ntmps213
  go_wp2_with fail
  go_ret
  exact⟨rfl,rfl⟩
theorem list_nil (t:Int) (w:World) :
  Calls Tryz.prog 191 #[.pointer none,.int .i64 t] w fun e w'=>e=.returned (.slice none 0 0)/\w=w':=by
 go_enter Tryz.func191,Tryz.ntmps191
 go_wp2_with fail
 go_ret
 exact⟨rfl,rfl⟩
theorem list_out (p:Nat) (t:Int) (w:World) (h:t < 0\/8<=t) :
  Calls Tryz.prog 191 #[.pointer (some ⟨p,0,none⟩),.int .i64 t] w fun e w'=>e=.returned (.slice none 0 0)/\w=w':=by
 go_enter Tryz.func191,Tryz.ntmps191
 go_wp2_with fail
 refine (known_no t _ h).mono ?_
 rintro e u ⟨rfl,rfl⟩
 go_wp2_with fail
 go_ret
 exact⟨rfl,rfl⟩
theorem list_in (p i:Nat) (w:World) (v:Value) (hi:i < 8) (hc:w.cell? ⟨p,i,none⟩=some v) :
  Calls Tryz.prog 191 #[.pointer (some ⟨p,0,none⟩),.int .i64 i] w fun e w'=>e=.returned v/\w=w':=by
 go_enter Tryz.func191,Tryz.ntmps191
 go_wp2_with fail
 refine (known_yes i _ (by omega) (by omega)).mono ?_
 rintro e h ⟨rfl,rfl⟩
 go_wp2_with fail
 go_ret
 exact⟨rfl,rfl⟩
theorem newest_any (A:Option Addr) (n c B:Nat) (xs:List Int) (w:World) (h:Rd (Value.int .u64) w B A n c xs) :
  Calls Tryz.prog 250 #[.slice A n c] w fun e w'=>∃ A' J Y,e=.returned (.slice A' J Y)/\J<=4/\Rd (Value.int .u64) w B A' J Y (last4 xs)/\w=w':=by
 have a5:=h.cap
 have a6:=h.top
 have u:=Lh h
 have W:=Lh h.len
 clear h
 by_cases hn:n<=4
 .have hm:max (0:Int) ((n:Int) - 4)=0:=by omega
  have F:=last4_short (l:=xs) (by rw[W.out]; exact hn)
  have z:=Lh F
  clear F
  cases A with
  | none=>
   have a1:n=0:=by
    rcases Nat.eq_zero_or_pos n with G | G
    .exact G
    .obtain⟨b,o,e,_⟩:=u.out.at_ G; cases e
   subst a1
   by_cases hc:c=0
   .subst hc
    go_enter Tryz.func250,Tryz.ntmps250
    go_wp2_with fail
    go_ret
    exact⟨_,_,_,rfl,by omega,by rw[z.out]; exact u.out,rfl⟩
   .go_enter Tryz.func250,Tryz.ntmps250
    go_wp2_with fail
    go_ret
    exact⟨_,_,_,rfl,by omega,by rw[z.out]; exact u.out,rfl⟩
  | some a=>
   go_enter Tryz.func250,Tryz.ntmps250
   go_wp2_with fail
   go_ret
   exact⟨_,_,_,rfl,by omega,by rw[z.out]; exact u.out,rfl⟩
 .obtain⟨b,o,x,rfl,_,_,_⟩:=u.out.get (k:=0) (by omega)
  obtain⟨m,I⟩:∃ m:Nat,n=m+4:=⟨n - 4,by omega⟩
  have hm:max (0:Int) ((n:Int) - 4)=(m:Int):=by omega
  have a3:m < c:=by omega
  have a4:¬ c=m:=by omega
  have a2:m<=n:=by omega
  have F:last4 xs=xs.drop m:=by unfold last4; rw[W.out,I]; rfl
  have hr:=u.out.back (i:=m) a2 rfl (A':=some ⟨b,o+m,none⟩) (fun _=>rfl)
  have z:=Lh F
  have a0:=Lh hr
  have HM:=Lh I
  clear F hr I
  go_enter Tryz.func250,Tryz.ntmps250
  go_wp2_with fail
  go_ret
  obtain rfl:m=n - 4:=by have:=HM.out; omega
  exact⟨_,_,_,rfl,by omega,by rw[z.out]; exact a0.out,rfl⟩
theorem put_out (p:Nat) (t:Int) (A:Option Addr) (n c:Nat) (w:World) (h:t < 0\/8<=t) :
  Calls Tryz.prog 233 #[.pointer (some ⟨p,0,none⟩),.int .i64 t,.slice A n c] w fun e w'=>e=.returned (.int .i64 2)/\w=w':=by
 go_enter Tryz.func233,Tryz.ntmps233
 go_wp2_with fail
 refine (known_no t _ h).mono ?_
 rintro e u ⟨rfl,rfl⟩
 go_wp2_with fail
 go_ret
 exact⟨rfl,rfl⟩
theorem put_in (X:Nat->Prop) (w:World) (B p i:Nat) (L:Nat->List Int) (A:Option Addr) (n c:Nat) (ids:List Int) (hX:∀ g,X g->g < w.heap.size) (h:Lo X w B p L) (hi:i < 8) (hr:Rd (Value.int .u64) w w.heap.size A n c ids) (hn:n<=1000) :
  Calls Tryz.prog 233 #[.pointer (some ⟨p,0,none⟩),.int .i64 i,.slice A n c] w fun e w'=>e=.returned (.int .i64 0)/\Lo X w' B p (upd L i (last4 (L i ++ ids)))/\Fr (some p) none w w':=by
 obtain⟨W,J,c0,h0,a1,_⟩:=h.at_ i hi
 have hl:=h.lt
 have ai:J<=4:=by rw[<- a1.len]; exact h.len i hi
 have ah:(i:Int) < 8:=by omega
 have HL:=Lh h
 have HR:=Lh hr
 have a2:=Lh a1
 have HX:=Lh hX
 clear h hr a1 hX
 go_enter Tryz.func233,Tryz.ntmps233
 go_wp2_with fail
 refine (known_yes i _ (by omega) (by omega)).mono ?_
 rintro e w1 ⟨rfl,rfl⟩
 go_wp2_with fail
 refine rgS 11 (fun w'=>Below w.heap.size w w') (by kernel_rfl) (by kernel_rfl) ?_
 intro a6
 have z:=Lh a6
 have u:=Lh (show Below w.heap.size w w.drew from (Below.refl _ _).drew)
 clear a6
 refine rq 0 z.out u.out rfl ?_
 refine rq 1 z.out u.out rfl ?_
 refine rq 2 z.out u.out rfl ?_
 refine rq 3 z.out u.out rfl ?_
 refine rq 4 z.out u.out rfl ?_
 refine rq 5 z.out u.out rfl ?_ (hv:=fun w' hw=>by (have k0:=(hw.cell (p:=⟨p,i,none⟩) hl).trans h0; go_simp; exact rfl))
 refine rq 6 z.out u.out rfl ?_
 refine rO 7 rfl (by kernel_rfl) rfl ?_
 unfold Oper.wp
 go_simp
 refine (newest_any A n c _ ids _ (HR.out.later u.out)).mono ?_
 rintro e w2 ⟨A2,n2,c2,rfl,aj,ad,rfl⟩
 have I:=Lh ad
 clear ad
 refine⟨u.out,?_⟩
 refine rO 8 rfl (by kernel_rfl) rfl ?_
 unfold Oper.wp
 go_simp
 have G:=Lh (show Below w.heap.size w (w.alloc (.cells #[.slice W J c0,.slice A2 n2 c2] 30)).drew from ((Below.refl _ _).alloc (Nat.le_refl _) _).drew)
 have a3:=Lh (show Rd (Value.int .u64) w w.heap.size A2 n2 c2 (last4 ids) from⟨I.out.len,I.out.cap,I.out.top,I.out.at_⟩)
 refine⟨G.out,?_⟩
 refine rO 9 rfl (by kernel_rfl) rfl ?_
 unfold Oper.wp
 go_simp
 refine (concat_two w.heap.size W A2 J c0 n2 c2 w.heap.size w.heap.size (L i) (last4 ids) (w.alloc (.cells #[.slice W J c0,.slice A2 n2 c2] 30)).drew (by go_simp) (by go_simp) (a2.out.below G.out) (a3.out.below G.out) (by simp) (by simp) (by simp) (by omega)).mono ?_
 rintro e w3 ⟨A3,c3,rfl,ac,a8⟩
 have Y:=Lh (G.out.trans (a8.mono G.out.size))
 have af:=Lh (Rd.own_rd ac)
 clear a8 ac I a3 G u a2 HR
 refine⟨Y.out,?_⟩
 refine rO 10 rfl (by kernel_rfl) rfl ?_
 unfold Oper.wp
 go_simp
 refine⟨Y.out,?_⟩
 refine rgD (by kernel_rfl) ?_
 go_wp2_with fail
 refine rgS 8 (fun w'=>Below w.heap.size w w') (by kernel_rfl) (by kernel_rfl) ?_
 intro a7
 have z:=Lh a7
 have u:=Lh (show Below w.heap.size w w3.drew from Y.out.drew)
 clear a7
 refine rq 0 z.out u.out rfl ?_
 refine rq 1 z.out u.out rfl ?_
 refine rq 2 z.out u.out rfl ?_
 refine rq 5 z.out u.out rfl ?_
 refine rq 6 z.out u.out rfl ?_
 refine rO 3 rfl (by kernel_rfl) rfl ?_
 unfold Oper.wp
 go_simp
 refine (newest_any A3 (J+n2) c3 _ (L i ++ last4 ids) _ af.out.drew).mono ?_
 rintro e w4 ⟨A4,n4,c4,rfl,ak,ae,rfl⟩
 have a4:=Lh ae
 clear ae
 refine⟨u.out,?_⟩
 refine rO 4 rfl (by kernel_rfl) rfl ?_
 unfold Oper.wp
 go_simp
 refine (Sl.clone_any A4 n4 c4 _ _ w3.drew a4.out (Nat.le_refl _) (by omega)).mono ?_
 rintro e w5 ⟨A5,c5,rfl,a0,a9⟩
 have F:=Lh (u.out.trans (a9.mono u.out.size))
 have a5:=Lh (Rd.own_rd a0)
 have ag:=Lh (own_fresh a0 (X:=X) (fun g hg=>Nat.lt_of_lt_of_le (HX.out g hg) u.out.size))
 clear a9 a0 a4 u
 have aa:(last4 (L i ++ last4 ids)).length<=4:=last4_len _
 obtain⟨q1,q2⟩:=(HL.out.later F.out).store hi a5.out aa ag.out
 rw[last4_append] at q1
 have Q1:=Lh q1
 have Q2:=Lh (Fr.after F.out q2)
 have k0:=(F.out.cell (p:=⟨p,i,none⟩) hl).trans h0
 have f0:=(F.out.frozen (p:=⟨p,i,none⟩) hl).trans (HL.out.free i hi)
 clear q1 q2 aa a5
 refine⟨F.out,?_⟩
 refine rq 7 z.out F.out rfl ?_
 refine rO 8 rfl (by kernel_rfl) rfl ?_
 unfold Oper.wp
 go_simp
 refine rgD (by kernel_rfl) ?_
 go_wp2_with fail
 go_ret
 exact⟨rfl,Q1.out,Q2.out⟩
theorem take_none (p:Option Addr) (t:Int) (w:World) (h:p=none \/ ∃ b,p=some ⟨b,0,none⟩/\(t < 0\/8<=t)) :
  Calls Tryz.prog 153 #[.pointer p,.int .i64 t] w fun e w'=>e=.returned (.tuple #[.int .u64 0,.bool false])/\w=w':=by
 rcases h with rfl | ⟨b,rfl,h⟩
 .go_enter Tryz.func153,Tryz.ntmps153
  go_wp2_with fail
  refine (list_nil t _).mono ?_
  rintro e u ⟨rfl,rfl⟩
  go_wp2_with fail
  go_ret2
  exact⟨rfl,rfl⟩
 .go_enter Tryz.func153,Tryz.ntmps153
  go_wp2_with fail
  refine (list_out b t _ h).mono ?_
  rintro e u ⟨rfl,rfl⟩
  go_wp2_with fail
  go_ret2
  exact⟨rfl,rfl⟩
theorem take_empty (X:Nat->Prop) (w:World) (B p i:Nat) (L:Nat->List Int) (h:Lo X w B p L) (hi:i < 8) (F:L i=[]) :
  Calls Tryz.prog 153 #[.pointer (some ⟨p,0,none⟩),.int .i64 i] w fun e w'=>e=.returned (.tuple #[.int .u64 0,.bool false])/\w=w':=by
 obtain⟨J,I,c0,z,u,_⟩:=h.at_ i hi
 have G:I=0:=by rw[<- u.len,F]; rfl
 subst G
 clear h u
 go_enter Tryz.func153,Tryz.ntmps153
 go_wp2_with fail
 refine (list_in p i _ _ hi z).mono ?_
 rintro e W ⟨rfl,rfl⟩
 go_wp2_with fail
 go_ret2
 exact⟨rfl,rfl⟩
theorem take_some (X:Nat->Prop) (w:World) (B p i:Nat) (L:Nat->List Int) (xs:List Int) (x:Int) (h:Lo X w B p L) (hi:i < 8) (J:L i=xs ++ [x]) :
  Calls Tryz.prog 153 #[.pointer (some ⟨p,0,none⟩),.int .i64 i] w fun e w'=>e=.returned (.tuple #[.int .u64 x,.bool true])/\Lo X w' B p (upd L i xs)/\Fr (some p) none w w':=by
 obtain⟨A0,n0,c0,G,F,a2⟩:=h.at_ i hi
 have a4:=Lh a2
 clear a2
 have hl:=h.lt
 have f0:=h.free i hi
 have Y:=F.len
 have a1:=h.len i hi
 rw[J] at Y a1
 obtain⟨m,hm⟩:∃ m,xs.length=m:=⟨_,rfl⟩
 simp only[List.length_append,List.length_cons,List.length_nil,hm] at Y a1
 subst Y
 have a9:(i:Int) < 8:=by omega
 obtain⟨b,o,y,rfl,hb,I,cy⟩:=F.get (k:=m) (by omega)
 have a6:y=x:=by
  rw[J,List.getElem?_append_right (by omega),hm,Nat.sub_self] at I
  injection I with I
  exact I.symm
 subst a6
 have W:=F.front (i:=m) (by omega)
 rw[J,List.take_append_of_le_length (by omega),List.take_of_length_le (by omega)] at W
 have a7:=F.cap
 have ad:=F.top
 have aa:m<=c0:=by omega
 have HL:=Lh h
 have HF:=Lh W
 have ac:((m:Int)+1 == 0)=false:=beq_eq_false_iff_ne.2 (by omega)
 have a3:xs.length<=4:=by omega
 have a5:=Lh a3
 clear h F I W J hm a3
 go_enter Tryz.func153,Tryz.ntmps153
 go_wp2_with fail
 refine (list_in p i _ _ hi G).mono ?_
 rintro e w1 ⟨rfl,rfl⟩
 go_wp2_with fail
 refine rgS 8 (fun w'=>Below w.heap.size w w') (by kernel_rfl) (by kernel_rfl) ?_
 intro a0
 have z:=Lh a0
 have u:=Lh (show Below w.heap.size w w.drew from (Below.refl _ _).drew)
 clear a0
 refine rq 0 z.out u.out rfl ?_
 refine rq 1 z.out u.out rfl ?_
 refine rq 2 z.out u.out rfl ?_
 refine rq 3 z.out u.out rfl ?_
 refine rq 4 z.out u.out rfl ?_
 refine rq 5 z.out u.out rfl ?_
 refine rq 6 z.out u.out rfl ?_
 refine rq 7 z.out u.out rfl ?_
 have k0:=(u.out.cell (p:=⟨p,i,none⟩) hl).trans G
 have k1:=(u.out.frozen (p:=⟨p,i,none⟩) hl).trans f0
 refine rO 8 rfl (by kernel_rfl) rfl ?_
 unfold Oper.wp
 go_simp
 obtain⟨q1,q2⟩:=(HL.out.later u.out).store hi (HF.out.later u.out) a5.out a4.out
 have Q1:=Lh q1
 have Q2:=Lh (Fr.after u.out q2)
 have a8:(w.setCell ⟨p,i,none⟩ (.slice (some ⟨b,o,none⟩) m c0)).cell? ⟨b,o+m,none⟩=some (.int .u64 y):=by
  refine (World.cell?_setCell_other _ _ _ _ (fun e=>?_)).trans cy
  injection e with e1 e2
  subst e1
  rw[e2] at G
  rw[cy] at G
  cases G
 clear q1 q2
 refine rgD (by kernel_rfl) ?_
 go_wp2_with fail
 go_ret2
 exact⟨rfl,Q1.out,Q2.out⟩
theorem all_in (X:Nat->Prop) (w:World) (B p i:Nat) (L:Nat->List Int) (h:Lo X w B p L) (hi:i < 8) :
  Calls Tryz.prog 310 #[.pointer (some ⟨p,0,none⟩),.int .i64 i] w fun e w'=>∃ A c,e=.returned (.slice A (L i).length c)/\Rd (Value.int .u64) w' w'.heap.size A (L i).length c (L i)/\(∀ g,(Value.slice A (L i).length c).ownBlock=some g->w.heap.size<=g)/\Below w.heap.size w w':=by
 obtain⟨G,n0,c0,Y,z,_⟩:=h.at_ i hi
 have F:=z.len
 have a0:=h.len i hi
 have W:=Lh z
 rw[F] at a0 ⊢
 clear h z F
 go_enter Tryz.func310,Tryz.ntmps310
 go_wp2_with fail
 refine (list_in p i _ _ hi Y).mono ?_
 rintro e w1 ⟨rfl,rfl⟩
 go_wp2_with fail
 refine (Sl.clone_any G n0 c0 _ _ w W.out (Nat.le_refl _) (by omega)).mono ?_
 rintro e w1 ⟨A,c,rfl,u,hb⟩
 have J:=Lh (Rd.own_rd u)
 have I:=Lh u.lt
 clear u
 go_wp2_with fail
 go_ret
 exact⟨A,c,rfl,J.out,fun g hg=>(I.out g hg).1,hb⟩
theorem put_t (X:Nat->Prop) (w:World) (B p i:Nat) (t:Int) (F:t=i) (L:Nat->List Int) (A:Option Addr) (n c:Nat) (ids:List Int) (u:∀ g,X g->g < w.heap.size) (h:Lo X w B p L) (hi:i < 8) (z:Rd (Value.int .u64) w w.heap.size A n c ids) (hn:n<=1000) :
  Calls Tryz.prog 233 #[.pointer (some ⟨p,0,none⟩),.int .i64 t,.slice A n c] w fun e w'=>e=.returned (.int .i64 0)/\Lo X w' B p (upd L i (last4 (L i ++ ids)))/\Fr (some p) none w w':=by
 subst F; exact put_in X w B p i L A n c ids u h hi z hn
theorem take_some_t (X:Nat->Prop) (w:World) (B p i:Nat) (t:Int) (z:t=i) (L:Nat->List Int) (xs:List Int) (x:Int) (h:Lo X w B p L) (hi:i < 8) (u:L i=xs ++ [x]) :
  Calls Tryz.prog 153 #[.pointer (some ⟨p,0,none⟩),.int .i64 t] w fun e w'=>e=.returned (.tuple #[.int .u64 x,.bool true])/\Lo X w' B p (upd L i xs)/\Fr (some p) none w w':=by
 subst z; exact take_some X w B p i L xs x h hi u
theorem all_t (X:Nat->Prop) (w:World) (B p i:Nat) (t:Int) (u:t=i) (L:Nat->List Int) (n:Nat) (hn:(L i).length=n) (h:Lo X w B p L) (hi:i < 8) :
  Calls Tryz.prog 310 #[.pointer (some ⟨p,0,none⟩),.int .i64 t] w fun e w'=>∃ A c,e=.returned (.slice A n c)/\Rd (Value.int .u64) w' w'.heap.size A n c (L i)/\(∀ g,(Value.slice A n c).ownBlock=some g->w.heap.size<=g)/\Below w.heap.size w w':=by
 subst u hn; exact all_in X w B p i L h hi
theorem fr_bel {w w':World} {B p:Nat} (h:Fr (some p) none w w') (u:B<=w.heap.size) (z:B<=p):Below B w w':=h.below u (fun k hk=>by injection hk with hk; omega) (fun k hk=>by cases hk)
theorem rd_lit (w:World) (cs:Array Value) (xs:List Int) (h:cs.toList=xs.map (Value.int .u64)) (n:Nat) (z:xs.length=n) (hn:n<=1000):Rd (Value.int .u64) (w.alloc (.cells cs 25)) (w.alloc (.cells cs 25)).heap.size (some ⟨w.heap.size,0,none⟩) n n xs:=by
 subst z
 have u:=World.ownsRow_lit (base:=w.heap.size) (e:=25) (size:=1) w cs xs.length (Nat.le_refl _) (by unfold maxLen; omega) (by rw[<- Array.length_toList,h]; simp)
 rw[h] at u
 exact Rd.own_rd u
theorem awake12_any (w:World) (hT:Tx.Tab w) :
  Calls Tryz.prog 301 #[] w fun e w'=>e=.returned (.bool true)/\Below w.heap.size w w':=by
 have HT:=Lh hT
 clear hT
 go_enter Tryz.func301,Tryz.ntmps301
 go_wp2_with fail
 refine (new_any (fun _=>False) _ w.heap.size (Nat.le_refl _) (fun g h=>h.elim)).mono ?_
 rintro e w1 ⟨p,rfl,h1,a3,I⟩
 have a4:=I.size
 go_wp2_with fail
 refine (put_t (fun _=>False) _ _ _ 1 1 rfl _ _ 5 5 [5,6,7,8,9] (fun g h=>h.elim) (h1.later ((Below.refl _ _).alloc (Nat.le_refl _) _)) (by omega) (rd_lit w1 _ _ rfl 5 rfl (by omega)) (by omega)).mono ?_
 rintro e w2 ⟨rfl,h2,a0⟩
 have b2:Below w.heap.size w w2:=(I.alloc a4 _).trans (fr_bel a0 (by simp; omega) a3)
 have z:=Lh h2
 have F:=Lh b2
 clear h1 h2 b2 I a0
 go_wp2_with fail
 refine (all_t _ _ _ _ 1 1 rfl _ 4 rfl z.out (by omega)).mono ?_
 rintro e w3 ⟨A3,c3,rfl,a1,a2,J⟩
 have a7:=z.out.lt
 have H3:=Lh (z.out.later J)
 have R3:=Lh a1
 have G:=Lh (F.out.trans (J.mono F.out.size))
 clear a1 J z F
 go_wp2_with fail
 refine (take_some_t _ _ _ _ 1 1 rfl _ [6,7,8] 9 H3.out (by omega) rfl).mono ?_
 rintro e w4 ⟨rfl,h4,Y⟩
 have R4:=Lh (show Rd (Value.int .u64) w4 w4.heap.size A3 4 c3 [6,7,8,9] from rd_fr R3.out Y (fun g h e=>by have:=a2 g h; omega))
 have u:=Lh (G.out.trans (fr_bel Y G.out.size h4.lo))
 have a5:=u.out.size
 clear h4 Y H3 R3 G a2
 go_wp2_with fail
 refine (St.Awake11_any _ (HT.out.below u.out)).mono ?_
 rintro e w5 ⟨rfl,W⟩
 have R5:=Lh (R4.out.later W)
 have B5:=Lh (u.out.trans (W.mono a5))
 have a6:=B5.out.size
 clear W R4 u
 go_wp2_with fail
 refine (equal_any A3 (some ⟨w5.heap.size,0,none⟩) 4 c3 4 4 [6,7,8,9] [6,7,8,9] _ _ _ (R5.out.alloc (Nat.le_refl _) _) (rd_lit w5 _ _ rfl 4 rfl (by omega))).mono ?_
 rintro e w6 ⟨rfl,q,rfl⟩
 rw[decide_eq_true rfl]
 go_wp2_with fail
 go_ret
 exact⟨rfl,bdN (B5.out.alloc a6 _) q⟩
theorem Awake12_any (w:World) (h:Tx.Tab w) :
  Calls Tryz.prog 290 #[] w fun e w'=>e=.returned (.bool true)/\Below w.heap.size w w':=by
 go_enter Tryz.func290,Tryz.ntmps290
 go_wp2_with fail
 refine (awake12_any _ h).mono ?_
 rintro e z ⟨rfl,u⟩
 go_wp2_with fail
 go_ret
 exact⟨rfl,u⟩
end Go.Proofs.YtoiklelghfckgaaGreatDoor.Lc
end
section
set_option maxHeartbeats 8000000
set_option linter.unusedVariables false
namespace Go.Proofs.YtoiklelghfckgaaGreatDoor.St
open Go.ChangeShapes Go.WideShapes Go.ChangeAt Go.RowKit Rw Hi
theorem info_rslot:(Tryz.prog.info? 231).map (fun i=>(i.zero,i.size,i.bytes))=some (some (.agg #[.int .i64 0,.int .u64 0,.int .u64 0]),3,24):=by kernel_rfl
theorem rof_any (A:Option Addr) (n c B:Nat) (l:List Sx) (t:Int) (w:World) (h:Rs enc3 3 w B A n c l) (hB:B<=w.heap.size) :
  Calls Tryz.prog 148 #[.slice A n c,.int .i64 t] w fun e w'=>e=.returned (.int .i64 (ixZ (hit t) l))/\Below w.heap.size w w':=by
 have hn:n<=9223372036854775807:=by have:=h.cap; have:=h.top; omega
 have I:=Lh h
 clear h
 go_enter Tryz.func148,Tryz.ntmps148
 go_wp2_with fail
 go_loopw [9] (fun i wr=>∃ k:Nat,k<=n/\i=.int .i64 k/\Miss (hit t) l k/\Below w.heap.size w wr) (fun i _=>n - (intOf i).toNat)
 case atStart=>exact⟨0,Nat.zero_le _,rfl,Miss.zero _ _,Below.refl _ _⟩
 case round=>
  obtain⟨k,hk,rfl,Q,u⟩:=hrel
  have F:=Lh Q
  have a0:=u.size
  clear Q
  by_cases hlt:k < n
  .obtain⟨b,o,x,rfl,hb,hx,c0,c1,c2⟩:=three_at I.out hlt
   have d0:=(u.cell (p:=⟨b,o+k * 3,none⟩) (by simp only; omega)).trans c0
   have d1:=(u.cell (p:=⟨b,o+k * 3+1,none⟩) (by simp only; omega)).trans c1
   have d2:=(u.cell (p:=⟨b,o+k * 3+2,none⟩) (by simp only; omega)).trans c2
   obtain⟨W,x1,x2⟩:=x
   have J:=Lh hx
   simp only at d0 d1 d2
   have G:=Lh (u.alloc a0 (.cells #[.int .i64 W,.int .u64 x1,.int .u64 x2] 231))
   clear c0 c1 c2 hx
   cases hq:(W == t:Bool) with
   | true=>
    have z:=Lh (ixZ_some (ix_some F.out J.out hq))
    go_wp2_with fail
    go_ret
    exact⟨by rw[z.out]; rfl,G.out⟩
   | false=>
    have Y:=Lh (F.out.succ J.out hq)
    go_wp2_with fail
    go_roundw
    case rel=>exact⟨k+1,by omega,by go_num,Y.out,G.out⟩
    case measure=>simp[intOf]; omega
  .have a1:k=n:=by omega
   have z:=Lh (ixZ_none (ix_none (p:=hit t) (l:=l) (by rw[I.out.len,<- a1]; exact F.out)))
   go_wp2_with fail
   go_ret
   exact⟨by rw[z.out]; rfl,u⟩
end Go.Proofs.YtoiklelghfckgaaGreatDoor.St
namespace Go.Proofs.YtoiklelghfckgaaGreatDoor.St
open Go.ChangeShapes Go.WideShapes Go.ChangeAt Go.RowKit Go.Deep Rw Hi
def fillR (L:List Sx) (i:Int):List Sx × Int × Bool:=if i=0 then (L,0,false) else match L.findIdx? free with
 | some k=>(match L[k]? with | some x=>(fillAt L k x i,x.1,true) | none=>(L,0,false))
 | none=>(L,0,false)
def takeR (L:List Sx) (t:Int):List Sx × Int × Bool:=match L.findIdx? (hit t) with
 | some k=>(match L[k]? with | some x=>(L.eraseIdx k,x.2.2,true) | none=>(L,0,false))
 | none=>(L,0,false)
theorem fillR_len (L:List Sx) (i:Int):(fillR L i).1.length=L.length:=by
 unfold fillR
 split
 .rfl
 .split
  .split
   .exact fillAt_len _ _ _ _
   .rfl
  .rfl
theorem Fr.of_below {w w':World} {a b:Option Nat} (h:Below w.heap.size w w'):Fr a b w w':=⟨h.os,h.tape,h.output,h.size,fun k hk _ _=>h.block k hk⟩
theorem fillU (w:World) (B p:Nat) (r:Option Nat) (L:List Sx) (i:Int) (h:Ss w B p r L) :
  Calls Tryz.prog 231 #[.pointer (some ⟨p,0,none⟩),.int .u64 i] w fun e w'=>e=.returned (.tuple #[.int .i64 (fillR L i).2.1,.bool (fillR L i).2.2])/\Ss w' B p r (fillR L i).1/\Fr (some p) r w w':=by
 unfold fillR
 by_cases hi:i=0
 .subst hi
  simp only[if_true]
  refine (fill_zero_any w p).mono ?_
  rintro e w' ⟨rfl,rfl⟩
  exact⟨rfl,h,Fr.refl _ _ _⟩
 .rw[if_neg hi]
  cases hf:L.findIdx? free with
  | none=>
   refine (fill_miss_any w B p r L i h hf hi).mono ?_
   rintro e w' ⟨rfl,u⟩
   exact⟨rfl,h.later u,Fr.of_below u⟩
  | some k=>
   obtain⟨x,hx,_,_⟩:=ix_hit hf
   simp only[hx]
   exact fill_hit_any w B p r L i k x h hf hx hi
theorem parkU (w:World) (B p:Nat) (r:Option Nat) (L:List Sx) (t d:Int) (h:Ss w B p r L) (hn:L.length<=1000) :
  Calls Tryz.prog 35 #[.pointer (some ⟨p,0,none⟩),.int .i64 t,.int .u64 d] w fun e w'=>e=.returned (.int .i64 (parkE L t)) /\ ∃ G,Ss w' B p G (parkL L t d)/\Fr (some p) r w w'/\(∀ g,G=some g->r=some g\/w.heap.size<=g):=by
 cases hf:L.findIdx? (hit t) with
 | none=>
  obtain⟨u,z⟩:=park_miss (d:=d) hf
  rw[u,z]
  exact park_miss_any w B p r L t d h hf hn
 | some k=>
  obtain⟨u,z⟩:=park_hit (d:=d) hf
  rw[u,z]
  refine (park_hit_any w B p r L t d k h hf).mono ?_
  rintro e w' ⟨rfl,F⟩
  exact⟨rfl,r,h.later F,Fr.of_below F,fun g I=>.inl I⟩
end Go.Proofs.YtoiklelghfckgaaGreatDoor.St
end
section
set_option maxRecDepth 100000
set_option maxHeartbeats 8000000
set_option linter.unusedVariables false
namespace Go.Proofs.YtoiklelghfckgaaGreatDoor.Ff
open Go.ChangeShapes Go.WideShapes Go.ChangeAt Go.RowKit Rw Go.Shelf Go.Sort
def ffF (k:Nat):Nat:=if k=129 then 288 else if k=264 then 368 else if k=284 then 314 else if k=285 then 315 else if k=317 then 322 else if k=318 then 323 else 0
def ffT (k:Nat):Nat:=if k=0 then 0 else if k=2 then 2 else if k=3 then 3 else if k=4 then 4 else if k=5 then 5 else if k=9 then 9 else if k=37 then 22 else if k=46 then 137 else if k=51 then 334 else if k=53 then 25 else if k=212 then 368 else 0
def ffG (k:Nat):Nat:=if k=17 then 2 else 0
def ffRen:Ren:={ f:=ffF,t:=ffT,g:=ffG }
theorem ffMul:Lays.n264 Tryz.prog ffRen:={
 mixed:=by kernel_rfl
 f264:=by kernel_rfl
 t46:=by kernel_rfl
 a46:=fun w=>by kernel_rfl
 z46:=fun w=>by kernel_rfl
 v46:=fun w=>by kernel_rfl
 t53:=by kernel_rfl
 a53:=fun w=>by kernel_rfl
 z53:=fun w=>by kernel_rfl
 v53:=fun w=>by kernel_rfl }
theorem ffBase:Lays.n285 Tryz.prog ffRen:={
 mixed:=by kernel_rfl
 f285:=by kernel_rfl
 t0:=by kernel_rfl
 a0:=fun w=>by kernel_rfl
 z0:=fun w=>by kernel_rfl
 v0:=fun w=>by kernel_rfl
 t3:=by kernel_rfl
 a3:=fun w=>by kernel_rfl
 z3:=fun w=>by kernel_rfl
 v3:=fun w=>by kernel_rfl
 t4:=by kernel_rfl
 a4:=fun w=>by kernel_rfl
 z4:=fun w=>by kernel_rfl
 v4:=fun w=>by kernel_rfl
 t5:=by kernel_rfl
 a5:=fun w=>by kernel_rfl
 z5:=fun w=>by kernel_rfl
 v5:=fun w=>by kernel_rfl
 t9:=by kernel_rfl
 a9:=fun w=>by kernel_rfl
 z9:=fun w=>by kernel_rfl
 v9:=fun w=>by kernel_rfl
 t37:=by kernel_rfl
 a37:=fun w=>by kernel_rfl
 z37:=fun w=>by kernel_rfl
 v37:=fun w=>by kernel_rfl
 t51:=by kernel_rfl
 a51:=fun w=>by kernel_rfl
 z51:=fun w=>by kernel_rfl
 v51:=fun w=>by kernel_rfl
 t53:=by kernel_rfl
 a53:=fun w=>by kernel_rfl
 z53:=fun w=>by kernel_rfl
 v53:=fun w=>by kernel_rfl }
def nud (u d:Int):Int:=IntKind.u64.wrap (u+IntKind.u64.wrap d)
def cei (u:Int):Int:=IntKind.u64.wrap (u+3) / 4
def flo (u:Int):Int:=IntKind.u64.wrap u / 4
def rou (u:Int):Int:=IntKind.u64.wrap (IntKind.u64.wrap (u+1)+bits BinOp.and IntKind.u64 (u / 4) 1) / 4
theorem wrap_in (x:Int):0<=IntKind.u64.wrap x/\IntKind.u64.wrap x < 18446744073709551616:=by rw[IntKind.wrap_u64]; omega
theorem cei_in (u:Int):0<=cei u/\cei u < 4611686018427387904:=by have:=wrap_in (u+3); unfold cei; omega
theorem flo_in (u:Int):0<=flo u/\flo u < 4611686018427387904:=by have:=wrap_in u; unfold flo; omega
theorem nudge_any (u d:Int) (w:World):Calls Tryz.prog 355 #[.int .u64 u,.int .i64 d] w fun e w'=>e=.returned (.int .u64 (nud u d))/\w'=w:=by
 go_enter Tryz.func355,Tryz.ntmps355
 go_wp2_with fail
 go_ret
 exact⟨rfl,rfl⟩
theorem ceil_any (u:Int) (w:World):Calls Tryz.prog 356 #[.int .u64 u] w fun e w'=>e=.returned (.int .u64 (cei u))/\w'=w:=by
 go_enter Tryz.func356,Tryz.ntmps356
 go_wp2_with fail
 go_ret
 exact⟨rfl,rfl⟩
theorem floor_any (u:Int) (w:World):Calls Tryz.prog 357 #[.int .u64 u] w fun e w'=>e=.returned (.int .u64 (flo u))/\w'=w:=by
 go_enter Tryz.func357,Tryz.ntmps357
 go_wp2_with fail
 go_ret
 exact⟨rfl,rfl⟩
theorem round_any (u:Int) (w:World):Calls Tryz.prog 358 #[.int .u64 u] w fun e w'=>e=.returned (.int .u64 (rou u))/\w'=w:=by
 go_enter Tryz.func358,Tryz.ntmps358
 go_wp2_with fail
 go_ret
 exact⟨rfl,rfl⟩
theorem log2_any (x:Int) (w:World) (h:-2000<=x) (u:x<=2000):Calls Tryz.prog 353 #[.int .i64 x] w fun e w'=>e=.returned (.int .i64 (x * 108853 / 32768))/\w'=w:=by
 go_enter Tryz.func353,Tryz.ntmps353
 go_wp2_with fail
 go_ret
 exact⟨rfl,rfl⟩
theorem skewed_any (x:Int) (w:World) (h:-2000<=x) (u:x<=2000):Calls Tryz.prog 351 #[.int .i64 x] w fun e w'=>e=.returned (.int .i64 ((x * 631305 - 261663) / 2097152))/\w'=w:=by
 go_enter Tryz.func351,Tryz.ntmps351
 go_wp2_with fail
 go_ret
 exact⟨rfl,rfl⟩
def b1 (b:Bool):Int:=if b=true then 1 else 0
theorem bool2u_any (b:Bool) (w:World):Calls Tryz.prog 369 #[.bool b] w fun e w'=>e=.returned (.int .u64 (b1 b))/\w'=w:=by
 cases b <;> (
  go_enter Tryz.func369,Tryz.ntmps369
  go_wp2_with fail
  go_ret
  exact⟨rfl,rfl⟩)
theorem bool2u_quiet {w:World} {k:Nat} (b:Bool):Calls Tryz.prog 369 #[.bool b] (w.drewN k) fun e z=>e=.returned (.int .u64 (b1 b)) /\ ∃ m,z=w.drewN m:=
 (bool2u_any b _).mono fun _ _ ⟨h,u⟩=>⟨h,k,u⟩
def mhi (x y:Nat):Int:=((x * y / 18446744073709551616:Nat):Int)
def mlo (x y:Nat):Int:=((x * y % 18446744073709551616:Nat):Int)
theorem mhi_in {x y:Nat} (hx:x < 18446744073709551616) (u:y < 18446744073709551616):0<=mhi x y/\mhi x y < 18446744073709551616:=by
 unfold mhi
 have h:x * y < 18446744073709551616 * 18446744073709551616:=Nat.mul_lt_mul'' hx u
 have z:x * y / 18446744073709551616 < 18446744073709551616:=Nat.div_lt_of_lt_mul h
 omega
theorem mlo_in (x y:Nat):0<=mlo x y/\mlo x y < 18446744073709551616:=by unfold mlo; omega
theorem mul_any (x y:Nat) (hx:x < 18446744073709551616) (h:y < 18446744073709551616) (w:World) :
  Calls Tryz.prog 368 #[.int .u64 x,.int .u64 y] w fun e w'=>e=.returned (.tuple #[.int .u64 (mhi x y),.int .u64 (mlo x y)])/\w'=w:=
 Any.bits_Mul64 ffMul x y hx h w
def usc (x h l:Nat) (q:Int):Int:=
 if IntKind.u64.wrap (mhi x h / 2 ^ q.toNat * 2 ^ q.toNat)≠mhi x h then bits BinOp.or IntKind.u64 (mhi x h / 2 ^ q.toNat) 1
 else bits BinOp.or IntKind.u64 (IntKind.u64.wrap (mhi x h - b1 (decide (mlo x h < mhi x l))) / 2 ^ q.toNat) (b1 (decide (1 < IntKind.u64.wrap (mlo x h - mhi x l))))
theorem uscale_any (x h l:Nat) (s:Int) (g:Nat) (w:World) (hx:x < 18446744073709551616) (F:h < 18446744073709551616) (G:l < 18446744073709551616)
  (c0:w.cell? ⟨g,0,none⟩=some (.int .u64 h)) (c1:w.cell? ⟨g,1,none⟩=some (.int .u64 l)) (c2:w.cell? ⟨g,2,none⟩=some (.int .i64 s))
  (q:Int) (hq:bits BinOp.and IntKind.i64 s 63=q) (a0:0<=q) (a1:q<=63) :
  Calls Tryz.prog 354 #[.int .u64 x,.pointer (some ⟨g,0,none⟩)] w fun e w'=>e=.returned (.int .u64 (usc x h l q)) /\ ∃ n,w'=w.drewN n:=by
 have I:=mul_any x h hx F
 have Y:=mul_any x l hx G
 obtain⟨B1,B2⟩:=mhi_in hx F
 obtain⟨b3,b4⟩:=mhi_in hx G
 obtain⟨b5,b6⟩:=mlo_in x h
 unfold usc
 generalize mhi x h=H at *
 generalize mlo x h=M at *
 generalize mhi x l=K at *
 obtain⟨T1,u⟩:∃ T,b1 (decide (M < K))=T:=⟨_,rfl⟩
 obtain⟨T2,z⟩:∃ T,b1 (decide (1 < IntKind.u64.wrap (M - K)))=T:=⟨_,rfl⟩
 rw[u,z]
 by_cases e1:IntKind.u64.wrap (H / 2 ^ q.toNat * 2 ^ q.toNat)=H
 .have J:(IntKind.u64.wrap (H / 2 ^ q.toNat * 2 ^ q.toNat) != H)=false:=by simp[e1]
  rw[if_neg (by simp[e1])]
  clear e1
  go_enter Tryz.func354,Tryz.ntmps354
  go_wp2_with fail
  refine (I _).mono ?_
  rintro e w' ⟨rfl,rfl⟩
  go_wp2_with fail
  refine (Y _).mono ?_
  rintro e w' ⟨rfl,rfl⟩
  go_wp2_with fail
  refine (bool2u_any _ _).mono ?_
  rintro e w' ⟨rfl,rfl⟩
  rw[u]
  go_wp2_with fail
  go_quiet ((go_at_call 369; refine (bool2u_quiet _).mono ?_; rintro e w2 ⟨rfl,W⟩; rw[z]; exact⟨rfl,W⟩))
  go_wp2_with fail
  go_ret
  exact⟨rfl,_,rfl⟩
 .have J:(IntKind.u64.wrap (H / 2 ^ q.toNat * 2 ^ q.toNat) != H)=true:=by simpa using e1
  rw[if_pos e1]
  clear e1
  go_enter Tryz.func354,Tryz.ntmps354
  go_wp2_with fail
  refine (I _).mono ?_
  rintro e w' ⟨rfl,rfl⟩
  go_wp2_with fail
  go_ret
  exact⟨rfl,0,rfl⟩
def Pw (hi lo:Nat->Nat) (w:World):Prop:=∀ i,i < 696->hi i < 18446744073709551616/\lo i < 18446744073709551616/\7 < w.heap.size/\w.cell? ⟨7,i * 2,none⟩=some (.int .u64 (hi i))/\w.cell? ⟨7,i * 2+1,none⟩=some (.int .u64 (lo i))
theorem Pw.below {hi lo:Nat->Nat} {w w':World} (h:Pw hi lo w) (u:Below w.heap.size w w'):Pw hi lo w':=fun i z=>by
 obtain⟨a,b,c,d,e⟩:=h i z
 exact⟨a,b,Nat.lt_of_lt_of_le c u.size,(u.cell (p:=⟨7,i * 2,none⟩) c).trans d,(u.cell (p:=⟨7,i * 2+1,none⟩) c).trans e⟩
theorem prescale_any (hi lo:Nat->Nat) (g:Nat) (e p h:Int) (w:World) (z:Pw hi lo w) (hg:g≠7) (a0:g < w.heap.size) (i:Nat) (hp:p - -348=(i:Int)) (F:i < 696)
  (he:-3000<=e/\e<=3000) (a1:-3000<=h/\h<=3000) (a b c:Value) (c0:w.cell? ⟨g,0,none⟩=some a) (c1:w.cell? ⟨g,1,none⟩=some b) (c2:w.cell? ⟨g,2,none⟩=some c) (f0:w.frozen? ⟨g,0,none⟩=false) (f1:w.frozen? ⟨g,1,none⟩=false) (f2:w.frozen? ⟨g,2,none⟩=false) :
  Calls Tryz.prog 352 #[.pointer (some ⟨g,0,none⟩),.int .i64 e,.int .i64 p,.int .i64 h] w fun u w'=>u=.returned (.tuple #[])/\w'=((w.setCell ⟨g,0,none⟩ (.int .u64 (hi i))).setCell ⟨g,1,none⟩ (.int .u64 (lo i))).setCell ⟨g,2,none⟩ (.int .i64 (-(e+h+3))):=by
 obtain⟨G,I,J,W,Y⟩:=z i F
 go_enter Tryz.func352,Tryz.ntmps352
 go_wp2_with fail
 exact bodyPost_end (v:=.tuple #[]) (by simp[results,Tryz.results352]) rfl ⟨rfl,rfl⟩
theorem and63 (s:Int):bits .and .i64 s 63=s % 64:=by
 show IntKind.i64.wrap ((BitVec.ofInt 64 s &&& BitVec.ofInt 64 63).toNat:Int)=_
 have h:(BitVec.ofInt 64 63).toNat=2 ^ 6 - 1:=by decide
 rw[BitVec.toNat_and,h,Nat.and_two_pow_sub_one_eq_mod,BitVec.toNat_ofInt,IntKind.wrap_i64]
 omega
theorem and1 (s:Int):bits .and .i64 s 1=s % 2:=by
 show IntKind.i64.wrap ((BitVec.ofInt 64 s &&& BitVec.ofInt 64 1).toNat:Int)=_
 have h:(BitVec.ofInt 64 1).toNat=2 ^ 1 - 1:=by decide
 rw[BitVec.toNat_and,h,Nat.and_two_pow_sub_one_eq_mod,BitVec.toNat_ofInt,IntKind.wrap_i64]
 omega
theorem pre_world (w:World) (T:TypeId) (a b c:Value) (u:World) (h:u=(((w.alloc (.cells #[.int .u64 0,.int .u64 0,.int .i64 0] T)).setCell ⟨w.heap.size,0,none⟩ a).setCell ⟨w.heap.size,1,none⟩ b).setCell ⟨w.heap.size,2,none⟩ c) :
  u.cell? ⟨w.heap.size,0,none⟩=some a/\u.cell? ⟨w.heap.size,1,none⟩=some b/\u.cell? ⟨w.heap.size,2,none⟩=some c/\Below w.heap.size w u:=by
 subst h
 refine⟨by go_simp,by go_simp,by go_simp,?_⟩
 exact (((Below.refl _ w).alloc (Nat.le_refl _) _).setCell (Nat.le_refl _) _ |>.setCell (Nat.le_refl _) _).setCell (Nat.le_refl _) _
def tl (hi lo:Nat->Nat) (m:Nat) (e:Int) (mn mx:Nat) (odd p:Int):Int × Int:=
 let i:=(p+348).toNat
 let q:=(-(e+p * 108853 / 32768+3)) % 64
 let dmin:=cei (nud (usc mn (hi i) (lo i) q) odd)
 let dmax:=flo (nud (usc mx (hi i) (lo i) q) (-odd))
 if dmin<=dmax / 10 * 10 then (dmax / 10,-(p - 1))
 else if dmin < dmax then (rou (usc m (hi i) (lo i) q),-p) else (dmin,-p)
theorem shortA (hi lo:Nat->Nat) (m:Nat) (e:Int) (w:World) (hP:Pw hi lo w) (hm:m < 18446744073709551616) (he:-1085<=e) (aw:e<=960) (h1:((m:Int) == 9223372036854775808)=true) (h2:decide (-1085 < e)=true)
  (p F:Int) (I mx:Nat) (hp:-(((e+11) * 631305 - 261663) / 2097152)=p) (a7:IntKind.u64.wrap (m - 512)=(I:Int)) (a8:IntKind.u64.wrap (m+1024)=(mx:Int)) (a3:bits .and .i64 (m / 2048) 1=F) (aj:I < 18446744073709551616) (ak:mx < 18446744073709551616) :
  Calls Tryz.prog 346 #[.int .u64 m,.int .i64 e] w fun h w'=>h=.returned (.tuple #[.int .u64 (tl hi lo m e I mx F p).1,.int .i64 (tl hi lo m e I mx F p).2])/\Below w.heap.size w w':=by
 go_enter Tryz.func346,Tryz.ntmps346
 go_wp2_with fail
 refine (skewed_any (e+11) _ (by omega) (by omega)).mono ?_
 rintro h w' ⟨rfl,rfl⟩
 go_wp2_with fail
 have ay:-330<=p/\p<=330:=by omega
 obtain⟨i,a5⟩:∃ i:Nat,(p+348).toNat=i:=⟨_,rfl⟩
 have a9:p - -348=(i:Int):=by omega
 have a6:i < 696:=by omega
 have ax:0<=F/\F<=1:=by rw[and1] at a3; omega
 have HP:=Lh hp
 have av:=Lh a3
 have HI:=Lh a5
 have ag:=Lh a9
 have ar:=Lh a7
 have au:=Lh a8
 clear hp a3 a5 a9 a7 a8
 obtain⟨hh,hl,ai,al,an⟩:=hP i a6
 refine (log2_any p _ (by omega) (by omega)).mono ?_
 rintro h W ⟨rfl,rfl⟩
 have a4:Pw hi lo (w'.alloc (Obj.cells #[Value.int IntKind.u64 0,Value.int IntKind.u64 0,Value.int IntKind.i64 0] 396)):=hP.below ((Below.refl _ _).alloc (Nat.le_refl _) _)
 go_wp2_with fail
 refine (prescale_any hi lo _ e p _ _ a4 (by omega) (by simp) i ag.out a6 (by omega) (by omega) (.int .u64 0) (.int .u64 0) (.int .i64 0) (by go_simp) (by go_simp) (by go_simp) (by go_simp) (by go_simp) (by go_simp)).mono ?_
 rintro h W ⟨rfl,ac⟩
 obtain⟨c0,c1,c2,HB⟩:=pre_world w' _ _ _ _ _ ac
 clear ac a4 al an ai
 obtain⟨q,hq⟩:∃ q,(-(e+p * 108853 / 32768+3)) % 64=q:=⟨_,rfl⟩
 have aa:0<=q/\q<=63:=by omega
 have HQ:=Lh hq
 clear hq
 have cu:∀ (x:Nat) (k:Nat),x < 18446744073709551616->Calls Tryz.prog 354 #[.int .u64 x,.pointer (some ⟨w'.heap.size,0,none⟩)] (W.drewN k) fun e ad=>e=.returned (.int .u64 (usc x (hi i) (lo i) q)) /\ ∃ n,ad=W.drewN n:=fun x k hx=>
  (uscale_any x (hi i) (lo i) _ w'.heap.size (W.drewN k) hx hh hl c0 c1 c2 q ((and63 _).trans HQ.out) aa.1 aa.2).mono fun e ad ⟨he,n,hn⟩=>⟨he,k+n,by rw[hn,World.drewN_drewN]⟩
 obtain⟨u,Y⟩:∃ x,cei (nud (usc I (hi i) (lo i) q) F)=x:=⟨_,rfl⟩
 obtain⟨z,a0⟩:∃ x,flo (nud (usc mx (hi i) (lo i) q) (-F))=x:=⟨_,rfl⟩
 have ao:=cei_in (nud (usc I (hi i) (lo i) q) F)
 have aq:=flo_in (nud (usc mx (hi i) (lo i) q) (-F))
 rw[Y] at ao
 rw[a0] at aq
 have a2:∀ n,Below w'.heap.size w' (W.drewN n):=fun n=>bdN HB n
 have HT:=Lh (show tl hi lo m e I mx F p=(if u<=z / 10 * 10 then (z / 10,-(p - 1)) else if u < z then (rou (usc m (hi i) (lo i) q),-p) else (u,-p)) by unfold tl; simp only[HI.out,HQ.out,Y,a0])
 have ae:=Lh Y
 have af:=Lh a0
 clear Y a0
 go_wp2_with fail
 refine (cu I 0 aj).mono ?_
 rintro h J ⟨rfl,n2,rfl⟩
 go_wp2_with fail
 refine (nudge_any _ _ _).mono ?_
 rintro h J ⟨rfl,rfl⟩
 go_wp2_with fail
 refine (ceil_any _ _).mono ?_
 rintro h J ⟨rfl,rfl⟩
 rw[ae.out]
 go_wp2_with fail
 refine (cu mx _ ak).mono ?_
 rintro h J ⟨rfl,n3,rfl⟩
 go_wp2_with fail
 refine (nudge_any _ _ _).mono ?_
 rintro h J ⟨rfl,rfl⟩
 go_wp2_with fail
 refine (floor_any _ _).mono ?_
 rintro h J ⟨rfl,rfl⟩
 rw[af.out]
 by_cases g1:u<=z / 10 * 10
 .have ah:decide (u<=z / 10 * 10)=true:=decide_eq_true g1
  have G:=Lh g1
  clear g1
  go_wp2_with fail
  exact bodyPost_ret (v:=.tuple #[.int .u64 (z / 10),.int .i64 (-(p - 1))]) (by simp[results,Tryz.results346,go_sem]) rfl ⟨by rw[HT.out,if_pos G.out],a2 _⟩
 .have ah:decide (u<=z / 10 * 10)=false:=decide_eq_false g1
  have G:=Lh g1
  clear g1
  by_cases g2:u < z
  .have a1:decide (u < z)=true:=decide_eq_true g2
   go_wp2_with fail
   refine (cu m _ hm).mono ?_
   rintro h J ⟨rfl,n4,rfl⟩
   go_wp2_with fail
   refine (round_any _ _).mono ?_
   rintro h J ⟨rfl,rfl⟩
   go_wp2_with fail
   exact bodyPost_ret (v:=.tuple #[.int .u64 (rou (usc m (hi i) (lo i) q)),.int .i64 (-p)]) (by simp[results,Tryz.results346,go_sem]) rfl ⟨by rw[HT.out,if_neg (Int.not_le.2 G.out),if_pos (of_decide_eq_true a1)],a2 _⟩
  .have a1:decide (u < z)=false:=decide_eq_false g2
   go_wp2_with fail
   exact bodyPost_ret (v:=.tuple #[.int .u64 u,.int .i64 (-p)]) (by simp[results,Tryz.results346,go_sem]) rfl ⟨by rw[HT.out,if_neg (Int.not_le.2 G.out),if_neg (of_decide_eq_false a1)],a2 _⟩
abbrev e8:UInt8->Value:=fun b=>.int .u8 (b.toNat:Int)
abbrev zeros32:Array Value:=#[.int .u8 0,.int .u8 0,.int .u8 0,.int .u8 0,.int .u8 0,.int .u8 0,.int .u8 0,.int .u8 0,.int .u8 0,.int .u8 0,.int .u8 0,.int .u8 0,.int .u8 0,.int .u8 0,.int .u8 0,.int .u8 0,.int .u8 0,.int .u8 0,.int .u8 0,.int .u8 0,.int .u8 0,.int .u8 0,.int .u8 0,.int .u8 0,.int .u8 0,.int .u8 0,.int .u8 0,.int .u8 0,.int .u8 0,.int .u8 0,.int .u8 0,.int .u8 0]
theorem zeros32_at:∀ j,j < 32->zeros32[j]? = some (.int .u8 0)
 | 0,_=>rfl
 | 1,_=>rfl
 | 2,_=>rfl
 | 3,_=>rfl
 | 4,_=>rfl
 | 5,_=>rfl
 | 6,_=>rfl
 | 7,_=>rfl
 | 8,_=>rfl
 | 9,_=>rfl
 | 10,_=>rfl
 | 11,_=>rfl
 | 12,_=>rfl
 | 13,_=>rfl
 | 14,_=>rfl
 | 15,_=>rfl
 | 16,_=>rfl
 | 17,_=>rfl
 | 18,_=>rfl
 | 19,_=>rfl
 | 20,_=>rfl
 | 21,_=>rfl
 | 22,_=>rfl
 | 23,_=>rfl
 | 24,_=>rfl
 | 25,_=>rfl
 | 26,_=>rfl
 | 27,_=>rfl
 | 28,_=>rfl
 | 29,_=>rfl
 | 30,_=>rfl
 | 31,_=>rfl
 | j+32,h=>absurd h (by omega)
def trl (ds:List UInt8):Nat->Nat
 | 0=>0
 | k+1=>if ds[k]? = some 48 then trl ds k else k+1
theorem digits_at (u j:Nat) (h:j < Lib.nDigits u):∃ x,(Lib.decDigits u)[j]? = some x:=by
 have:j < (Lib.decDigits u).length:=by rw[Lib.decDigits_length]; exact h
 exact⟨_,List.getElem?_eq_getElem this⟩
theorem nd20 (u:Nat) (h:1<=u) (z:u < 18446744073709551616):1<=Lib.nDigits u/\Lib.nDigits u<=20:=by
 have F:1<=Lib.nDigits u:=by rw[Lib.nDigits]; split <;> omega
 have:=Lib.numDigits_eq u h z
 split at this <;> omega
theorem put_other (w:World) (h:Nat) (u:Array UInt8) (i:Nat) (z:i≠h):(putRow e8 w h 0 u).heap[i]? = w.heap[i]?:=by
 have:¬ h=i:=fun e=>z e.symm
 simp[putRow,mapBlock,Array.getElem?_modify,this]
theorem setDigits_any (h d:Nat) (p:Int) (w:World) (hz:∀ j,j < 32->w.cell? ⟨h,j,none⟩=some (.int .u8 0)/\w.frozen? ⟨h,j,none⟩=false) (a7:1<=d) (hd:d < 18446744073709551616) (hp:-400<=p/\p<=400) (n:Nat) (hn:Lib.nDigits d=n) :
  Calls Tryz.prog 341 #[.slice (some ⟨h,0,none⟩) 32 32,.int .u64 d,.int .i64 p,.int .i64 n] w fun e w'=>e=.returned (.tuple #[.int .i64 (n+p),.int .i64 (trl (Lib.decDigits d) n)]) /\
   (∀ j x,(Lib.decDigits d)[j]? = some x->w'.cell? ⟨h,j,none⟩=some (e8 x))/\w.grownBy w' (some h):=by
 have a8:=nd20 d a7 hd
 rw[hn] at a8
 have a0:Holds e8 w h 0 (Array.replicate n (0:UInt8)):=fun j z=>by
  have a9:j < n:=by simpa using z
  obtain⟨a,b⟩:=hz j (by omega)
  refine⟨?_,by rw[Nat.zero_add]; exact b⟩
  rw[Nat.zero_add,a,getElem!_pos _ j z]
  simp[e8]
 have a1:=Any.internal_strconv_formatBase10 (P:=Tryz.prog) (ρ:=ffRen) ffBase h 0 32 d (Array.replicate n 0) w a0 (by rw[Array.size_replicate,<- hn]; exact Lib.lt_pow_nDigits d) hd (by rw[Array.size_replicate]; omega)
 rw[Array.size_replicate] at a1
 have HF:=Lh a1
 have a2:=Lh a0
 have Y:=Lh hn
 clear a1 a0 hz hn
 go_enter Tryz.func341,Tryz.ntmps341
 go_wp2_with fail
 refine HF.out.mono ?_
 rintro e w' ⟨rfl,k,v',G,rfl,I⟩
 obtain⟨F,J⟩:∃ F,F=(putRow e8 w h 0 G).drewN k:=⟨_,rfl⟩
 have a3:∀ j x,(Lib.decDigits d)[j]? = some x->F.cell? ⟨h,j,none⟩=some (e8 x):=by
  intro j x hx
  obtain⟨z,rfl⟩:=List.getElem?_eq_some_iff.1 hx
  have a6:Lib.FmtInv (Lib.nDigits d) d 0 v' G:=by rw[Y.out]; exact I
  have h1:=Lib.row_is_numeral a6 j z
  rw[J,World.cell?_drewN,h1]
  have h2:=cell?_putRow e8 w h 0 _ G a2.out (by rw[I.size,Array.size_replicate]) j (by rw[I.size]; rw[Lib.decDigits_length,Y.out] at z; exact z)
  rw[Nat.zero_add] at h2
  exact h2
 have a4:w.grownBy F (some h):=by
  rw[J]
  exact⟨rfl,rfl,rfl,by simp,fun i hi a5=>put_other w h G i (fun e=>a5 (by rw[e]))⟩
 rw[<- J]
 have W:=Lh a3
 have HG:=Lh a4
 clear a3 a4 J I HF a2
 go_wp2_with fail
 go_loopw [3] (fun s3 wr=>∃ q:Nat,s3=.int .i64 q/\q<=n/\Hid (trl (Lib.decDigits d) q=trl (Lib.decDigits d) n/\wr=F)) (fun s3 _=>(intOf s3).toNat)
 case atStart=>exact⟨n,rfl,Nat.le_refl _,rfl,rfl⟩
 case round=>
  obtain⟨q,rfl,hq,u⟩:=hrel
  cases q with
  | zero=>
   have e0:=u.out.2
   subst e0
   go_wp2_with fail
   go_ret2
   refine⟨by rw[<- u.out.1]; rfl,W.out,HG.out⟩
  | succ m=>
   obtain⟨x,hx⟩:=digits_at d m (by rw[Y.out]; omega)
   have hc:=W.out m x hx
   rw[<- u.out.2] at hc
   have ac:decide ((0:Int) < ((m+1:Nat):Int))=true:=decide_eq_true (by omega)
   have aa:((m+1:Nat):Int) - 1=(m:Int):=by omega
   have b0:(0:Int)<=(m:Int):=by omega
   have b1:(m:Int) < 32:=by omega
   have HX:=Lh hx
   clear hx
   by_cases h48:x=48
   .subst h48
    go_wp2_with fail
    go_roundw
    case rel=>exact⟨m,by go_num,by omega,by rw[<- u.out.1]; conv=>rhs; unfold trl; rw[if_pos HX.out],u.out.2⟩
    case measure=>simp[intOf]
   .have a5:(((x.toNat:Int)) == 48)=false:=by
     rw[beq_eq_false_iff_ne]
     intro e
     apply h48
     apply UInt8.toNat_inj.1
     show x.toNat=48
     omega
    go_wp2_with fail
    go_ret2
    have e0:=u.out.2
    subst e0
    refine⟨?_,W.out,HG.out⟩
    have:trl (Lib.decDigits d) (m+1)=m+1:=by unfold trl; rw[if_neg (by rw[HX.out]; intro e; exact h48 (by injection e))]
    rw[<- u.out.1,this]
    rfl
theorem info_u8:(Tryz.prog.info? 5).map (fun i=>(i.zero,i.size,i.bytes))=some (some (.int .u8 0),1,1):=by kernel_rfl
theorem one_u8 (y:Int):(Value.int .u8 y).oneCell'=true:=rfl
structure Ap (base hb:Nat) (ds:List Int) (w0:World) (l:List Int) (A:Option Addr) (n c:Nat) (w:World):Prop where
 own:w.ownsRow base 5 1 (.slice A n c) n (l.map (Value.int .u8))
 ne:(Value.slice A n c).ownBlock≠some hb
 lt:hb < w.heap.size
 dig:∀ j x,ds[j]? = some x->w.cell? ⟨hb,j,none⟩=some (.int .u8 x)
 bel:Below base w0 w
 bs:base<=w.heap.size
 few:n<=1000
section
variable {ops:Array Oper} {rest:List Oper} {o:Oper} {a:Act} {Q:Exit->Act->World->Prop}
theorem Ap.app {base I:Nat} {G:List Int} {J:World} {l:List Int} {A:Option Addr} {n c:Nat} {w:World} (h:Ap base I G J l A n c w) (b:Int) (a0:o.guard=none) (s x:Operand)
  (ho:o.op=.call { callee:=.builtin .append,args:=#[s,x],argTypes:=#[22,22] }) (hs:a.eval s=.slice A n c) (hx:a.eval x=.slice (some ⟨w.heap.size,0,none⟩) 1 1) (few:n+1<=1000) (k:Nat) (hk:n+1=k)
  (K:∀ A' z w',Ap base I G J (l ++ [b]) A' k z w'->wpList Tryz.prog ops Q rest (a.put o.dst (.slice A' k z)) w'):wpList Tryz.prog ops Q (o :: rest) a (w.alloc (.cells #[.int .u8 b] 5)):=by
 subst hk
 obtain⟨i0,hi,a2,a3,a4⟩:=info_parts info_u8
 have a1:Rd (Value.int .u8) (w.alloc (.cells #[.int .u8 b] 5)) (w.heap.size+1) (some ⟨w.heap.size,0,none⟩) 1 1 [b]:=rd_one (enc:=Value.int .u8) w b 5
 refine apRd _ a0 s x 22 ho base 5 i0 (.int .u8 0) 1 Tryz.underlying22 hi a2 a3 a4 rfl _ n _ hs (h.own.alloc _) _ _ 1 1 [b] hx a1 one_u8 (n+1) rfl ((l ++ [b]).map (Value.int .u8)) (by simp) (by unfold maxLen; omega) (by omega) (by have:=h.bs; simp; omega) ?_
 intro A' z w' W F u
 refine K A' z w' ⟨W,?_,?_,fun j y hy=>?_,?_,?_,few⟩
 .intro e
  rcases u with u | u
  .exact h.ne (u.symm.trans e)
  .rw[u] at e
   injection e with e
   have:=h.lt
   simp at e
   omega
 .have:=F.size; have:=h.lt; simp at *; omega
 .exact F.cell (alC (h.dig j y hy) _) (fun e=>h.ne e.symm)
 .exact ((h.bel).alloc h.bs _).grown F (by have:=h.bs; simp; omega) (fun g Y=>(h.own.lt g Y).1)
 .have:=F.size; have:=h.bs; simp at *; omega
end
theorem efg_quarter (base W:Nat) (F:List Int) (w0 w:World) (A:Option Addr) (c:Nat) (h:Ap base W F w0 [] A 0 c w) (h0:F[0]? = some 50) (h1:F[1]? = some 53) :
  Calls Tryz.prog 339 #[.slice A 0 c,.bool false,.slice (some ⟨W,0,none⟩) 32 32,.int .i64 0,.int .i64 2,.int .i64 2,.int .u8 103,.bool true] w fun e w'=>∃ A' c',e=.returned (.slice A' 4 c')/\Ap base W F w0 [48,46,50,53] A' 4 c' w':=by
 have H:=Lh h
 have H0:=Lh h0
 have H1:=Lh h1
 clear h h0 h1
 have m1:max (2:Int) 0=2:=by decide
 have m2:max (0:Int) 0=0:=by decide
 have m3:min (2:Int) 0=0:=by decide
 have m4:max (0:Int) 2=2:=by decide
 have m5:min (2:Int) 2=2:=by decide
 go_enter Tryz.func339,Tryz.ntmps339
 go_wp2_with (at_builtin; (refine Ap.app H.out 48 rfl _ _ rfl rfl rfl (by omega) 1 rfl ?_; intro A1 c1 w1 u; refine Hid.out ?_))
 refine Lh ?_
 have a0:=Lh u
 clear u
 go_wp2_with (at_builtin; (refine Ap.app a0.out 46 rfl _ _ rfl rfl rfl (by omega) 2 rfl ?_; intro A2 c2 w2 u))
 have a1:=Lh u
 clear u H a0
 go_wp2_with fail
 go_loopw [0,240] (fun J z wr=>J=.slice A2 2 c2/\z=.int .i64 0/\Hid (wr=w2)) (fun _ _ _=>0)
 case atStart=>exact⟨rfl,rfl,rfl⟩
 case round=>
  obtain⟨rfl,rfl,hw⟩:=hrel
  have Y:=hw.out
  subst Y
  clear hw
  go_wp2_with fail
  go_loopw [0,30,247] (fun J _ z wr=>∃ (q:Nat) (G:Option Addr) (c9 I:Nat),q<=2/\I=2+q/\J=.slice G I c9/\z=.int .i64 q/\Hid (Ap base W F w0 ([48,46] ++ [50,53].take q) G I c9 wr)) (fun _ _ z _=>2 - (intOf z).toNat)
  case atStart=>exact⟨0,A2,c2,2,by omega,by omega,rfl,rfl,a1.out⟩
  case round=>
   clear a1
   obtain⟨q,G,c9,I,hq,a4,rfl,rfl,u⟩:=hrel
   by_cases hqr:q < 2
   .have qd:decide ((q:Int) < 2)=true:=decide_eq_true (by omega)
    obtain⟨x,hx,hy⟩:∃ x:Int,F[q]? = some x/\[48,46] ++ [50,53].take q ++ [x] = [48,46] ++ [50,53].take (q+1):=by
     match q,hqr with
     | 0,_=>exact⟨50,H0.out,rfl⟩
     | 1,_=>exact⟨53,H1.out,rfl⟩
    have hc:=u.out.dig q x hx
    have b0:(0:Int)<=(q:Int):=by omega
    have b1:(q:Int) < 32:=by omega
    have HY:=Lh hy
    clear hx hy
    go_wp2_with (at_builtin; (refine Ap.app u.out x rfl _ _ rfl rfl rfl (by omega) _ rfl ?_; intro A8 c8 w8 a2))
    have H8:=Lh a2
    clear a2
    go_roundw
    case rel=>exact⟨q+1,A8,c8,2+q+1,by omega,by omega,rfl,by go_num,by rw[<- HY.out,<- a4]; exact H8⟩
    case measure=>simp[intOf]; omega
   .have qd:decide ((q:Int) < 2)=false:=decide_eq_false (by omega)
    obtain rfl:q=2:=by omega
    obtain rfl:I=4:=by omega
    go_wp2_with fail
    obtain⟨wq,a3⟩:∃ wq,wq=wr:=⟨_,rfl⟩
    rw[<- a3] at u
    subst a3
    go_loopw [0,261] (fun J z wx=>J=.slice G 4 c9/\z=.int .i64 0/\Hid (wx=wq)) (fun _ _ _=>0)
    case atStart=>exact⟨rfl,rfl,rfl⟩
    case round=>
     obtain⟨rfl,rfl,hw⟩:=hrel
     have Y:=hw.out
     subst Y
     clear hw
     go_wp2_with fail
     go_ret
     exact⟨G,c9,rfl,u.out⟩
end Go.Proofs.YtoiklelghfckgaaGreatDoor.Ff
end
section
set_option maxRecDepth 100000
set_option maxHeartbeats 8000000
set_option linter.unusedVariables false
namespace Go.Proofs.YtoiklelghfckgaaGreatDoor.Tb
open Go.ChangeShapes Go.WideShapes Go.ChangeAt Go.RowKit Rw
set_option maxRecDepth 100000
def hiT (i:Nat):Nat:=(Pinned.pow10Rows.getD i (0,0)).1
def loT (i:Nat):Nat:=(Pinned.pow10Rows.getD i (0,0)).2
theorem rows_ok:(Pinned.pow10Rows.all fun x=>decide (x.1 < 18446744073709551616) && decide (x.2 < 18446744073709551616))=true:=by kernel_rfl
theorem pow_of_reads {w:World} (h4:Lib.VarReads Tryz.prog w "internal/strconv.pow10Tab" Pinned.pow10Tab):Ff.Pw hiT loT w:=by
 intro i hi
 obtain⟨g,t,cs,a2,p,z,a1,a0,hd⟩:=h4
 obtain rfl:=Option.some.inj ((show Tryz.prog.globalNamed "internal/strconv.pow10Tab" = some 7 by kernel_rfl).symm.trans z)
 obtain rfl:=Option.some.inj ((show (Tryz.prog.globals[7]?).map (·.type)=some 408 by kernel_rfl).symm.trans a1)
 obtain⟨a3,d,q,J,W⟩:=Lib.array_elem Tryz.underlying408 hd i hi
 rw[List.getElem?_map] at J
 obtain⟨x,hx,rfl⟩:=Option.map_eq_some_iff.1 J
 have c2:Tryz.prog.cellsOf 407=2:=by kernel_rfl
 have c1:Tryz.prog.cellsOf 25=1:=by kernel_rfl
 rw[c2] at W
 have I:=Lib.ints_of_struct (k:=.u64) (zs:=[(x.1:Int),(x.2:Int)]) Tryz.underlying407 (fun j f h=>by
  match j,h with
  | 0,h=>simp at h; subst h; exact⟨Tryz.underlying25,rfl,c1⟩
  | 1,h=>simp at h; subst h; exact⟨Tryz.underlying25,rfl,c1⟩
  | j+2,h=>simp at h) (by rw[c2]; rfl) W
 have F:=congrArg (·[0]?) I
 have G:=congrArg (·[1]?) I
 simp only[List.getElem?_take,List.getElem?_drop] at F G
 have u:=List.all_eq_true.1 rows_ok x (List.mem_of_getElem? hx)
 simp only[Bool.and_eq_true,decide_eq_true_eq] at u
 have Y:hiT i=x.1:=by unfold hiT; rw[List.getD_eq_getElem?_getD,hx]; rfl
 have hl:loT i=x.2:=by unfold loT; rw[List.getD_eq_getElem?_getD,hx]; rfl
 have q0:w.cell? ⟨7,i * 2,none⟩=some (.int .u64 (hiT i)):=by
  rw[World.var?_cell z a0 (i * 2),<- Array.getElem?_toList,Y]
  simpa using F
 have q1:w.cell? ⟨7,i * 2+1,none⟩=some (.int .u64 (loT i)):=by
  rw[World.var?_cell z a0 (i * 2+1),<- Array.getElem?_toList,hl]
  simpa using G
 exact⟨by rw[Y]; exact u.1,by rw[hl]; exact u.2,Lw.ltH q0,q0,q1⟩
theorem tab_of_reads {w:World} (h:Lib.VarReads Tryz.prog w "internal/strconv.uint64pow10" (Lib.tabData .u64 Lib.pow10Tab)):Tx.Tab w:=by
 obtain⟨g,t,cs,I,p,z,F,G,u⟩:=h
 obtain rfl:=Option.some.inj ((show Tryz.prog.globalNamed "internal/strconv.uint64pow10" = some 2 by kernel_rfl).symm.trans z)
 obtain rfl:=Option.some.inj ((show (Tryz.prog.globals[2]?).map (·.type)=some 368 by kernel_rfl).symm.trans F)
 unfold Tx.Tab Lib.TabIs
 rw[G,<- Lib.cells_of_tab Tryz.underlying368 Tryz.underlying25 (by kernel_rfl) (by kernel_rfl) u]
def keyT:List (List UInt8):=[[109,97,120,61],[109,105,110,61],[105,100,108,101,61],[108,105,102,101,61],[107,101,101,112,61],[108,101,97,107,61],[118,97,114,105,97,110,99,101,61]]
def keyD:DataW Unit:=.agg (keyT.map fun s=>.lit (.string s))
def Keys (w:World):Prop:=∀ i s,keyT[i]? = some s->1 < w.heap.size/\w.cell? ⟨1,i,none⟩=some (.string (Tx.bts s))
theorem Keys.below {w w':World} (h:Keys w) (u:Below w.heap.size w w'):Keys w':=fun i s z=>by
 obtain⟨a,b⟩:=h i s z
 exact⟨Nat.lt_of_lt_of_le a u.size,(u.cell (p:=⟨1,i,none⟩) a).trans b⟩
theorem keys_of_reads {w:World} (h:Lib.VarReads Tryz.prog w "hackney/conf.keys" keyD):Keys w:=by
 intro i s J
 obtain⟨g,t,cs,a2,p,I,a0,a1,Y⟩:=h
 obtain rfl:=Option.some.inj ((show Tryz.prog.globalNamed "hackney/conf.keys" = some 1 by kernel_rfl).symm.trans I)
 obtain rfl:=Option.some.inj ((show (Tryz.prog.globals[1]?).map (·.type)=some 346 by kernel_rfl).symm.trans a0)
 have hi:i < 7:=(List.getElem?_eq_some_iff.1 J).1
 obtain⟨a3,d,q,z,G⟩:=Lib.array_elem Tryz.underlying346 Y i hi
 rw[List.getElem?_map,J] at z
 injection z with z
 subst z
 have c1:Tryz.prog.cellsOf 9=1:=by kernel_rfl
 rw[c1] at G
 obtain⟨b,W,u,_⟩:=DataW.trod_string Tryz.underlying9 G
 injection u with u _
 injection u with u
 injection u with u
 have F:=congrArg (·[0]?) W
 simp only[List.getElem?_take,List.getElem?_drop] at F
 have q0:w.cell? ⟨1,i,none⟩=some (.string (Tx.bts s)):=by
  rw[World.var?_cell I a1 i,<- Array.getElem?_toList]
  have:Tx.bts s=b:=by unfold Tx.bts; rw[u]
  rw[this]
  simpa using F
 exact⟨Lw.ltH q0,q0⟩
structure Tabs (w:World):Prop where
 tab:Tx.Tab w
 pow:Ff.Pw hiT loT w
 keys:Keys w
theorem Tabs.below {w w':World} (h:Tabs w) (u:Below w.heap.size w w'):Tabs w':=⟨h.tab.below u,h.pow.below u,h.keys.below u⟩
theorem tabs_of {l:List (String × DataW Unit)} {W:World} (h:laidMet Tryz.prog l W) (u:("internal/strconv.uint64pow10",Lib.tabData .u64 Lib.pow10Tab)∈l) (z:("internal/strconv.pow10Tab",Pinned.pow10Tab)∈l) (F:("hackney/conf.keys",keyD)∈l):Tabs W:=
 ⟨tab_of_reads (Lib.laidMet.reads h u),pow_of_reads (Lib.laidMet.reads h z),keys_of_reads (Lib.laidMet.reads h F)⟩
end Go.Proofs.YtoiklelghfckgaaGreatDoor.Tb
namespace Go.Proofs.YtoiklelghfckgaaGreatDoor.Ff
open Go.ChangeShapes Go.WideShapes Go.ChangeAt Go.RowKit Rw Go.Shelf Go.Sort
theorem sbits_run (w:World) (x:Nat):(callFunc 336 #[.float .f64 x]).run Tryz.prog w=.ok (.value (.int .u64 x)) w:=by
 rw[run_callFunc_extern Tryz.func336 (by kernel_rfl) (by kernel_rfl) (by kernel_rfl) (e:=Extern.MathFloatBits.float64bits) (by kernel_rfl)]
 rfl
theorem len_q (w:World):Calls Tryz.prog 288 #[.int .u64 4503599627370496] w fun e w'=>e=.returned (.int .i64 53)/\w=w':=by
 go_enter Tryz.func288,Tryz.ntmps288
 go_wp2
 refine bodyPost_ret (v:=.int .i64 53) ?_ rfl ⟨rfl,rfl⟩
 simp[results,Tryz.results288,go_sem]
 decide +kernel
theorem tl_q:tl Tb.hiT Tb.loT 9223372036854775808 (-65) 9223372036854775296 9223372036854776832 0 17=(2500000000000000,-16):=by decide +kernel
theorem short_q (w:World) (u:Pw Tb.hiT Tb.loT w) :
  Calls Tryz.prog 346 #[.int .u64 9223372036854775808,.int .i64 (-65)] w fun e w'=>e=.returned (.tuple #[.int .u64 2500000000000000,.int .i64 (-16)])/\Below w.heap.size w w':=by
 have h:=shortA Tb.hiT Tb.loT 9223372036854775808 (-65) w u (by omega) (by omega) (by omega) (by decide) (by decide) 17 0 9223372036854775296 9223372036854776832 (by decide) (by decide) (by decide) (by decide +kernel) (by omega) (by omega)
 rw[tl_q] at h
 exact h
theorem nd_q:Lib.nDigits 2500000000000000=16:=by simp[Lib.nDigits]
theorem dd_q:Lib.decDigits 2500000000000000=[50,53,48,48,48,48,48,48,48,48,48,48,48,48,48,48]:=by simp[Lib.decDigits]
theorem trl_q:trl (Lib.decDigits 2500000000000000) 16=2:=by rw[dd_q]; decide +kernel
theorem setDigits_q (h:Nat) (w:World) (z:∀ j,j < 32->w.cell? ⟨h,j,none⟩=some (.int .u8 0)/\w.frozen? ⟨h,j,none⟩=false) :
  Calls Tryz.prog 341 #[.slice (some ⟨h,0,none⟩) 32 32,.int .u64 2500000000000000,.int .i64 (-16),.int .i64 16] w fun e w'=>e=.returned (.tuple #[.int .i64 0,.int .i64 2]) /\
   (∀ j x,(Lib.decDigits 2500000000000000)[j]? = some x->w'.cell? ⟨h,j,none⟩=some (e8 x))/\w.grownBy w' (some h):=by
 have u:=setDigits_any h 2500000000000000 (-16) w z (by omega) (by omega) (by omega) 16 nd_q
 rw[trl_q] at u
 exact u
theorem numDigits_q (w:World) (u:Tx.Tab w):Calls Tryz.prog 314 #[.int .u64 2500000000000000] w fun e w'=>e=.returned (.int .i64 16)/\w=w':=by
 have h:=Any.internal_strconv_numDigits (P:=Tryz.prog) (ρ:=Tx.txRen) { Tx.txItoa with } 2500000000000000 (by omega) (by omega) w u
 rw[nd_q] at h
 exact h.mono fun e w' ⟨a,b⟩=>⟨a,b.symm⟩
theorem ftoa_q (base:Nat) (Y w:World) (A:Option Addr) (c:Nat) (a2:w.ownsRow base 5 1 (.slice A 0 c) 0 []) (a8:Below base Y w) (ah:base<=w.heap.size) (hT:Tb.Tabs w) :
  Calls Tryz.prog 329 #[.slice A 0 c,.float .f64 4598175219545276416,.int .u8 103,.int .i64 (-1)] w fun e w'=>∃ A' c' hb ds,e=.returned (.slice A' 4 c')/\Ap base hb ds Y [48,46,50,53] A' 4 c' w':=by
 have sb:=fun w=>sbits_run w 4598175219545276416
 have HT:=Lh hT
 have I:=Lh a2
 have HB:=Lh a8
 have ak:=a2.lt
 clear hT a2 a8
 go_enter Tryz.func329,Tryz.ntmps329
 go_wp2_with fail
 go_quiet (fail)
 go_wp2_with fail
 refine (len_q _).mono ?_
 rintro e w1 ⟨rfl,rfl⟩
 go_wp2_with fail
 rw[show IntKind.u64.wrap (bits BinOp.or IntKind.u64 (bits BinOp.and IntKind.u64 4598175219545276416 4503599627370495) 4503599627370496 * 2048)=9223372036854775808 from by decide +kernel,
  show wrap64 (wrap64 (wrap64 (bits BinOp.and IntKind.i64 1021 2047 + -1023) - 11) - 52) = -65 from by decide +kernel]
 generalize a6:(w.drewN nq).alloc (.cells zeros32 382)=J
 have F:=a6.symm
 clear a6
 have a9:Below w.heap.size w J:=by rw[F]; exact (Rw.bdN (RowKit.Below.refl _ _) nq).alloc (by simp) _
 have hz:∀ j,j < 32->J.cell? ⟨w.heap.size,j,none⟩=some (.int .u8 0)/\J.frozen? ⟨w.heap.size,j,none⟩=false:=fun j hj=>by
  rw[F]
  refine⟨?_,?_⟩
  .have:w.heap.size=(w.drewN nq).heap.size:=rfl
   rw[this,World.cell?_alloc_new]; exact zeros32_at j hj
  .have:w.heap.size=(w.drewN nq).heap.size:=rfl
   rw[this]; exact World.frozen?_alloc_new _ _ _ _
 have al:J.heap.size=w.heap.size+1:=by rw[F]; simp
 have a3:=Lh a9
 have HZ:=Lh hz
 have HW:=Lh F
 clear a9 hz F
 refine (short_q _ (HT.out.pow.below a3.out)).mono ?_
 rintro e u ⟨rfl,G⟩
 have an:=G.size
 have ad:∀ j,j < 32->u.cell? ⟨w.heap.size,j,none⟩=some (.int .u8 0)/\u.frozen? ⟨w.heap.size,j,none⟩=false:=fun j hj=>by
  obtain⟨a,b⟩:=HZ.out j hj
  exact⟨(G.cell (p:=⟨w.heap.size,j,none⟩) (by show w.heap.size < _; omega)).trans a,(G.frozen (p:=⟨w.heap.size,j,none⟩) (by show w.heap.size < _; omega)).trans b⟩
 have a4:=Lh ad
 have a0:=Lh (a3.out.trans (G.mono (by omega)))
 clear ad G HZ
 go_wp2_with fail
 refine rgS 11 (fun _=>Hid True) (by kernel_rfl) (by kernel_rfl) ?_
 intro a5
 have z:=Lh a5
 clear a5
 refine rgP 0 z.out rfl (by kernel_rfl) (fun _ _ _ _ h=>h) (fun _=>Lh trivial) rfl ?_
 apply Exists.intro
 refine⟨fun w'=>by (go_simp; exact rfl),?_⟩
 refine rgP 1 z.out rfl (by kernel_rfl) (fun _ _ _ _ h=>h) (fun _=>Lh trivial) rfl ?_
 apply Exists.intro
 refine⟨fun w'=>by (go_simp; exact rfl),?_⟩
 refine rgP 2 z.out rfl (by kernel_rfl) (fun _ _ _ _ h=>h) (fun _=>Lh trivial) rfl ?_
 apply Exists.intro
 refine⟨fun w'=>by (go_simp; exact rfl),?_⟩
 refine rgP 3 z.out rfl (by kernel_rfl) (fun _ _ _ _ h=>h) (fun _=>Lh trivial) rfl ?_
 apply Exists.intro
 refine⟨fun w'=>by (go_simp; exact rfl),?_⟩
 refine rO 4 rfl (by kernel_rfl) rfl ?_
 unfold Oper.wp
 go_simp
 refine (numDigits_q u.drew (show Tx.Tab u.drew from HT.out.tab.below a0.out.drew)).mono ?_
 rintro e W3 ⟨rfl,rfl⟩
 refine⟨Lh trivial,?_⟩
 refine rO 5 rfl (by kernel_rfl) rfl ?_
 unfold Oper.wp
 go_simp
 refine (setDigits_q w.heap.size u.drew a4.out).mono ?_
 rintro e W4 ⟨rfl,aa,ac⟩
 have af:=Lh aa
 have a1:=Lh ac
 clear aa ac a4
 refine⟨Lh trivial,?_⟩
 refine rgP 6 z.out rfl (by kernel_rfl) (fun _ _ _ _ h=>h) (fun _=>Lh trivial) rfl ?_
 apply Exists.intro
 refine⟨fun w'=>by (go_simp; exact rfl),?_⟩
 refine rgP 7 z.out rfl (by kernel_rfl) (fun _ _ _ _ h=>h) (fun _=>Lh trivial) rfl ?_
 apply Exists.intro
 refine⟨fun w'=>by (go_simp; exact rfl),?_⟩
 refine rgP 8 z.out rfl (by kernel_rfl) (fun _ _ _ _ h=>h) (fun _=>Lh trivial) rfl ?_
 apply Exists.intro
 refine⟨fun w'=>by (go_simp; exact rfl),?_⟩
 refine rgP 9 z.out rfl (by kernel_rfl) (fun _ _ _ _ h=>h) (fun _=>Lh trivial) rfl ?_
 apply Exists.intro
 refine⟨fun w'=>by (go_simp; exact rfl),?_⟩
 refine rgP 10 z.out rfl (by kernel_rfl) (fun _ _ _ _ h=>h) (fun _=>Lh trivial) rfl ?_
 apply Exists.intro
 refine⟨fun w'=>by (go_simp; exact rfl),?_⟩
 refine rgD (by kernel_rfl) ?_
 have aj:=a1.out.size
 simp at aj
 have a7:Ap base w.heap.size ((Lib.decDigits 2500000000000000).map (fun x=>(x.toNat:Int))) Y [] A 0 c W4:=by
  have ai:W4.ownsRow base 5 1 (.slice A 0 c) 0 []:=by
   have h2:u.ownsRow base 5 1 (.slice A 0 c) 0 []:=Hi.owS I.out (fun g W=>a0.out.block g (I.out.lt g W).2)
   have h3:u.drew.ownsRow base 5 1 (.slice A 0 c) 0 []:=h2
   refine h3.kept a1.out (Or.inr ?_)
   intro e
   have:=(I.out.lt _ e).2
   omega
  refine⟨ai,?_,by omega,?_,?_,by omega,by omega⟩
  .intro e
   have:=(I.out.lt _ e).2
   omega
  .intro j x hx
   rw[List.getElem?_map] at hx
   obtain⟨y,hy,rfl⟩:=Option.map_eq_some_iff.1 hx
   exact af.out j y hy
  .exact (HB.out.trans (a0.out.mono ah)).trans ((show Below base u u.drew from ((RowKit.Below.refl _ _).drew)).grown a1.out (by show base<=u.heap.size; omega) (fun g W=>by injection W with W; omega))
 have ae:=Lh a7
 clear a7
 go_wp2_with fail
 refine (efg_quarter base w.heap.size _ Y W4 A c ae.out (by rw[dd_q]; rfl) (by rw[dd_q]; rfl)).mono ?_
 rintro e w5 ⟨A5,c5,rfl,ag⟩
 go_wp2_with fail
 go_ret
 exact⟨A5,c5,_,_,rfl,ag⟩
end Go.Proofs.YtoiklelghfckgaaGreatDoor.Ff
namespace Go.Proofs.YtoiklelghfckgaaGreatDoor.Fl
open Ieee
def p2 (L:Nat):Nat:=double.nearest false 1 L
def cl (x:Nat):Nat:=if rg x=0 then 0 else x
end Go.Proofs.YtoiklelghfckgaaGreatDoor.Fl
namespace Go.Proofs.YtoiklelghfckgaaGreatDoor.Fl
open Go.ChangeShapes Go.WideShapes Go.ChangeAt Go.RowKit Rw Ck
theorem ord_self {x:Nat} (hx:x < 18446744073709551616):(FloatKind.f64.format.order x x != some Ordering.eq)=isN x:=by
 rw[format_eq,order_eq hx hx,Bool.or_self]
 cases isN x
 .simp only[Bool.false_eq_true,if_false]
  have:compare (Ko x) (Ko x)=.eq:=by simp only[compare,compareOfLessAndEq]; simp
  rw[this]
  rfl
 .rfl
theorem isnan_any (x:Nat) (w:World) (hx:x < 18446744073709551616):Calls Tryz.prog 175 #[.float .f64 x] w fun e w'=>e=.returned (.bool (isN x))/\w=w':=by
 have h:=ord_self hx
 generalize isN x=b at *
 go_enter Tryz.func175,Tryz.ntmps175
 go_wp2
 go_ret
 exact⟨rfl,rfl⟩
def isI (x:Nat):Bool:=FloatKind.f64.format.order x 9218868437227405311 == some Ordering.gt
theorem isinf_any (x:Nat) (w:World):Calls Tryz.prog 305 #[.float .f64 x,.int .i64 1] w fun e w'=>e=.returned (.bool (isI x))/\w=w':=by
 go_enter Tryz.func305,Tryz.ntmps305
 go_wp2
 go_ret
 exact⟨rfl,rfl⟩
end Go.Proofs.YtoiklelghfckgaaGreatDoor.Fl
namespace Go.Proofs.YtoiklelghfckgaaGreatDoor.Ff
open Go.ChangeShapes Go.WideShapes Go.ChangeAt Go.RowKit Rw Go.Shelf Go.Sort
theorem iformat_q (w:World) (J:Tb.Tabs w) :
  Calls Tryz.prog 318 #[.float .f64 4598175219545276416,.int .u8 103,.int .i64 (-1),.int .i64 64] w fun e w'=>e=.returned (.string (Tx.bts [48,46,50,53]))/\Below w.heap.size w w':=by
 have m1:max (3:Int) 24=24:=by decide
 obtain⟨i0,hi,a3,a4,a5⟩:=info_parts info_u8
 obtain⟨G,a0,a2,Y⟩:=run_make_own (P:=Tryz.prog) w w.heap.size 22 5 i0 (.int .u8 0) 1 Tryz.underlying22 hi a3 a4 .i64 .i64 24 (by rw[a5]; omega) (by unfold maxLen; omega) (Nat.le_refl _)
 have a8:(Instr.makeSlice 22 (.int .i64 0) (.int .i64 24)).run Tryz.prog w=.ok (.slice (some ⟨w.heap.size,0,none⟩) 0 24) G:=a0
 clear a0
 have z:Below w.heap.size w G:=(RowKit.Below.refl _ w).grown Y (Nat.le_refl _) (fun g hg=>by cases hg)
 have HT:=Lh (J.below z)
 have HR:=Lh a2
 have HB:=Lh z
 have a9:=z.size
 clear J a2 Y z
 go_enter Tryz.func318,Tryz.ntmps318
 go_wp2_with fail
 refine (ftoa_q w.heap.size w G _ 24 HR.out HB.out (by omega) HT.out).mono ?_
 rintro e I ⟨A2,c2,hb,ds,rfl,F⟩
 have a1:=Rd.own_rd F.own
 obtain⟨b,o,hA,a6,W⟩:=a1.at_ (by omega)
 subst hA
 have u:=Lh W
 have HA:=Lh F
 clear F W a1
 have a7:(convert 22 9 (.slice (some ⟨b,o,none⟩) 4 c2)).run Tryz.prog I=.ok (.string ⟨#[48,46,50,53]⟩) I:=by
  have h:=run_convert_bytes_back (P:=Tryz.prog) I 22 9 5 ⟨b,o,none⟩ c2 [48,46,50,53] Tryz.underlying22 Tryz.underlying5 Tryz.underlying9 (fun j hj=>by
   rw[Lib.add_plain]
   match j,hj with
   | 0,_=>exact u.out 0 48 rfl
   | 1,_=>exact u.out 1 46 rfl
   | 2,_=>exact u.out 2 50 rfl
   | 3,_=>exact u.out 3 53 rfl
   | j+4,h=>exact absurd h (by simp))
  exact h
 go_wp2_with fail
 go_ret
 exact⟨rfl,HA.out.bel⟩
theorem format_q (w:World) (h:Tb.Tabs w) :
  Calls Tryz.prog 306 #[.float .f64 4598175219545276416,.int .u8 103,.int .i64 (-1),.int .i64 64] w fun e w'=>e=.returned (.string (Tx.bts [48,46,50,53]))/\Below w.heap.size w w':=by
 go_enter Tryz.func306,Tryz.ntmps306
 go_wp2_with fail
 refine (iformat_q _ h).mono ?_
 rintro e w' ⟨rfl,u⟩
 go_wp2_with fail
 go_ret
 exact⟨rfl,u⟩
theorem nan_q (w:World):Calls Tryz.prog 175 #[.float .f64 4598175219545276416] w fun e w'=>e=.returned (.bool false)/\w=w':=by
 have h:(FloatKind.f64.format.order 4598175219545276416 4598175219545276416 == some Ordering.eq)=true:=by decide +kernel
 go_enter Tryz.func175,Tryz.ntmps175
 go_wp2
 go_ret
 exact⟨rfl,rfl⟩
theorem inf_q1 (w:World):Calls Tryz.prog 305 #[.float .f64 4598175219545276416,.int .i64 1] w fun e w'=>e=.returned (.bool false)/\w=w':=by
 have h:=Fl.isinf_any 4598175219545276416 w
 rw[show Fl.isI 4598175219545276416=false from by decide +kernel] at h
 exact h
theorem inf_qm (w:World):Calls Tryz.prog 305 #[.float .f64 4598175219545276416,.int .i64 (-1)] w fun e w'=>e=.returned (.bool false)/\w=w':=by
 have h:(FloatKind.f64.format.order 13821547256400052224 9218868437227405311 == some Ordering.gt)=false:=by decide +kernel
 have u:∀ w,(Op.unary UnOp.neg (Value.float FloatKind.f64 4598175219545276416)).run Tryz.prog w=.ok (.float .f64 13821547256400052224) w:=fun w=>by kernel_rfl
 go_enter Tryz.func305,Tryz.ntmps305
 go_wp2
 go_ret
 exact⟨rfl,rfl⟩
theorem clean_q (w:World):Calls Tryz.prog 299 #[.float .f64 4598175219545276416] w fun e w'=>e=.returned (.float .f64 4598175219545276416)/\w=w':=by
 have h:(FloatKind.f64.format.order 4598175219545276416 0 == some Ordering.eq)=false:=by decide +kernel
 go_enter Tryz.func299,Tryz.ntmps299
 go_wp2
 go_ret
 exact⟨rfl,rfl⟩
theorem rtext_q (w:World) (u:Tb.Tabs w):Calls Tryz.prog 298 #[.float .f64 4598175219545276416] w fun e w'=>e=.returned (.string (Tx.bts [48,46,50,53]))/\Below w.heap.size w w':=by
 have z:=Lh u
 clear u
 go_enter Tryz.func298,Tryz.ntmps298
 go_wp2_with fail
 refine (nan_q _).mono ?_
 rintro e h ⟨rfl,rfl⟩
 go_wp2_with fail
 refine (inf_q1 _).mono ?_
 rintro e h ⟨rfl,rfl⟩
 go_wp2_with fail
 refine (inf_qm _).mono ?_
 rintro e h ⟨rfl,rfl⟩
 go_wp2_with fail
 refine (format_q _ z.out).mono ?_
 rintro e h ⟨rfl,F⟩
 go_wp2_with fail
 go_ret
 exact⟨rfl,F⟩
theorem check_q (w:World):Calls Tryz.prog 118 #[.float .f64 4598175219545276416,.float .f64 0,.float .f64 4607182418800017408] w fun e w'=>e=.returned (.int .i64 0)/\w=w':=by
 have G:(FloatKind.f64.format.order 0 0 == some Ordering.eq)=true:=by decide +kernel
 have I:(FloatKind.f64.format.order 4607182418800017408 4607182418800017408 == some Ordering.eq)=true:=by decide +kernel
 have J:(FloatKind.f64.format.order 4598175219545276416 0 == some Ordering.lt)=false:=by decide +kernel
 have W:(FloatKind.f64.format.order 4598175219545276416 4607182418800017408 == some Ordering.gt)=false:=by decide +kernel
 have z:∀ (w:World),Calls Tryz.prog 175 #[.float .f64 0] w fun e w'=>e=.returned (.bool false)/\w=w':=fun w=>by
  have h:=Fl.isnan_any 0 w (by omega)
  rw[show Fl.isN 0=false from by decide +kernel] at h
  exact h
 have F:∀ (w:World),Calls Tryz.prog 175 #[.float .f64 4607182418800017408] w fun e w'=>e=.returned (.bool false)/\w=w':=fun w=>by
  have h:=Fl.isnan_any 4607182418800017408 w (by omega)
  rw[show Fl.isN 4607182418800017408=false from by decide +kernel] at h
  exact h
 go_enter Tryz.func118,Tryz.ntmps118
 go_wp2_with fail
 refine (nan_q _).mono ?_
 rintro e u ⟨rfl,rfl⟩
 go_wp2_with fail
 refine (z _).mono ?_
 rintro e u ⟨rfl,rfl⟩
 go_wp2_with fail
 refine (F _).mono ?_
 rintro e u ⟨rfl,rfl⟩
 go_wp2_with fail
 go_ret
 exact⟨rfl,rfl⟩
theorem ccheck_q (w:World) :
  Calls Tryz.prog 55 #[.agg #[.int .i64 4,.int .i64 1,.int .u64 100,.int .u64 1000,.int .u64 50,.int .u64 200,.float .f64 4598175219545276416]] w fun e w'=>e=.returned (.int .i64 0)/\Below w.heap.size w w':=by
 have u:∀ (w:World) (h:Array TypeId) (t:TypeId),(Builtin.max_ h t #[.int .u64 100,.int .u64 1000,.int .u64 50,.int .u64 200]).run Tryz.prog w=.ok (.int .u64 1000) w:=by
  intro w h t
  simp[Builtin.max_,Builtin.max2]
 go_enter Tryz.func55,Tryz.ntmps55
 go_wp2_with fail
 refine (check_q _).mono ?_
 rintro e z ⟨rfl,rfl⟩
 go_wp2_with fail
 go_ret
 exact⟨rfl,(RowKit.Below.refl _ _).alloc (Nat.le_refl _) _⟩
end Go.Proofs.YtoiklelghfckgaaGreatDoor.Ff
namespace Go.Proofs.YtoiklelghfckgaaGreatDoor.Fl
open Go.ChangeShapes Go.WideShapes Go.ChangeAt Go.RowKit Rw Ck
def pl (x:Nat):Nat:=if isN x then 18446744073709551615 else if SG<=x then 18446744073709551615 - x else x+SG
end Go.Proofs.YtoiklelghfckgaaGreatDoor.Fl
namespace Go.Proofs.YtoiklelghfckgaaGreatDoor.Fl
open Go.ChangeShapes Go.WideShapes Go.ChangeAt Go.RowKit Rw Ck Ieee
section
variable {x y:Nat} (hx:x < 18446744073709551616) (hy:y < 18446744073709551616)
include hx hy
theorem o_gt:(FloatKind.f64.format.order x y == some Ordering.gt)=(!(isN x || isN y) && decide (Ko y < Ko x)):=by
 rw[format_eq,order_eq hx hy]
 cases isN x || isN y
 .rw[if_neg (by decide),cmp_gt]; rfl
 .rfl
theorem o_lt:(FloatKind.f64.format.order x y == some Ordering.lt)=(!(isN x || isN y) && decide (Ko x < Ko y)):=by
 rw[format_eq,order_eq hx hy]
 cases isN x || isN y
 .rw[if_neg (by decide),cmp_lt]; rfl
 .rfl
end
end Go.Proofs.YtoiklelghfckgaaGreatDoor.Fl
namespace Go.Proofs.YtoiklelghfckgaaGreatDoor.Ff
open Go.ChangeShapes Go.WideShapes Go.ChangeAt Go.RowKit Rw Go.Shelf Go.Sort
def pk (a b c p:Int):Int × Int:=if a<=b / 10 * 10 then (b / 10,-(p - 1)) else if a < b then (c,-p) else (a,-p)
end Go.Proofs.YtoiklelghfckgaaGreatDoor.Ff
namespace Go.Proofs.YtoiklelghfckgaaGreatDoor.Ff
open Go.ChangeShapes Go.WideShapes Go.ChangeAt Go.RowKit Go.Deep Rw Go.Shelf Go.Sort
section
variable {ops:Array Oper} {rest:List Oper} {o:Oper} {a:Act} {Q:Exit->Act->World->Prop}
end
def sg (neg:Bool):List Int:=if neg=true then [45] else []
def f0 (neg:Bool):List Int:=sg neg ++ [48]
def ex (nd:Nat) (dp:Int):Int:=if nd=0 then 0 else dp - 1
def es (X:Int):Int:=if X < 0 then 45 else 43
def en (k:Nat):List Int:=if k < 10 then [48,(k:Int)+48] else if k < 100 then [(k / 10:Nat)+48,(k % 10:Nat)+48] else [(k / 100:Nat)+48,(k / 10 % 10:Nat)+48,(k % 10:Nat)+48]
end Go.Proofs.YtoiklelghfckgaaGreatDoor.Ff
namespace Go.Proofs.YtoiklelghfckgaaGreatDoor.Fl
open Go.ChangeShapes Go.WideShapes Go.ChangeAt Go.RowKit Rw Ck
def ck (x y z:Nat):Int:=if isN x=true\/isN y=true\/isN z=true then 3 else if Ko x < Ko y\/Ko z < Ko x then 2 else 0
theorem check_any (x y z:Nat) (w:World) (hx:x < 18446744073709551616) (hy:y < 18446744073709551616) (Y:z < 18446744073709551616):Calls Tryz.prog 118 #[.float .f64 x,.float .f64 y,.float .f64 z] w fun e w'=>e=.returned (.int .i64 (ck x y z))/\w=w':=by
 have F:=o_lt hx hy
 have u:=o_gt hx Y
 have sx:=ord_self hx
 have sy:=ord_self hy
 have sz:=ord_self Y
 have G:=Lh hx
 have I:=Lh hy
 have J:=Lh Y
 clear hx hy Y
 cases nx:isN x with
 | true=>
  have e:ck x y z=3:=by unfold ck; rw[if_pos (.inl nx)]
  rw[e]
  rw[nx] at sx
  clear e F u sy sz
  go_enter Tryz.func118,Tryz.ntmps118
  go_wp2_with fail
  refine (isnan_any x _ G.out).mono ?_
  rintro e w' ⟨rfl,rfl⟩
  rw[nx]
  go_wp2_with fail
  go_ret
  exact⟨rfl,rfl⟩
 | false=>
  rw[nx] at sx
  cases ny:isN y with
  | true=>
   have e:ck x y z=3:=by unfold ck; rw[if_pos (.inr (.inl ny))]
   rw[e]
   rw[ny] at sy
   clear e F u sz
   go_enter Tryz.func118,Tryz.ntmps118
   go_wp2_with fail
   refine (isnan_any x _ G.out).mono ?_
   rintro e w' ⟨rfl,rfl⟩
   rw[nx]
   go_wp2_with fail
   refine (isnan_any y _ I.out).mono ?_
   rintro e w' ⟨rfl,rfl⟩
   rw[ny]
   go_wp2_with fail
   go_ret
   exact⟨rfl,rfl⟩
  | false=>
   rw[ny] at sy
   cases nz:isN z with
   | true=>
    have e:ck x y z=3:=by unfold ck; rw[if_pos (.inr (.inr nz))]
    rw[e]
    rw[nz] at sz
    clear e F u
    go_enter Tryz.func118,Tryz.ntmps118
    go_wp2_with fail
    refine (isnan_any x _ G.out).mono ?_
    rintro e w' ⟨rfl,rfl⟩
    rw[nx]
    go_wp2_with fail
    refine (isnan_any y _ I.out).mono ?_
    rintro e w' ⟨rfl,rfl⟩
    rw[ny]
    go_wp2_with fail
    refine (isnan_any z _ J.out).mono ?_
    rintro e w' ⟨rfl,rfl⟩
    rw[nz]
    go_wp2_with fail
    go_ret
    exact⟨rfl,rfl⟩
   | false=>
    rw[nz] at sz
    rw[nx,ny] at F
    rw[nx,nz] at u
    have W:ck x y z=if Ko x < Ko y\/Ko z < Ko x then 2 else 0:=by unfold ck; rw[if_neg (by rw[nx,ny,nz]; decide)]
    rw[W]
    by_cases h1:Ko x < Ko y
    .have e1:(FloatKind.f64.format.order x y == some Ordering.lt)=true:=by rw[F,decide_eq_true h1]; rfl
     rw[if_pos (.inl h1)]
     clear W F u h1
     go_enter Tryz.func118,Tryz.ntmps118
     go_wp2_with fail
     refine (isnan_any x _ G.out).mono ?_
     rintro e w' ⟨rfl,rfl⟩
     rw[nx]
     go_wp2_with fail
     refine (isnan_any y _ I.out).mono ?_
     rintro e w' ⟨rfl,rfl⟩
     rw[ny]
     go_wp2_with fail
     refine (isnan_any z _ J.out).mono ?_
     rintro e w' ⟨rfl,rfl⟩
     rw[nz]
     go_wp2_with fail
     go_ret
     exact⟨rfl,rfl⟩
    .have e1:(FloatKind.f64.format.order x y == some Ordering.lt)=false:=by rw[F,decide_eq_false h1]; rfl
     by_cases h2:Ko z < Ko x
     .have e2:(FloatKind.f64.format.order x z == some Ordering.gt)=true:=by rw[u,decide_eq_true h2]; rfl
      rw[if_pos (.inr h2)]
      clear W F u h1 h2
      go_enter Tryz.func118,Tryz.ntmps118
      go_wp2_with fail
      refine (isnan_any x _ G.out).mono ?_
      rintro e w' ⟨rfl,rfl⟩
      rw[nx]
      go_wp2_with fail
      refine (isnan_any y _ I.out).mono ?_
      rintro e w' ⟨rfl,rfl⟩
      rw[ny]
      go_wp2_with fail
      refine (isnan_any z _ J.out).mono ?_
      rintro e w' ⟨rfl,rfl⟩
      rw[nz]
      go_wp2_with fail
      go_ret
      exact⟨rfl,rfl⟩
     .have e2:(FloatKind.f64.format.order x z == some Ordering.gt)=false:=by rw[u,decide_eq_false h2]; rfl
      rw[if_neg (by rintro (h | h); exact h1 h; exact h2 h)]
      clear W F u h1 h2
      go_enter Tryz.func118,Tryz.ntmps118
      go_wp2_with fail
      refine (isnan_any x _ G.out).mono ?_
      rintro e w' ⟨rfl,rfl⟩
      rw[nx]
      go_wp2_with fail
      refine (isnan_any y _ I.out).mono ?_
      rintro e w' ⟨rfl,rfl⟩
      rw[ny]
      go_wp2_with fail
      refine (isnan_any z _ J.out).mono ?_
      rintro e w' ⟨rfl,rfl⟩
      rw[nz]
      go_wp2_with fail
      go_ret
      exact⟨rfl,rfl⟩
theorem rcheck_any (x y z:Nat) (w:World) (hx:x < 18446744073709551616) (hy:y < 18446744073709551616) (I:z < 18446744073709551616):Calls Tryz.prog 126 #[.float .f64 x,.float .f64 y,.float .f64 z] w fun e w'=>e=.returned (.int .i64 (ck x y z))/\w=w':=by
 have F:=o_lt hx hy
 have u:=o_lt I hx
 have Y:=ord_self hx
 have W:=ord_self hy
 have J:=ord_self I
 have HX:=Lh hx
 have HY:=Lh hy
 have HZ:=Lh I
 clear hx hy I
 cases nx:isN x with
 | true=>
  have e:ck x y z=3:=by unfold ck; rw[if_pos (.inl nx)]
  rw[e]
  rw[nx] at Y
  clear e F u W J
  go_enter Tryz.func126,Tryz.ntmps126
  go_wp2_with fail
  go_ret
  exact⟨rfl,rfl⟩
 | false=>
  rw[nx] at Y
  cases ny:isN y with
  | true=>
   have e:ck x y z=3:=by unfold ck; rw[if_pos (.inr (.inl ny))]
   rw[e]
   rw[ny] at W
   clear e F u J
   go_enter Tryz.func126,Tryz.ntmps126
   go_wp2_with fail
   go_ret
   exact⟨rfl,rfl⟩
  | false=>
   rw[ny] at W
   cases nz:isN z with
   | true=>
    have e:ck x y z=3:=by unfold ck; rw[if_pos (.inr (.inr nz))]
    rw[e]
    rw[nz] at J
    clear e F u
    go_enter Tryz.func126,Tryz.ntmps126
    go_wp2_with fail
    go_ret
    exact⟨rfl,rfl⟩
   | false=>
    rw[nz] at J
    rw[nx,ny] at F
    rw[nz,nx] at u
    have G:ck x y z=if Ko x < Ko y\/Ko z < Ko x then 2 else 0:=by unfold ck; rw[if_neg (by rw[nx,ny,nz]; decide)]
    rw[G]
    by_cases h1:Ko x < Ko y
    .have e1:(FloatKind.f64.format.order x y == some Ordering.lt)=true:=by rw[F,decide_eq_true h1]; rfl
     rw[if_pos (.inl h1)]
     clear G F u h1
     go_enter Tryz.func126,Tryz.ntmps126
     go_wp2_with fail
     go_ret
     exact⟨rfl,rfl⟩
    .have e1:(FloatKind.f64.format.order x y == some Ordering.lt)=false:=by rw[F,decide_eq_false h1]; rfl
     by_cases h2:Ko z < Ko x
     .have e2:(FloatKind.f64.format.order z x == some Ordering.lt)=true:=by rw[u,decide_eq_true h2]; rfl
      rw[if_pos (.inr h2)]
      clear G F u h1 h2
      go_enter Tryz.func126,Tryz.ntmps126
      go_wp2_with fail
      go_ret
      exact⟨rfl,rfl⟩
     .have e2:(FloatKind.f64.format.order z x == some Ordering.lt)=false:=by rw[u,decide_eq_false h2]; rfl
      rw[if_neg (by rintro (h | h); exact h1 h; exact h2 h)]
      clear G F u h1 h2
      go_enter Tryz.func126,Tryz.ntmps126
      go_wp2_with fail
      go_ret
      exact⟨rfl,rfl⟩
end Go.Proofs.YtoiklelghfckgaaGreatDoor.Fl
namespace Go.Proofs.YtoiklelghfckgaaGreatDoor.Cn
open Go Go.ChangeShapes Go.WideShapes Go.ChangeAt Go.RowKit Rw
structure Cf where
 max:Int
 min:Int
 idle:Int
 life:Int
 keep:Int
 leak:Int
 var:Nat
abbrev U64 (k:Int):Prop:=0<=k/\k<=18446744073709551615
structure Cf.ok (c:Cf):Prop where
 idle:U64 c.idle
 life:U64 c.life
 keep:U64 c.keep
 leak:U64 c.leak
 var:c.var < 18446744073709551616
abbrev Cf.v (c:Cf):Value:=.agg #[.int .i64 c.max,.int .i64 c.min,.int .u64 c.idle,.int .u64 c.life,.int .u64 c.keep,.int .u64 c.leak,.float .f64 c.var]
def mx2 (a b:Int):Int:=if a < b then b else a
def Cf.hi (c:Cf):Int:=mx2 (mx2 (mx2 c.idle c.life) c.keep) c.leak
def hiE (M:Int) (v:Nat):Int:=if 1152921504606846976 < M then 2 else Fl.ck v 0 4607182418800017408
def cfE (c:Cf):Int:=if c.max < 1\/16 < c.max\/c.min < 0\/c.max < c.min then 2 else hiE c.hi c.var
theorem max_run (P:Program) (a b c d:Int) (w:World) (h:Array TypeId) (t:TypeId):(Builtin.max_ h t #[.int .u64 a,.int .u64 b,.int .u64 c,.int .u64 d]).run P w=.ok (.int .u64 (mx2 (mx2 (mx2 a b) c) d)) w:=by
 simp[Builtin.max_,Builtin.max2,mx2]
 rfl
theorem ccheck_any (c:Cf) (h:c.ok) (w:World) :
  Calls Tryz.prog 55 #[c.v] w fun e w'=>e=.returned (.int .i64 (cfE c))/\Below w.heap.size w w':=by
 obtain⟨mx,u,F,I,G,lk,W⟩:=c
 have a0:=max_run Tryz.prog F I G lk
 have Y:=Lh (fun w=>Fl.check_any W 0 4607182418800017408 w h.var (by decide) (by decide))
 unfold cfE
 obtain⟨M,z⟩:∃ M,mx2 (mx2 (mx2 F I) G) lk=M:=⟨_,rfl⟩
 have J:Cf.hi ⟨mx,u,F,I,G,lk,W⟩=M:=z
 rw[z] at a0
 simp only[J]
 clear h z J
 by_cases h1:mx < 1
 .have q1:decide (mx < 1)=true:=decide_eq_true h1
  rw[if_pos (.inl h1)]
  clear h1
  go_enter Tryz.func55,Tryz.ntmps55
  go_wp2_with fail
  go_ret
  exact⟨rfl,(Below.refl _ _).alloc (Nat.le_refl _) _⟩
 have q1:decide (mx < 1)=false:=decide_eq_false h1
 by_cases h2:16 < mx
 .have q2:decide (16 < mx)=true:=decide_eq_true h2
  rw[if_pos (.inr (.inl h2))]
  clear h1 h2
  go_enter Tryz.func55,Tryz.ntmps55
  go_wp2_with fail
  go_ret
  exact⟨rfl,(Below.refl _ _).alloc (Nat.le_refl _) _⟩
 have q2:decide (16 < mx)=false:=decide_eq_false h2
 by_cases h3:u < 0
 .have q3:decide (u < 0)=true:=decide_eq_true h3
  rw[if_pos (.inr (.inr (.inl h3)))]
  clear h1 h2 h3
  go_enter Tryz.func55,Tryz.ntmps55
  go_wp2_with fail
  go_ret
  exact⟨rfl,(Below.refl _ _).alloc (Nat.le_refl _) _⟩
 have q3:decide (u < 0)=false:=decide_eq_false h3
 by_cases h4:mx < u
 .have q4:decide (mx < u)=true:=decide_eq_true h4
  rw[if_pos (.inr (.inr (.inr h4)))]
  clear h1 h2 h3 h4
  go_enter Tryz.func55,Tryz.ntmps55
  go_wp2_with fail
  go_ret
  exact⟨rfl,(Below.refl _ _).alloc (Nat.le_refl _) _⟩
 have q4:decide (mx < u)=false:=decide_eq_false h4
 rw[if_neg (by omega)]
 clear h1 h2 h3 h4
 unfold hiE
 by_cases h5:1152921504606846976 < M
 .have q5:decide (1152921504606846976 < M)=true:=decide_eq_true h5
  rw[if_pos h5]
  clear h5
  go_enter Tryz.func55,Tryz.ntmps55
  go_wp2_with fail
  go_ret
  exact⟨rfl,(Below.refl _ _).alloc (Nat.le_refl _) _⟩
 have q5:decide (1152921504606846976 < M)=false:=decide_eq_false h5
 rw[if_neg h5]
 clear h5
 go_enter Tryz.func55,Tryz.ntmps55
 go_wp2_with fail
 refine (Y.out _).mono ?_
 rintro e w1 ⟨rfl,rfl⟩
 go_wp2_with fail
 go_ret
 exact⟨rfl,(Below.refl _ _).alloc (Nat.le_refl _) _⟩
end Go.Proofs.YtoiklelghfckgaaGreatDoor.Cn
end
section
set_option maxRecDepth 100000
set_option maxHeartbeats 8000000
set_option linter.unusedVariables false
namespace Go.Proofs.YtoiklelghfckgaaGreatDoor.Cn
open Go.ChangeShapes Go.WideShapes Go.ChangeAt Go.RowKit Rw Go.Shelf Go.Sort Tx
abbrev dflt:Value:=.agg #[.int .i64 4,.int .i64 1,.int .u64 100,.int .u64 1000,.int .u64 50,.int .u64 200,.float .f64 4598175219545276416]
theorem default_any (w:World):Calls Tryz.prog 30 #[] w fun e w'=>e=.returned dflt/\Below w.heap.size w w':=by
 go_enter Tryz.func30,Tryz.ntmps30
 have rs:∀ (w:World) (a:Addr) (b:Nat),(store a (.float .f64 b)).run Tryz.prog w=stored Tryz.prog w a (.float .f64 b) .plain:=fun w a b=>run_store Tryz.prog w a _ .plain rfl
 go_wp2_with fail
 refine bodyPost_ret (v:=dflt) ?_ rfl ⟨rfl,(Below.refl _ _).alloc (Nat.le_refl _) _⟩
 simp[results,Tryz.results30,go_sem]
 trace_state
def wds:List (List UInt8):=[[52],[49],[49,48,48],[49,48,48,48],[53,48],[50,48,48],[48,46,50,53]]
def box7 (g:Nat) (w:World):Prop:=w.cell? ⟨g,0,none⟩=some (.int .i64 4)/\w.cell? ⟨g,1,none⟩=some (.int .i64 1)/\w.cell? ⟨g,2,none⟩=some (.int .u64 100)/\w.cell? ⟨g,3,none⟩=some (.int .u64 1000)/\w.cell? ⟨g,4,none⟩=some (.int .u64 50) /\
 w.cell? ⟨g,5,none⟩=some (.int .u64 200)/\w.cell? ⟨g,6,none⟩=some (.float .f64 4598175219545276416)
theorem box7.below {g:Nat} {w w':World} (h:box7 g w) (u:Below w.heap.size w w'):box7 g w':=by
 obtain⟨z,F,G,I,J,Q,W⟩:=h
 exact⟨(u.cell (p:=⟨g,0,none⟩) (Lw.ltH z)).trans z,(u.cell (p:=⟨g,1,none⟩) (Lw.ltH F)).trans F,(u.cell (p:=⟨g,2,none⟩) (Lw.ltH G)).trans G,(u.cell (p:=⟨g,3,none⟩) (Lw.ltH I)).trans I,(u.cell (p:=⟨g,4,none⟩) (Lw.ltH J)).trans J,(u.cell (p:=⟨g,5,none⟩) (Lw.ltH Q)).trans Q,(u.cell (p:=⟨g,6,none⟩) (Lw.ltH W)).trans W⟩
theorem dflt_box (w:World) (t:TypeId):box7 w.heap.size (w.alloc (.cells #[.int .i64 4,.int .i64 1,.int .u64 100,.int .u64 1000,.int .u64 50,.int .u64 200,.float .f64 4598175219545276416] t)):=by
 refine⟨?_,?_,?_,?_,?_,?_,?_⟩ <;> simp
def empty7 (B g:Nat) (w:World):Prop:=B<=g/\g < w.heap.size/\w.heap[g]? = some (.cells #[.string ⟨#[]⟩,.string ⟨#[]⟩,.string ⟨#[]⟩,.string ⟨#[]⟩,.string ⟨#[]⟩,.string ⟨#[]⟩,.string ⟨#[]⟩] 346 (0,0))
def tD (B:Nat):Nat->Value->World->Prop
 | 2,v,_=>v=.string (bts [52])
 | 5,v,_=>v=.string (bts [49])
 | 8,v,_=>v=.string (bts [49,48,48])
 | 11,v,_=>v=.string (bts [49,48,48,48])
 | 14,v,_=>v=.string (bts [53,48])
 | 17,v,_=>v=.string (bts [50,48,48])
 | 20,v,_=>v=.float .f64 4598175219545276416
 | 21,v,_=>v=.string (bts [48,46,50,53])
 | 22,v,_=>v=.agg #[.string (bts [52]),.string (bts [49]),.string (bts [49,48,48]),.string (bts [49,48,48,48]),.string (bts [53,48]),.string (bts [50,48,48]),.string (bts [48,46,50,53])]
 | 23,v,w=>∃ g,v=.pointer (some ⟨g,0,none⟩)/\empty7 B g w
 | _,_,_=>True
theorem tD_mono (B:Nat) (i:Nat) (v:Value) (w w':World) (h:tD B i v w) (z:Below w.heap.size w w'):tD B i v w':=by
 unfold tD at *
 split at h
 all_goals first
  | exact h
  | (obtain⟨g,F,G,u,I⟩:=h; exact⟨g,F,G,Nat.lt_of_lt_of_le u z.size,(z.block g u).trans I⟩)
def Words (L:Nat->List UInt8) (g:Nat) (w:World):Prop:=∀ j,j < 7->w.cell? ⟨g,j,none⟩=some (.string (bts (L j)))/\w.frozen? ⟨g,j,none⟩=false
def upd (L:Nat->List UInt8) (i:Nat) (s:List UInt8):Nat->List UInt8:=fun j=>if j=i then s else L j
theorem Words.set {L:Nat->List UInt8} {g:Nat} {w:World} (h:Words L g w) (i:Nat) (hi:i < 7) (s:List UInt8):Words (upd L i s) g (w.setCell ⟨g,i,none⟩ (.string (bts s))):=by
 intro j u
 unfold upd
 by_cases e:j=i
 .subst e
  rw[if_pos rfl]
  exact⟨World.cell?_setCell_same _ _ _ (h j u).1,by simpa using (h j u).2⟩
 .rw[if_neg e]
  exact⟨(World.cell?_setCell_other _ _ _ _ (fun z=>e (by injection z with _ z; exact z.symm))).trans (h j u).1,by simpa using (h j u).2⟩
theorem Words.same {L u:Nat->List UInt8} {g:Nat} {w:World} (h:Words L g w) (F:∀ j,j < 7->u j=L j):Words u g w:=fun j z=>by rw[F j z]; exact h j z
def word (i j:Nat):List UInt8:=if j < i then Tb.keyT.getD j [] ++ wds.getD j [] else wds.getD j []
theorem word_next (i:Nat):upd (word i) i (Tb.keyT.getD i [] ++ wds.getD i [])=word (i+1):=by
 funext j
 unfold upd word
 by_cases e:j=i
 .subst e; rw[if_pos rfl,if_pos (by omega)]
 .rw[if_neg e]
  by_cases h:j < i
  .rw[if_pos h,if_pos (by omega)]
  .rw[if_neg h,if_neg (by omega)]
theorem empty_words {B g:Nat} {w:World} (h:empty7 B g w):Words (fun _=>[]) g w:=by
 intro j u
 unfold World.cell? World.frozen?
 simp only[h.2.2]
 match j,u with
 | 0,_=>exact⟨rfl,rfl⟩
 | 1,_=>exact⟨rfl,rfl⟩
 | 2,_=>exact⟨rfl,rfl⟩
 | 3,_=>exact⟨rfl,rfl⟩
 | 4,_=>exact⟨rfl,rfl⟩
 | 5,_=>exact⟨rfl,rfl⟩
 | 6,_=>exact⟨rfl,rfl⟩
 | i+7,h=>exact absurd h (by omega)
theorem words0 {g:Nat} {w:World} (h:Words (fun _=>[]) g w) :
  Words (word 0) g (((((((w.setCell ⟨g,0,none⟩ (.string (bts [52]))).setCell ⟨g,1,none⟩ (.string (bts [49]))).setCell ⟨g,2,none⟩ (.string (bts [49,48,48]))).setCell ⟨g,3,none⟩ (.string (bts [49,48,48,48]))).setCell ⟨g,4,none⟩ (.string (bts [53,48]))).setCell ⟨g,5,none⟩ (.string (bts [50,48,48]))).setCell ⟨g,6,none⟩ (.string (bts [48,46,50,53]))):=by
 refine (((((((h.set 0 (by omega) _).set 1 (by omega) _).set 2 (by omega) _).set 3 (by omega) _).set 4 (by omega) _).set 5 (by omega) _).set 6 (by omega) _).same ?_
 intro j u
 match j,u with
 | 0,_=>rfl
 | 1,_=>rfl
 | 2,_=>rfl
 | 3,_=>rfl
 | 4,_=>rfl
 | 5,_=>rfl
 | 6,_=>rfl
 | i+7,h=>exact absurd h (by omega)
def dtext:List UInt8:=[109,97,120,61,52,32,109,105,110,61,49,32,105,100,108,101,61,49,48,48,32,108,105,102,101,61,49,48,48,48,32,107,101,101,112,61,53,48,32,108,101,97,107,61,50,48,48,32,118,97,114,105,97,110,99,101,61,48,46,50,53]
def dws:List ByteArray:=[bts [109,97,120,61,52],bts [109,105,110,61,49],bts [105,100,108,101,61,49,48,48],bts [108,105,102,101,61,49,48,48,48],bts [107,101,101,112,61,53,48],bts [108,101,97,107,61,50,48,48],bts [118,97,114,105,97,110,99,101,61,48,46,50,53]]
theorem join_dtext:Lib.join (dws.map (·.data.toList)) [32] = dtext:=by decide +kernel
theorem join_dflt (g:Nat) (w:World) (h:Words (word 7) g w) (F:g < w.heap.size) :
  Calls Tryz.prog 300 #[.slice (some ⟨g,0,none⟩) 7 7,.string ⟨#[32]⟩] w fun e w'=>e=.returned (.string (bts dtext))/\Below w.heap.size w w':=by
 have J:=Any.strings_Join (P:=Tryz.prog) (ρ:=txRen) txJoin txExtra g 0 7 dws (bts [32]) w (fun j x hx=>by
  rw[Nat.zero_add]
  match j,hx with
  | 0,hx=>injection hx with hx; subst hx; exact (h 0 (by omega)).1
  | 1,hx=>injection hx with hx; subst hx; exact (h 1 (by omega)).1
  | 2,hx=>injection hx with hx; subst hx; exact (h 2 (by omega)).1
  | 3,hx=>injection hx with hx; subst hx; exact (h 3 (by omega)).1
  | 4,hx=>injection hx with hx; subst hx; exact (h 4 (by omega)).1
  | 5,hx=>injection hx with hx; subst hx; exact (h 5 (by omega)).1
  | 6,hx=>injection hx with hx; subst hx; exact (h 6 (by omega)).1) F (by simp[dws]) (by simp[dws]) (by rw[show (bts [32]).data.toList=[32] from rfl,join_dtext]; decide)
 exact J.mono fun e w' ⟨u,z⟩=>⟨by rw[u,show (bts [32]).data.toList=[32] from rfl,join_dtext]; rfl,z⟩
theorem it_small:Lib.itoa 4=[52] /\ Lib.itoa 1=[49] /\ Lib.itoa 100=[49,48,48] /\ Lib.itoa 1000=[49,48,48,48] /\ Lib.itoa 50=[53,48] /\ Lib.itoa 200=[50,48,48]:=by
 refine⟨?_,?_,?_,?_,?_,?_⟩ <;> simp[Lib.itoa,Lib.decDigits]
theorem text_dflt (w:World) (hT:Tb.Tabs w) :
  Calls Tryz.prog 289 #[dflt] w fun e w'=>e=.returned (.tuple #[.string (bts dtext),.int .i64 0])/\Below w.heap.size w w':=by
 have HT:=Lh hT
 clear hT
 unfold dflt
 go_enter Tryz.func289,Tryz.ntmps289
 go_wp2_with fail
 refine (Ff.ccheck_q _).mono ?_
 rintro e W ⟨rfl,a7⟩
 have bx:box7 w.heap.size W:=(dflt_box w _).below a7
 have bW:Below w.heap.size w W:=((Below.refl _ w).alloc (Nat.le_refl _) _).trans (a7.mono (by simp))
 have ac:=Lh bx
 have I:=Lh bW
 have aP:w.heap.size < W.heap.size:=by have:=a7.size; simp at this; omega
 clear a7 bx bW
 go_wp2_with fail
 have Q:box7 w.heap.size W.drew:=ac.out
 have HD:=Lh (show Below W.heap.size W W.drew from (Below.refl _ _).drew)
 refine rgS 25 (box7 w.heap.size) (by kernel_rfl) (by kernel_rfl) ?_
 intro ae
 have HA:=Lh ae
 clear ae
 refine rq 0 HA.out Q rfl ?_ (hv:=fun w' hw=>by (obtain⟨h0,J,Y,h3,h4,h5,h6⟩:=hw; go_simp; exact rfl))
 refine rq 1 HA.out Q rfl ?_ (hv:=fun w' hw=>by (obtain⟨h0,J,Y,h3,h4,h5,h6⟩:=hw; go_simp; exact rfl))
 refine rq 3 HA.out Q rfl ?_ (hv:=fun w' hw=>by (obtain⟨h0,J,Y,h3,h4,h5,h6⟩:=hw; go_simp; exact rfl))
 refine rq 4 HA.out Q rfl ?_ (hv:=fun w' hw=>by (obtain⟨h0,J,Y,h3,h4,h5,h6⟩:=hw; go_simp; exact rfl))
 refine rq 6 HA.out Q rfl ?_ (hv:=fun w' hw=>by (obtain⟨h0,J,Y,h3,h4,h5,h6⟩:=hw; go_simp; exact rfl))
 refine rq 7 HA.out Q rfl ?_ (hv:=fun w' hw=>by (obtain⟨h0,J,Y,h3,h4,h5,h6⟩:=hw; go_simp; exact rfl))
 refine rq 9 HA.out Q rfl ?_ (hv:=fun w' hw=>by (obtain⟨h0,J,Y,h3,h4,h5,h6⟩:=hw; go_simp; exact rfl))
 refine rq 10 HA.out Q rfl ?_ (hv:=fun w' hw=>by (obtain⟨h0,J,Y,h3,h4,h5,h6⟩:=hw; go_simp; exact rfl))
 refine rq 12 HA.out Q rfl ?_ (hv:=fun w' hw=>by (obtain⟨h0,J,Y,h3,h4,h5,h6⟩:=hw; go_simp; exact rfl))
 refine rq 13 HA.out Q rfl ?_ (hv:=fun w' hw=>by (obtain⟨h0,J,Y,h3,h4,h5,h6⟩:=hw; go_simp; exact rfl))
 refine rq 15 HA.out Q rfl ?_ (hv:=fun w' hw=>by (obtain⟨h0,J,Y,h3,h4,h5,h6⟩:=hw; go_simp; exact rfl))
 refine rq 16 HA.out Q rfl ?_ (hv:=fun w' hw=>by (obtain⟨h0,J,Y,h3,h4,h5,h6⟩:=hw; go_simp; exact rfl))
 refine rq 18 HA.out Q rfl ?_ (hv:=fun w' hw=>by (obtain⟨h0,J,Y,h3,h4,h5,h6⟩:=hw; go_simp; exact rfl))
 refine rq 19 HA.out Q rfl ?_ (hv:=fun w' hw=>by (obtain⟨h0,J,Y,h3,h4,h5,h6⟩:=hw; go_simp; exact rfl))
 refine reg_stable_z 24 [2,5,8,11,14,17,20,21,22,23] (fun w w'=>Below w.heap.size w w') (tD W.heap.size) ?_ ?_ ?_ ?_ ?_ ?_ ?_ (fun _=>Below.refl _ _) (fun _ _ _ J Y=>J.trans (Y.mono J.size)) (tD_mono W.heap.size) (fun _ h=>Q.below h) ?_ ?_
 .kernel_rfl
 .kernel_rfl
 .kernel_rfl
 .kernel_rfl
 .kernel_rfl
 .kernel_rfl
 .kernel_rfl
 .refine⟨?_,?_,?_,?_,?_,?_,?_,?_,?_,?_,trivial⟩
  .intro a' w' val G z u
   have e1:a'.tmps[14]?.getD undef=.int .i64 4:=(z 14 (by kernel_rfl)).trans (by kernel_rfl)
   clear z u
   refine⟨_,rfl,?_⟩
   unfold Oper.wp
   go_simp
   refine (itoa_any 4 (by omega) (by omega) w' (HT.out.tab.below (I.out.trans ((HD.out.trans G).mono I.out.size)))).mono ?_
   rintro x w2 ⟨rfl,a1⟩
   exact⟨_,rfl,by rw[it_small.1]; rfl,a1⟩
  .intro a' w' val G z u
   have e1:a'.tmps[17]?.getD undef=.int .i64 1:=(z 17 (by kernel_rfl)).trans (by kernel_rfl)
   clear z u
   refine⟨_,rfl,?_⟩
   unfold Oper.wp
   go_simp
   refine (itoa_any 1 (by omega) (by omega) w' (HT.out.tab.below (I.out.trans ((HD.out.trans G).mono I.out.size)))).mono ?_
   rintro x w2 ⟨rfl,a1⟩
   exact⟨_,rfl,by rw[it_small.2.1]; rfl,a1⟩
  .intro a' w' val G z u
   have e1:a'.tmps[20]?.getD undef=.int .u64 100:=(z 20 (by kernel_rfl)).trans (by kernel_rfl)
   clear z u
   refine⟨_,rfl,?_⟩
   unfold Oper.wp
   go_simp
   refine (funit_any 100 (by omega) (by omega) w' (HT.out.tab.below (I.out.trans ((HD.out.trans G).mono I.out.size)))).mono ?_
   rintro x w2 ⟨rfl,a1⟩
   exact⟨_,rfl,by rw[it_small.2.2.1]; rfl,a1⟩
  .intro a' w' val G z u
   have e1:a'.tmps[23]?.getD undef=.int .u64 1000:=(z 23 (by kernel_rfl)).trans (by kernel_rfl)
   clear z u
   refine⟨_,rfl,?_⟩
   unfold Oper.wp
   go_simp
   refine (funit_any 1000 (by omega) (by omega) w' (HT.out.tab.below (I.out.trans ((HD.out.trans G).mono I.out.size)))).mono ?_
   rintro x w2 ⟨rfl,a1⟩
   exact⟨_,rfl,by rw[it_small.2.2.2.1]; rfl,a1⟩
  .intro a' w' val G z u
   have e1:a'.tmps[26]?.getD undef=.int .u64 50:=(z 26 (by kernel_rfl)).trans (by kernel_rfl)
   clear z u
   refine⟨_,rfl,?_⟩
   unfold Oper.wp
   go_simp
   refine (funit_any 50 (by omega) (by omega) w' (HT.out.tab.below (I.out.trans ((HD.out.trans G).mono I.out.size)))).mono ?_
   rintro x w2 ⟨rfl,a1⟩
   exact⟨_,rfl,by rw[it_small.2.2.2.2.1]; rfl,a1⟩
  .intro a' w' val G z u
   have e1:a'.tmps[29]?.getD undef=.int .u64 200:=(z 29 (by kernel_rfl)).trans (by kernel_rfl)
   clear z u
   refine⟨_,rfl,?_⟩
   unfold Oper.wp
   go_simp
   refine (funit_any 200 (by omega) (by omega) w' (HT.out.tab.below (I.out.trans ((HD.out.trans G).mono I.out.size)))).mono ?_
   rintro x w2 ⟨rfl,a1⟩
   exact⟨_,rfl,by rw[it_small.2.2.2.2.2]; rfl,a1⟩
  .intro a' w' val G z u
   have e1:a'.tmps[32]?.getD undef=.float .f64 4598175219545276416:=(z 32 (by kernel_rfl)).trans (by kernel_rfl)
   clear z u
   refine⟨_,rfl,?_⟩
   unfold Oper.wp
   go_simp
   refine (Ff.clean_q w').mono ?_
   rintro x w2 ⟨rfl,rfl⟩
   exact⟨_,rfl,rfl,Below.refl _ _⟩
  .intro a' w' val G z u
   obtain⟨q1,s1⟩:=u 20 (by decide) (by kernel_rfl)
   have e1:=s1 33 (by kernel_rfl)
   clear z u
   rw[show val 20=.float .f64 4598175219545276416 from q1] at e1
   refine⟨_,rfl,?_⟩
   unfold Oper.wp
   go_simp
   refine (Ff.rtext_q w' (HT.out.below (I.out.trans ((HD.out.trans G).mono I.out.size)))).mono ?_
   rintro x w2 ⟨rfl,a1⟩
   exact⟨_,rfl,rfl,a1⟩
  .intro a' w' val G z u
   obtain⟨q2,s2⟩:=u 2 (by decide) (by kernel_rfl)
   have e2:=s2 15 (by kernel_rfl)
   rw[show val 2=.string (bts [52]) from q2] at e2
   obtain⟨q5,s5⟩:=u 5 (by decide) (by kernel_rfl)
   have e5:=s5 18 (by kernel_rfl)
   rw[show val 5=.string (bts [49]) from q5] at e5
   obtain⟨q8,s8⟩:=u 8 (by decide) (by kernel_rfl)
   have e8:=s8 21 (by kernel_rfl)
   rw[show val 8=.string (bts [49,48,48]) from q8] at e8
   obtain⟨aH,aL⟩:=u 11 (by decide) (by kernel_rfl)
   have ak:=aL 24 (by kernel_rfl)
   rw[show val 11=.string (bts [49,48,48,48]) from aH] at ak
   obtain⟨aI,aM⟩:=u 14 (by decide) (by kernel_rfl)
   have al:=aM 27 (by kernel_rfl)
   rw[show val 14=.string (bts [53,48]) from aI] at al
   obtain⟨aJ,aN⟩:=u 17 (by decide) (by kernel_rfl)
   have an:=aN 30 (by kernel_rfl)
   rw[show val 17=.string (bts [50,48,48]) from aJ] at an
   obtain⟨aK,aO⟩:=u 21 (by decide) (by kernel_rfl)
   have ao:=aO 34 (by kernel_rfl)
   rw[show val 21=.string (bts [48,46,50,53]) from aK] at ao
   clear z u
   refine⟨_,rfl,?_⟩
   unfold Oper.wp
   go_simp
   exact⟨_,rfl,rfl,Below.refl _ _⟩
  .intro a' w' val G z u
   clear z u
   refine⟨_,rfl,?_⟩
   unfold Oper.wp
   go_simp
   exact⟨_,rfl,⟨w'.heap.size,rfl,(HD.out.trans G).size,by simp,(Go.MapKept.heap_alloc w' _).1⟩,(Below.refl _ _).alloc (Nat.le_refl _) _⟩
 .intro val w' hE G
  have af:Below W.heap.size W w':=HD.out.trans G
  obtain⟨p2,p5,p8,aB,aC,aD,aE,aF,aj,aG,-⟩:=hE
  have aq:val 22=.agg #[.string (bts [52]),.string (bts [49]),.string (bts [49,48,48]),.string (bts [49,48,48,48]),.string (bts [53,48]),.string (bts [50,48,48]),.string (bts [48,46,50,53])]:=aj
  obtain⟨g,ar,a0,a8,ag⟩:∃ g,val 23=.pointer (some ⟨g,0,none⟩)/\empty7 W.heap.size g w':=aG
  clear p2 p5 p8 aB aC aD aE aF aj
  simp only[puts,dstOf]
  have hc:=empty_words ⟨a0,a8,ag⟩
  have HC:=Lh hc
  obtain⟨c0,f0⟩:=hc 0 (by omega)
  obtain⟨c1,f1⟩:=hc 1 (by omega)
  obtain⟨c2,f2⟩:=hc 2 (by omega)
  obtain⟨c3,f3⟩:=hc 3 (by omega)
  obtain⟨c4,f4⟩:=hc 4 (by omega)
  obtain⟨c5,f5⟩:=hc 5 (by omega)
  obtain⟨c6,f6⟩:=hc 6 (by omega)
  clear hc
  refine rO 24 rfl (by kernel_rfl) rfl ?_
  unfold Oper.wp
  go_simp
  obtain⟨W9,a6⟩:∃ W9,W9=((((((w'.setCell ⟨g,0,none⟩ (.string (bts [52]))).setCell ⟨g,1,none⟩ (.string (bts [49]))).setCell ⟨g,2,none⟩ (.string (bts [49,48,48]))).setCell ⟨g,3,none⟩ (.string (bts [49,48,48,48]))).setCell ⟨g,4,none⟩ (.string (bts [53,48]))).setCell ⟨g,5,none⟩ (.string (bts [50,48,48]))).setCell ⟨g,6,none⟩ (.string (bts [48,46,50,53])):=⟨_,rfl⟩
  have a4:Below W.heap.size W W9:=by
   rw[a6]
   exact ((((((af.setCell a0 _).setCell a0 _).setCell a0 _).setCell a0 _).setCell a0 _).setCell a0 _).setCell a0 _
  have ai:Words (word 0) g W9:=by rw[a6]; exact words0 HC.out
  rw[<- a6]
  refine⟨ac.out.below a4,?_⟩
  have aa:=Lh a4
  have ad:=Lh ai
  have hk:=(HT.out.below (I.out.trans (a4.mono I.out.size))).keys
  have ah:g < W9.heap.size:=by rw[a6]; simpa using a8
  obtain⟨k0,au⟩:=hk 0 _ rfl
  obtain⟨-,av⟩:=hk 1 _ rfl
  obtain⟨-,aw⟩:=hk 2 _ rfl
  obtain⟨-,ax⟩:=hk 3 _ rfl
  obtain⟨-,ay⟩:=hk 4 _ rfl
  obtain⟨-,az⟩:=hk 5 _ rfl
  obtain⟨-,aA⟩:=hk 6 _ rfl
  clear a6 a4 ai G af c0 c1 c2 c3 c4 c5 c6 f0 f1 f2 f3 f4 f5 f6 aq ar hk a8 ag
  refine rgD (by kernel_rfl) ?_
  go_wp2_with fail
  clear au av aw ax ay az aA
  go_loopw [37] (fun a9 wr=>∃ i:Nat,i<=7/\a9=.int .i64 i/\g < wr.heap.size/\Hid (Words (word i) g wr/\Below W.heap.size W wr)) (fun a9 _=>7 - (intOf a9).toNat)
  case atStart=>exact⟨0,by omega,rfl,ah,ad.out,aa.out⟩
  case round=>
   clear ad aa ah
   obtain⟨i,hi,rfl,a2,F⟩:=hrel
   rcases (show i=0\/i=1\/i=2\/i=3\/i=4\/i=5\/i=6\/i=7 by omega) with rfl | rfl | rfl | rfl | rfl | rfl | rfl | rfl
   .have a5:∀ w,(Instr.index 346 (.agg #[.string (bts [109,97,120,61]),.string (bts [109,105,110,61]),.string (bts [105,100,108,101,61]),.string (bts [108,105,102,101,61]),.string (bts [107,101,101,112,61]),.string (bts [108,101,97,107,61]),.string (bts [118,97,114,105,97,110,99,101,61])]) (.int .i64 0)).run Tryz.prog w=.ok (.string (bts [109,97,120,61])) w:=fun w=>by kernel_rfl
    have a3:∀ w,(binOp .add 9 (.string (bts [109,97,120,61])) (.string (bts [52]))).run Tryz.prog w=.ok (.string (bts [109,97,120,61,52])) w:=fun w=>by kernel_rfl
    obtain⟨cc,ff⟩:wr.cell? ⟨g,0,none⟩=some (.string (bts [52]))/\wr.frozen? ⟨g,0,none⟩=false:=F.out.1 0 (by omega)
    go_wp2_with fail
    go_roundw
    case rel=>exact⟨1,by omega,rfl,by simpa using a2,word_next 0 ▸ F.out.1.set 0 (by omega) _,F.out.2.setCell a0 _⟩
    case measure=>simp[intOf]
   .have a5:∀ w,(Instr.index 346 (.agg #[.string (bts [109,97,120,61]),.string (bts [109,105,110,61]),.string (bts [105,100,108,101,61]),.string (bts [108,105,102,101,61]),.string (bts [107,101,101,112,61]),.string (bts [108,101,97,107,61]),.string (bts [118,97,114,105,97,110,99,101,61])]) (.int .i64 1)).run Tryz.prog w=.ok (.string (bts [109,105,110,61])) w:=fun w=>by kernel_rfl
    have a3:∀ w,(binOp .add 9 (.string (bts [109,105,110,61])) (.string (bts [49]))).run Tryz.prog w=.ok (.string (bts [109,105,110,61,49])) w:=fun w=>by kernel_rfl
    obtain⟨cc,ff⟩:wr.cell? ⟨g,1,none⟩=some (.string (bts [49]))/\wr.frozen? ⟨g,1,none⟩=false:=F.out.1 1 (by omega)
    go_wp2_with fail
    go_roundw
    case rel=>exact⟨2,by omega,rfl,by simpa using a2,word_next 1 ▸ F.out.1.set 1 (by omega) _,F.out.2.setCell a0 _⟩
    case measure=>simp[intOf]
   .have a5:∀ w,(Instr.index 346 (.agg #[.string (bts [109,97,120,61]),.string (bts [109,105,110,61]),.string (bts [105,100,108,101,61]),.string (bts [108,105,102,101,61]),.string (bts [107,101,101,112,61]),.string (bts [108,101,97,107,61]),.string (bts [118,97,114,105,97,110,99,101,61])]) (.int .i64 2)).run Tryz.prog w=.ok (.string (bts [105,100,108,101,61])) w:=fun w=>by kernel_rfl
    have a3:∀ w,(binOp .add 9 (.string (bts [105,100,108,101,61])) (.string (bts [49,48,48]))).run Tryz.prog w=.ok (.string (bts [105,100,108,101,61,49,48,48])) w:=fun w=>by kernel_rfl
    obtain⟨cc,ff⟩:wr.cell? ⟨g,2,none⟩=some (.string (bts [49,48,48]))/\wr.frozen? ⟨g,2,none⟩=false:=F.out.1 2 (by omega)
    go_wp2_with fail
    go_roundw
    case rel=>exact⟨3,by omega,rfl,by simpa using a2,word_next 2 ▸ F.out.1.set 2 (by omega) _,F.out.2.setCell a0 _⟩
    case measure=>simp[intOf]
   .have a5:∀ w,(Instr.index 346 (.agg #[.string (bts [109,97,120,61]),.string (bts [109,105,110,61]),.string (bts [105,100,108,101,61]),.string (bts [108,105,102,101,61]),.string (bts [107,101,101,112,61]),.string (bts [108,101,97,107,61]),.string (bts [118,97,114,105,97,110,99,101,61])]) (.int .i64 3)).run Tryz.prog w=.ok (.string (bts [108,105,102,101,61])) w:=fun w=>by kernel_rfl
    have a3:∀ w,(binOp .add 9 (.string (bts [108,105,102,101,61])) (.string (bts [49,48,48,48]))).run Tryz.prog w=.ok (.string (bts [108,105,102,101,61,49,48,48,48])) w:=fun w=>by kernel_rfl
    obtain⟨cc,ff⟩:wr.cell? ⟨g,3,none⟩=some (.string (bts [49,48,48,48]))/\wr.frozen? ⟨g,3,none⟩=false:=F.out.1 3 (by omega)
    go_wp2_with fail
    go_roundw
    case rel=>exact⟨4,by omega,rfl,by simpa using a2,word_next 3 ▸ F.out.1.set 3 (by omega) _,F.out.2.setCell a0 _⟩
    case measure=>simp[intOf]
   .have a5:∀ w,(Instr.index 346 (.agg #[.string (bts [109,97,120,61]),.string (bts [109,105,110,61]),.string (bts [105,100,108,101,61]),.string (bts [108,105,102,101,61]),.string (bts [107,101,101,112,61]),.string (bts [108,101,97,107,61]),.string (bts [118,97,114,105,97,110,99,101,61])]) (.int .i64 4)).run Tryz.prog w=.ok (.string (bts [107,101,101,112,61])) w:=fun w=>by kernel_rfl
    have a3:∀ w,(binOp .add 9 (.string (bts [107,101,101,112,61])) (.string (bts [53,48]))).run Tryz.prog w=.ok (.string (bts [107,101,101,112,61,53,48])) w:=fun w=>by kernel_rfl
    obtain⟨cc,ff⟩:wr.cell? ⟨g,4,none⟩=some (.string (bts [53,48]))/\wr.frozen? ⟨g,4,none⟩=false:=F.out.1 4 (by omega)
    go_wp2_with fail
    go_roundw
    case rel=>exact⟨5,by omega,rfl,by simpa using a2,word_next 4 ▸ F.out.1.set 4 (by omega) _,F.out.2.setCell a0 _⟩
    case measure=>simp[intOf]
   .have a5:∀ w,(Instr.index 346 (.agg #[.string (bts [109,97,120,61]),.string (bts [109,105,110,61]),.string (bts [105,100,108,101,61]),.string (bts [108,105,102,101,61]),.string (bts [107,101,101,112,61]),.string (bts [108,101,97,107,61]),.string (bts [118,97,114,105,97,110,99,101,61])]) (.int .i64 5)).run Tryz.prog w=.ok (.string (bts [108,101,97,107,61])) w:=fun w=>by kernel_rfl
    have a3:∀ w,(binOp .add 9 (.string (bts [108,101,97,107,61])) (.string (bts [50,48,48]))).run Tryz.prog w=.ok (.string (bts [108,101,97,107,61,50,48,48])) w:=fun w=>by kernel_rfl
    obtain⟨cc,ff⟩:wr.cell? ⟨g,5,none⟩=some (.string (bts [50,48,48]))/\wr.frozen? ⟨g,5,none⟩=false:=F.out.1 5 (by omega)
    go_wp2_with fail
    go_roundw
    case rel=>exact⟨6,by omega,rfl,by simpa using a2,word_next 5 ▸ F.out.1.set 5 (by omega) _,F.out.2.setCell a0 _⟩
    case measure=>simp[intOf]
   .have a5:∀ w,(Instr.index 346 (.agg #[.string (bts [109,97,120,61]),.string (bts [109,105,110,61]),.string (bts [105,100,108,101,61]),.string (bts [108,105,102,101,61]),.string (bts [107,101,101,112,61]),.string (bts [108,101,97,107,61]),.string (bts [118,97,114,105,97,110,99,101,61])]) (.int .i64 6)).run Tryz.prog w=.ok (.string (bts [118,97,114,105,97,110,99,101,61])) w:=fun w=>by kernel_rfl
    have a3:∀ w,(binOp .add 9 (.string (bts [118,97,114,105,97,110,99,101,61])) (.string (bts [48,46,50,53]))).run Tryz.prog w=.ok (.string (bts [118,97,114,105,97,110,99,101,61,48,46,50,53])) w:=fun w=>by kernel_rfl
    obtain⟨cc,ff⟩:wr.cell? ⟨g,6,none⟩=some (.string (bts [48,46,50,53]))/\wr.frozen? ⟨g,6,none⟩=false:=F.out.1 6 (by omega)
    go_wp2_with fail
    go_roundw
    case rel=>exact⟨7,by omega,rfl,by simpa using a2,word_next 6 ▸ F.out.1.set 6 (by omega) _,F.out.2.setCell a0 _⟩
    case measure=>simp[intOf]
   .go_wp2_with fail
    refine (join_dflt g wr F.out.1 a2).mono ?_
    rintro e w9 ⟨rfl,a4⟩
    go_wp2_with fail
    go_ret2
    exact⟨rfl,I.out.trans ((F.out.2.trans (a4.mono F.out.2.size)).mono I.out.size)⟩
theorem awake13_any (w:World) (G:Tb.Tabs w) :
  Calls Tryz.prog 278 #[] w fun e w'=>e=.returned (.bool true)/\Below w.heap.size w w':=by
 have u:=Lh G
 clear G
 go_enter Tryz.func278,Tryz.ntmps278
 go_wp2_with fail
 refine (default_any _).mono ?_
 rintro e Q ⟨rfl,b1⟩
 go_wp2_with fail
 refine (text_dflt _ (u.out.below b1)).mono ?_
 rintro e W ⟨rfl,z⟩
 have h:=Lh (b1.trans (z.mono b1.size))
 clear b1 z
 go_wp2_with fail
 refine (Lc.Awake12_any _ (u.out.below h.out).tab).mono ?_
 rintro e Y ⟨rfl,F⟩
 have I:=Lh (h.out.trans (F.mono h.out.size))
 clear F
 have J:((bts dtext).toList == [109,97,120,61,52,32,109,105,110,61,49,32,105,100,108,101,61,49,48,48,32,108,105,102,101,61,49,48,48,48,32,107,101,101,112,61,53,48,32,108,101,97,107,61,50,48,48,32,118,97,114,105,97,110,99,101,61,48,46,50,53])=true:=by decide +kernel
 go_wp2_with fail
 go_ret
 exact⟨rfl,I.out⟩
theorem Awake13_any (w:World) (h:Tb.Tabs w) :
  Calls Tryz.prog 269 #[] w fun e w'=>e=.returned (.bool true)/\Below w.heap.size w w':=by
 go_enter Tryz.func269,Tryz.ntmps269
 go_wp2_with fail
 refine (awake13_any _ h).mono ?_
 rintro e u ⟨rfl,b1⟩
 go_wp2_with fail
 go_ret
 exact⟨rfl,b1⟩
end Go.Proofs.YtoiklelghfckgaaGreatDoor.Cn
end
