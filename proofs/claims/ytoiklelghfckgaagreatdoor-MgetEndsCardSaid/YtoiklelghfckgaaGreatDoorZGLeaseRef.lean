/- A part of the claim: the texts LeaseRef WheelRef LeaseRefB. -/
import Derived.Test.YtoiklelghfckgaaGreatDoorZGLease
import Derived.Test.YtoiklelghfckgaaGreatDoorZBase5
import Derived.Test.YtoiklelghfckgaaGreatDoorZBase2
import Derived.Test.YtoiklelghfckgaaGreatDoorZBase1
import Derived.Test.YtoiklelghfckgaaGreatDoorZGKeep
set_option maxRecDepth 100000
set_option maxHeartbeats 8000000
set_option linter.unusedVariables false
namespace Go.Proofs.YtoiklelghfckgaaGreatDoor.Le
open Go.ChangeShapes Go.WideShapes Go.ChangeAt Go.RowKit Go.Maps Rw Hi Mt
def enc4 (a:Int × Ls):List Value:=[.int .u64 a.1,.int .i64 a.2.thread,.int .u64 a.2.since,.bool a.2.flag]
theorem enc4_len (a:Int × Ls):(enc4 a).length=4:=rfl
theorem enc4_one (y:Int × Ls):∀ u∈enc4 y,u.oneCell'=true:=by intro u h; simp [enc4] at h; rcases h with rfl | rfl | rfl | rfl <;> rfl
theorem info_lease:(Tryz.prog.info? 266).map (fun i=>(i.zero,i.size,i.bytes))=some (some (.agg #[.int .u64 0,.int .i64 0,.int .u64 0,.bool false]),4,32):=by kernel_rfl
abbrev Rl (w:World) (B:Nat) (A:Option Addr) (n c:Nat) (l:List (Int × Ls)):Prop:=Rs enc4 4 w B A n c l
theorem four_at {w:World} {B:Nat} {A:Option Addr} {n c:Nat} {l:List (Int × Ls)} (h:Rl w B A n c l) {k:Nat} (hk:k < n) :
  ∃ b o x t s f,A=some ⟨b,o,none⟩∧b < B∧l[k]? = some (x,⟨t,s,f⟩)∧w.cell? ⟨b,o+k * 4,none⟩=some (.int .u64 x)∧w.cell? ⟨b,o+k * 4+1,none⟩=some (.int .i64 t)∧w.cell? ⟨b,o+k * 4+2,none⟩=some (.int .u64 s)∧w.cell? ⟨b,o+k * 4+3,none⟩=some (.bool f):=by
 obtain ⟨b,o,⟨x,t,s,f⟩,hA,u,hx,hc⟩:=h.get hk
 exact ⟨b,o,x,t,s,f,hA,u,hx,hc 0 _ (by omega) rfl,hc 1 _ (by omega) rfl,hc 2 _ (by omega) rfl,hc 3 _ (by omega) rfl⟩
def fx (D:List (Int × Ls)) (id:Int):Int:=match D.findIdx? (fun a=>a.1 == id) with
 | some i=>(i:Int)
 | none=>-1
theorem fx_hit {D:List (Int × Ls)} {id:Int} {k:Nat} {y:Ls} (h:∀ a∈D.take k,a.1≠id) (hk:D[k]? = some (id,y)):fx D id=k:=by
 have:D.findIdx? (fun a=>a.1 == id)=some k:=by
  obtain ⟨u,e⟩:=List.getElem?_eq_some_iff.1 hk
  rw [List.findIdx?_eq_some_iff_getElem]
  refine ⟨u,by rw [e]; simp,fun j z=>?_⟩
  have:=h D[j] (List.mem_take_iff_getElem.2 ⟨j,by omega,rfl⟩)
  simpa using this
 unfold fx; rw [this]
theorem fx_miss {D:List (Int × Ls)} {id:Int} (h:∀ a∈D,a.1≠id):fx D id = -1:=by
 have:D.findIdx? (fun a=>a.1 == id)=none:=by
  rw [List.findIdx?_eq_none_iff]
  intro a ha
  simpa using h a ha
 unfold fx; rw [this]
theorem take_ne {D:List (Int × Ls)} {id:Int} {k:Nat} {a:Int × Ls} (h:∀ a∈D.take k,a.1≠id) (hk:D[k]? = some a) (F:a.1≠id):∀ a∈D.take (k+1),a.1≠id:=by
 obtain ⟨z,rfl⟩:=List.getElem?_eq_some_iff.1 hk
 intro b u
 rw [List.take_succ_eq_append_getElem z] at u
 rcases List.mem_append.1 u with u | u
 ·exact h b u
 ·rw [List.mem_singleton.1 u]; exact F
theorem fx_cases (D:List (Int × Ls)) (id:Int):(fnd D id=none∧fx D id = -1) ∨ ∃ (k:Nat) (y:Ls),D[k]? = some (id,y)∧(∀ a∈D.take k,a.1≠id)∧fx D id=k∧fnd D id=some y:=by
 by_cases h:∀ a∈D,a.1≠id
 ·refine .inl ⟨?_,fx_miss h⟩
  refine fnd_none fun I=>?_
  obtain ⟨a,ha,e⟩:=List.mem_map.1 I
  exact h a ha e
 ·cases hf:D.findIdx? (fun a=>a.1 == id) with
  | none=>
   rw [List.findIdx?_eq_none_iff] at hf
   exact absurd (fun a ha=>by simpa using hf a ha) h
  | some k=>
   rw [List.findIdx?_eq_some_iff_getElem] at hf
   obtain ⟨F,u,z⟩:=hf
   refine .inr ⟨k,D[k].2,?_,fun a ha=>?_,?_,?_⟩
   ·rw [List.getElem?_eq_getElem F]
    have:D[k].1=id:=by simpa using u
    rw [← this]
   ·obtain ⟨j,G,rfl⟩:=List.mem_take_iff_getElem.1 ha
    have:=z j (by omega)
    simpa using this
   ·unfold fx
    rw [List.findIdx?_eq_some_iff_getElem.2 ⟨F,u,z⟩]
   ·unfold fnd
    have J:D.find? (fun a=>a.1 == id)=some D[k]:=List.find?_eq_some_iff_getElem.2 ⟨u,k,F,rfl,fun j G=>by simpa using z j G⟩
    rw [J]; rfl
section
variable (leak:Int) (A A2 A3:Option Addr) (n c n2 c2 n3 c3 B:Nat) (D:List (Int × Ls)) (w:World)
theorem rfind_any (id:Int) (h:Rl w B A n c D) (hB:B≤w.heap.size) (hn:n≤100000) :
  Calls Tryz.prog 183 #[.agg #[.int .u64 leak,.slice A n c,.slice A2 n2 c2,.slice A3 n3 c3],.int .u64 id] w fun e w'=>e=.returned (.int .i64 (fx D id))∧Below w.heap.size w w':=by
 have Y:=Lh h
 have Q:=Lh h.len
 have b0:=Lh ((Below.refl w.heap.size w).alloc (Nat.le_refl _) (.cells #[.int .u64 leak,.slice A n c,.slice A2 n2 c2,.slice A3 n3 c3] 38))
 clear h
 go_enter Tryz.func183,Tryz.ntmps183
 go_wp2_with fail
 go_loopw [5,6,10] (fun s5 s6 i wr=>∃ k:Nat,k≤n∧i=.int .i64 k∧Hid (∀ a∈D.take k,a.1≠id)∧Below w.heap.size w wr) (fun _ _ i _=>n - (intOf i).toNat)
 case atStart=>exact ⟨0,Nat.zero_le _,rfl,Lh (fun a ha=>by simp at ha),b0.out⟩
 case round=>
  obtain ⟨k,hk,rfl,F,u⟩:=hrel
  by_cases hlt:k < n
  ·obtain ⟨b,o,x,t,s,f,rfl,hb,ha,c0,c1,c2,c3⟩:=four_at Y.out hlt
   have d0:=(u.cell (p:=⟨b,o+k * 4,none⟩) (by simp only; omega)).trans c0
   have d1:=(u.cell (p:=⟨b,o+k * 4+1,none⟩) (by simp only; omega)).trans c1
   have d2:=(u.cell (p:=⟨b,o+k * 4+2,none⟩) (by simp only; omega)).trans c2
   have d3:=(u.cell (p:=⟨b,o+k * 4+3,none⟩) (by simp only; omega)).trans c3
   have G:=Lh ha
   have a0:=u.size
   have I:=Lh (u.alloc a0 (.cells #[.int .u64 x,.int .i64 t,.int .u64 s,.bool f] 266))
   clear c0 c1 c2 c3 ha u
   by_cases hx:x=id
   ·subst hx
    have z:=Lh (fx_hit F.out G.out)
    go_wp2_with fail
    go_ret
    exact ⟨by rw [z.out]; rfl,I.out⟩
   ·have e1:(x == id)=false:=by simpa using hx
    have W:=Lh (take_ne F.out G.out hx)
    clear hx
    go_wp2_with fail
    go_roundw
    case rel=>exact ⟨k+1,by omega,by go_num,W,I.out⟩
    case measure=>simp [intOf]; omega
  ·have z:Hid (fx D id = -1):=Lh (fx_miss (by
    have J:=F.out
    rw [List.take_of_length_le (by have:=Q.out; omega)] at J
    exact J))
   go_wp2_with fail
   go_ret
   exact ⟨by rw [z.out]; rfl,u⟩
theorem info_u64':(Tryz.prog.info? 25).map (fun i=>(i.zero,i.size,i.bytes))=some (some (.int .u64 0),1,8):=by kernel_rfl
end
end Go.Proofs.YtoiklelghfckgaaGreatDoor.Le
namespace Go.Proofs.YtoiklelghfckgaaGreatDoor.Wl
open Go.ChangeShapes Go.WideShapes Go.ChangeAt Go.RowKit Go.Maps Rw Sl Sn Ck
def enc2 (a:Int × Int):List Value:=[.int .u64 a.1,.int .u64 a.2]
theorem enc2_len (a:Int × Int):(enc2 a).length=2:=rfl
theorem enc2_one (y:Int × Int):∀ u∈enc2 y,u.oneCell'=true:=by intro u h; simp [enc2] at h; rcases h with rfl | rfl <;> rfl
theorem info_timer:(Tryz.prog.info? 287).map (fun i=>(i.zero,i.size,i.bytes))=some (some (.agg #[.int .u64 0,.int .u64 0]),2,16):=by kernel_rfl
abbrev Tr (w:World) (B:Nat) (A:Option Addr) (n c:Nat) (l:List (Int × Int)):Prop:=Rs enc2 2 w B A n c l
theorem Rs.two {w:World} {B:Nat} {A:Option Addr} {n c:Nat} {l:List (Int × Int)} (h:Tr w B A n c l) {k:Nat} (hk:k < n) :
  ∃ b o x,A=some ⟨b,o,none⟩∧b < B∧l[k]? = some x∧w.cell? ⟨b,o+k * 2,none⟩=some (.int .u64 x.1)∧w.cell? ⟨b,o+k * 2+1,none⟩=some (.int .u64 x.2):=by
 obtain ⟨b,o,x,hA,u,hx,hc⟩:=h.get hk
 exact ⟨b,o,x,hA,u,hx,by simpa using hc 0 (.int .u64 x.1) (by omega) rfl,hc 1 (.int .u64 x.2) (by omega) rfl⟩
theorem wo_snoc_hit {l:List (Int × Int)} {k:Nat} {a:Int × Int} {key:Int} (h:l[k]? = some a) (u:a.1=key):wo (l.take (k+1)) key=wo (l.take k) key:=by
 rw [List.take_add_one,h]; simp [wo,u]
theorem wo_snoc_miss {l:List (Int × Int)} {k:Nat} {a:Int × Int} {key:Int} (h:l[k]? = some a) (u:a.1≠key):wo (l.take (k+1)) key=wo (l.take k) key ++ [a]:=by
 rw [List.take_add_one,h]; simp [wo,u]
theorem key_snoc {l:List (Int × Int)} {k:Nat} {a:Int × Int} {key:Int} (h:l[k]? = some a):decide (key∈(l.take (k+1)).map Prod.fst)=(decide (key∈(l.take k).map Prod.fst) || decide (a.1=key)):=by
 rw [List.take_add_one,h,Bool.eq_iff_iff,Bool.or_eq_true,decide_eq_true_eq,decide_eq_true_eq,decide_eq_true_eq]
 simp
 constructor
 ·rintro (h | h)
  ·exact .inl h
  ·exact .inr h.symm
 ·rintro (h | h)
  ·exact .inl h
  ·exact .inr h.symm
theorem twithout_any (A:Option Addr) (n c B:Nat) (l:List (Int × Int)) (key:Int) (w:World) (h:Tr w B A n c l) (hB:B≤w.heap.size) (hn:n≤100000) :
  Calls Tryz.prog 208 #[.slice A n c,.int .u64 key] w fun e w'=>∃ A' u,e=.returned (.tuple #[.slice A' (wo l key).length u,.bool (decide (key∈l.map Prod.fst))]) ∧
   w'.ownsRow w.heap.size 287 2 (.slice A' (wo l key).length u) (wo l key).length (flat enc2 (wo l key))∧Below w.heap.size w w':=by
 obtain ⟨i0,hi,ai,aj,ak⟩:=info_parts info_timer
 have HR:=Lh h
 have ad:=Lh h.len
 clear h
 go_enter Tryz.func208,Tryz.ntmps208
 go_wp2_with fail
 go_loopw [6,7,12] (fun v b i wr=>∃ (k q u:Nat) (A':Option Addr),k≤n∧i=.int .i64 k∧b=.bool (decide (key∈(l.take k).map Prod.fst))∧v=.slice A' q u∧q≤k∧q=(wo (l.take k) key).length ∧
   wr.ownsRow w.heap.size 287 2 (.slice A' q u) q (flat enc2 (wo (l.take k) key))∧Below w.heap.size w wr) (fun _ _ i _=>n - (intOf i).toNat)
 case atStart=>exact ⟨0,0,0,none,Nat.zero_le _,rfl,rfl,rfl,Nat.zero_le _,rfl,World.ownsRow_nil _ _ _ _,Below.refl _ _⟩
 case round=>
  obtain ⟨k,q,u,A',hk,rfl,rfl,rfl,al,Q,F,z⟩:=hrel
  have a0:=Lh F
  have Y:=Lh Q
  clear F Q
  by_cases hlt:k < n
  ·obtain ⟨b,o,a,rfl,hb,ha,a5,a6⟩:=Rs.two HR.out hlt
   have d0:wr.cell? ⟨b,o+k * 2,none⟩=some (.int .u64 a.1):=(z.cell (p:=⟨b,o+k * 2,none⟩) (by simp only; omega)).trans a5
   have d1:wr.cell? ⟨b,o+k * 2+1,none⟩=some (.int .u64 a.2):=(z.cell (p:=⟨b,o+k * 2+1,none⟩) (by simp only; omega)).trans a6
   have W:=Lh ha
   have a4:=z.size
   obtain ⟨x,y⟩:=a
   simp only at d0 d1
   clear a5 a6 ha
   by_cases hx:x=key
   ·have e1:(x == key)=true:=by simpa using hx
    have I:=key_snoc (key:=key) W.out
    have J:=wo_snoc_hit (key:=key) W.out hx
    have EK:=Lh I
    have G:=Lh J
    have HX:=Lh hx
    have a2:=Lh (z.alloc a4 (.cells #[.int .u64 x,.int .u64 y] 287))
    clear I J hx z
    go_wp2_with fail
    go_roundw
    case rel=>
     refine ⟨k+1,q,u,A',by omega,by go_num,?_,rfl,by omega,by rw [G.out]; exact Y.out,by rw [G.out]; exact a0.out.alloc _,a2.out⟩
     rw [EK.out]
     simp [HX.out]
    case measure=>simp [intOf]; omega
   ·have e1:(x == key)=false:=by simpa using hx
    have I:=key_snoc (key:=key) W.out
    have J:=wo_snoc_miss (key:=key) W.out hx
    have EK:=Lh I
    have G:=Lh J
    have HX:=Lh hx
    have a3:=z.alloc a4 (.cells #[.int .u64 x,.int .u64 y] 287)
    have a2:=Lh (a3.alloc (by simp; omega) (.cells #[.int .u64 x,.int .u64 y] 287))
    have aa:Tr ((wr.alloc (.cells #[.int .u64 x,.int .u64 y] 287)).alloc (.cells #[.int .u64 x,.int .u64 y] 287)) (wr.heap.size+1+1) (some ⟨wr.heap.size+1,0,none⟩) 1 1 [(x,y)]:=by
     have:=rs_one enc2_len (wr.alloc (.cells #[.int .u64 x,.int .u64 y] 287)) (x,y) 287 (cs:=#[.int .u64 x,.int .u64 y]) rfl
     simpa using this
    have ag:=Lh aa
    have a8:flat enc2 (wo (l.take k) key) ++ flat enc2 [(x,y)] = flat enc2 (wo (l.take (k+1)) key):=by rw [G.out,flat_append]
    have ae:=Lh a8
    have a1:=Lh ((a0.out.alloc (.cells #[.int .u64 x,.int .u64 y] 287)).alloc (.cells #[.int .u64 x,.int .u64 y] 287))
    clear I J hx z a3 aa a8
    go_wp2_with (
     at_builtin
     refine append_rs enc2_len rfl _ _ 36 rfl w.heap.size 287 i0 _ 16 Tryz.underlying36 hi ai aj ak rfl (by decide) _ q _ rfl a1.out _ _ 1 1 [(x,y)] rfl ag.out enc2_one (q+1) rfl _ ae.out (by unfold maxLen; omega) (by omega) (by simp; omega) ?_
     intro A3 c3 w3 a9 a7 ah
     have af:=Lh a9
     have ac:=Lh (a2.out.grown a7 (by simp; omega) (fun j hj=>(a1.out.lt j hj).1))
     clear a9 a7 ah)
    go_roundw
    case rel=>
     refine ⟨k+1,q+1,c3,A3,by omega,by go_num,?_,rfl,by omega,by rw [G.out,List.length_append,← Y.out]; rfl,af.out,ac.out⟩
     rw [EK.out]
     simp [HX.out]
    case measure=>simp [intOf]; omega
  ·obtain rfl:k=n:=by omega
   have ht:l.take k=l:=List.take_of_length_le (by have:=ad.out; omega)
   have F:=a0.out
   have Q:=Y.out
   rw [ht] at F Q ⊢
   subst Q
   have a1:=Lh F
   clear F a0 Y ht
   go_wp2_with fail
   go_ret2
   exact ⟨A',u,rfl,a1.out,z⟩
def Fm (A:Option Addr) (c:Nat):Prop:=(A=none∧c=0) ∨ ∃ b o,A=some ⟨b,o,none⟩
theorem own_fm {w:World} {base:Nat} {e:TypeId} {size n:Nat} {A:Option Addr} {c:Nat} {xs:List Value} (h:w.ownsRow base e size (.slice A n c) n xs):Fm A c:=by
 rcases h.2 with ⟨u,_⟩ | ⟨g,cap,z,u,_⟩
 ·injection u with u _ h2; exact .inl ⟨u,h2⟩
 ·injection u with u _ h2; exact .inr ⟨g,0,u⟩
theorem bf_parts (x y key t:Int):bf (x,y) (key,t)=(decide (y < t) || (decide (y=t) && decide (x < key))):=rfl
theorem tarm_room (A:Option Addr) (n c B:Nat) (l:List (Int × Int)) (key at_:Int) (w:World) (h:Tr w B A n c l) (hB:B≤w.heap.size) (hn:n≤1024) (tms:Tms l) (ha:0≤at_∧at_≤18446744073709551615) (hf:¬ 1024≤(wo l key).length) :
  Calls Tryz.prog 184 #[.slice A n c,.int .u64 key,.int .u64 at_] w fun e w'=>∃ A1 c1,e=.returned (.tuple #[.slice A1 ((wo l key).length+1) c1,.int .i64 0]) ∧
   w'.ownsRow w.heap.size 287 2 (.slice A1 ((wo l key).length+1) c1) ((wo l key).length+1) (flat enc2 (ins (key,cut at_) (wo l key)))∧Below w.heap.size w w':=by
 obtain ⟨i0,hi,a5,a6,a7⟩:=info_parts info_timer
 have HR:=Lh h
 have HT:=Lh tms
 have b5:=Lh h.len
 clear h tms
 have aP:Tms (wo l key):=HT.out.filter _
 obtain ⟨R,hR⟩:∃ R,wo l key=R:=⟨_,rfl⟩
 rw [hR] at aP hf ⊢
 have hd:decide ((1024:Int)≤(R.length:Int))=false:=decide_eq_false (by omega)
 have bd:decide (1024≤R.length)=false:=decide_eq_false (by omega)
 have aS:=Lh aP
 have b6:=Lh hR
 have bg:R.length≤1024:=by omega
 clear aP hR hf
 go_enter Tryz.func184,Tryz.ntmps184
 go_wp2_with fail
 refine (twithout_any A n c B l key _ HR.out hB (by omega)).mono ?_
 rw [b6.out]
 rintro e w1 ⟨A1,c1,rfl,aO,aZ⟩
 have aD:Tr w1 w1.heap.size A1 R.length c1 R:=Rs.own_rs enc2_len rfl aO
 have b8:=own_fm aO
 have aT:=Lh aD
 have aN:=Lh aZ
 clear aO aZ aD HR HT b5
 go_wp2_with fail
 refine (radd_any at_ 0 _ ha.1 ha.2 (by omega) (by omega)).mono ?_
 rintro e w2 ⟨rfl,rfl⟩
 rw [cut_add]
 have bc:=cut_ok ha.1
 go_wp2_with fail
 obtain ⟨T,hT⟩:∃ T,w1.heap.size=T:=⟨_,rfl⟩
 rw [hT]
 have b3:(w1.alloc (.cells #[.int .u64 key,.int .u64 (cut at_)] 287)).cell? ⟨T,0,none⟩=some (.int .u64 key):=by rw [← hT]; go_simp
 have b4:(w1.alloc (.cells #[.int .u64 key,.int .u64 (cut at_)] 287)).cell? ⟨T,1,none⟩=some (.int .u64 (cut at_)):=by rw [← hT]; go_simp
 have aV:=Lh b3
 have aW:=Lh b4
 have aQ:=Lh (aN.out.alloc aN.out.size (.cells #[.int .u64 key,.int .u64 (cut at_)] 287))
 have aU:=Lh ((aT.out.alloc (Nat.le_refl _) (.cells #[.int .u64 key,.int .u64 (cut at_)] 287)).more (B':=(w1.alloc (.cells #[.int .u64 key,.int .u64 (cut at_)] 287)).heap.size) (by simp))
 clear hT b3 b4 aT aN
 change Code.wp _ _ _ _ (w1.alloc (.cells #[.int .u64 key,.int .u64 (cut at_)] 287))
 generalize w1.alloc (.cells #[.int .u64 key,.int .u64 (cut at_)] 287)=Q at *
 go_loopw [11] (fun i wr=>∃ k:Nat,k≤R.length∧i=.int .i64 k∧(∀ j x,j < k→R[j]? = some x→bf x (key,cut at_)=true)∧Tr wr wr.heap.size A1 R.length c1 R∧wr.cell? ⟨T,0,none⟩=some (.int .u64 key)∧wr.cell? ⟨T,1,none⟩=some (.int .u64 (cut at_))∧Below w.heap.size w wr) (fun i _=>R.length - (intOf i).toNat)
 case atStart=>exact ⟨0,Nat.zero_le _,rfl,fun j x h=>absurd h (by omega),aU.out,aV.out,aW.out,aQ.out⟩
 case round=>
  clear aU aV aW aQ
  obtain ⟨k,be,rfl,aY,aD,x0,x1,a4⟩:=hrel
  have ak:=Lh aD
  have aE:=Lh aY
  have b7:=aD.cap
  have bb:=aD.top
  clear aD aY
  have f0:∀ q:After wr,q.1.cell? ⟨T,0,none⟩=some (.int .u64 key):=fun q=>q.cell x0
  have f1:∀ q:After wr,q.1.cell? ⟨T,1,none⟩=some (.int .u64 (cut at_)):=fun q=>q.cell x1
  by_cases hlt:k < R.length
  ·obtain ⟨b,o,a,rfl,hb,aX,aJ,aK⟩:=Rs.two ak.out hlt
   have aG:=Lh aX
   obtain ⟨x,y⟩:=a
   simp only at aJ aK
   have g0:∀ q:After wr,q.1.cell? ⟨b,o+k * 2,none⟩=some (.int .u64 x):=fun q=>q.cell aJ
   have g1:∀ q:After wr,q.1.cell? ⟨b,o+k * 2+1,none⟩=some (.int .u64 y):=fun q=>q.cell aK
   clear aX
   by_cases hbf:bf (x,y) (key,cut at_)=true
   ·have b2:∀ u,Below wr.heap.size wr u → ∃ q:Nat,q≤R.length∧(Value.int .i64 ((k:Int)+1))=.int .i64 q∧(∀ j z,j < q→R[j]? = some z→bf z (key,cut at_)=true)∧Tr u u.heap.size (some ⟨b,o,none⟩) R.length c1 R∧u.cell? ⟨T,0,none⟩=some (.int .u64 key)∧u.cell? ⟨T,1,none⟩=some (.int .u64 (cut at_))∧Below w.heap.size w u:=by
     intro u h3
     refine ⟨k+1,by omega,by go_num,fun j z I hz=>?_,ak.out.later h3,(h3.cell (p:=⟨T,0,none⟩) (Lw.lt_heap x0)).trans x0,(h3.cell (p:=⟨T,1,none⟩) (Lw.lt_heap x1)).trans x1,a4.trans (h3.mono a4.size)⟩
     rcases Nat.lt_or_ge j k with h | h
     ·exact aE.out j z h hz
     ·obtain rfl:j=k:=by omega
      have:=aG.out.symm.trans hz
      injection this with this
      subst this
      exact hbf
    have aR:=Lh b2
    clear b2 a4 ak aE aG b7 bb
    by_cases hyt:y < cut at_
    ·have d1:decide (y < cut at_)=true:=decide_eq_true hyt
     clear hbf hyt
     go_wp2_with fail
     refine region_after (by kernel_rfl) (by kernel_rfl) ?_
     repeat (go_big_quiet_step (fail))
     refine wpQuiet_nil ?_
     rintro u ⟨⟨_,G⟩,rfl⟩
     go_wp2_with fail
     go_roundw
     case rel=>exact aR.out u G
     case measure=>simp [intOf]; omega
    ·have d1:decide (y < cut at_)=false:=decide_eq_false hyt
     rw [bf_parts,d1,Bool.false_or,Bool.and_eq_true] at hbf
     have aM:y=cut at_:=of_decide_eq_true hbf.1
     have d2:(y == cut at_)=true:=by simpa using aM
     have d3:decide (x < key)=true:=hbf.2
     clear hbf hyt aM
     go_wp2_with fail
     refine region_after (by kernel_rfl) (by kernel_rfl) ?_
     repeat (go_big_quiet_step (fail))
     refine wpQuiet_nil ?_
     rintro u ⟨⟨_,G⟩,rfl⟩
     go_wp2_with fail
     go_roundw
     case rel=>exact aR.out u G
     case measure=>simp [intOf]; omega
   ·have aH:ins (key,cut at_) R=R.take k ++ (key,cut at_) :: R.drop k:=aS.out.ins_at aE.out (fun z hz=>by have:=aG.out.symm.trans hz; injection this with this; subst this; simpa using hbf)
    have aF:=Lh aH
    have b9:k < c1:=by omega
    have b0:¬ c1=k:=by omega
    have d1:decide (y < cut at_)=false:=by
     cases hq:decide (y < cut at_) with
     | false=>rfl
     | true=>exact absurd (by rw [bf_parts,hq]; rfl) hbf
    have ba:(y == cut at_)=false∨((y == cut at_)=true∧decide (x < key)=false):=by
     cases hq:(y == cut at_) with
     | false=>exact .inl rfl
     | true=>
      refine .inr ⟨rfl,?_⟩
      cases hq2:decide (x < key) with
      | false=>rfl
      | true=>
       have aM:y=cut at_:=by simpa using hq
       exact absurd (by rw [bf_parts,hq2]; simp [aM]) hbf
    clear aH hbf aE
    rcases ba with d2 | ⟨d2,d3⟩
    ·go_wp2_with fail
     refine region_after (by kernel_rfl) (by kernel_rfl) ?_
     repeat (go_big_quiet_step (fail))
     refine wpQuiet_nil ?_
     rintro u ⟨⟨_,G⟩,rfl⟩
     have a3:=Lh (ak.out.later G)
     have x4:u.cell? ⟨T,0,none⟩=some (.int .u64 key):=(G.cell (p:=⟨T,0,none⟩) (Lw.lt_heap x0)).trans x0
     have x5:u.cell? ⟨T,1,none⟩=some (.int .u64 (cut at_)):=(G.cell (p:=⟨T,1,none⟩) (Lw.lt_heap x1)).trans x1
     have a0:Below w.heap.size w u:=a4.trans (G.mono a4.size)
     clear aJ aK f0 f1 g0 g1 x0 x1 G a4 ak aG
     have aB:=a0.size
     have a2:Tr u u.heap.size (some ⟨b,o,none⟩) k c1 (R.take k):=a3.out.front (by omega)
     have a1:Tr u u.heap.size (some ⟨b,o+k * 2,none⟩) (R.length - k) (c1 - k) (R.drop k):=a3.out.back (by omega) rfl (fun _=>rfl)
     obtain ⟨bs,ac⟩:∃ bs,u.heap.size=bs:=⟨_,rfl⟩
     rw [ac] at a2 a1 aB
     have ad:bs≤u.heap.size:=by omega
     have aI:u.heap.size≤bs:=by omega
     have ar:=Lh a2
     have an:=Lh a1
     have a9:=Lh a0
     have af:flat enc2 (R.take k) ++ flat enc2 [(key,cut at_)] = flat enc2 (R.take k ++ [(key,cut at_)]):=(flat_append _ _).symm
     have ag:flat enc2 (R.take k ++ [(key,cut at_)]) ++ flat enc2 (R.drop k)=flat enc2 (ins (key,cut at_) R):=by (rw [aF.out,← flat_append]) <;> (congr 1 <;> simp)
     have au:=Lh af
     have av:=Lh ag
     clear a2 a1 ac a0 a3 af ag
     go_wp2_with (first
      | (at_builtin
         refine append_rs enc2_len rfl (.tmp 62) (.tmp 65) 36 rfl bs 287 i0 _ 16 Tryz.underlying36 hi a5 a6 a7 rfl (by decide) (.slice none 0 0) 0 [] rfl (World.ownsRow_nil _ _ _ _) _ (some ⟨b,o,none⟩) k c1 (R.take k) rfl ar.out enc2_one k (Nat.zero_add _) (flat enc2 (R.take k)) rfl (by unfold maxLen; omega) (by omega) ad ?_
         intro A3 c3 Q ah F ay
         have z0:Q.cell? ⟨T,0,none⟩=some (.int .u64 key):=F.cell x4 (by simp [Value.ownBlock])
         have z1:Q.cell? ⟨T,1,none⟩=some (.int .u64 (cut at_)):=F.cell x5 (by simp [Value.ownBlock])
         have Y:=Lh ah
         have ao:=Lh (an.out.grown F ad (fun g hg=>by cases hg))
         have W:=Lh (a9.out.grown F a9.out.size (fun j I=>by cases I))
         have aL:=F.size
         have ax:=Lh (rs_one enc2_len Q (key,cut at_) 287 (cs:=#[.int .u64 key,.int .u64 (cut at_)]) rfl)
         clear ah F ay)
      | (at_builtin
         refine append_rs enc2_len rfl (.tmp 67) (.tmp 69) 36 rfl bs 287 i0 _ 16 Tryz.underlying36 hi a5 a6 a7 rfl (by decide) _ k _ rfl (Y.out.alloc _) _ _ 1 1 [(key,cut at_)] rfl ax.out enc2_one (k+1) rfl _ au.out (by unfold maxLen; omega) (by omega) (by simp; omega) ?_
         intro A4 c4 w4 ai J az
         have aa:=Lh ai
         have aq:=Lh ((ao.out.alloc (by omega) _).grown J (by simp; omega) (fun g hg=>(Y.out.lt g hg).1))
         have a8:=Lh ((W.out.alloc W.out.size _).grown J (by have:=W.out.size; simp; omega) (fun j I=>by have:=(Y.out.lt j I).1; omega))
         have aC:=J.size
         clear ai J az)
      | (at_builtin
         refine append_rs enc2_len rfl (.tmp 71) (.tmp 74) 36 rfl bs 287 i0 _ 16 Tryz.underlying36 hi a5 a6 a7 rfl (by decide) _ (k+1) _ rfl aa.out _ (some ⟨b,o+k * 2,none⟩) ((R.length - k)) ((c1 - k)) (R.drop k) rfl aq.out enc2_one (R.length+1) (by omega) _ av.out (by unfold maxLen; omega) (by omega) (by simp at aC; omega) ?_
         intro A5 c5 w5 aj ae aA
         have aw:=Lh aj
         have al:=Lh (a8.out.grown ae a8.out.size (fun j I=>by have:=(aa.out.lt j I).1; omega))
         clear aj ae aA))
     go_ret2
     exact ⟨A5,c5,rfl,own_mono aw.out (by omega),al.out⟩
    ·go_wp2_with fail
     refine region_after (by kernel_rfl) (by kernel_rfl) ?_
     repeat (go_big_quiet_step (fail))
     refine wpQuiet_nil ?_
     rintro u ⟨⟨_,G⟩,rfl⟩
     have a3:=Lh (ak.out.later G)
     have x4:u.cell? ⟨T,0,none⟩=some (.int .u64 key):=(G.cell (p:=⟨T,0,none⟩) (Lw.lt_heap x0)).trans x0
     have x5:u.cell? ⟨T,1,none⟩=some (.int .u64 (cut at_)):=(G.cell (p:=⟨T,1,none⟩) (Lw.lt_heap x1)).trans x1
     have a0:Below w.heap.size w u:=a4.trans (G.mono a4.size)
     clear aJ aK f0 f1 g0 g1 x0 x1 G a4 ak aG
     have aB:=a0.size
     have a2:Tr u u.heap.size (some ⟨b,o,none⟩) k c1 (R.take k):=a3.out.front (by omega)
     have a1:Tr u u.heap.size (some ⟨b,o+k * 2,none⟩) (R.length - k) (c1 - k) (R.drop k):=a3.out.back (by omega) rfl (fun _=>rfl)
     obtain ⟨bs,ac⟩:∃ bs,u.heap.size=bs:=⟨_,rfl⟩
     rw [ac] at a2 a1 aB
     have ad:bs≤u.heap.size:=by omega
     have aI:u.heap.size≤bs:=by omega
     have ar:=Lh a2
     have an:=Lh a1
     have a9:=Lh a0
     have af:flat enc2 (R.take k) ++ flat enc2 [(key,cut at_)] = flat enc2 (R.take k ++ [(key,cut at_)]):=(flat_append _ _).symm
     have ag:flat enc2 (R.take k ++ [(key,cut at_)]) ++ flat enc2 (R.drop k)=flat enc2 (ins (key,cut at_) R):=by (rw [aF.out,← flat_append]) <;> (congr 1 <;> simp)
     have au:=Lh af
     have av:=Lh ag
     clear a2 a1 ac a0 a3 af ag
     go_wp2_with (first
      | (at_builtin
         refine append_rs enc2_len rfl (.tmp 62) (.tmp 65) 36 rfl bs 287 i0 _ 16 Tryz.underlying36 hi a5 a6 a7 rfl (by decide) (.slice none 0 0) 0 [] rfl (World.ownsRow_nil _ _ _ _) _ (some ⟨b,o,none⟩) k c1 (R.take k) rfl ar.out enc2_one k (Nat.zero_add _) (flat enc2 (R.take k)) rfl (by unfold maxLen; omega) (by omega) ad ?_
         intro A3 c3 Q ah F ay
         have z0:Q.cell? ⟨T,0,none⟩=some (.int .u64 key):=F.cell x4 (by simp [Value.ownBlock])
         have z1:Q.cell? ⟨T,1,none⟩=some (.int .u64 (cut at_)):=F.cell x5 (by simp [Value.ownBlock])
         have Y:=Lh ah
         have ao:=Lh (an.out.grown F ad (fun g hg=>by cases hg))
         have W:=Lh (a9.out.grown F a9.out.size (fun j I=>by cases I))
         have aL:=F.size
         have ax:=Lh (rs_one enc2_len Q (key,cut at_) 287 (cs:=#[.int .u64 key,.int .u64 (cut at_)]) rfl)
         clear ah F ay)
      | (at_builtin
         refine append_rs enc2_len rfl (.tmp 67) (.tmp 69) 36 rfl bs 287 i0 _ 16 Tryz.underlying36 hi a5 a6 a7 rfl (by decide) _ k _ rfl (Y.out.alloc _) _ _ 1 1 [(key,cut at_)] rfl ax.out enc2_one (k+1) rfl _ au.out (by unfold maxLen; omega) (by omega) (by simp; omega) ?_
         intro A4 c4 w4 ai J az
         have aa:=Lh ai
         have aq:=Lh ((ao.out.alloc (by omega) _).grown J (by simp; omega) (fun g hg=>(Y.out.lt g hg).1))
         have a8:=Lh ((W.out.alloc W.out.size _).grown J (by have:=W.out.size; simp; omega) (fun j I=>by have:=(Y.out.lt j I).1; omega))
         have aC:=J.size
         clear ai J az)
      | (at_builtin
         refine append_rs enc2_len rfl (.tmp 71) (.tmp 74) 36 rfl bs 287 i0 _ 16 Tryz.underlying36 hi a5 a6 a7 rfl (by decide) _ (k+1) _ rfl aa.out _ (some ⟨b,o+k * 2,none⟩) ((R.length - k)) ((c1 - k)) (R.drop k) rfl aq.out enc2_one (R.length+1) (by omega) _ av.out (by unfold maxLen; omega) (by omega) (by simp at aC; omega) ?_
         intro A5 c5 w5 aj ae aA
         have aw:=Lh aj
         have al:=Lh (a8.out.grown ae a8.out.size (fun j I=>by have:=(aa.out.lt j I).1; omega))
         clear aj ae aA))
     go_ret2
     exact ⟨A5,c5,rfl,own_mono aw.out (by omega),al.out⟩
  ·obtain rfl:k=R.length:=by omega
   have aH:ins (key,cut at_) R=R.take R.length ++ (key,cut at_) :: R.drop R.length:=aS.out.ins_at aE.out (fun z hz=>by have:=(List.getElem?_eq_some_iff.1 hz).1; omega)
   have aF:=Lh aH
   clear aH aE
   rcases b8 with ⟨rfl,rfl⟩ | ⟨b,o,rfl⟩
   ·obtain rfl:R=[]:=List.eq_nil_of_length_eq_zero (by omega)
    go_wp2_with fail
    refine region_after (by kernel_rfl) (by kernel_rfl) ?_
    repeat (go_big_quiet_step (fail))
    refine wpQuiet_nil ?_
    rintro u ⟨⟨_,G⟩,rfl⟩
    have a3:=Lh (ak.out.later G)
    have x4:u.cell? ⟨T,0,none⟩=some (.int .u64 key):=(G.cell (p:=⟨T,0,none⟩) (Lw.lt_heap x0)).trans x0
    have x5:u.cell? ⟨T,1,none⟩=some (.int .u64 (cut at_)):=(G.cell (p:=⟨T,1,none⟩) (Lw.lt_heap x1)).trans x1
    have a0:Below w.heap.size w u:=a4.trans (G.mono a4.size)
    clear f0 f1 x0 x1 G a4 ak
    have aB:=a0.size
    have a2:Tr u u.heap.size none 0 0 ([].take 0):=a3.out.front (by omega)
    have a1:Tr u u.heap.size none 0 0 ([].drop 0):=Rs.nil_
    obtain ⟨bs,ac⟩:∃ bs,u.heap.size=bs:=⟨_,rfl⟩
    rw [ac] at a2 a1 aB
    have ad:bs≤u.heap.size:=by omega
    have aI:u.heap.size≤bs:=by omega
    have ar:=Lh a2
    have an:=Lh a1
    have a9:=Lh a0
    have af:flat enc2 ([].take 0) ++ flat enc2 [(key,cut at_)] = flat enc2 ([].take 0 ++ [(key,cut at_)]):=(flat_append _ _).symm
    have ag:flat enc2 ([].take 0 ++ [(key,cut at_)]) ++ flat enc2 ([].drop 0)=flat enc2 (ins (key,cut at_) []):=by (rw [aF.out,← flat_append]) <;> (congr 1 <;> simp)
    have au:=Lh af
    have av:=Lh ag
    clear a2 a1 ac a0 a3 af ag
    go_wp2_with (first
     | (at_builtin
        refine append_rs enc2_len rfl (.tmp 62) (.tmp 65) 36 rfl bs 287 i0 _ 16 Tryz.underlying36 hi a5 a6 a7 rfl (by decide) (.slice none 0 0) 0 [] rfl (World.ownsRow_nil _ _ _ _) _ none 0 0 ([].take 0) rfl ar.out enc2_one 0 (Nat.zero_add _) (flat enc2 ([].take 0)) rfl (by unfold maxLen; omega) (by omega) ad ?_
        intro A3 c3 Q ah F ay
        have z0:Q.cell? ⟨T,0,none⟩=some (.int .u64 key):=F.cell x4 (by simp [Value.ownBlock])
        have z1:Q.cell? ⟨T,1,none⟩=some (.int .u64 (cut at_)):=F.cell x5 (by simp [Value.ownBlock])
        have Y:=Lh ah
        have ao:=Lh (an.out.grown F ad (fun g hg=>by cases hg))
        have W:=Lh (a9.out.grown F a9.out.size (fun j I=>by cases I))
        have aL:=F.size
        have ax:=Lh (rs_one enc2_len Q (key,cut at_) 287 (cs:=#[.int .u64 key,.int .u64 (cut at_)]) rfl)
        clear ah F ay)
     | (at_builtin
        refine append_rs enc2_len rfl (.tmp 67) (.tmp 69) 36 rfl bs 287 i0 _ 16 Tryz.underlying36 hi a5 a6 a7 rfl (by decide) _ 0 _ rfl (Y.out.alloc _) _ _ 1 1 [(key,cut at_)] rfl ax.out enc2_one (0+1) rfl _ au.out (by unfold maxLen; omega) (by omega) (by simp; omega) ?_
        intro A4 c4 w4 ai J az
        have aa:=Lh ai
        have aq:=Lh ((ao.out.alloc (by omega) _).grown J (by simp; omega) (fun g hg=>(Y.out.lt g hg).1))
        have a8:=Lh ((W.out.alloc W.out.size _).grown J (by have:=W.out.size; simp; omega) (fun j I=>by have:=(Y.out.lt j I).1; omega))
        have aC:=J.size
        clear ai J az)
     | (at_builtin
        refine append_rs enc2_len rfl (.tmp 71) (.tmp 74) 36 rfl bs 287 i0 _ 16 Tryz.underlying36 hi a5 a6 a7 rfl (by decide) _ (0+1) _ rfl aa.out _ none (0) (0) ([].drop 0) rfl aq.out enc2_one (0+1) (by omega) _ av.out (by unfold maxLen; omega) (by omega) (by simp at aC; omega) ?_
        intro A5 c5 w5 aj ae aA
        have aw:=Lh aj
        have al:=Lh (a8.out.grown ae a8.out.size (fun j I=>by have:=(aa.out.lt j I).1; omega))
        clear aj ae aA))
    go_ret2
    exact ⟨A5,c5,rfl,own_mono aw.out (by omega),al.out⟩
   ·by_cases b0:c1=R.length
    ·subst b0
     go_wp2_with fail
     refine region_after (by kernel_rfl) (by kernel_rfl) ?_
     repeat (go_big_quiet_step (fail))
     refine wpQuiet_nil ?_
     rintro u ⟨⟨_,G⟩,rfl⟩
     have a3:=Lh (ak.out.later G)
     have x4:u.cell? ⟨T,0,none⟩=some (.int .u64 key):=(G.cell (p:=⟨T,0,none⟩) (Lw.lt_heap x0)).trans x0
     have x5:u.cell? ⟨T,1,none⟩=some (.int .u64 (cut at_)):=(G.cell (p:=⟨T,1,none⟩) (Lw.lt_heap x1)).trans x1
     have a0:Below w.heap.size w u:=a4.trans (G.mono a4.size)
     clear f0 f1 x0 x1 G a4 ak
     have aB:=a0.size
     have a2:Tr u u.heap.size (some ⟨b,o,none⟩) R.length R.length (R.take R.length):=a3.out.front (by omega)
     have a1:Tr u u.heap.size (some ⟨b,o,none⟩) 0 0 (R.drop R.length):=by have:=a3.out.back (i:=R.length) (A':=some ⟨b,o,none⟩) (Nat.le_refl _) rfl (by omega); simpa using this
     obtain ⟨bs,ac⟩:∃ bs,u.heap.size=bs:=⟨_,rfl⟩
     rw [ac] at a2 a1 aB
     have ad:bs≤u.heap.size:=by omega
     have aI:u.heap.size≤bs:=by omega
     have ar:=Lh a2
     have an:=Lh a1
     have a9:=Lh a0
     have af:flat enc2 (R.take R.length) ++ flat enc2 [(key,cut at_)] = flat enc2 (R.take R.length ++ [(key,cut at_)]):=(flat_append _ _).symm
     have ag:flat enc2 (R.take R.length ++ [(key,cut at_)]) ++ flat enc2 (R.drop R.length)=flat enc2 (ins (key,cut at_) R):=by (rw [aF.out,← flat_append]) <;> (congr 1 <;> simp)
     have au:=Lh af
     have av:=Lh ag
     clear a2 a1 ac a0 a3 af ag
     go_wp2_with (first
      | (at_builtin
         refine append_rs enc2_len rfl (.tmp 62) (.tmp 65) 36 rfl bs 287 i0 _ 16 Tryz.underlying36 hi a5 a6 a7 rfl (by decide) (.slice none 0 0) 0 [] rfl (World.ownsRow_nil _ _ _ _) _ (some ⟨b,o,none⟩) R.length R.length (R.take R.length) rfl ar.out enc2_one R.length (Nat.zero_add _) (flat enc2 (R.take R.length)) rfl (by unfold maxLen; omega) (by omega) ad ?_
         intro A3 c3 Q ah F ay
         have z0:Q.cell? ⟨T,0,none⟩=some (.int .u64 key):=F.cell x4 (by simp [Value.ownBlock])
         have z1:Q.cell? ⟨T,1,none⟩=some (.int .u64 (cut at_)):=F.cell x5 (by simp [Value.ownBlock])
         have Y:=Lh ah
         have ao:=Lh (an.out.grown F ad (fun g hg=>by cases hg))
         have W:=Lh (a9.out.grown F a9.out.size (fun j I=>by cases I))
         have aL:=F.size
         have ax:=Lh (rs_one enc2_len Q (key,cut at_) 287 (cs:=#[.int .u64 key,.int .u64 (cut at_)]) rfl)
         clear ah F ay)
      | (at_builtin
         refine append_rs enc2_len rfl (.tmp 67) (.tmp 69) 36 rfl bs 287 i0 _ 16 Tryz.underlying36 hi a5 a6 a7 rfl (by decide) _ R.length _ rfl (Y.out.alloc _) _ _ 1 1 [(key,cut at_)] rfl ax.out enc2_one (R.length+1) rfl _ au.out (by unfold maxLen; omega) (by omega) (by simp; omega) ?_
         intro A4 c4 w4 ai J az
         have aa:=Lh ai
         have aq:=Lh ((ao.out.alloc (by omega) _).grown J (by simp; omega) (fun g hg=>(Y.out.lt g hg).1))
         have a8:=Lh ((W.out.alloc W.out.size _).grown J (by have:=W.out.size; simp; omega) (fun j I=>by have:=(Y.out.lt j I).1; omega))
         have aC:=J.size
         clear ai J az)
      | (at_builtin
         refine append_rs enc2_len rfl (.tmp 71) (.tmp 74) 36 rfl bs 287 i0 _ 16 Tryz.underlying36 hi a5 a6 a7 rfl (by decide) _ (R.length+1) _ rfl aa.out _ (some ⟨b,o,none⟩) (0) (0) (R.drop R.length) rfl aq.out enc2_one (R.length+1) (by omega) _ av.out (by unfold maxLen; omega) (by omega) (by simp at aC; omega) ?_
         intro A5 c5 w5 aj ae aA
         have aw:=Lh aj
         have al:=Lh (a8.out.grown ae a8.out.size (fun j I=>by have:=(aa.out.lt j I).1; omega))
         clear aj ae aA))
     go_ret2
     exact ⟨A5,c5,rfl,own_mono aw.out (by omega),al.out⟩
    ·have b9:R.length < c1:=by omega
     go_wp2_with fail
     refine region_after (by kernel_rfl) (by kernel_rfl) ?_
     repeat (go_big_quiet_step (fail))
     refine wpQuiet_nil ?_
     rintro u ⟨⟨_,G⟩,rfl⟩
     have a3:=Lh (ak.out.later G)
     have x4:u.cell? ⟨T,0,none⟩=some (.int .u64 key):=(G.cell (p:=⟨T,0,none⟩) (Lw.lt_heap x0)).trans x0
     have x5:u.cell? ⟨T,1,none⟩=some (.int .u64 (cut at_)):=(G.cell (p:=⟨T,1,none⟩) (Lw.lt_heap x1)).trans x1
     have a0:Below w.heap.size w u:=a4.trans (G.mono a4.size)
     clear f0 f1 x0 x1 G a4 ak
     have aB:=a0.size
     have a2:Tr u u.heap.size (some ⟨b,o,none⟩) R.length c1 (R.take R.length):=a3.out.front (by omega)
     have a1:Tr u u.heap.size (some ⟨b,o+R.length * 2,none⟩) 0 (c1 - R.length) (R.drop R.length):=by have:=a3.out.back (i:=R.length) (A':=some ⟨b,o+R.length * 2,none⟩) (Nat.le_refl _) rfl (by omega); rwa [Nat.sub_self] at this
     obtain ⟨bs,ac⟩:∃ bs,u.heap.size=bs:=⟨_,rfl⟩
     rw [ac] at a2 a1 aB
     have ad:bs≤u.heap.size:=by omega
     have aI:u.heap.size≤bs:=by omega
     have ar:=Lh a2
     have an:=Lh a1
     have a9:=Lh a0
     have af:flat enc2 (R.take R.length) ++ flat enc2 [(key,cut at_)] = flat enc2 (R.take R.length ++ [(key,cut at_)]):=(flat_append _ _).symm
     have ag:flat enc2 (R.take R.length ++ [(key,cut at_)]) ++ flat enc2 (R.drop R.length)=flat enc2 (ins (key,cut at_) R):=by (rw [aF.out,← flat_append]) <;> (congr 1 <;> simp)
     have au:=Lh af
     have av:=Lh ag
     clear a2 a1 ac a0 a3 af ag
     go_wp2_with (first
      | (at_builtin
         refine append_rs enc2_len rfl (.tmp 62) (.tmp 65) 36 rfl bs 287 i0 _ 16 Tryz.underlying36 hi a5 a6 a7 rfl (by decide) (.slice none 0 0) 0 [] rfl (World.ownsRow_nil _ _ _ _) _ (some ⟨b,o,none⟩) R.length c1 (R.take R.length) rfl ar.out enc2_one R.length (Nat.zero_add _) (flat enc2 (R.take R.length)) rfl (by unfold maxLen; omega) (by omega) ad ?_
         intro A3 c3 Q ah F ay
         have z0:Q.cell? ⟨T,0,none⟩=some (.int .u64 key):=F.cell x4 (by simp [Value.ownBlock])
         have z1:Q.cell? ⟨T,1,none⟩=some (.int .u64 (cut at_)):=F.cell x5 (by simp [Value.ownBlock])
         have Y:=Lh ah
         have ao:=Lh (an.out.grown F ad (fun g hg=>by cases hg))
         have W:=Lh (a9.out.grown F a9.out.size (fun j I=>by cases I))
         have aL:=F.size
         have ax:=Lh (rs_one enc2_len Q (key,cut at_) 287 (cs:=#[.int .u64 key,.int .u64 (cut at_)]) rfl)
         clear ah F ay)
      | (at_builtin
         refine append_rs enc2_len rfl (.tmp 67) (.tmp 69) 36 rfl bs 287 i0 _ 16 Tryz.underlying36 hi a5 a6 a7 rfl (by decide) _ R.length _ rfl (Y.out.alloc _) _ _ 1 1 [(key,cut at_)] rfl ax.out enc2_one (R.length+1) rfl _ au.out (by unfold maxLen; omega) (by omega) (by simp; omega) ?_
         intro A4 c4 w4 ai J az
         have aa:=Lh ai
         have aq:=Lh ((ao.out.alloc (by omega) _).grown J (by simp; omega) (fun g hg=>(Y.out.lt g hg).1))
         have a8:=Lh ((W.out.alloc W.out.size _).grown J (by have:=W.out.size; simp; omega) (fun j I=>by have:=(Y.out.lt j I).1; omega))
         have aC:=J.size
         clear ai J az)
      | (at_builtin
         refine append_rs enc2_len rfl (.tmp 71) (.tmp 74) 36 rfl bs 287 i0 _ 16 Tryz.underlying36 hi a5 a6 a7 rfl (by decide) _ (R.length+1) _ rfl aa.out _ (some ⟨b,o+R.length * 2,none⟩) (0) ((c1 - R.length)) (R.drop R.length) rfl aq.out enc2_one (R.length+1) (by omega) _ av.out (by unfold maxLen; omega) (by omega) (by simp at aC; omega) ?_
         intro A5 c5 w5 aj ae aA
         have aw:=Lh aj
         have al:=Lh (a8.out.grown ae a8.out.size (fun j I=>by have:=(aa.out.lt j I).1; omega))
         clear aj ae aA))
     go_ret2
     exact ⟨A5,c5,rfl,own_mono aw.out (by omega),al.out⟩
end Go.Proofs.YtoiklelghfckgaaGreatDoor.Wl
namespace Go.Proofs.YtoiklelghfckgaaGreatDoor.Le
open Go.ChangeShapes Go.WideShapes Go.ChangeAt Go.RowKit Go.Maps Rw Hi Mt
def V4 (w:World) (g:Nat) (a b c d:Value):Prop:=(w.cell? ⟨g,0,none⟩=some a∧w.cell? ⟨g,1,none⟩=some b∧w.cell? ⟨g,2,none⟩=some c∧w.cell? ⟨g,3,none⟩=some d)∧w.frozen? ⟨g,0,none⟩=false∧w.frozen? ⟨g,1,none⟩=false∧w.frozen? ⟨g,2,none⟩=false∧w.frozen? ⟨g,3,none⟩=false
theorem V4.new (w:World) (t:TypeId) (a b c d:Value):V4 (w.alloc (.cells #[a,b,c,d] t)) w.heap.size a b c d:=by
 unfold V4
 refine ⟨⟨?_,?_,?_,?_⟩,?_,?_,?_,?_⟩ <;> go_simp
theorem V4.below {w w':World} {g B:Nat} {a b c d:Value} (h:V4 w g a b c d) (u:Below B w w') (z:g < B):V4 w' g a b c d:=by
 obtain ⟨⟨F,G,I,J⟩,f0,f1,f2,f3⟩:=h
 exact ⟨⟨(u.cell (p:=⟨g,0,none⟩) z).trans F,(u.cell (p:=⟨g,1,none⟩) z).trans G,(u.cell (p:=⟨g,2,none⟩) z).trans I,(u.cell (p:=⟨g,3,none⟩) z).trans J⟩,
  (u.frozen (p:=⟨g,0,none⟩) z).trans f0,(u.frozen (p:=⟨g,1,none⟩) z).trans f1,(u.frozen (p:=⟨g,2,none⟩) z).trans f2,(u.frozen (p:=⟨g,3,none⟩) z).trans f3⟩
structure Da where
 A:Option Addr
 n:Nat
 c:Nat
 A2:Option Addr
 n2:Nat
 c2:Nat
 A3:Option Addr
 n3:Nat
 c3:Nat
abbrev Da.val (leak:Int) (d:Da):Value:=.agg #[.int .u64 leak,.slice d.A d.n d.c,.slice d.A2 d.n2 d.c2,.slice d.A3 d.n3 d.c3]
structure DkK (K:Nat→Prop) (w:World) (d:Da) (D:List (Int × Ls)) (M:List Int) (T:List (Int × Int)):Prop where
 l:Rl w w.heap.size d.A d.n d.c D
 m:Rd (Value.int .u64) w w.heap.size d.A2 d.n2 d.c2 M
 t:Wl.Tr w w.heap.size d.A3 d.n3 d.c3 T
 fm:Wl.Fm d.A3 d.c3
 fl:Wl.Fm d.A d.c
 kl:Kn K d.n d.A
 km:Kn K d.n2 d.A2
 kt:Kn K d.n3 d.A3
theorem DkK.later {K:Nat→Prop} {w w':World} {d:Da} {D:List (Int × Ls)} {M:List Int} {T:List (Int × Int)} (h:DkK K w d D M T) (u:Below w.heap.size w w'):DkK K w' d D M T:=⟨h.l.later u,h.m.later u,h.t.later u,h.fm,h.fl,h.kl,h.km,h.kt⟩
def hx (D:List (Int × Ls)) (id th:Int):Int:=if holds D id th=true then fx D id else -1
theorem boxes (leak:Int) (A A2 A3:Option Addr) (n c n2 c2 n3 c3:Nat) (w:World):Below w.heap.size w ((w.alloc (.cells #[.int .u64 leak,.slice A n c,.slice A2 n2 c2,.slice A3 n3 c3] 38)).alloc (.cells #[.int .u64 0,.slice none 0 0,.slice none 0 0,.slice none 0 0] 38))∧V4 ((w.alloc (.cells #[.int .u64 leak,.slice A n c,.slice A2 n2 c2,.slice A3 n3 c3] 38)).alloc (.cells #[.int .u64 0,.slice none 0 0,.slice none 0 0,.slice none 0 0] 38)) w.heap.size (.int .u64 leak) (.slice A n c) (.slice A2 n2 c2) (.slice A3 n3 c3)∧V4 ((w.alloc (.cells #[.int .u64 leak,.slice A n c,.slice A2 n2 c2,.slice A3 n3 c3] 38)).alloc (.cells #[.int .u64 0,.slice none 0 0,.slice none 0 0,.slice none 0 0] 38)) (w.heap.size+1) (.int .u64 0) (.slice none 0 0) (.slice none 0 0) (.slice none 0 0)∧((w.alloc (.cells #[.int .u64 leak,.slice A n c,.slice A2 n2 c2,.slice A3 n3 c3] 38)).alloc (.cells #[.int .u64 0,.slice none 0 0,.slice none 0 0,.slice none 0 0] 38)).heap.size=w.heap.size+2:=by
 have h:Below w.heap.size w (w.alloc (.cells #[.int .u64 leak,.slice A n c,.slice A2 n2 c2,.slice A3 n3 c3] 38)):=(Below.refl _ _).alloc (Nat.le_refl _) _
 refine ⟨h.alloc (by simp) _,(V4.new w _ _ _ _ _).below ((Below.refl (w.heap.size+1) _).alloc (by simp) _) (by omega),?_,by simp⟩
 have:=V4.new (w.alloc (.cells #[.int .u64 leak,.slice A n c,.slice A2 n2 c2,.slice A3 n3 c3] 38)) 38 (.int .u64 0) (.slice none 0 0) (.slice none 0 0) (.slice none 0 0)
 simpa using this
section
variable (leak:Int) (A A2 A3:Option Addr) (n c n2 c2 n3 c3:Nat) (D:List (Int × Ls)) (M:List Int) (T:List (Int × Int)) (w:World)
theorem rholds_any (id th:Int) (h:Rl w w.heap.size A n c D) (hn:n≤100000) :
  Calls Tryz.prog 149 #[.agg #[.int .u64 leak,.slice A n c,.slice A2 n2 c2,.slice A3 n3 c3],.int .u64 id,.int .i64 th] w fun e w'=>e=.returned (.int .i64 (hx D id th))∧Below w.heap.size w w':=by
 have Y:Below w.heap.size w (w.alloc (.cells #[.int .u64 leak,.slice A n c,.slice A2 n2 c2,.slice A3 n3 c3] 38)):=(Below.refl _ _).alloc (Nat.le_refl _) _
 have a0:=Lh Y
 have I:=Lh (rfind_any leak A A2 A3 n c n2 c2 n3 c3 w.heap.size D (w.alloc (.cells #[.int .u64 leak,.slice A n c,.slice A2 n2 c2,.slice A3 n3 c3] 38)) id (h.below Y) (by simp) hn)
 have a1:=Lh h.len
 rcases fx_cases D id with ⟨W,z⟩ | ⟨k,⟨t,s,f⟩,hk,a5,z,W⟩
 ·have e:hx D id th = -1:=by unfold hx holds; rw [W]; rfl
  rw [z] at I
  rw [e]
  clear h Y W z e
  go_enter Tryz.func149,Tryz.ntmps149
  go_wp2_with fail
  refine I.out.mono ?_
  rintro e w1 ⟨rfl,u⟩
  go_wp2_with fail
  go_ret
  exact ⟨rfl,a0.out.trans (u.mono (by simp))⟩
 ·have a4:k < n:=by have:=(List.getElem?_eq_some_iff.1 hk).1; have:=a1.out; omega
  obtain ⟨b,o,x',F,s',f',rfl,hb,ha,c0,c1,a2,a3⟩:=four_at h a4
  have Q:=ha.symm.trans hk
  injection Q with Q
  injection Q with Q e10
  injection e10 with e10 e11 e12
  subst Q e10 e11 e12
  rw [z] at I
  have e:hx D x' th=if (F == th)=true then (k:Int) else -1:=by
   unfold hx holds; rw [W,z]; simp
  rw [e]
  have HC:=Lh c1
  clear h Y W z e c0 c1 a2 a3 ha hk a5
  by_cases ht:F=th
  ·have e1:(F != th)=false:=by simpa using ht
   have J:(F == th)=true:=by simpa using ht
   rw [if_pos J]
   clear ht J
   go_enter Tryz.func149,Tryz.ntmps149
   go_wp2_with fail
   refine I.out.mono ?_
   rintro e w1 ⟨rfl,u⟩
   have G:=Lh (a0.out.trans (u.mono (by simp)))
   have d1:=(G.out.cell (p:=⟨b,o+k * 4+1,none⟩) hb).trans HC.out
   have v1:w1.cell? ⟨w.heap.size,1,none⟩=some (.slice (some ⟨b,o,none⟩) n c):=(u.cell (p:=⟨w.heap.size,1,none⟩) (by simp)).trans (by go_simp)
   clear u
   go_wp2_with fail
   go_ret
   exact ⟨rfl,G.out⟩
  ·have e1:(F != th)=true:=by simpa using ht
   have J:¬ (F == th)=true:=by simpa using ht
   rw [if_neg J]
   clear ht J
   go_enter Tryz.func149,Tryz.ntmps149
   go_wp2_with fail
   refine I.out.mono ?_
   rintro e w1 ⟨rfl,u⟩
   have G:=Lh (a0.out.trans (u.mono (by simp)))
   have d1:=(G.out.cell (p:=⟨b,o+k * 4+1,none⟩) hb).trans HC.out
   have v1:w1.cell? ⟨w.heap.size,1,none⟩=some (.slice (some ⟨b,o,none⟩) n c):=(u.cell (p:=⟨w.heap.size,1,none⟩) (by simp)).trans (by go_simp)
   clear u
   go_wp2_with fail
   go_ret
   exact ⟨rfl,G.out⟩
theorem rforget_any {K:Nat→Prop} (id:Int) (h:DkK K w ⟨A,n,c,A2,n2,c2,A3,n3,c3⟩ D M T) (aa:∀ g,w.heap.size≤g→K g) (hn:n2≤100000) :
  Calls Tryz.prog 139 #[.agg #[.int .u64 leak,.slice A n c,.slice A2 n2 c2,.slice A3 n3 c3],.int .u64 id] w fun e w'=>∃ a0 a1,e=.returned (.agg #[.int .u64 leak,.slice A n c,.slice a0 (M.filter (· != id)).length a1,.slice A3 n3 c3])∧DkK K w' ⟨A,n,c,a0,(M.filter (· != id)).length,a1,A3,n3,c3⟩ D (M.filter (· != id)) T ∧
   w'.ownsRow w.heap.size 25 1 (.slice a0 (M.filter (· != id)).length a1) (M.filter (· != id)).length ((M.filter (· != id)).map (Value.int .u64))∧Below w.heap.size w w':=by
 obtain ⟨i0,hi,ay,az,aA⟩:=info_parts info_u64'
 obtain ⟨ac,ag,ah,Y⟩:=boxes leak A A2 A3 n c n2 c2 n3 c3 w
 have G:=Lh h
 have al:=Lh aa
 clear aa
 have HR:=Lh h.m
 have an:=Lh h.m.len
 have ai:=Lh ac
 have a8:=Lh ag
 have a9:=Lh ah
 have au:=Lh Y
 clear h ac ag ah Y
 go_enter Tryz.func139,Tryz.ntmps139
 go_wp2_with fail
 generalize ((w.alloc (.cells #[.int .u64 leak,.slice A n c,.slice A2 n2 c2,.slice A3 n3 c3] 38)).alloc (.cells #[.int .u64 0,.slice none 0 0,.slice none 0 0,.slice none 0 0] 38))=W1 at *
 go_loopw [5,7,11] (fun v x9 i wr=>∃ (k q u:Nat) (A':Option Addr),k≤n2∧i=.int .i64 k∧v=.slice A' q u∧q≤k∧Hid (q=((M.take k).filter (· != id)).length) ∧
   Hid (wr.ownsRow (w.heap.size+2) 25 1 (.slice A' q u) q (((M.take k).filter (· != id)).map (Value.int .u64)))∧Hid (Below (w.heap.size+2) W1 wr)∧w.heap.size+2≤wr.heap.size) (fun _ _ i _=>n2 - (intOf i).toNat)
 case atStart=>exact ⟨0,0,0,none,Nat.zero_le _,rfl,rfl,Nat.zero_le _,rfl,World.ownsRow_nil _ _ _ _,Below.refl _ _,by rw [au.out]; exact Nat.le_refl _⟩
 case round=>
  obtain ⟨k,q,u,A',hk,rfl,rfl,aB,Q,W,F,Y⟩:=hrel
  have a7:=Lh (ai.out.trans (F.out.mono (by omega)))
  by_cases hlt:k < n2
  ·obtain ⟨b,o,y,rfl,hb,hy,ad⟩:=HR.out.get hlt
   have d0:=(a7.out.cell (p:=⟨b,o+k,none⟩) hb).trans ad
   have a6:Hid (M.take (k+1)=M.take k ++ [y]):=Lh (by
    obtain ⟨hl,e⟩:=List.getElem?_eq_some_iff.1 hy
    rw [List.take_succ_eq_append_getElem hl,e])
   clear ad hy
   by_cases hx:y=id
   ·have e1:(y != id)=false:=by simpa using hx
    have I:Hid ((M.take (k+1)).filter (· != id)=(M.take k).filter (· != id)):=Lh (by rw [a6.out,List.filter_append]; simp [hx])
    clear hx
    go_wp2_with fail
    go_roundw
    case rel=>exact ⟨k+1,q,u,A',by omega,by go_num,rfl,by omega,Lh (by rw [I.out]; exact Q.out),Lh (by rw [I.out]; exact W.out),F,Y⟩
    case measure=>simp [intOf]; omega
   ·have e1:(y != id)=true:=by simpa using hx
    have I:Hid ((M.take (k+1)).filter (· != id)=(M.take k).filter (· != id) ++ [y]):=Lh (by rw [a6.out,List.filter_append]; simp [hx])
    have aq:=Lh (rd_one (enc:=Value.int .u64) wr y 25)
    have J:=Lh (W.out.alloc (.cells #[.int .u64 y] 25))
    have aj:=Lh (F.out.alloc (by omega) (.cells #[.int .u64 y] 25))
    have ao:Hid (((M.take k).filter (· != id)).map (Value.int .u64) ++ [y].map (Value.int .u64)=((M.take (k+1)).filter (· != id)).map (Value.int .u64)):=Lh (by rw [I.out]; simp)
    clear hx
    go_wp2_with (
     at_builtin
     refine append_rd _ rfl _ _ 30 rfl (w.heap.size+2) 25 i0 (.int .u64 0) 8 Tryz.underlying30 hi ay az aA rfl _ q _ rfl J.out _ _ 1 1 [y] rfl aq.out (fun _=>rfl) (q+1) rfl _ ao.out (by unfold maxLen; omega) (by omega) (by simp; omega) ?_
     intro A4 c4 w4 af a3 av
     have ar:=Lh af
     have ak:=Lh (aj.out.grown a3 (by simp; omega) (fun j hj=>(J.out.lt j hj).1))
     have ax:=a3.size
     simp at ax
     clear af a3 av)
    go_roundw
    case rel=>exact ⟨k+1,q+1,c4,A4,by omega,by go_num,rfl,by omega,Lh (by rw [I.out,List.length_append,← Q.out]; rfl),ar,ak,by omega⟩
    case measure=>simp [intOf]; omega
  ·have ht:M.take k=M:=List.take_of_length_le (by have:=an.out; omega)
   have a4:=W.out
   have ae:=Q.out
   rw [ht] at a4 ae
   subst ae
   have J:=Lh a4
   obtain ⟨⟨f0,f1,f2,f3⟩,g0,g1,g2,g3⟩:=a8.out.below F.out (by omega)
   obtain ⟨⟨r0,r1,r2,r3⟩,z0,z1,z2,z3⟩:=a9.out.below F.out (by omega)
   clear a4 W Q ht a8 a9 F
   go_wp2_with fail
   have a2:Below w.heap.size w (((((wr.setCell ⟨w.heap.size,2,none⟩ (.slice A' (M.filter (· != id)).length u)).setCell ⟨w.heap.size+1,0,none⟩ (.int .u64 leak)).setCell ⟨w.heap.size+1,1,none⟩ (.slice A n c)).setCell ⟨w.heap.size+1,2,none⟩ ((.slice A' (M.filter (· != id)).length u))).setCell ⟨w.heap.size+1,3,none⟩ (.slice A3 n3 c3)):=by
    repeat' (first | exact a7.out | apply Below.setCell | apply below_drewN | apply Below.drew | apply Below.alloc)
    all_goals (first | (simp; done) | (simp; omega))
   have a5:(((((wr.setCell ⟨w.heap.size,2,none⟩ (.slice A' (M.filter (· != id)).length u)).setCell ⟨w.heap.size+1,0,none⟩ (.int .u64 leak)).setCell ⟨w.heap.size+1,1,none⟩ (.slice A n c)).setCell ⟨w.heap.size+1,2,none⟩ ((.slice A' (M.filter (· != id)).length u))).setCell ⟨w.heap.size+1,3,none⟩ (.slice A3 n3 c3)).ownsRow (w.heap.size+2) 25 1 (.slice A' (M.filter (· != id)).length u) (M.filter (· != id)).length ((M.filter (· != id)).map (Value.int .u64)):=by
    refine Hi.own_same J.out (fun z aw=>?_)
    have hg:=(J.out.lt z aw).1
    rw [heap_setCell_other _ _ z _ (fun e=>by have e:z=w.heap.size+1:=e; omega),heap_setCell_other _ _ z _ (fun e=>by have e:z=w.heap.size+1:=e; omega),heap_setCell_other _ _ z _ (fun e=>by have e:z=w.heap.size+1:=e; omega),heap_setCell_other _ _ z _ (fun e=>by have e:z=w.heap.size+1:=e; omega),heap_setCell_other _ _ z _ (fun e=>by have e:z=w.heap.size:=e; omega)]
   refine bodyPost_ret (v:=.agg #[.int .u64 leak,.slice A n c,.slice A' (M.filter (· != id)).length u,.slice A3 n3 c3]) (by simp [results,Tryz.results139,go_sem,r0,r1,r2,r3]) rfl ⟨A',u,rfl,⟨(G.out.later a2).l,Rd.own_rd a5,(G.out.later a2).t,G.out.fm,G.out.fl,G.out.kl,Kn.own a5 (fun g hg=>al.out g (by omega)),G.out.kt⟩,own_mono a5 (by omega),a2⟩
end
end Go.Proofs.YtoiklelghfckgaaGreatDoor.Le
