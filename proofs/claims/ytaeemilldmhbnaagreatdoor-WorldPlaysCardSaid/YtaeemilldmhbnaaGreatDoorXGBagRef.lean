/- A part of the claim: the texts BagRef BagRefB BagRefC BagRefD. -/
import Derived.Test.YtaeemilldmhbnaaGreatDoorXGBag
import Derived.Test.YtaeemilldmhbnaaGreatDoorXBase5
import Derived.Test.YtaeemilldmhbnaaGreatDoorXGKeep
import Derived.Test.YtaeemilldmhbnaaGreatDoorXGBagG
set_option maxRecDepth 100000
set_option maxHeartbeats 8000000
set_option linter.unusedVariables false
namespace Go.Proofs.YtaeemilldmhbnaaGreatDoor.Ba
open Go.ChangeShapes Go.WideShapes Go.ChangeAt Go.RowKit Go.Maps Rw Hi Mt
def enc5 (a:Int × Ex):List Value:=[.int .u64 a.1,.int .u64 a.2.word,.int .u64 a.2.born,.int .u64 a.2.since,.int .u64 a.2.proved]
theorem enc5_len (a:Int × Ex):(enc5 a).length=5:=rfl
theorem enc5_one (y:Int × Ex):∀ u∈enc5 y,u.oneCell'=true:=by intro u h; simp [enc5] at h; rcases h with rfl | rfl | rfl | rfl | rfl <;> rfl
theorem info_entry:(Tryz.prog.info? 163).map (fun i=>(i.zero,i.size,i.bytes))=some (some (.agg #[.int .u64 0,.int .u64 0,.int .u64 0,.int .u64 0,.int .u64 0]),5,40):=by kernel_rfl
abbrev Rb (w:World) (B:Nat) (A:Option Addr) (n c:Nat) (l:List (Int × Ex)):Prop:=Rs enc5 5 w B A n c l
theorem five_at {w:World} {B:Nat} {A:Option Addr} {n c:Nat} {l:List (Int × Ex)} (h:Rb w B A n c l) {k:Nat} (hk:k < n) :
  ∃ b o x F u z pr,A=some ⟨b,o,none⟩∧b < B∧l[k]? = some (x,⟨F,u,z,pr⟩)∧w.cell? ⟨b,o+k * 5,none⟩=some (.int .u64 x)∧w.cell? ⟨b,o+k * 5+1,none⟩=some (.int .u64 F)∧w.cell? ⟨b,o+k * 5+2,none⟩=some (.int .u64 u)∧w.cell? ⟨b,o+k * 5+3,none⟩=some (.int .u64 z)∧w.cell? ⟨b,o+k * 5+4,none⟩=some (.int .u64 pr):=by
 obtain ⟨b,o,⟨x,F,u,z,pr⟩,hA,G,hx,hc⟩:=h.get hk
 exact ⟨b,o,x,F,u,z,pr,hA,G,hx,hc 0 _ (by omega) rfl,hc 1 _ (by omega) rfl,hc 2 _ (by omega) rfl,hc 3 _ (by omega) rfl,hc 4 _ (by omega) rfl⟩
section
variable {β:Type}
def fx (D:List (Int × β)) (id:Int):Int:=match D.findIdx? (fun a=>a.1 == id) with
 | some i=>(i:Int)
 | none=>-1
theorem fx_hit {D:List (Int × β)} {id:Int} {k:Nat} {y:β} (h:∀ a∈D.take k,a.1≠id) (hk:D[k]? = some (id,y)):fx D id=k:=by
 have:D.findIdx? (fun a=>a.1 == id)=some k:=by
  obtain ⟨u,e⟩:=List.getElem?_eq_some_iff.1 hk
  rw [List.findIdx?_eq_some_iff_getElem]
  refine ⟨u,by rw [e]; simp,fun j z=>?_⟩
  have:=h D[j] (List.mem_take_iff_getElem.2 ⟨j,by omega,rfl⟩)
  simpa using this
 unfold fx; rw [this]
theorem fx_miss {D:List (Int × β)} {id:Int} (h:∀ a∈D,a.1≠id):fx D id = -1:=by
 have:D.findIdx? (fun a=>a.1 == id)=none:=by
  rw [List.findIdx?_eq_none_iff]
  intro a ha
  simpa using h a ha
 unfold fx; rw [this]
theorem take_ne {D:List (Int × β)} {id:Int} {k:Nat} {a:Int × β} (h:∀ a∈D.take k,a.1≠id) (hk:D[k]? = some a) (F:a.1≠id):∀ a∈D.take (k+1),a.1≠id:=by
 obtain ⟨z,rfl⟩:=List.getElem?_eq_some_iff.1 hk
 intro b u
 rw [List.take_succ_eq_append_getElem z] at u
 rcases List.mem_append.1 u with u | u
 ·exact h b u
 ·rw [List.mem_singleton.1 u]; exact F
theorem fx_cases (D:List (Int × β)) (id:Int):(fnd D id=none∧fx D id = -1) ∨ ∃ (k:Nat) (y:β),D[k]? = some (id,y)∧(∀ a∈D.take k,a.1≠id)∧fx D id=k∧fnd D id=some y:=by
 by_cases h:∀ a∈D,a.1≠id
 ·refine .inl ⟨?_,fx_miss h⟩
  refine fnd_none fun I=>?_
  obtain ⟨a,ha,e⟩:=List.mem_map.1 I
  exact h a ha e
 ·cases hf:D.findIdx? (fun a=>a.1 == id) with
  | none=>
   rw [List.findIdx?_eq_none_iff] at hf
   exact absurd (fun a ha=>by simpa using hf a ha) h
  | some k=>
   rw [List.findIdx?_eq_some_iff_getElem] at hf
   obtain ⟨F,u,z⟩:=hf
   refine .inr ⟨k,D[k].2,?_,fun a ha=>?_,?_,?_⟩
   ·rw [List.getElem?_eq_getElem F]
    have:D[k].1=id:=by simpa using u
    rw [← this]
   ·obtain ⟨j,G,rfl⟩:=List.mem_take_iff_getElem.1 ha
    have:=z j (by omega)
    simpa using this
   ·unfold fx
    rw [List.findIdx?_eq_some_iff_getElem.2 ⟨F,u,z⟩]
   ·unfold fnd
    have J:D.find? (fun a=>a.1 == id)=some D[k]:=List.find?_eq_some_iff_getElem.2 ⟨u,k,F,rfl,fun j G=>by simpa using z j G⟩
    rw [J]; rfl
theorem up_set {D:List (Int × β)} {id:Int} {k:Nat} {y:β} (hn:Nd D) (hk:D[k]? = some (id,y)) (f:β→β):D.set k (id,f y)=up D id f:=by
 obtain ⟨N,e⟩:=List.getElem?_eq_some_iff.1 hk
 show D.set k (id,f y)=D.map (fun q=>if q.1=id then (q.1,f q.2) else q)
 apply List.ext_getElem (by simp)
 intro i W J
 rw [List.getElem_set,List.getElem_map]
 by_cases hik:k=i
 ·subst hik; rw [if_pos rfl,e,if_pos rfl]
 ·rw [if_neg hik]
  have F:i < D.length:=by simpa using J
  have hi:(D[i]'F).1≠id:=fun I=>by
   unfold Nd at hn
   have G:=List.pairwise_iff_getElem.1 (List.nodup_iff_pairwise_ne.1 hn)
   have z:(D.map Prod.fst)[k]'(by simpa using N)=id:=by rw [List.getElem_map,e]
   have u:(D.map Prod.fst)[i]'(by simpa using F)=id:=by rw [List.getElem_map,I]
   rcases Nat.lt_or_gt_of_ne hik with h | h
   ·exact G k i _ _ h (z.trans u.symm)
   ·exact G i k _ _ h (u.trans z.symm)
  rw [if_neg hi]
end
section
variable (A A2:Option Addr) (n c n2 c2 B:Nat) (D:List (Int × Ex)) (w:World)
theorem rfind_any (id:Int) (h:Rb w B A n c D) (hB:B≤w.heap.size) (hn:n≤100000) :
  Calls Tryz.prog 84 #[.agg #[.slice A n c,.slice A2 n2 c2],.int .u64 id] w fun e w'=>e=.returned (.int .i64 (fx D id))∧Below w.heap.size w w':=by
 have HR:=Lh h
 have W:=Lh h.len
 have b0:=Lh ((Below.refl w.heap.size w).alloc (Nat.le_refl _) (.cells #[.slice A n c,.slice A2 n2 c2] 40))
 clear h
 go_enter Tryz.func84,Tryz.ntmps84
 go_wp2_with fail
 go_loopw [5,6,10] (fun s5 s6 i wr=>∃ k:Nat,k≤n∧i=.int .i64 k∧Hid (∀ a∈D.take k,a.1≠id)∧Below w.heap.size w wr) (fun _ _ i _=>n - (intOf i).toNat)
 case atStart=>exact ⟨0,Nat.zero_le _,rfl,Lh (fun a ha=>by simp at ha),b0.out⟩
 case round=>
  obtain ⟨k,hk,rfl,F,u⟩:=hrel
  by_cases hlt:k < n
  ·obtain ⟨b,o,x,wd,bo,si,pr,rfl,hb,ha,c0,c1,J,c3,c4⟩:=five_at HR.out hlt
   have d0:=(u.cell (p:=⟨b,o+k * 5,none⟩) (by simp only; omega)).trans c0
   have d1:=(u.cell (p:=⟨b,o+k * 5+1,none⟩) (by simp only; omega)).trans c1
   have d2:=(u.cell (p:=⟨b,o+k * 5+2,none⟩) (by simp only; omega)).trans J
   have d3:=(u.cell (p:=⟨b,o+k * 5+3,none⟩) (by simp only; omega)).trans c3
   have d4:=(u.cell (p:=⟨b,o+k * 5+4,none⟩) (by simp only; omega)).trans c4
   have G:=Lh ha
   have a0:=u.size
   have I:=Lh (u.alloc a0 (.cells #[.int .u64 x,.int .u64 wd,.int .u64 bo,.int .u64 si,.int .u64 pr] 163))
   clear c0 c1 J c3 c4 ha u
   by_cases hx:x=id
   ·subst hx
    have z:=Lh (fx_hit F.out G.out)
    go_wp2_with fail
    go_ret
    exact ⟨by rw [z.out]; rfl,I.out⟩
   ·have e1:(x == id)=false:=by simpa using hx
    have Y:=Lh (take_ne F.out G.out hx)
    clear hx
    go_wp2_with fail
    go_roundw
    case rel=>exact ⟨k+1,by omega,by go_num,Y,I.out⟩
    case measure=>simp [intOf]; omega
  ·have z:Hid (fx D id = -1):=Lh (fx_miss (by
    have N:=F.out
    rw [List.take_of_length_le (by have:=W.out; omega)] at N
    exact N))
   go_wp2_with fail
   go_ret
   exact ⟨by rw [z.out]; rfl,u⟩
theorem cnt_take {D:List (Int × Ex)} {k:Nat} {a:Int × Ex} (st:Int) (h:D[k]? = some a):cnt (D.take (k+1)) st=cnt (D.take k) st+(if a.2.word % 4=st then 1 else 0):=by
 obtain ⟨u,e⟩:=List.getElem?_eq_some_iff.1 h
 unfold cnt
 rw [List.take_succ_eq_append_getElem u,List.filter_append,List.length_append,e]
 congr 1
 by_cases hs:a.2.word % 4=st
 ·rw [if_pos hs,List.filter_cons_of_pos (by simpa using hs)]; rfl
 ·rw [if_neg hs,List.filter_cons_of_neg (by simpa using hs)]; rfl
theorem rcount_any (st:Int) (h:Rb w B A n c D) (hu:∀ q∈D,0≤q.2.word) (hB:B≤w.heap.size) (hn:n≤100000) :
  Calls Tryz.prog 138 #[.agg #[.slice A n c,.slice A2 n2 c2],.int .i64 st] w fun e w'=>e=.returned (.int .i64 (cnt D st))∧Below w.heap.size w w':=by
 have HR:=Lh h
 have HU:=Lh hu
 have a1:=Lh h.len
 have b0:=Lh ((Below.refl w.heap.size w).alloc (Nat.le_refl _) (.cells #[.slice A n c,.slice A2 n2 c2] 40))
 clear h hu
 go_enter Tryz.func138,Tryz.ntmps138
 go_wp2_with fail
 go_loopw [5,7,11] (fun s5 s7 i wr=>∃ k m:Nat,k≤n∧m≤k∧i=.int .i64 k∧s5=.int .i64 m∧Hid (cnt (D.take k) st=m)∧Below w.heap.size w wr) (fun _ _ i _=>n - (intOf i).toNat)
 case atStart=>exact ⟨0,0,Nat.zero_le _,Nat.le_refl _,rfl,rfl,Lh rfl,b0.out⟩
 case round=>
  obtain ⟨k,m,hk,hm,rfl,rfl,hc,z⟩:=hrel
  by_cases hlt:k < n
  ·obtain ⟨b,o,x,u,bo,si,pr,rfl,hb,ha,c0,c1,W,c3,c4⟩:=five_at HR.out hlt
   have d0:=(z.cell (p:=⟨b,o+k * 5,none⟩) (by simp only; omega)).trans c0
   have d1:=(z.cell (p:=⟨b,o+k * 5+1,none⟩) (by simp only; omega)).trans c1
   have d2:=(z.cell (p:=⟨b,o+k * 5+2,none⟩) (by simp only; omega)).trans W
   have d3:=(z.cell (p:=⟨b,o+k * 5+3,none⟩) (by simp only; omega)).trans c3
   have d4:=(z.cell (p:=⟨b,o+k * 5+4,none⟩) (by simp only; omega)).trans c4
   have a3:0≤u:=HU.out _ (List.mem_of_getElem? ha)
   have G:=Lh (cnt_take st ha)
   have a2:=z.size
   have N:=Lh (z.alloc a2 (.cells #[.int .u64 x,.int .u64 u,.int .u64 bo,.int .u64 si,.int .u64 pr] 163))
   have F:u.tmod 4=u % 4:=Int.tmod_eq_emod_of_nonneg a3
   have a0:0≤u % 4∧u % 4 < 4:=by omega
   have a4:IntKind.i64.wrap (u % 4)=u % 4:=by rw [IntKind.wrap_i64]; omega
   have a5:IntKind.i64.wrap (u.tmod 4)=u % 4:=by rw [F]; exact a4
   clear c0 c1 W c3 c4 ha z
   by_cases hx:u % 4=st
   ·have J:(u % 4 == st)=true:=by simpa using hx
    have e2:(u.tmod 4 == st)=true:=by rw [F]; exact J
    have I:Hid (cnt (D.take (k+1)) st=(m+1:Nat)):=Lh (by rw [G.out,if_pos hx,hc.out])
    clear hx F a0 G
    go_wp2_with fail
    go_roundw
    case rel=>exact ⟨k+1,m+1,by omega,by omega,by go_num,by go_num,I,N.out⟩
    case measure=>simp [intOf]; omega
   ·have J:(u % 4 == st)=false:=by simpa using hx
    have e2:(u.tmod 4 == st)=false:=by rw [F]; exact J
    have I:Hid (cnt (D.take (k+1)) st=m):=Lh (by rw [G.out,if_neg hx,hc.out]; rfl)
    clear hx F a0 G
    go_wp2_with fail
    go_roundw
    case rel=>exact ⟨k+1,m,by omega,by omega,by go_num,rfl,I,N.out⟩
    case measure=>simp [intOf]; omega
  ·have HF:Hid (cnt D st=m):=Lh (by
    have Y:=hc.out
    rw [List.take_of_length_le (by have:=a1.out; omega)] at Y
    exact Y)
   go_wp2_with fail
   go_ret
   exact ⟨by rw [HF.out]; rfl,z⟩
end
structure Db where
 A:Option Addr
 n:Nat
 c:Nat
 A2:Option Addr
 n2:Nat
 c2:Nat
abbrev Db.val (d:Db):Value:=.agg #[.slice d.A d.n d.c,.slice d.A2 d.n2 d.c2]
def Flt (A:Option Addr) (c:Nat):Prop:=(A=none∧c=0) ∨ ∃ b o,A=some ⟨b,o,none⟩
structure Dq (K:Nat→Prop) (w:World) (d:Db) (D:List (Int × Ex)) (S:List Int):Prop where
 l:Rb w w.heap.size d.A d.n d.c D
 s:Rd (Value.int .u64) w w.heap.size d.A2 d.n2 d.c2 S
 fl:Flt d.A d.c
 kl:Kn K d.n d.A
 ks:Kn K d.n2 d.A2
theorem Dq.later {K:Nat→Prop} {w w':World} {d:Db} {D:List (Int × Ex)} {S:List Int} (h:Dq K w d D S) (u:Below w.heap.size w w'):Dq K w' d D S:=⟨h.l.later u,h.s.later u,h.fl,h.kl,h.ks⟩
theorem own_flt {w:World} {base:Nat} {e:TypeId} {z n c:Nat} {A:Option Addr} {xs:List Value} (h:w.ownsRow base e z (.slice A n c) n xs):Flt A c:=by
 rcases h.2 with ⟨u,_⟩ | ⟨g,cap,F,u,_⟩
 ·injection u with u _ h2; exact .inl ⟨u,h2⟩
 ·injection u with u _ h2; exact .inr ⟨g,0,u⟩
theorem flat_sets (xs:List (Int × Ex)) (k:Nat) (y:Int × Ex) (hk:k < xs.length):(((((flat enc5 xs).set (k * 5) (.int .u64 y.1)).set (k * 5+1) (.int .u64 y.2.word)).set (k * 5+2) (.int .u64 y.2.born)).set (k * 5+3) (.int .u64 y.2.since)).set (k * 5+4) (.int .u64 y.2.proved)=flat enc5 (xs.set k y):=by
 have z:(flat enc5 xs).length=xs.length * 5:=flat_len enc5_len xs
 have h:=setsL_eq (enc5 y) (flat enc5 xs) (k * 5) (by rw [z,enc5_len]; omega)
 have u:setsL (flat enc5 xs) (k * 5) (enc5 y)=(((((flat enc5 xs).set (k * 5) (.int .u64 y.1)).set (k * 5+1) (.int .u64 y.2.word)).set (k * 5+2) (.int .u64 y.2.born)).set (k * 5+3) (.int .u64 y.2.since)).set (k * 5+4) (.int .u64 y.2.proved):=rfl
 rw [← u,h,enc5_len,show k * 5+5=(k+1) * 5 by omega,flat_take enc5_len,flat_drop enc5_len,List.set_eq_take_append_cons_drop,if_pos hk]
 have:xs.take k ++ y :: xs.drop (k+1)=(xs.take k ++ [y]) ++ xs.drop (k+1):=by simp
 rw [this,flat_append,flat_append]
 congr 2
section
variable {K:Nat→Prop} (A A2:Option Addr) (n c n2 c2:Nat) (D:List (Int × Ex)) (S:List Int) (w:World)
theorem rwith_at (k:Nat) (y:Int × Ex) (h:Dq K w ⟨A,n,c,A2,n2,c2⟩ D S) (a2:∀ g,w.heap.size≤g→K g) (hk:k < n) (hn:n≤1000) :
  Calls Tryz.prog 187 #[.agg #[.slice A n c,.slice A2 n2 c2],.int .i64 k,.agg #[.int .u64 y.1,.int .u64 y.2.word,.int .u64 y.2.born,.int .u64 y.2.since,.int .u64 y.2.proved]] w fun e w'=>∃ A' c',e=.returned (.agg #[.slice A' n c',.slice A2 n2 c2])∧Dq K w' ⟨A',n,c',A2,n2,c2⟩ (D.set k y) S∧Below w.heap.size w w':=by
 obtain ⟨i0,hi,aq,ar,au⟩:=info_parts info_entry
 have HD:=Lh h
 have ac:=Lh a2
 have a8:D.length=n:=h.l.len
 have a0:=Lh a8
 clear h a8 a2
 go_enter Tryz.func187,Tryz.ntmps187
 go_upto_region 2 with (fail)
 have b1:Below w.heap.size w (((w.alloc (.cells #[.slice A n c,.slice A2 n2 c2] 40)).alloc (.cells #[.int .u64 y.1,.int .u64 y.2.word,.int .u64 y.2.born,.int .u64 y.2.since,.int .u64 y.2.proved] 163)).alloc (.cells #[.slice none 0 0,.slice none 0 0] 40)):=(((Below.refl _ _).alloc (Nat.le_refl _) _).alloc (by simp) _).alloc (by simp; omega) _
 have v0:(((w.alloc (.cells #[.slice A n c,.slice A2 n2 c2] 40)).alloc (.cells #[.int .u64 y.1,.int .u64 y.2.word,.int .u64 y.2.born,.int .u64 y.2.since,.int .u64 y.2.proved] 163)).alloc (.cells #[.slice none 0 0,.slice none 0 0] 40)).cell? ⟨w.heap.size,0,none⟩=some (.slice A n c):=by go_simp
 have v1:(((w.alloc (.cells #[.slice A n c,.slice A2 n2 c2] 40)).alloc (.cells #[.int .u64 y.1,.int .u64 y.2.word,.int .u64 y.2.born,.int .u64 y.2.since,.int .u64 y.2.proved] 163)).alloc (.cells #[.slice none 0 0,.slice none 0 0] 40)).cell? ⟨w.heap.size,1,none⟩=some (.slice A2 n2 c2):=by go_simp
 have vf:(((w.alloc (.cells #[.slice A n c,.slice A2 n2 c2] 40)).alloc (.cells #[.int .u64 y.1,.int .u64 y.2.word,.int .u64 y.2.born,.int .u64 y.2.since,.int .u64 y.2.proved] 163)).alloc (.cells #[.slice none 0 0,.slice none 0 0] 40)).frozen? ⟨w.heap.size,0,none⟩=false:=by go_simp
 have e0:(((w.alloc (.cells #[.slice A n c,.slice A2 n2 c2] 40)).alloc (.cells #[.int .u64 y.1,.int .u64 y.2.word,.int .u64 y.2.born,.int .u64 y.2.since,.int .u64 y.2.proved] 163)).alloc (.cells #[.slice none 0 0,.slice none 0 0] 40)).cell? ⟨w.heap.size+1,0,none⟩=some (.int .u64 y.1):=by go_simp
 have e1:(((w.alloc (.cells #[.slice A n c,.slice A2 n2 c2] 40)).alloc (.cells #[.int .u64 y.1,.int .u64 y.2.word,.int .u64 y.2.born,.int .u64 y.2.since,.int .u64 y.2.proved] 163)).alloc (.cells #[.slice none 0 0,.slice none 0 0] 40)).cell? ⟨w.heap.size+1,1,none⟩=some (.int .u64 y.2.word):=by go_simp
 have e2:(((w.alloc (.cells #[.slice A n c,.slice A2 n2 c2] 40)).alloc (.cells #[.int .u64 y.1,.int .u64 y.2.word,.int .u64 y.2.born,.int .u64 y.2.since,.int .u64 y.2.proved] 163)).alloc (.cells #[.slice none 0 0,.slice none 0 0] 40)).cell? ⟨w.heap.size+1,2,none⟩=some (.int .u64 y.2.born):=by go_simp
 have e3:(((w.alloc (.cells #[.slice A n c,.slice A2 n2 c2] 40)).alloc (.cells #[.int .u64 y.1,.int .u64 y.2.word,.int .u64 y.2.born,.int .u64 y.2.since,.int .u64 y.2.proved] 163)).alloc (.cells #[.slice none 0 0,.slice none 0 0] 40)).cell? ⟨w.heap.size+1,3,none⟩=some (.int .u64 y.2.since):=by go_simp
 have e4:(((w.alloc (.cells #[.slice A n c,.slice A2 n2 c2] 40)).alloc (.cells #[.int .u64 y.1,.int .u64 y.2.word,.int .u64 y.2.born,.int .u64 y.2.since,.int .u64 y.2.proved] 163)).alloc (.cells #[.slice none 0 0,.slice none 0 0] 40)).cell? ⟨w.heap.size+1,4,none⟩=some (.int .u64 y.2.proved):=by go_simp
 have r0:(((w.alloc (.cells #[.slice A n c,.slice A2 n2 c2] 40)).alloc (.cells #[.int .u64 y.1,.int .u64 y.2.word,.int .u64 y.2.born,.int .u64 y.2.since,.int .u64 y.2.proved] 163)).alloc (.cells #[.slice none 0 0,.slice none 0 0] 40)).cell? ⟨w.heap.size+2,0,none⟩=some (.slice none 0 0):=by go_simp
 have r1:(((w.alloc (.cells #[.slice A n c,.slice A2 n2 c2] 40)).alloc (.cells #[.int .u64 y.1,.int .u64 y.2.word,.int .u64 y.2.born,.int .u64 y.2.since,.int .u64 y.2.proved] 163)).alloc (.cells #[.slice none 0 0,.slice none 0 0] 40)).cell? ⟨w.heap.size+2,1,none⟩=some (.slice none 0 0):=by go_simp
 have z0:(((w.alloc (.cells #[.slice A n c,.slice A2 n2 c2] 40)).alloc (.cells #[.int .u64 y.1,.int .u64 y.2.word,.int .u64 y.2.born,.int .u64 y.2.since,.int .u64 y.2.proved] 163)).alloc (.cells #[.slice none 0 0,.slice none 0 0] 40)).frozen? ⟨w.heap.size+2,0,none⟩=false:=by go_simp
 have z1:(((w.alloc (.cells #[.slice A n c,.slice A2 n2 c2] 40)).alloc (.cells #[.int .u64 y.1,.int .u64 y.2.word,.int .u64 y.2.born,.int .u64 y.2.since,.int .u64 y.2.proved] 163)).alloc (.cells #[.slice none 0 0,.slice none 0 0] 40)).frozen? ⟨w.heap.size+2,1,none⟩=false:=by go_simp
 have an:w.heap.size+2 < (((w.alloc (.cells #[.slice A n c,.slice A2 n2 c2] 40)).alloc (.cells #[.int .u64 y.1,.int .u64 y.2.word,.int .u64 y.2.born,.int .u64 y.2.since,.int .u64 y.2.proved] 163)).alloc (.cells #[.slice none 0 0,.slice none 0 0] 40)).heap.size:=by simp
 obtain ⟨G,a3⟩:∃ G,(((w.alloc (.cells #[.slice A n c,.slice A2 n2 c2] 40)).alloc (.cells #[.int .u64 y.1,.int .u64 y.2.word,.int .u64 y.2.born,.int .u64 y.2.since,.int .u64 y.2.proved] 163)).alloc (.cells #[.slice none 0 0,.slice none 0 0] 40))=G:=⟨_,rfl⟩
 rw [a3] at b1 v0 v1 vf e0 e1 e2 e3 e4 r0 r1 z0 z1 an ⊢
 have B1:=Lh b1
 have RF:Hid (Rb G G.heap.size A n c D):=Lh (HD.out.later b1).l
 have aa:=Lh (HD.out.later b1)
 clear a3 b1
 have aj:k < D.length:=by have:=a0.out; omega
 obtain ⟨x,hx⟩:∃ x,D[k]? = some x:=⟨_,List.getElem?_eq_getElem aj⟩
 have a6:(flat enc5 D).length=n * 5:=by rw [flat_len enc5_len,a0.out]
 have a4:∀ i,i < 5→(flat enc5 D)[k * 5+i]? = (enc5 x)[i]?:=fun i hi=>flat_at enc5_len D k x i hx hi
 have aw:=Lh a6
 have W:=Lh a4
 clear hx a6 a4
 go_wp2_with (
  at_builtin
  refine append_rs enc5_len rfl _ _ 37 rfl G.heap.size 163 i0 _ 40 Tryz.underlying37 hi aq ar au rfl (by decide) (.slice none 0 0) 0 [] rfl (World.ownsRow_nil _ _ _ _) _ A n c D rfl RF.out enc5_one n (Nat.zero_add _) (flat enc5 D) rfl (by unfold maxLen; omega) (by omega) (Nat.le_refl _) ?_
  intro A5 c5 F I a7 ae
  refine Hid.out ?_)
 refine Lh ?_
 have z:Below G.heap.size G F:=(Below.refl _ _).grown a7 (Nat.le_refl _) (fun j hj=>by cases hj)
 have aA:∀ i,i < 5→k * 5+i < n * 5:=fun i hi=>by omega
 rcases I.2 with ⟨_,h0⟩ | ⟨u,cap,ax,h1,af,J,ak,ag,ah,ao⟩
 ·omega
 injection h1 with h1 _ h2
 subst h1 h2
 have q0:F.cell? ⟨u,k * 5,none⟩=some (.int .u64 x.1):=by rw [I.cellAt (k * 5) (by omega)]; exact W.out 0 (by omega)
 have q1:F.cell? ⟨u,k * 5+1,none⟩=some (.int .u64 x.2.word):=by rw [I.cellAt (k * 5+1) (by omega)]; exact W.out 1 (by omega)
 have q2:F.cell? ⟨u,k * 5+2,none⟩=some (.int .u64 x.2.born):=by rw [I.cellAt (k * 5+2) (by omega)]; exact W.out 2 (by omega)
 have q3:F.cell? ⟨u,k * 5+3,none⟩=some (.int .u64 x.2.since):=by rw [I.cellAt (k * 5+3) (by omega)]; exact W.out 3 (by omega)
 have q4:F.cell? ⟨u,k * 5+4,none⟩=some (.int .u64 x.2.proved):=by rw [I.cellAt (k * 5+4) (by omega)]; exact W.out 4 (by omega)
 have N:∀ o,F.frozen? ⟨u,o,none⟩=false:=fun o=>by simp [World.frozen?,J]
 have aD:=N (k * 5)
 have aE:=N (k * 5+1)
 have aF:=N (k * 5+2)
 have aG:=N (k * 5+3)
 have aH:=N (k * 5+4)
 have ay:u < F.heap.size:=(Array.getElem?_eq_some_iff.1 J).1
 have u0:=(z.cell (p:=⟨w.heap.size,0,none⟩) (by show w.heap.size < _; omega)).trans v0
 have u1:=(z.cell (p:=⟨w.heap.size,1,none⟩) (by show w.heap.size < _; omega)).trans v1
 have uf:=(z.frozen (p:=⟨w.heap.size,0,none⟩) (by show w.heap.size < _; omega)).trans vf
 have d0:=(z.cell (p:=⟨w.heap.size+1,0,none⟩) (by show w.heap.size+1 < _; omega)).trans e0
 have d1:=(z.cell (p:=⟨w.heap.size+1,1,none⟩) (by show w.heap.size+1 < _; omega)).trans e1
 have d2:=(z.cell (p:=⟨w.heap.size+1,2,none⟩) (by show w.heap.size+1 < _; omega)).trans e2
 have d3:=(z.cell (p:=⟨w.heap.size+1,3,none⟩) (by show w.heap.size+1 < _; omega)).trans e3
 have d4:=(z.cell (p:=⟨w.heap.size+1,4,none⟩) (by show w.heap.size+1 < _; omega)).trans e4
 have t0:=(z.cell (p:=⟨w.heap.size+2,0,none⟩) (by show w.heap.size+2 < _; omega)).trans r0
 have t1:=(z.cell (p:=⟨w.heap.size+2,1,none⟩) (by show w.heap.size+2 < _; omega)).trans r1
 have aI:=(z.frozen (p:=⟨w.heap.size+2,0,none⟩) (by show w.heap.size+2 < _; omega)).trans z0
 have aJ:=(z.frozen (p:=⟨w.heap.size+2,1,none⟩) (by show w.heap.size+2 < _; omega)).trans z1
 have al:u≠w.heap.size:=by omega
 have Y:w.heap.size≤u:=by omega
 have aB:u≠w.heap.size+1:=by omega
 have a9:u≠w.heap.size+2:=by omega
 have az:decide ((0:Int)≤(k:Int))=true:=decide_eq_true (by omega)
 have ad:=Lh I
 have B5:=Lh (B1.out.trans (z.mono (by omega)))
 have av:=Lh (aa.out.later z)
 have aC:w.heap.size+2 < F.heap.size:=by have:=z.size; omega
 clear I a7 ae z v0 v1 vf e0 e1 e2 e3 e4 r0 r1 z0 z1 N J ak ag ah ao af
 go_wp2_with fail
 have o1:=(ad.out.stored (k * 5) (.int .u64 y.1)).1
 have o2:=(o1.stored (k * 5+1) (.int .u64 y.2.word)).1
 have o3:=(o2.stored (k * 5+2) (.int .u64 y.2.born)).1
 have o4:=(o3.stored (k * 5+3) (.int .u64 y.2.since)).1
 have o5:=(o4.stored (k * 5+4) (.int .u64 y.2.proved)).1
 have a1:((((((((F.setCell ⟨u,k * 5,none⟩ (.int .u64 y.1)).setCell ⟨u,k * 5+1,none⟩ (.int .u64 y.2.word)).setCell ⟨u,k * 5+2,none⟩ (.int .u64 y.2.born)).setCell ⟨u,k * 5+3,none⟩ (.int .u64 y.2.since)).setCell ⟨u,k * 5+4,none⟩ (.int .u64 y.2.proved)).setCell ⟨w.heap.size,0,none⟩ (.slice (some ⟨u,0,none⟩) n c5)).setCell ⟨w.heap.size+1+1,0,none⟩ (.slice (some ⟨u,0,none⟩) n c5)).setCell ⟨w.heap.size+1+1,1,none⟩ (.slice A2 n2 c2)).ownsRow G.heap.size 163 5 (.slice (some ⟨u,0,none⟩) n c5) n (flat enc5 (D.set k y)):=by
  rw [← flat_sets D k y (by have:=a0.out; omega)]
  refine Hi.own_same o5 (fun g' ai=>?_)
  have J:g'=u:=by simpa [Value.ownBlock] using ai.symm
  subst J
  exact (heap_setCell_other _ ⟨w.heap.size+1+1,1,none⟩ g' _ a9).trans ((heap_setCell_other _ ⟨w.heap.size+1+1,0,none⟩ g' _ a9).trans (heap_setCell_other _ ⟨w.heap.size,0,none⟩ g' _ al))
 have a5:Below w.heap.size w ((((((((F.setCell ⟨u,k * 5,none⟩ (.int .u64 y.1)).setCell ⟨u,k * 5+1,none⟩ (.int .u64 y.2.word)).setCell ⟨u,k * 5+2,none⟩ (.int .u64 y.2.born)).setCell ⟨u,k * 5+3,none⟩ (.int .u64 y.2.since)).setCell ⟨u,k * 5+4,none⟩ (.int .u64 y.2.proved)).setCell ⟨w.heap.size,0,none⟩ (.slice (some ⟨u,0,none⟩) n c5)).setCell ⟨w.heap.size+1+1,0,none⟩ (.slice (some ⟨u,0,none⟩) n c5)).setCell ⟨w.heap.size+1+1,1,none⟩ (.slice A2 n2 c2)):=by
  have x1:=B5.out.setCell (p:=⟨u,k * 5,none⟩) Y (.int .u64 y.1)
  have x2:=x1.setCell (p:=⟨u,k * 5+1,none⟩) Y (.int .u64 y.2.word)
  have x3:=x2.setCell (p:=⟨u,k * 5+2,none⟩) Y (.int .u64 y.2.born)
  have x4:=x3.setCell (p:=⟨u,k * 5+3,none⟩) Y (.int .u64 y.2.since)
  have x5:=x4.setCell (p:=⟨u,k * 5+4,none⟩) Y (.int .u64 y.2.proved)
  have x6:=x5.setCell (p:=⟨w.heap.size,0,none⟩) (Nat.le_refl _) (.slice (some ⟨u,0,none⟩) n c5)
  have x7:=x6.setCell (p:=⟨w.heap.size+1+1,0,none⟩) (by show w.heap.size≤w.heap.size+1+1; omega) (.slice (some ⟨u,0,none⟩) n c5)
  exact x7.setCell (p:=⟨w.heap.size+1+1,1,none⟩) (by show w.heap.size≤w.heap.size+1+1; omega) _
 have hd:=HD.out.later a5
 exact bodyPost_ret (v:=.agg #[.slice (some ⟨u,0,none⟩) n c5,.slice A2 n2 c2]) (by simp [results,Tryz.results187,go_sem,t0,t1]) rfl ⟨_,_,rfl,⟨Rs.own_rs enc5_len (by simp [a0.out]) a1,hd.s,own_flt a1,Kn.own a1 (fun g J=>ac.out g (by omega)),hd.ks⟩,a5⟩
end
def Vb (w:World) (g:Nat) (a b:Value):Prop:=(w.cell? ⟨g,0,none⟩=some a∧w.cell? ⟨g,1,none⟩=some b)∧w.frozen? ⟨g,0,none⟩=false∧w.frozen? ⟨g,1,none⟩=false
theorem Vb.below {w w':World} {g B:Nat} {a b:Value} (h:Vb w g a b) (u:Below B w w') (z:g < B):Vb w' g a b:=by
 obtain ⟨⟨F,G⟩,f0,f1⟩:=h
 exact ⟨⟨(u.cell (p:=⟨g,0,none⟩) z).trans F,(u.cell (p:=⟨g,1,none⟩) z).trans G⟩,(u.frozen (p:=⟨g,0,none⟩) z).trans f0,(u.frozen (p:=⟨g,1,none⟩) z).trans f1⟩
theorem two_boxes (A A2:Option Addr) (n c n2 c2:Nat) (w:World):Below w.heap.size w ((w.alloc (.cells #[.slice A n c,.slice A2 n2 c2] 40)).alloc (.cells #[.slice none 0 0,.slice none 0 0] 40)) ∧
  Vb ((w.alloc (.cells #[.slice A n c,.slice A2 n2 c2] 40)).alloc (.cells #[.slice none 0 0,.slice none 0 0] 40)) w.heap.size (.slice A n c) (.slice A2 n2 c2) ∧
  Vb ((w.alloc (.cells #[.slice A n c,.slice A2 n2 c2] 40)).alloc (.cells #[.slice none 0 0,.slice none 0 0] 40)) (w.heap.size+1) (.slice none 0 0) (.slice none 0 0) ∧
  w.heap.size+2≤((w.alloc (.cells #[.slice A n c,.slice A2 n2 c2] 40)).alloc (.cells #[.slice none 0 0,.slice none 0 0] 40)).heap.size:=by
 refine ⟨((Below.refl _ _).alloc (Nat.le_refl _) _).alloc (by simp) _,⟨⟨?_,?_⟩,?_,?_⟩,⟨⟨?_,?_⟩,?_,?_⟩,by simp⟩ <;> go_simp
section
variable {K:Nat→Prop} (A A2:Option Addr) (n c n2 c2:Nat) (D:List (Int × Ex)) (S:List Int) (w:World)
theorem rpublish_any (id:Int) (h:Dq K w ⟨A,n,c,A2,n2,c2⟩ D S) (aa:∀ g,w.heap.size≤g→K g) (hn:n≤1000) (au:n2≤1000) :
  Calls Tryz.prog 124 #[.agg #[.slice A n c,.slice A2 n2 c2],.int .u64 id] w fun e w'=>∃ A' z u,e=.returned (.tuple #[.agg #[.slice A n c,.slice A' z u],.int .i64 (kn D id)])∧Dq K w' ⟨A,n,c,A',z,u⟩ D (if (fnd D id).isSome then Sn.sWith S id else S)∧Below w.heap.size w w':=by
 obtain ⟨J,a0,a1,ag⟩:=two_boxes A A2 n c n2 c2 w
 have I:=Lh h
 have aj:=Lh aa
 clear h aa
 rcases fx_cases D id with ⟨W,a7⟩ | ⟨k,x,hk,ao,a7,W⟩
 ·have ek:kn D id=9:=by unfold kn; rw [W]; rfl
  have es:(fnd D id).isSome=false:=by rw [W]; rfl
  rw [ek,es]
  clear W ek es
  go_enter Tryz.func124,Tryz.ntmps124
  go_upto_region 1 with (fail)
  obtain ⟨G,a5⟩:∃ G,((w.alloc (.cells #[.slice A n c,.slice A2 n2 c2] 40)).alloc (.cells #[.slice none 0 0,.slice none 0 0] 40))=G:=⟨_,rfl⟩
  rw [a5] at J a0 a1 ag ⊢
  have N:=Lh (rfind_any A A2 n c n2 c2 G.heap.size D G id (I.out.later J).l (Nat.le_refl _) (by omega))
  rw [a7] at N
  have a2:=Lh J
  have a3:=Lh a0
  have a4:=Lh a1
  obtain ⟨⟨f0,f1⟩,g0,g1⟩:=a0
  clear a5 J a1
  clear a7
  go_wp2_with fail
  refine N.out.mono ?_
  rintro e w2 ⟨rfl,F⟩
  have Y:=Lh (a2.out.trans (F.mono a2.out.size))
  obtain ⟨⟨f0,f1⟩,g0,g1⟩:=a3.out.below F (by omega)
  obtain ⟨⟨r0,r1⟩,z0,z1⟩:=a4.out.below F (by omega)
  have ar:=F.size
  clear F N a3 a4
  go_wp2_with fail
  have ad:Below w.heap.size w ((w2.setCell ⟨w.heap.size+1,0,none⟩ (.slice A n c)).setCell ⟨w.heap.size+1,1,none⟩ (.slice A2 n2 c2)):=
   (Y.out.setCell (p:=⟨w.heap.size+1,0,none⟩) (by show w.heap.size≤w.heap.size+1; omega) _).setCell (p:=⟨w.heap.size+1,1,none⟩) (by show w.heap.size≤w.heap.size+1; omega) _
  exact bodyPost_ret (v:=.tuple #[.agg #[.slice A n c,.slice A2 n2 c2],.int .i64 9]) (by simp [results,Tryz.results124,go_sem,r0,r1]) rfl ⟨_,_,_,rfl,I.out.later ad,ad⟩
 ·have ek:kn D id=0:=by unfold kn; rw [W]; rfl
  have es:(fnd D id).isSome=true:=by rw [W]; rfl
  rw [ek,es]
  have q0:decide ((k:Int) < 0)=false:=decide_eq_false (by omega)
  clear W ek es hk ao
  go_enter Tryz.func124,Tryz.ntmps124
  go_upto_region 1 with (fail)
  obtain ⟨G,a5⟩:∃ G,((w.alloc (.cells #[.slice A n c,.slice A2 n2 c2] 40)).alloc (.cells #[.slice none 0 0,.slice none 0 0] 40))=G:=⟨_,rfl⟩
  rw [a5] at J a0 a1 ag ⊢
  have N:=Lh (rfind_any A A2 n c n2 c2 G.heap.size D G id (I.out.later J).l (Nat.le_refl _) (by omega))
  rw [a7] at N
  have a2:=Lh J
  have a3:=Lh a0
  have a4:=Lh a1
  obtain ⟨⟨f0,f1⟩,g0,g1⟩:=a0
  clear a5 J a1
  clear a7
  go_wp2_with fail
  refine N.out.mono ?_
  rintro e w2 ⟨rfl,F⟩
  have Y:=Lh (a2.out.trans (F.mono a2.out.size))
  have a8:=Lh (a3.out.below F (by omega))
  have a9:=Lh (a4.out.below F (by omega))
  obtain ⟨⟨f0,f1⟩,g0,g1⟩:=a8.out
  have ar:=F.size
  clear F N a3 a4
  go_wp2_with fail
  refine (Sn.rwithK_any A2 n2 c2 S id w2 (I.out.later Y.out).s (by omega) I.out.ks (fun g hg=>aj.out g (Nat.le_trans Y.out.size hg))).mono ?_
  rintro e w3 ⟨A',z,u,rfl,af,ae,a6⟩
  have ai:=Lh ae
  clear ae
  have ah:=Lh (Y.out.trans (a6.mono Y.out.size))
  have ak:=Lh af
  obtain ⟨⟨f0,f1⟩,g0,g1⟩:=a8.out.below a6 (by omega)
  obtain ⟨⟨r0,r1⟩,z0,z1⟩:=a9.out.below a6 (by omega)
  have av:=a6.size
  clear a6 af a8 a9
  go_wp2_with fail
  have al:=ah.out.setCell (p:=⟨w.heap.size,1,none⟩) (Nat.le_refl _) (.slice A' z u)
  have an:=al.setCell (p:=⟨w.heap.size+1,0,none⟩) (by show w.heap.size≤w.heap.size+1; omega) (.slice A n c)
  have ac:=an.setCell (p:=⟨w.heap.size+1,1,none⟩) (by show w.heap.size≤w.heap.size+1; omega) (.slice A' z u)
  have aq:Rd (Value.int .u64) (((w3.setCell ⟨w.heap.size,1,none⟩ (.slice A' z u)).setCell ⟨w.heap.size+1,0,none⟩ (.slice A n c)).setCell ⟨w.heap.size+1,1,none⟩ (.slice A' z u)) (((w3.setCell ⟨w.heap.size,1,none⟩ (.slice A' z u)).setCell ⟨w.heap.size+1,0,none⟩ (.slice A n c)).setCell ⟨w.heap.size+1,1,none⟩ (.slice A' z u)).heap.size A' z u (Sn.sWith S id):=by
   have p1:=ak.out.setOther (p:=⟨w.heap.size,1,none⟩) f1 (fun x e=>by cases e) (.slice A' z u)
   have p2:=p1.setOther (p:=⟨w.heap.size+1,0,none⟩) (v:=.slice none 0 0) (by go_simp) (fun x e=>by cases e) (.slice A n c)
   have p3:=p2.setOther (p:=⟨w.heap.size+1,1,none⟩) (v:=.slice none 0 0) (by go_simp) (fun x e=>by cases e) (.slice A' z u)
   exact p3.more (by simp)
  exact bodyPost_ret (v:=.tuple #[.agg #[.slice A n c,.slice A' z u],.int .i64 0]) (by simp [results,Tryz.results124,go_sem,r0,r1]) rfl ⟨_,_,_,rfl,⟨(I.out.later ac).l,aq,I.out.fl,I.out.kl,ai.out⟩,ac⟩
end
theorem rs_other {α:Type} {enc:α→List Value} {F:Nat} {w:World} {B:Nat} {A:Option Addr} {n c:Nat} {xs:List α} (h:Rs enc F w B A n c xs) {p:Addr} {v:Value} (W:w.cell? p=some v) (N:∀ x u,u∈enc x→u≠v) (u:Value):Rs enc F (w.setCell p u) B A n c xs:=
 ⟨h.len,h.cap,h.top,fun hn=>by
  obtain ⟨b,o,e,J,hc⟩:=h.at_ hn
  refine ⟨b,o,e,J,fun j x hx i I hi G=>?_⟩
  have z:=hc j x hx i I hi G
  by_cases e1:p=⟨b,o+j * F+i,none⟩
  ·subst e1
   rw [W] at z
   injection z with z
   exact absurd z.symm (N x I (List.mem_of_getElem? G))
  ·exact (World.cell?_setCell_other _ _ _ _ e1).trans z⟩
theorem Rs.more {α:Type} {enc:α→List Value} {u:Nat} {w:World} {B B':Nat} {A:Option Addr} {n c:Nat} {xs:List α} (h:Rs enc u w B A n c xs) (z:B≤B'):Rs enc u w B' A n c xs:=
 ⟨h.len,h.cap,h.top,fun hn=>by
  obtain ⟨b,o,e,F,hc⟩:=h.at_ hn
  exact ⟨b,o,e,by omega,hc⟩⟩
theorem Dq.store {K:Nat→Prop} {w:World} {d:Db} {D:List (Int × Ex)} {S:List Int} (h:Dq K w d D S) {p:Addr} {A0:Option Addr} {n0 c0:Nat} (z:w.cell? p=some (.slice A0 n0 c0)) (u:Value):Dq K (w.setCell p u) d D S:=
 ⟨Rs.more (rs_other h.l z (fun x u F e=>by simp [enc5] at F; rcases F with rfl | rfl | rfl | rfl | rfl <;> cases e) u) (by simp),(h.s.setOther z (fun x e=>by cases e) u).more (by simp),h.fl,h.kl,h.ks⟩
section
variable {K:Nat→Prop} (A A2:Option Addr) (n c n2 c2:Nat) (D:List (Int × Ex)) (S:List Int) (w:World)
theorem rswap15_any (id old st now:Int) (h:Dq K w ⟨A,n,c,A2,n2,c2⟩ D S) (aq:∀ g,w.heap.size≤g→K g) (ar:Nd D) (hn:n≤1000) (hu:∀ q∈D,U64 q.2.word) (ho:U64 old) (av:-9223372036854775808≤st∧st≤9223372036854775807) :
  Calls Tryz.prog 135 #[.agg #[.slice A n c,.slice A2 n2 c2],.int .u64 id,.int .u64 old,.int .i64 st,.int .u64 now] w fun e w'=>∃ A' F,e=.returned (.tuple #[.agg #[.slice A' n F,.slice A2 n2 c2],.int .u64 (bV D id old st),.bool (bK D id old st)])∧Dq K w' ⟨A',n,F,A2,n2,c2⟩ (up D id (exS old st now)) S∧Below w.heap.size w w':=by
 obtain ⟨a0,a7,a8,aw⟩:=two_boxes A A2 n c n2 c2 w
 have HD:=Lh h
 have aj:=Lh aq
 clear aq
 have ax:=Lh ar
 have ay:=Lh hu
 have al:=Lh ho
 have an:=Lh av
 have aH:D.length=n:=h.l.len
 clear h ar hu ho av
 rcases fx_cases D id with ⟨a5,ah⟩ | ⟨k,x,hk,az,ah,a5⟩
 ·have ev:bV D id old st=0:=by unfold bV; rw [a5]
  have ek:bK D id old st=false:=by unfold bK; rw [a5]
  rw [ev,ek,up_none (fnd_no a5)]
  clear a5 ek ev
  go_enter Tryz.func135,Tryz.ntmps135
  go_upto_region 1 with (fail)
  obtain ⟨W,af⟩:∃ W,((w.alloc (.cells #[.slice A n c,.slice A2 n2 c2] 40)).alloc (.cells #[.slice none 0 0,.slice none 0 0] 40))=W:=⟨_,rfl⟩
  rw [af] at a0 a7 a8 aw ⊢
  have HF:=Lh (rfind_any A A2 n c n2 c2 W.heap.size D W id (HD.out.later a0).l (Nat.le_refl _) (by omega))
  rw [ah] at HF
  have a9:=Lh a0
  have ad:=Lh a7
  have ae:=Lh a8
  obtain ⟨⟨f0,f1⟩,g0,g1⟩:=a7
  clear af a0 a8 ah
  go_wp2_with fail
  refine HF.out.mono ?_
  rintro e N ⟨rfl,I⟩
  have u:=Lh (a9.out.trans (I.mono a9.out.size))
  have ak:=Lh (ad.out.below I (by omega))
  have a6:=Lh (ae.out.below I (by omega))
  obtain ⟨⟨f0,f1⟩,g0,g1⟩:=ak.out
  obtain ⟨⟨J,r1⟩,z0,z1⟩:=a6.out
  have aA:=I.size
  clear I HF ad ae
  go_wp2_with fail
  have a4:Below w.heap.size w ((N.setCell ⟨w.heap.size+1,0,none⟩ (.slice A n c)).setCell ⟨w.heap.size+1,1,none⟩ (.slice A2 n2 c2)):=
   (u.out.setCell (p:=⟨w.heap.size+1,0,none⟩) (by show w.heap.size≤w.heap.size+1; omega) _).setCell (p:=⟨w.heap.size+1,1,none⟩) (by show w.heap.size≤w.heap.size+1; omega) _
  exact bodyPost_ret (v:=.tuple #[.agg #[.slice A n c,.slice A2 n2 c2],.int .u64 0,.bool false]) (by simp [results,Tryz.results135,go_sem,J,r1]) rfl ⟨_,_,rfl,HD.out.later a4,a4⟩
 ·have ev:bV D id old st=Wd.wSwap x.word old st:=by unfold bV; rw [a5]
  have ek:bK D id old st=Wd.wSwapOk x.word old st:=by unfold bK; rw [a5]
  rw [ev,ek]
  have q0:decide ((k:Int) < 0)=false:=decide_eq_false (by omega)
  have ai:k < n:=by have:=(List.getElem?_eq_some_iff.1 hk).1; omega
  have aE:k < c:=by have:n≤c:=HD.out.l.cap; omega
  have aB:=Lh (ay.out _ (List.mem_of_getElem? hk))
  obtain ⟨b,o,x0,wd,bo,si,pr,hA,ag,ha,c0,c1,ao,c3,c4⟩:=five_at HD.out.l ai
  have hA:A=some ⟨b,o,none⟩:=hA
  obtain ⟨rfl,rfl⟩:id=x0∧x=⟨wd,bo,si,pr⟩:=by
   have h9:=ha.symm.trans hk
   injection h9 with h9
   injection h9 with h9 h10
   exact ⟨h9.symm,h10.symm⟩
  subst hA
  have HU:=Lh (up_set ax.out hk (exS old st now))
  have aD:decide ((0:Int)≤(k:Int))=true:=decide_eq_true (by omega)
  clear a5 ek ev hk az ha
  go_enter Tryz.func135,Tryz.ntmps135
  go_upto_region 1 with (fail)
  obtain ⟨W,af⟩:∃ W,((w.alloc (.cells #[.slice (some ⟨b,o,none⟩) n c,.slice A2 n2 c2] 40)).alloc (.cells #[.slice none 0 0,.slice none 0 0] 40))=W:=⟨_,rfl⟩
  rw [af] at a0 a7 a8 aw ⊢
  have HF:=Lh (rfind_any (some ⟨b,o,none⟩) A2 n c n2 c2 W.heap.size D W id (HD.out.later a0).l (Nat.le_refl _) (by omega))
  rw [ah] at HF
  have a9:=Lh a0
  have ad:=Lh a7
  have ae:=Lh a8
  obtain ⟨⟨f0,f1⟩,g0,g1⟩:=a7
  clear af a0 a8 ah
  go_wp2_with fail
  refine HF.out.mono ?_
  rintro e N ⟨rfl,I⟩
  have u:=Lh (a9.out.trans (I.mono a9.out.size))
  have ak:=Lh (ad.out.below I (by omega))
  have a6:=Lh (ae.out.below I (by omega))
  obtain ⟨⟨f0,f1⟩,g0,g1⟩:=ak.out
  obtain ⟨⟨J,r1⟩,z0,z1⟩:=a6.out
  have aA:=I.size
  clear I HF ad ae
  have d0:=(u.out.cell (p:=⟨b,o+k * 5,none⟩) ag).trans c0
  have d1:=(u.out.cell (p:=⟨b,o+k * 5+1,none⟩) ag).trans c1
  have d2:=(u.out.cell (p:=⟨b,o+k * 5+2,none⟩) ag).trans ao
  have d3:=(u.out.cell (p:=⟨b,o+k * 5+3,none⟩) ag).trans c3
  have d4:=(u.out.cell (p:=⟨b,o+k * 5+4,none⟩) ag).trans c4
  have aC:b < N.heap.size:=by have:=u.out.size; omega
  have aF:w.heap.size < N.heap.size:=by omega
  have aG:w.heap.size+1 < N.heap.size:=by omega
  clear c0 c1 ao c3 c4
  go_wp2_with fail
  refine (Wd.rswap_any wd old st _ al.out.1 al.out.2 an.out.1 an.out.2).mono ?_
  rintro e w3 ⟨rfl,rfl⟩
  simp only at HU ⊢
  obtain ⟨V,hV⟩:∃ V,Wd.wSwap wd old st=V:=⟨_,rfl⟩
  rw [hV]
  have HV:=Lh hV
  clear hV
  cases hk2:Wd.wSwapOk wd old st with
  | true=>
   by_cases h0:st=0
   ·have q1:(st == 0)=true:=by simpa using h0
    have ac:Hid (D.set k (id,⟨V,bo,now,pr⟩)=up D id (exS old st now)):=Lh (by rw [← HU.out]; unfold exS; rw [if_pos ⟨hk2,h0⟩,HV.out])
    clear h0
    go_wp2_with fail
    refine with_fact (fun W'=>Below N.heap.size N W') ?_ ?_
    ·repeat' (first | exact Below.refl _ _ | apply Below.setCell | apply Below.alloc)
     all_goals (first | exact Nat.le_refl _ | (simp; done) | (simp; omega))
    intro z
    have Y:=Lh (u.out.trans (z.mono u.out.size))
    have hq:Dq K _ ⟨some ⟨b,o,none⟩,n,c,A2,n2,c2⟩ D S:=HD.out.later Y.out
    refine (rwith_at (some ⟨b,o,none⟩) A2 n c n2 c2 D S _ k (id,⟨V,bo,now,pr⟩) hq (fun g hg=>aj.out g (Nat.le_trans Y.out.size hg)) ai hn).mono ?_
    rintro e w4 ⟨A',F,rfl,a2,a1⟩
    have G:=Lh (z.trans (a1.mono z.size))
    have aa:=Lh a2
    obtain ⟨⟨J,r1⟩,z0,z1⟩:=a6.out.below G.out (by omega)
    have au:=G.out.size
    clear a1 a2 z f0 f1 g0 g1 d0 d1 d2 d3 d4
    go_wp2_with fail
    have a4:Below w.heap.size w ((w4.setCell ⟨w.heap.size+1,0,none⟩ (.slice A' n F)).setCell ⟨w.heap.size+1,1,none⟩ (.slice A2 n2 c2)):=
     ((u.out.trans (G.out.mono u.out.size)).setCell (p:=⟨w.heap.size+1,0,none⟩) (by show w.heap.size≤w.heap.size+1; omega) _).setCell (p:=⟨w.heap.size+1,1,none⟩) (by show w.heap.size≤w.heap.size+1; omega) _
    have a3:=(aa.out.store J (.slice A' n F)).store (p:=⟨w.heap.size+1,1,none⟩) (A0:=none) (n0:=0) (c0:=0) (by go_simp) (.slice A2 n2 c2)
    rw [ac.out] at a3
    exact bodyPost_ret (v:=.tuple #[.agg #[.slice A' n F,.slice A2 n2 c2],.int .u64 V,.bool true]) (by simp [results,Tryz.results135,go_sem,J,r1]) rfl ⟨_,_,(by rw [HV.out,hk2]),a3,a4⟩
   ·have q1:(st == 0)=false:=by simpa using h0
    have ac:Hid (D.set k (id,⟨V,bo,si,pr⟩)=up D id (exS old st now)):=Lh (by rw [← HU.out]; unfold exS; rw [if_neg (fun e=>h0 e.2),HV.out])
    clear h0
    go_wp2_with fail
    refine with_fact (fun W'=>Below N.heap.size N W') ?_ ?_
    ·repeat' (first | exact Below.refl _ _ | apply Below.setCell | apply Below.alloc)
     all_goals (first | exact Nat.le_refl _ | (simp; done) | (simp; omega))
    intro z
    have Y:=Lh (u.out.trans (z.mono u.out.size))
    have hq:Dq K _ ⟨some ⟨b,o,none⟩,n,c,A2,n2,c2⟩ D S:=HD.out.later Y.out
    refine (rwith_at (some ⟨b,o,none⟩) A2 n c n2 c2 D S _ k (id,⟨V,bo,si,pr⟩) hq (fun g hg=>aj.out g (Nat.le_trans Y.out.size hg)) ai hn).mono ?_
    rintro e w4 ⟨A',F,rfl,a2,a1⟩
    have G:=Lh (z.trans (a1.mono z.size))
    have aa:=Lh a2
    obtain ⟨⟨J,r1⟩,z0,z1⟩:=a6.out.below G.out (by omega)
    have au:=G.out.size
    clear a1 a2 z f0 f1 g0 g1 d0 d1 d2 d3 d4
    go_wp2_with fail
    have a4:Below w.heap.size w ((w4.setCell ⟨w.heap.size+1,0,none⟩ (.slice A' n F)).setCell ⟨w.heap.size+1,1,none⟩ (.slice A2 n2 c2)):=
     ((u.out.trans (G.out.mono u.out.size)).setCell (p:=⟨w.heap.size+1,0,none⟩) (by show w.heap.size≤w.heap.size+1; omega) _).setCell (p:=⟨w.heap.size+1,1,none⟩) (by show w.heap.size≤w.heap.size+1; omega) _
    have a3:=(aa.out.store J (.slice A' n F)).store (p:=⟨w.heap.size+1,1,none⟩) (A0:=none) (n0:=0) (c0:=0) (by go_simp) (.slice A2 n2 c2)
    rw [ac.out] at a3
    exact bodyPost_ret (v:=.tuple #[.agg #[.slice A' n F,.slice A2 n2 c2],.int .u64 V,.bool true]) (by simp [results,Tryz.results135,go_sem,J,r1]) rfl ⟨_,_,(by rw [HV.out,hk2]),a3,a4⟩
  | false=>
   have ac:Hid (D.set k (id,⟨V,bo,si,pr⟩)=up D id (exS old st now)):=Lh (by rw [← HU.out]; unfold exS; rw [if_neg (fun e=>by rw [hk2] at e; cases e.1),HV.out])
   go_wp2_with fail
   refine with_fact (fun W'=>Below N.heap.size N W') ?_ ?_
   ·repeat' (first | exact Below.refl _ _ | apply Below.setCell | apply Below.alloc)
    all_goals (first | exact Nat.le_refl _ | (simp; done) | (simp; omega))
   intro z
   have Y:=Lh (u.out.trans (z.mono u.out.size))
   have hq:Dq K _ ⟨some ⟨b,o,none⟩,n,c,A2,n2,c2⟩ D S:=HD.out.later Y.out
   refine (rwith_at (some ⟨b,o,none⟩) A2 n c n2 c2 D S _ k (id,⟨V,bo,si,pr⟩) hq (fun g hg=>aj.out g (Nat.le_trans Y.out.size hg)) ai hn).mono ?_
   rintro e w4 ⟨A',F,rfl,a2,a1⟩
   have G:=Lh (z.trans (a1.mono z.size))
   have aa:=Lh a2
   obtain ⟨⟨J,r1⟩,z0,z1⟩:=a6.out.below G.out (by omega)
   have au:=G.out.size
   clear a1 a2 z f0 f1 g0 g1 d0 d1 d2 d3 d4
   go_wp2_with fail
   have a4:Below w.heap.size w ((w4.setCell ⟨w.heap.size+1,0,none⟩ (.slice A' n F)).setCell ⟨w.heap.size+1,1,none⟩ (.slice A2 n2 c2)):=
    ((u.out.trans (G.out.mono u.out.size)).setCell (p:=⟨w.heap.size+1,0,none⟩) (by show w.heap.size≤w.heap.size+1; omega) _).setCell (p:=⟨w.heap.size+1,1,none⟩) (by show w.heap.size≤w.heap.size+1; omega) _
   have a3:=(aa.out.store J (.slice A' n F)).store (p:=⟨w.heap.size+1,1,none⟩) (A0:=none) (n0:=0) (c0:=0) (by go_simp) (.slice A2 n2 c2)
   rw [ac.out] at a3
   exact bodyPost_ret (v:=.tuple #[.agg #[.slice A' n F,.slice A2 n2 c2],.int .u64 V,.bool false]) (by simp [results,Tryz.results135,go_sem,J,r1]) rfl ⟨_,_,(by rw [HV.out,hk2]),a3,a4⟩
end
end Go.Proofs.YtaeemilldmhbnaaGreatDoor.Ba
