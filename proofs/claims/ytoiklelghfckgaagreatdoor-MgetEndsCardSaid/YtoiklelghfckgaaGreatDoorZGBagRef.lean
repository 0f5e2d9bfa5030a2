/- A part of the claim: the texts BagRef BagRefB BagRefC BagRefD. -/
import Derived.Test.YtoiklelghfckgaaGreatDoorZGBag
import Derived.Test.YtoiklelghfckgaaGreatDoorZBase5
import Derived.Test.YtoiklelghfckgaaGreatDoorZGKeep
import Derived.Test.YtoiklelghfckgaaGreatDoorZBase1
import Derived.Test.YtoiklelghfckgaaGreatDoorZGBagG
set_option maxRecDepth 100000
set_option maxHeartbeats 8000000
set_option linter.unusedVariables false
namespace Go.Proofs.YtoiklelghfckgaaGreatDoor.Ba
open Go.ChangeShapes Go.WideShapes Go.ChangeAt Go.RowKit Go.Maps Rw Hi Mt
def enc5 (a:Int × Ex):List Value:=[.int .u64 a.1,.int .u64 a.2.word,.int .u64 a.2.born,.int .u64 a.2.since,.int .u64 a.2.proved]
theorem enc5_len (a:Int × Ex):(enc5 a).length=5:=rfl
theorem enc5_one (y:Int × Ex):∀ u∈enc5 y,u.oneCell'=true:=by intro u h; simp [enc5] at h; rcases h with rfl | rfl | rfl | rfl | rfl <;> rfl
theorem info_entry:(Tryz.prog.info? 215).map (fun i=>(i.zero,i.size,i.bytes))=some (some (.agg #[.int .u64 0,.int .u64 0,.int .u64 0,.int .u64 0,.int .u64 0]),5,40):=by kernel_rfl
abbrev Rb (w:World) (B:Nat) (A:Option Addr) (n c:Nat) (l:List (Int × Ex)):Prop:=Rs enc5 5 w B A n c l
theorem five_at {w:World} {B:Nat} {A:Option Addr} {n c:Nat} {l:List (Int × Ex)} (h:Rb w B A n c l) {k:Nat} (hk:k < n) :
  ∃ b o x wd u z pr,A=some ⟨b,o,none⟩∧b < B∧l[k]? = some (x,⟨wd,u,z,pr⟩)∧w.cell? ⟨b,o+k * 5,none⟩=some (.int .u64 x)∧w.cell? ⟨b,o+k * 5+1,none⟩=some (.int .u64 wd)∧w.cell? ⟨b,o+k * 5+2,none⟩=some (.int .u64 u)∧w.cell? ⟨b,o+k * 5+3,none⟩=some (.int .u64 z)∧w.cell? ⟨b,o+k * 5+4,none⟩=some (.int .u64 pr):=by
 obtain ⟨b,o,⟨x,wd,u,z,pr⟩,hA,F,hx,hc⟩:=h.get hk
 exact ⟨b,o,x,wd,u,z,pr,hA,F,hx,hc 0 _ (by omega) rfl,hc 1 _ (by omega) rfl,hc 2 _ (by omega) rfl,hc 3 _ (by omega) rfl,hc 4 _ (by omega) rfl⟩
section
variable {β:Type}
def fx (D:List (Int × β)) (id:Int):Int:=match D.findIdx? (fun a=>a.1 == id) with
 | some i=>(i:Int)
 | none=>-1
theorem fx_hit {D:List (Int × β)} {id:Int} {k:Nat} {y:β} (h:∀ a∈D.take k,a.1≠id) (hk:D[k]? = some (id,y)):fx D id=k:=by
 have:D.findIdx? (fun a=>a.1 == id)=some k:=by
  obtain ⟨u,e⟩:=List.getElem?_eq_some_iff.1 hk
  rw [List.findIdx?_eq_some_iff_getElem]
  refine ⟨u,by rw [e]; simp,fun j z=>?_⟩
  have:=h D[j] (List.mem_take_iff_getElem.2 ⟨j,by omega,rfl⟩)
  simpa using this
 unfold fx; rw [this]
theorem fx_miss {D:List (Int × β)} {id:Int} (h:∀ a∈D,a.1≠id):fx D id = -1:=by
 have:D.findIdx? (fun a=>a.1 == id)=none:=by
  rw [List.findIdx?_eq_none_iff]
  intro a ha
  simpa using h a ha
 unfold fx; rw [this]
theorem take_ne {D:List (Int × β)} {id:Int} {k:Nat} {a:Int × β} (h:∀ a∈D.take k,a.1≠id) (hk:D[k]? = some a) (F:a.1≠id):∀ a∈D.take (k+1),a.1≠id:=by
 obtain ⟨z,rfl⟩:=List.getElem?_eq_some_iff.1 hk
 intro b u
 rw [List.take_succ_eq_append_getElem z] at u
 rcases List.mem_append.1 u with u | u
 ·exact h b u
 ·rw [List.mem_singleton.1 u]; exact F
theorem fx_cases (D:List (Int × β)) (id:Int):(fnd D id=none∧fx D id = -1) ∨ ∃ (k:Nat) (y:β),D[k]? = some (id,y)∧(∀ a∈D.take k,a.1≠id)∧fx D id=k∧fnd D id=some y:=by
 by_cases h:∀ a∈D,a.1≠id
 ·refine .inl ⟨?_,fx_miss h⟩
  refine fnd_none fun I=>?_
  obtain ⟨a,ha,e⟩:=List.mem_map.1 I
  exact h a ha e
 ·cases hf:D.findIdx? (fun a=>a.1 == id) with
  | none=>
   rw [List.findIdx?_eq_none_iff] at hf
   exact absurd (fun a ha=>by simpa using hf a ha) h
  | some k=>
   rw [List.findIdx?_eq_some_iff_getElem] at hf
   obtain ⟨F,u,z⟩:=hf
   refine .inr ⟨k,D[k].2,?_,fun a ha=>?_,?_,?_⟩
   ·rw [List.getElem?_eq_getElem F]
    have:D[k].1=id:=by simpa using u
    rw [← this]
   ·obtain ⟨j,G,rfl⟩:=List.mem_take_iff_getElem.1 ha
    have:=z j (by omega)
    simpa using this
   ·unfold fx
    rw [List.findIdx?_eq_some_iff_getElem.2 ⟨F,u,z⟩]
   ·unfold fnd
    have J:D.find? (fun a=>a.1 == id)=some D[k]:=List.find?_eq_some_iff_getElem.2 ⟨u,k,F,rfl,fun j G=>by simpa using z j G⟩
    rw [J]; rfl
end
section
variable (A A2:Option Addr) (n c n2 c2 B:Nat) (D:List (Int × Ex)) (w:World)
theorem rfind_any (id:Int) (h:Rb w B A n c D) (hB:B≤w.heap.size) (hn:n≤100000) :
  Calls Tryz.prog 132 #[.agg #[.slice A n c,.slice A2 n2 c2],.int .u64 id] w fun e w'=>e=.returned (.int .i64 (fx D id))∧Below w.heap.size w w':=by
 have HR:=Lh h
 have W:=Lh h.len
 have b0:=Lh ((Below.refl w.heap.size w).alloc (Nat.le_refl _) (.cells #[.slice A n c,.slice A2 n2 c2] 32))
 clear h
 go_enter Tryz.func132,Tryz.ntmps132
 go_wp2_with fail
 go_loopw [5,6,10] (fun s5 s6 i wr=>∃ k:Nat,k≤n∧i=.int .i64 k∧Hid (∀ a∈D.take k,a.1≠id)∧Below w.heap.size w wr) (fun _ _ i _=>n - (intOf i).toNat)
 case atStart=>exact ⟨0,Nat.zero_le _,rfl,Lh (fun a ha=>by simp at ha),b0.out⟩
 case round=>
  obtain ⟨k,hk,rfl,F,u⟩:=hrel
  by_cases hlt:k < n
  ·obtain ⟨b,o,x,wd,bo,si,pr,rfl,hb,ha,c0,c1,J,c3,c4⟩:=five_at HR.out hlt
   have d0:=(u.cell (p:=⟨b,o+k * 5,none⟩) (by simp only; omega)).trans c0
   have d1:=(u.cell (p:=⟨b,o+k * 5+1,none⟩) (by simp only; omega)).trans c1
   have d2:=(u.cell (p:=⟨b,o+k * 5+2,none⟩) (by simp only; omega)).trans J
   have d3:=(u.cell (p:=⟨b,o+k * 5+3,none⟩) (by simp only; omega)).trans c3
   have d4:=(u.cell (p:=⟨b,o+k * 5+4,none⟩) (by simp only; omega)).trans c4
   have G:=Lh ha
   have a0:=u.size
   have I:=Lh (u.alloc a0 (.cells #[.int .u64 x,.int .u64 wd,.int .u64 bo,.int .u64 si,.int .u64 pr] 215))
   clear c0 c1 J c3 c4 ha u
   by_cases hx:x=id
   ·subst hx
    have z:=Lh (fx_hit F.out G.out)
    go_wp2_with fail
    go_ret
    exact ⟨by rw [z.out]; rfl,I.out⟩
   ·have e1:(x == id)=false:=by simpa using hx
    have Y:=Lh (take_ne F.out G.out hx)
    clear hx
    go_wp2_with fail
    go_roundw
    case rel=>exact ⟨k+1,by omega,by go_num,Y,I.out⟩
    case measure=>simp [intOf]; omega
  ·have z:Hid (fx D id = -1):=Lh (fx_miss (by
    have Q:=F.out
    rw [List.take_of_length_le (by have:=W.out; omega)] at Q
    exact Q))
   go_wp2_with fail
   go_ret
   exact ⟨by rw [z.out]; rfl,u⟩
end
structure Db where
 A:Option Addr
 n:Nat
 c:Nat
 A2:Option Addr
 n2:Nat
 c2:Nat
abbrev Db.val (d:Db):Value:=.agg #[.slice d.A d.n d.c,.slice d.A2 d.n2 d.c2]
def Flt (A:Option Addr) (c:Nat):Prop:=(A=none∧c=0) ∨ ∃ b o,A=some ⟨b,o,none⟩
structure Dq (K:Nat→Prop) (w:World) (d:Db) (D:List (Int × Ex)) (S:List Int):Prop where
 l:Rb w w.heap.size d.A d.n d.c D
 s:Rd (Value.int .u64) w w.heap.size d.A2 d.n2 d.c2 S
 fl:Flt d.A d.c
 kl:Kn K d.n d.A
 ks:Kn K d.n2 d.A2
theorem Dq.later {K:Nat→Prop} {w w':World} {d:Db} {D:List (Int × Ex)} {S:List Int} (h:Dq K w d D S) (u:Below w.heap.size w w'):Dq K w' d D S:=⟨h.l.later u,h.s.later u,h.fl,h.kl,h.ks⟩
theorem own_flt {w:World} {base:Nat} {e:TypeId} {z n c:Nat} {A:Option Addr} {xs:List Value} (h:w.ownsRow base e z (.slice A n c) n xs):Flt A c:=by
 rcases h.2 with ⟨u,_⟩ | ⟨g,cap,F,u,_⟩
 ·injection u with u _ h2; exact .inl ⟨u,h2⟩
 ·injection u with u _ h2; exact .inr ⟨g,0,u⟩
section
variable {K:Nat→Prop} (A A2:Option Addr) (n c n2 c2:Nat) (D:List (Int × Ex)) (S:List Int) (w:World)
end
def Vb (w:World) (g:Nat) (a b:Value):Prop:=(w.cell? ⟨g,0,none⟩=some a∧w.cell? ⟨g,1,none⟩=some b)∧w.frozen? ⟨g,0,none⟩=false∧w.frozen? ⟨g,1,none⟩=false
theorem Vb.below {w w':World} {g B:Nat} {a b:Value} (h:Vb w g a b) (u:Below B w w') (z:g < B):Vb w' g a b:=by
 obtain ⟨⟨F,G⟩,f0,f1⟩:=h
 exact ⟨⟨(u.cell (p:=⟨g,0,none⟩) z).trans F,(u.cell (p:=⟨g,1,none⟩) z).trans G⟩,(u.frozen (p:=⟨g,0,none⟩) z).trans f0,(u.frozen (p:=⟨g,1,none⟩) z).trans f1⟩
theorem two_boxes (A A2:Option Addr) (n c n2 c2:Nat) (w:World):Below w.heap.size w ((w.alloc (.cells #[.slice A n c,.slice A2 n2 c2] 32)).alloc (.cells #[.slice none 0 0,.slice none 0 0] 32)) ∧
  Vb ((w.alloc (.cells #[.slice A n c,.slice A2 n2 c2] 32)).alloc (.cells #[.slice none 0 0,.slice none 0 0] 32)) w.heap.size (.slice A n c) (.slice A2 n2 c2) ∧
  Vb ((w.alloc (.cells #[.slice A n c,.slice A2 n2 c2] 32)).alloc (.cells #[.slice none 0 0,.slice none 0 0] 32)) (w.heap.size+1) (.slice none 0 0) (.slice none 0 0) ∧
  w.heap.size+2≤((w.alloc (.cells #[.slice A n c,.slice A2 n2 c2] 32)).alloc (.cells #[.slice none 0 0,.slice none 0 0] 32)).heap.size:=by
 refine ⟨((Below.refl _ _).alloc (Nat.le_refl _) _).alloc (by simp) _,⟨⟨?_,?_⟩,?_,?_⟩,⟨⟨?_,?_⟩,?_,?_⟩,by simp⟩ <;> go_simp
section
variable {K:Nat→Prop} (A A2:Option Addr) (n c n2 c2:Nat) (D:List (Int × Ex)) (S:List Int) (w:World)
theorem rpublish_any (id:Int) (h:Dq K w ⟨A,n,c,A2,n2,c2⟩ D S) (a9:∀ g,w.heap.size≤g→K g) (hn:n≤1000) (ar:n2≤1000) :
  Calls Tryz.prog 134 #[.agg #[.slice A n c,.slice A2 n2 c2],.int .u64 id] w fun e w'=>∃ A' n' u,e=.returned (.tuple #[.agg #[.slice A n c,.slice A' n' u],.int .i64 (kn D id)])∧Dq K w' ⟨A,n,c,A',n',u⟩ D (if (fnd D id).isSome then Sn.sWith S id else S)∧Below w.heap.size w w':=by
 obtain ⟨I,Y,a0,af⟩:=two_boxes A A2 n c n2 c2 w
 have G:=Lh h
 have ai:=Lh a9
 clear h a9
 rcases fx_cases D id with ⟨Q,a6⟩ | ⟨k,x,hk,an,a6,Q⟩
 ·have ek:kn D id=9:=by unfold kn; rw [Q]; rfl
  have es:(fnd D id).isSome=false:=by rw [Q]; rfl
  rw [ek,es]
  clear Q ek es
  go_enter Tryz.func134,Tryz.ntmps134
  go_upto_region 1 with (fail)
  obtain ⟨F,a4⟩:∃ F,((w.alloc (.cells #[.slice A n c,.slice A2 n2 c2] 32)).alloc (.cells #[.slice none 0 0,.slice none 0 0] 32))=F:=⟨_,rfl⟩
  rw [a4] at I Y a0 af ⊢
  have J:=Lh (rfind_any A A2 n c n2 c2 F.heap.size D F id (G.out.later I).l (Nat.le_refl _) (by omega))
  rw [a6] at J
  have a1:=Lh I
  have a2:=Lh Y
  have a3:=Lh a0
  obtain ⟨⟨f0,f1⟩,g0,g1⟩:=Y
  clear a4 I a0
  clear a6
  go_wp2_with fail
  refine J.out.mono ?_
  rintro e w2 ⟨rfl,z⟩
  have W:=Lh (a1.out.trans (z.mono a1.out.size))
  obtain ⟨⟨f0,f1⟩,g0,g1⟩:=a2.out.below z (by omega)
  obtain ⟨⟨r0,r1⟩,z0,z1⟩:=a3.out.below z (by omega)
  have aq:=z.size
  clear z J a2 a3
  go_wp2_with fail
  have ac:Below w.heap.size w ((w2.setCell ⟨w.heap.size+1,0,none⟩ (.slice A n c)).setCell ⟨w.heap.size+1,1,none⟩ (.slice A2 n2 c2)):=
   (W.out.setCell (p:=⟨w.heap.size+1,0,none⟩) (by show w.heap.size≤w.heap.size+1; omega) _).setCell (p:=⟨w.heap.size+1,1,none⟩) (by show w.heap.size≤w.heap.size+1; omega) _
  exact bodyPost_ret (v:=.tuple #[.agg #[.slice A n c,.slice A2 n2 c2],.int .i64 9]) (by simp [results,Tryz.results134,go_sem,r0,r1]) rfl ⟨_,_,_,rfl,G.out.later ac,ac⟩
 ·have ek:kn D id=0:=by unfold kn; rw [Q]; rfl
  have es:(fnd D id).isSome=true:=by rw [Q]; rfl
  rw [ek,es]
  have q0:decide ((k:Int) < 0)=false:=decide_eq_false (by omega)
  clear Q ek es hk an
  go_enter Tryz.func134,Tryz.ntmps134
  go_upto_region 1 with (fail)
  obtain ⟨F,a4⟩:∃ F,((w.alloc (.cells #[.slice A n c,.slice A2 n2 c2] 32)).alloc (.cells #[.slice none 0 0,.slice none 0 0] 32))=F:=⟨_,rfl⟩
  rw [a4] at I Y a0 af ⊢
  have J:=Lh (rfind_any A A2 n c n2 c2 F.heap.size D F id (G.out.later I).l (Nat.le_refl _) (by omega))
  rw [a6] at J
  have a1:=Lh I
  have a2:=Lh Y
  have a3:=Lh a0
  obtain ⟨⟨f0,f1⟩,g0,g1⟩:=Y
  clear a4 I a0
  clear a6
  go_wp2_with fail
  refine J.out.mono ?_
  rintro e w2 ⟨rfl,z⟩
  have W:=Lh (a1.out.trans (z.mono a1.out.size))
  have a7:=Lh (a2.out.below z (by omega))
  have a8:=Lh (a3.out.below z (by omega))
  obtain ⟨⟨f0,f1⟩,g0,g1⟩:=a7.out
  have aq:=z.size
  clear z J a2 a3
  go_wp2_with fail
  refine (Sn.rwithK_any A2 n2 c2 S id w2 (G.out.later W.out).s (by omega) G.out.ks (fun g hg=>ai.out g (Nat.le_trans W.out.size hg))).mono ?_
  rintro e w3 ⟨A',n',u,rfl,ae,ad,a5⟩
  have ah:=Lh ad
  clear ad
  have ag:=Lh (W.out.trans (a5.mono W.out.size))
  have aj:=Lh ae
  obtain ⟨⟨f0,f1⟩,g0,g1⟩:=a7.out.below a5 (by omega)
  obtain ⟨⟨r0,r1⟩,z0,z1⟩:=a8.out.below a5 (by omega)
  have au:=a5.size
  clear a5 ae a7 a8
  go_wp2_with fail
  have ak:=ag.out.setCell (p:=⟨w.heap.size,1,none⟩) (Nat.le_refl _) (.slice A' n' u)
  have al:=ak.setCell (p:=⟨w.heap.size+1,0,none⟩) (by show w.heap.size≤w.heap.size+1; omega) (.slice A n c)
  have aa:=al.setCell (p:=⟨w.heap.size+1,1,none⟩) (by show w.heap.size≤w.heap.size+1; omega) (.slice A' n' u)
  have ao:Rd (Value.int .u64) (((w3.setCell ⟨w.heap.size,1,none⟩ (.slice A' n' u)).setCell ⟨w.heap.size+1,0,none⟩ (.slice A n c)).setCell ⟨w.heap.size+1,1,none⟩ (.slice A' n' u)) (((w3.setCell ⟨w.heap.size,1,none⟩ (.slice A' n' u)).setCell ⟨w.heap.size+1,0,none⟩ (.slice A n c)).setCell ⟨w.heap.size+1,1,none⟩ (.slice A' n' u)).heap.size A' n' u (Sn.sWith S id):=by
   have p1:=aj.out.setOther (p:=⟨w.heap.size,1,none⟩) f1 (fun x e=>by cases e) (.slice A' n' u)
   have p2:=p1.setOther (p:=⟨w.heap.size+1,0,none⟩) (v:=.slice none 0 0) (by go_simp) (fun x e=>by cases e) (.slice A n c)
   have p3:=p2.setOther (p:=⟨w.heap.size+1,1,none⟩) (v:=.slice none 0 0) (by go_simp) (fun x e=>by cases e) (.slice A' n' u)
   exact p3.more (by simp)
  exact bodyPost_ret (v:=.tuple #[.agg #[.slice A n c,.slice A' n' u],.int .i64 0]) (by simp [results,Tryz.results134,go_sem,r0,r1]) rfl ⟨_,_,_,rfl,⟨(G.out.later aa).l,ao,G.out.fl,G.out.kl,ah.out⟩,aa⟩
end
theorem rs_other {α:Type} {enc:α→List Value} {F:Nat} {w:World} {B:Nat} {A:Option Addr} {n c:Nat} {xs:List α} (h:Rs enc F w B A n c xs) {p:Addr} {v:Value} (W:w.cell? p=some v) (Q:∀ x u,u∈enc x→u≠v) (u:Value):Rs enc F (w.setCell p u) B A n c xs:=
 ⟨h.len,h.cap,h.top,fun hn=>by
  obtain ⟨b,o,e,J,hc⟩:=h.at_ hn
  refine ⟨b,o,e,J,fun j x hx i I hi G=>?_⟩
  have z:=hc j x hx i I hi G
  by_cases e1:p=⟨b,o+j * F+i,none⟩
  ·subst e1
   rw [W] at z
   injection z with z
   exact absurd z.symm (Q x I (List.mem_of_getElem? G))
  ·exact (World.cell?_setCell_other _ _ _ _ e1).trans z⟩
theorem Rs.more {α:Type} {enc:α→List Value} {u:Nat} {w:World} {B B':Nat} {A:Option Addr} {n c:Nat} {xs:List α} (h:Rs enc u w B A n c xs) (z:B≤B'):Rs enc u w B' A n c xs:=
 ⟨h.len,h.cap,h.top,fun hn=>by
  obtain ⟨b,o,e,F,hc⟩:=h.at_ hn
  exact ⟨b,o,e,by omega,hc⟩⟩
theorem Dq.store {K:Nat→Prop} {w:World} {d:Db} {D:List (Int × Ex)} {S:List Int} (h:Dq K w d D S) {p:Addr} {G:Option Addr} {I c0:Nat} (z:w.cell? p=some (.slice G I c0)) (u:Value):Dq K (w.setCell p u) d D S:=
 ⟨Rs.more (rs_other h.l z (fun x u F e=>by simp [enc5] at F; rcases F with rfl | rfl | rfl | rfl | rfl <;> cases e) u) (by simp),(h.s.setOther z (fun x e=>by cases e) u).more (by simp),h.fl,h.kl,h.ks⟩
section
variable {K:Nat→Prop} (A A2:Option Addr) (n c n2 c2:Nat) (D:List (Int × Ex)) (S:List Int) (w:World)
end
end Go.Proofs.YtoiklelghfckgaaGreatDoor.Ba
