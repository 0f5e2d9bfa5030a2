/- A part of the claim: the texts LocalRef LocalRefB LocalPlaysKit LocalRefK. -/
import Derived.Test.YtoiklelghfckgaaGreatDoorZBase5
import Derived.Test.YtoiklelghfckgaaGreatDoorZGClone
import Derived.Test.YtoiklelghfckgaaGreatDoorZGKeep
import Derived.Deep.CutRange
set_option linter.unusedVariables false
namespace Go.Proofs.YtoiklelghfckgaaGreatDoor.Lc
open Go.ChangeShapes Go.WideShapes Go.ChangeAt Go.RowKit Rw Hi Sl
structure Sv where
 A:Option Addr
 n:Nat
 c:Nat
def encS (s:Sv):Value:=.slice s.A s.n s.c
theorem info_s:(Tryz.prog.info? 30).map (fun i=>(i.zero,i.size,i.bytes))=some (some (.slice none 0 0),1,24):=by kernel_rfl
structure Dc (w:World) (p:Nat) (A:Option Addr) (c:Nat) (vs:List Sv) (L:Nat→List Int):Prop where
 rd:Rd encS w w.heap.size A 8 c vs
 bl:∀ g,(Value.slice A 8 c).ownBlock=some g→g≠p
 el:∀ i s,vs[i]? = some s→Rd (Value.int .u64) w w.heap.size s.A s.n s.c (L i) ∧ ∀ g,(Value.slice s.A s.n s.c).ownBlock=some g→g < w.heap.size∧g≠p
 len:∀ i,i < 8→(L i).length≤4
section
variable {w w':World} {p:Nat} {A:Option Addr} {c:Nat} {vs:List Sv} {L:Nat→List Int}
theorem Dc.later (h:Dc w p A c vs L) (u:Below w.heap.size w w'):Dc w' p A c vs L:=
 ⟨h.rd.later u,h.bl,fun i s z=>⟨(h.el i s z).1.later u,fun g F=>⟨Nat.lt_of_lt_of_le ((h.el i s z).2 g F).1 u.size,((h.el i s z).2 g F).2⟩⟩,h.len⟩
theorem Dc.fr (h:Dc w p A c vs L) (u:Fr (some p) none w w'):Dc w' p A c vs L:=by
 refine ⟨⟨h.rd.len,h.rd.cap,h.rd.top,fun hn=>?_⟩,h.bl,fun i s F=>⟨rd_fr (h.el i s F).1 u (fun g z=>((h.el i s F).2 g z).2),fun g z=>⟨Nat.lt_of_lt_of_le ((h.el i s F).2 g z).1 u.size,((h.el i s F).2 g z).2⟩⟩,h.len⟩
 obtain ⟨b,o,e,G,hc⟩:=h.rd.at_ hn
 subst e
 exact ⟨b,o,rfl,Nat.lt_of_lt_of_le G u.size,fun j x hx=>(u.cell (p:=⟨b,o+j,none⟩) G (fun e=>h.bl b rfl (by injection e)) (fun e=>by cases e)).trans (hc j x hx)⟩
theorem Dc.turn {G:Nat} (h:Dc w p A c vs L) (J:Below w.heap.size w w') (W:w.heap.size≤G):Dc w' G A c vs L:=by
 have z:=h.later J
 refine ⟨z.rd,fun g u e=>?_,fun i s F=>⟨(z.el i s F).1,fun g u=>⟨((z.el i s F).2 g u).1,fun e=>?_⟩⟩,h.len⟩
 ·obtain ⟨b,o,I,Q,_⟩:=h.rd.at_ (by omega)
  subst I
  injection u with u
  have:b=g:=u
  omega
 ·have:=((h.el i s F).2 g u).1
  omega
theorem Dc.same {u:Nat→List Int} (h:Dc w p A c vs L) (z:∀ i,i < 8→u i=L i):Dc w p A c vs u:=
 ⟨h.rd,h.bl,fun i s F=>by
  have hi:i < 8:=by have:=(List.getElem?_eq_some_iff.1 F).1; have:=h.rd.len; omega
  rw [z i hi]; exact h.el i s F,fun i hi=>by rw [z i hi]; exact h.len i hi⟩
theorem Dc.get (h:Dc w p A c vs L) {i:Nat} (hi:i < 8):∃ b o s,A=some ⟨b,o,none⟩∧b < w.heap.size∧vs[i]? = some s∧w.cell? ⟨b,o+i,none⟩=some (.slice s.A s.n s.c)∧Rd (Value.int .u64) w w.heap.size s.A s.n s.c (L i)∧s.n≤4:=by
 obtain ⟨b,o,s,F,G,u,I⟩:=h.rd.get hi
 have z:=(h.el i s u).1
 exact ⟨b,o,s,F,G,u,I,z,by rw [← z.len]; exact h.len i hi⟩
end
theorem rnew_any (w:World) (p:Nat) (hp:p < w.heap.size) :
  Calls Tryz.prog 65 #[] w fun e w'=>∃ A c vs,e=.returned (.slice A 8 c)∧Dc w' p A c vs (fun _=>[])∧Below w.heap.size w w':=by
 obtain ⟨i0,a0,a1,a2,a4⟩:=info_parts info_s
 obtain ⟨z,Q,u,h⟩:=run_make_full (P:=Tryz.prog) w w.heap.size 33 30 i0 (.slice none 0 0) 1 Tryz.underlying33 a0 a1 a2 .i64 .i64 8 (by omega) (by unfold maxLen; omega) (Nat.le_refl _)
 have a3:(Instr.makeSlice 33 (.int .i64 8) (.int .i64 8)).run Tryz.prog w=.ok (.slice (some ⟨w.heap.size,0,none⟩) 8 8) z:=Q
 have J:(madeCells (Value.slice none 0 0).cells (8 * 1)).toList=(List.replicate 8 (⟨none,0,0⟩:Sv)).map encS:=toList_madeCells_one _ 8
 rw [J] at u
 have I:Below w.heap.size w z:=(Below.refl _ _).grown h (Nat.le_refl _) (fun j hj=>by cases hj)
 have G:Dc z p (some ⟨w.heap.size,0,none⟩) 8 (List.replicate 8 ⟨none,0,0⟩) (fun _=>[]):=by
  refine ⟨Rd.own_rd u,fun g h=>?_,fun i s hs=>?_,fun i hi=>by simp⟩
  ·injection h with h
   have e:w.heap.size=g:=h
   omega
  ·have:=List.getElem?_eq_some_iff.1 hs
   obtain ⟨h1,F⟩:=this
   rw [List.getElem_replicate] at F
   subst F
   exact ⟨Rd.nil_,fun g h=>by cases h⟩
 have Y:=Lh G
 have W:=Lh I
 clear Q u h J I G
 go_enter Tryz.func65,Tryz.ntmps65
 go_wp2_with fail
 go_ret
 exact ⟨_,_,_,rfl,Y.out,W.out⟩
end Go.Proofs.YtoiklelghfckgaaGreatDoor.Lc
namespace Go.Proofs.YtoiklelghfckgaaGreatDoor.Lc
open Go Go.ChangeShapes Go.WideShapes Go.ChangeAt Go.RowKit Go.Deep Rw Hi Sl
abbrev Fx:Nat→Prop:=fun _=>False
theorem fx (w:World):∀ g,Fx g→g < w.heap.size:=fun g h=>h.elim
def inR (t:Int):Bool:=decide (0≤t) && decide (t < 8)
theorem inR_yes {t:Int} (h:inR t=true):∃ i:Nat,t=i∧i < 8:=by
 simp [inR] at h
 exact ⟨t.toNat,by omega,by omega⟩
theorem inR_no {t:Int} (h:inR t=false):t < 0∨8≤t:=by
 simp [inR] at h
 by_cases h0:0≤t
 ·exact .inr (h h0)
 ·exact .inl (by omega)
def takeR (L:Nat→List Int) (t:Int):(Nat→List Int) × Int × Bool:=
 if inR t then (match (L t.toNat).getLast? with | some x=>(upd L t.toNat (L t.toNat).dropLast,x,true) | none=>(L,0,false)) else (L,0,false)
def putR (L:Nat→List Int) (t:Int) (ids:List Int):Nat→List Int:=if inR t then upd L t.toNat (last4 (L t.toNat ++ ids)) else L
def putE (t:Int):Int:=if inR t then 0 else 2
theorem takeU (w:World) (B p:Nat) (L:Nat→List Int) (t:Int) (h:Lo Fx w B p L) :
  Calls Tryz.prog 153 #[.pointer (some ⟨p,0,none⟩),.int .i64 t] w fun e w'=>e=.returned (.tuple #[.int .u64 (takeR L t).2.1,.bool (takeR L t).2.2])∧Lo Fx w' B p (takeR L t).1∧Fr (some p) none w w':=by
 unfold takeR
 cases hr:inR t with
 | false=>
  simp only [Bool.false_eq_true,if_false]
  refine (take_none (some ⟨p,0,none⟩) t w (.inr ⟨p,rfl,inR_no hr⟩)).mono ?_
  rintro e w' ⟨rfl,rfl⟩
  exact ⟨rfl,h,Fr.refl _ _ _⟩
 | true=>
  obtain ⟨i,rfl,hi⟩:=inR_yes hr
  simp only [if_true,Int.toNat_natCast]
  cases hg:(L i).getLast? with
  | none=>
   refine (take_empty Fx w B p i L h hi (by simpa using hg)).mono ?_
   rintro e w' ⟨rfl,rfl⟩
   exact ⟨rfl,h,Fr.refl _ _ _⟩
  | some x=>exact take_some Fx w B p i L (L i).dropLast x h hi (by obtain ⟨z,u⟩:=List.getLast?_eq_some_iff.1 hg; rw [u]; simp)
section
variable {w0 w w':World} {p q:Nat} {A:Option Addr} {c:Nat} {vs:List Sv} {t:Int} {v:Value} {tk cl:Bool} {L E:Nat→List Int}
theorem lo_aside {X:Nat→Prop} {B p u:Nat} (h:Lo X w B u L) (G:Fr (some p) none w w') (I:X p):Lo X w' B u L:=by
 have Y:u≠p:=fun e=>h.px (e ▸ I)
 have J:w'.heap[u]? = w.heap[u]?:=G.block u h.lt (fun e=>Y (by injection e)) (fun e=>by cases e)
 refine ⟨fun i hi=>?_,h.len,fun i hi=>?_,h.lo,h.px⟩
 ·obtain ⟨A,n,c,Q,W,F⟩:=h.at_ i hi
  exact ⟨A,n,c,by unfold World.cell?; simp only [J]; exact Q,rd_fr W G (fun g z e=>(F g z).2 (e ▸ I)),fun g z=>⟨Nat.lt_of_lt_of_le (F g z).1 G.size,(F g z).2⟩⟩
 ·unfold World.frozen?; simp only [J]; exact h.free i hi
end
end Go.Proofs.YtoiklelghfckgaaGreatDoor.Lc
namespace Go.Proofs.YtoiklelghfckgaaGreatDoor.Lk
open Go.ChangeShapes Go.WideShapes Go.ChangeAt Go.RowKit Rw Hi Sl Lc
structure Dc (K:Nat→Prop) (w:World) (A:Option Addr) (c:Nat) (vs:List Sv) (L:Nat→List Int):Prop where
 rd:Rd encS w w.heap.size A 8 c vs
 bl:∀ g,(Value.slice A 8 c).ownBlock=some g→K g
 el:∀ i s,vs[i]? = some s→Rd (Value.int .u64) w w.heap.size s.A s.n s.c (L i) ∧ ∀ g,(Value.slice s.A s.n s.c).ownBlock=some g→g < w.heap.size∧K g
 len:∀ i,i < 8→(L i).length≤4
section
variable {K:Nat→Prop} {w w':World} {A:Option Addr} {c:Nat} {vs:List Sv} {L:Nat→List Int}
theorem Dc.later (h:Dc K w A c vs L) (u:Below w.heap.size w w'):Dc K w' A c vs L:=
 ⟨h.rd.later u,h.bl,fun i s z=>⟨(h.el i s z).1.later u,fun g F=>⟨Nat.lt_of_lt_of_le ((h.el i s z).2 g F).1 u.size,((h.el i s z).2 g F).2⟩⟩,h.len⟩
theorem Dc.same {u:Nat→List Int} (h:Dc K w A c vs L) (z:∀ i,i < 8→u i=L i):Dc K w A c vs u:=
 ⟨h.rd,h.bl,fun i s F=>by
  have hi:i < 8:=by have:=(List.getElem?_eq_some_iff.1 F).1; have:=h.rd.len; omega
  rw [z i hi]; exact h.el i s F,fun i hi=>by rw [z i hi]; exact h.len i hi⟩
theorem Dc.get (h:Dc K w A c vs L) {i:Nat} (hi:i < 8):∃ b o s,A=some ⟨b,o,none⟩∧b < w.heap.size∧vs[i]? = some s∧w.cell? ⟨b,o+i,none⟩=some (.slice s.A s.n s.c)∧Rd (Value.int .u64) w w.heap.size s.A s.n s.c (L i)∧s.n≤4:=by
 obtain ⟨b,o,s,F,G,u,I⟩:=h.rd.get hi
 have z:=(h.el i s u).1
 exact ⟨b,o,s,F,G,u,I,z,by rw [← z.len]; exact h.len i hi⟩
end
theorem rnew_any {K:Nat→Prop} (w:World) (I:∀ g,w.heap.size≤g→K g) :
  Calls Tryz.prog 65 #[] w fun e w'=>∃ A c vs,e=.returned (.slice A 8 c)∧Dc K w' A c vs (fun _=>[])∧Below w.heap.size w w':=by
 have a0:=Lh I
 clear I
 obtain ⟨i0,a1,a2,a3,a5⟩:=info_parts info_s
 obtain ⟨z,W,u,h⟩:=run_make_full (P:=Tryz.prog) w w.heap.size 33 30 i0 (.slice none 0 0) 1 Tryz.underlying33 a1 a2 a3 .i64 .i64 8 (by omega) (by unfold maxLen; omega) (Nat.le_refl _)
 have a4:(Instr.makeSlice 33 (.int .i64 8) (.int .i64 8)).run Tryz.prog w=.ok (.slice (some ⟨w.heap.size,0,none⟩) 8 8) z:=W
 have Q:(madeCells (Value.slice none 0 0).cells (8 * 1)).toList=(List.replicate 8 (⟨none,0,0⟩:Sv)).map encS:=toList_madeCells_one _ 8
 rw [Q] at u
 have J:Below w.heap.size w z:=(Below.refl _ _).grown h (Nat.le_refl _) (fun j hj=>by cases hj)
 have G:Dc K z (some ⟨w.heap.size,0,none⟩) 8 (List.replicate 8 ⟨none,0,0⟩) (fun _=>[]):=by
  refine ⟨Rd.own_rd u,fun g h=>?_,fun i s hs=>?_,fun i hi=>by simp⟩
  ·injection h with h
   have e:w.heap.size=g:=h
   exact a0.out g (by omega)
  ·have:=List.getElem?_eq_some_iff.1 hs
   obtain ⟨h1,F⟩:=this
   rw [List.getElem_replicate] at F
   subst F
   exact ⟨Rd.nil_,fun g h=>by cases h⟩
 have HD:=Lh G
 have Y:=Lh J
 clear W u h Q J G
 go_enter Tryz.func65,Tryz.ntmps65
 go_wp2_with fail
 go_ret
 exact ⟨_,_,_,rfl,HD.out,Y.out⟩
end Go.Proofs.YtoiklelghfckgaaGreatDoor.Lk
