/- A part of the claim: the texts LocalRef LocalPlaysKit LocalRefK. -/
import Derived.Test.YtaeemilldmhbnaaGreatDoorXBase5
import Derived.Test.YtaeemilldmhbnaaGreatDoorXGClone
import Derived.Test.YtaeemilldmhbnaaGreatDoorXGKeep
import Derived.Deep.CutRange
set_option linter.unusedVariables false
namespace Go.Proofs.YtaeemilldmhbnaaGreatDoor.Lc
open Go.ChangeShapes Go.WideShapes Go.ChangeAt Go.RowKit Rw Hi Sl
structure Sv where
 A:Option Addr
 n:Nat
 c:Nat
def encS (s:Sv):Value:=.slice s.A s.n s.c
theorem info_s:(Tryz.prog.info? 38).map (fun i=>(i.zero,i.size,i.bytes))=some (some (.slice none 0 0),1,24):=by kernel_rfl
structure Dc (w:World) (p:Nat) (A:Option Addr) (c:Nat) (vs:List Sv) (L:Nat→List Int):Prop where
 rd:Rd encS w w.heap.size A 8 c vs
 bl:∀ g,(Value.slice A 8 c).ownBlock=some g→g≠p
 el:∀ i s,vs[i]? = some s→Rd (Value.int .u64) w w.heap.size s.A s.n s.c (L i) ∧ ∀ g,(Value.slice s.A s.n s.c).ownBlock=some g→g < w.heap.size∧g≠p
 len:∀ i,i < 8→(L i).length≤4
section
variable {w w':World} {p:Nat} {A:Option Addr} {c:Nat} {vs:List Sv} {L:Nat→List Int}
end
end Go.Proofs.YtaeemilldmhbnaaGreatDoor.Lc
namespace Go.Proofs.YtaeemilldmhbnaaGreatDoor.Lc
open Go Go.ChangeShapes Go.WideShapes Go.ChangeAt Go.RowKit Go.Deep Rw Hi Sl
abbrev Fx:Nat→Prop:=fun _=>False
theorem fx (w:World):∀ g,Fx g→g < w.heap.size:=fun g h=>h.elim
section
variable {w0 w w':World} {p q:Nat} {A:Option Addr} {c:Nat} {vs:List Sv} {t:Int} {v:Value} {tk cl:Bool} {L E:Nat→List Int}
end
end Go.Proofs.YtaeemilldmhbnaaGreatDoor.Lc
namespace Go.Proofs.YtaeemilldmhbnaaGreatDoor.Lk
open Go.ChangeShapes Go.WideShapes Go.ChangeAt Go.RowKit Rw Hi Sl Lc
structure Dc (K:Nat→Prop) (w:World) (A:Option Addr) (c:Nat) (vs:List Sv) (L:Nat→List Int):Prop where
 rd:Rd encS w w.heap.size A 8 c vs
 bl:∀ g,(Value.slice A 8 c).ownBlock=some g→K g
 el:∀ i s,vs[i]? = some s→Rd (Value.int .u64) w w.heap.size s.A s.n s.c (L i) ∧ ∀ g,(Value.slice s.A s.n s.c).ownBlock=some g→g < w.heap.size∧K g
 len:∀ i,i < 8→(L i).length≤4
section
variable {K:Nat→Prop} {w w':World} {A:Option Addr} {c:Nat} {vs:List Sv} {L:Nat→List Int}
theorem Dc.later (h:Dc K w A c vs L) (u:Below w.heap.size w w'):Dc K w' A c vs L:=
 ⟨h.rd.later u,h.bl,fun i s z=>⟨(h.el i s z).1.later u,fun g F=>⟨Nat.lt_of_lt_of_le ((h.el i s z).2 g F).1 u.size,((h.el i s z).2 g F).2⟩⟩,h.len⟩
theorem Dc.get (h:Dc K w A c vs L) {i:Nat} (hi:i < 8):∃ b o s,A=some ⟨b,o,none⟩∧b < w.heap.size∧vs[i]? = some s∧w.cell? ⟨b,o+i,none⟩=some (.slice s.A s.n s.c)∧Rd (Value.int .u64) w w.heap.size s.A s.n s.c (L i)∧s.n≤4:=by
 obtain ⟨b,o,s,F,G,u,I⟩:=h.rd.get hi
 have z:=(h.el i s u).1
 exact ⟨b,o,s,F,G,u,I,z,by rw [← z.len]; exact h.len i hi⟩
end
theorem rnew_any {K:Nat→Prop} (w:World) (I:∀ g,w.heap.size≤g→K g) :
  Calls Tryz.prog 40 #[] w fun e w'=>∃ A c vs,e=.returned (.slice A 8 c)∧Dc K w' A c vs (fun _=>[])∧Below w.heap.size w w':=by
 have a0:=Lh I
 clear I
 obtain ⟨i0,a1,a2,a3,a5⟩:=info_parts info_s
 obtain ⟨z,W,u,h⟩:=run_make_full (P:=Tryz.prog) w w.heap.size 41 38 i0 (.slice none 0 0) 1 Tryz.underlying41 a1 a2 a3 .i64 .i64 8 (by omega) (by unfold maxLen; omega) (Nat.le_refl _)
 have a4:(Instr.makeSlice 41 (.int .i64 8) (.int .i64 8)).run Tryz.prog w=.ok (.slice (some ⟨w.heap.size,0,none⟩) 8 8) z:=W
 have N:(madeCells (Value.slice none 0 0).cells (8 * 1)).toList=(List.replicate 8 (⟨none,0,0⟩:Sv)).map encS:=toList_madeCells_one _ 8
 rw [N] at u
 have J:Below w.heap.size w z:=(Below.refl _ _).grown h (Nat.le_refl _) (fun j hj=>by cases hj)
 have G:Dc K z (some ⟨w.heap.size,0,none⟩) 8 (List.replicate 8 ⟨none,0,0⟩) (fun _=>[]):=by
  refine ⟨Rd.own_rd u,fun g h=>?_,fun i s hs=>?_,fun i hi=>by simp⟩
  ·injection h with h
   have e:w.heap.size=g:=h
   exact a0.out g (by omega)
  ·have:=List.getElem?_eq_some_iff.1 hs
   obtain ⟨h1,F⟩:=this
   rw [List.getElem_replicate] at F
   subst F
   exact ⟨Rd.nil_,fun g h=>by cases h⟩
 have HD:=Lh G
 have Y:=Lh J
 clear W u h N J G
 go_enter Tryz.func40,Tryz.ntmps40
 go_wp2_with fail
 go_ret
 exact ⟨_,_,_,rfl,HD.out,Y.out⟩
end Go.Proofs.YtaeemilldmhbnaaGreatDoor.Lk
