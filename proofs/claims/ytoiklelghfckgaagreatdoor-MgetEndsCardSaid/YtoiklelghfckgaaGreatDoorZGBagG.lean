/- A part of the claim: the texts BagOpen BagG. -/
import Derived.Test.YtoiklelghfckgaaGreatDoorZGBag
import Derived.Test.YtoiklelghfckgaaGreatDoorZGAw
import Derived.RangeFuncSeq
set_option linter.unusedVariables false
namespace Go.Proofs.YtoiklelghfckgaaGreatDoor.Ba
open Go.ChangeShapes Go.WideShapes Go.ChangeAt Go.RowKit Go.Maps Rw Hi Mt
structure Ax where
 do_:Int
 id:Int
 old:Int
 now:Int
 st:Int
structure Ax.ok (a:Ax):Prop where
 d:0≤a.do_∧a.do_≤255
 i:U64 a.id
 o:U64 a.old
 n:U64 a.now
 s:-9223372036854775808≤a.st∧a.st≤9223372036854775807
end Go.Proofs.YtoiklelghfckgaaGreatDoor.Ba
namespace Go.Proofs.YtoiklelghfckgaaGreatDoor.Ba
open Go Go.ChangeShapes Go.WideShapes Go.ChangeAt Go.RowKit Go.Maps Rw Hi Mt
section
variable {W w w':World} {p a m q:Nat} {D D':List (Int × Ex)} {S S':List Int} {G:List (Int × Int)} {k:Nat} {y:Ax} {C R C' R' E:Nat→Prop}
end
theorem Bx.side {C R:Nat→Prop} {w w':World} {p a r:Nat} {D:List (Int × Ex)} {S:List Int} (h:Bx C R w p a D S) (hg:w.grownBy w' (some r)) (hr:∀ o v,w.cell? ⟨r,o,none⟩≠some v) (I:¬ C r):Bx C R w' p a D S:=by
 obtain ⟨L,h,e⟩:=h
 have hk:∀ g,g < w.heap.size→g≠r→w'.heap[g]? = w.heap[g]?:=fun g J u=>hg.block g J (fun e=>u (by injection e))
 have Y:=hk p h.lt.1 (fun e=>I (e ▸ h.ip))
 obtain ⟨A,n,c,J,u,h3⟩:=h.row
 refine ⟨L,⟨(World.cell?_of_block Y).trans h.c0,(World.frozen?_of_block Y).trans h.f1,⟨A,n,c,(World.cell?_of_block Y).trans J,rd_blk u hg.size fun hn b o e=>?_,h3⟩,h.nd,h.us,h.mo.block (hk a h.lt.2 (fun e=>I (e ▸ h.ia))),fun q hq=>?_,h.ap,h.ri,h.ui,h.ip,h.ia,h.cr⟩,e⟩
 ·obtain ⟨b',o',F,hb,hc⟩:=u.at_ hn
  rw [e] at F; injection F with F; injection F with e1 e2 _
  refine hk b (by omega) (fun e3=>?_)
  have:=hc 0 _ (List.getElem?_eq_getElem (by rw [u.len]; exact hn))
  rw [← e1,e3] at this
  exact hr _ _ this
 ·have z:=h.en q hq
  exact z.blk (hk _ z.lt.1 (fun e=>I (e ▸ z.ie))) (hk _ z.lt.2 (fun e=>I (e ▸ z.ic)))
section
variable (w:World) {ops:Array Oper} {rest:List Oper} {o:Oper} {a:Act} {Q:Exit→Act→World→Prop}
end
end Go.Proofs.YtoiklelghfckgaaGreatDoor.Ba
