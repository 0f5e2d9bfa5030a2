/- A part of the claim: the texts FltI. -/
import Derived.Test.YthmdiaingolfnaaGreatDoorZFltD
import Derived.Deep.CutRange
import Derived.Deep.CutBlock
namespace Go.Proofs.YthmdiaingolfnaaGreatDoor.Ff
open Go.ChangeShapes Go.WideShapes Go.ChangeAt Go.RowKit Go.Deep Rw Go.Shelf Go.Sort
set_option linter.unusedVariables false
theorem Ap.alloc {base hb : Nat} {ds : List Int} {w0 : World} {l : List Int} {A : Option Addr} {n c : Nat} {w : World} (h : Ap base hb ds w0 l A n c w) (o : Obj) : Ap base hb ds w0 l A n c (w.alloc o) :=
  ⟨h.own.alloc _, h.ne, by have := h.lt; simp; omega, fun j x hx => alloc_cell (h.dig j x hx) _, h.bel.alloc h.bs _, by have := h.bs; simp; omega, h.few⟩
section
variable {ops : Array Oper} {rest : List Oper} {o : Oper} {a : Act} {Q : Exit → Act → World → Prop}
end
def sg (neg : Bool) : List Int := if neg = true then [45] else []
def f0 (neg : Bool) : List Int := sg neg ++ [48]
def ex (nd : Nat) (dp : Int) : Int := if nd = 0 then 0 else dp - 1
def es (X : Int) : Int := if X < 0 then 45 else 43
def en (k : Nat) : List Int := if k < 10 then [48, (k : Int) + 48] else if k < 100 then [(k / 10 : Nat) + 48, (k % 10 : Nat) + 48] else [(k / 100 : Nat) + 48, (k / 10 % 10 : Nat) + 48, (k % 10 : Nat) + 48]
end Go.Proofs.YthmdiaingolfnaaGreatDoor.Ff
