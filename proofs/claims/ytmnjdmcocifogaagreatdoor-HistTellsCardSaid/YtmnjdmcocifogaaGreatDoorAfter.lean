/- A region that draws its order, whose operations read what was there and call functions that only make memory: it is walked once, in the text's order. No program is named here. -/
import Derived.Test.YtmnjdmcocifogaaGreatDoorRow
import Derived.Deep.QuietTactic
import Derived.BigQuiet
namespace Go.Proofs.YtmnjdmcocifogaaGreatDoor.Rw
open Go Go.RowKit
set_option linter.unusedVariables false

/-- A world in which all that lay in W is as it was. -/
def After (W : World) : Type := {w : World // Below W.heap.size W w}
instance {W : World} : Nonempty (After W) := ⟨⟨W, Below.refl _ _⟩⟩
theorem After.cell {W : World} (x : After W) {p : Addr} {v : Value} (h : W.cell? p = some v) : x.1.cell? p = some v := (x.2.cell (Lw.lt_heap h)).trans h
theorem After.frozen {W : World} (x : After W) {p : Addr} {v : Bool} (h : W.frozen? p = v) (hp : p.block < W.heap.size) : x.1.frozen? p = v := (x.2.frozen hp).trans h
theorem After.call {P : Program} {W : World} {x : After W} {f : FuncId} {args : Array Value} {v : Value}
    (h : Calls P f args x.1 fun e w' => e = .returned v ∧ Below x.1.heap.size x.1 w') : Calls P f args x.1 fun e w' => e = .returned v ∧ ∃ y : After W, w' = y.1 :=
  h.mono fun _ w' ⟨he, hb⟩ => ⟨he, ⟨⟨w', x.2.trans (hb.mono x.2.size)⟩, rfl⟩⟩
theorem After.same {P : Program} {W : World} {x : After W} {f : FuncId} {args : Array Value} {v : Value}
    (h : Calls P f args x.1 fun e w' => e = .returned v ∧ x.1 = w') : Calls P f args x.1 fun e w' => e = .returned v ∧ ∃ y : After W, w' = y.1 :=
  h.mono fun _ w' ⟨he, hb⟩ => ⟨he, x, hb.symm⟩
theorem region_after {P : Program} {id : Nat} {Q : Exit → Act → World → Prop} {a : Act} {W : World} {l : List Oper} (hm : P.follows .mixedOrders = true) (hB : Region.lexB .any l.toArray = true)
    (h : wpQuiet P l.toArray (fun w' => ∃ x : After W, w' = x.1) (fun a' => ∀ w', (∃ x : After W, w' = x.1) → Q .normal a' w') l a) : (Code.region id l.toArray true).wp P Q a W :=
  wp_region_quiet (C := fun w' => ∃ x : After W, w' = x.1) hm hB ⟨⟨W.drew, (Below.refl _ _).drew⟩, rfl⟩ (by simpa using h)
end Go.Proofs.YtmnjdmcocifogaaGreatDoor.Rw
