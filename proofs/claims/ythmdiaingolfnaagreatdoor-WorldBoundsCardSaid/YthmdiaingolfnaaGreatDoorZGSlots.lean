/- A part of the claim: the texts SlotsE SlotsRef SlotsOrderWalk SlotsF. -/
import Derived.Test.YthmdiaingolfnaaGreatDoorZBase5
import Derived.Test.YthmdiaingolfnaaGreatDoorZBase1
import Derived.Test.YthmdiaingolfnaaGreatDoorZBase3
import Derived.BigQuiet
import Derived.RegionTactic
namespace Go.Proofs.YthmdiaingolfnaaGreatDoor.St
open Go.ChangeShapes Go.WideShapes Go.ChangeAt Go.RowKit Rw Hi
set_option linter.unusedVariables false
structure Kp (t : Int) (l D : List Sx) (a b : Nat) : Prop where
  len : D.length = l.length
  lt : a < b
  le : b ≤ l.length
  front : D.take a = others t (l.take b)
  back : D.drop b = l.drop b
theorem Kp.keep {t : Int} {l D : List Sx} {a b : Nat} {x : Sx} (h : Kp t l D a b) (hx : l[b]? = some x) (hp : hit t x = false) : Kp t l (D.set a x) (a + 1) (b + 1) := by
  have hb := (List.getElem?_eq_some_iff.1 hx).1
  have ha : a < D.length := by have := h.lt; have := h.len; omega
  refine ⟨by simp [h.len], by have := h.lt; omega, hb, ?_, ?_⟩
  · rw [List.take_add_one, List.take_set_of_le (Nat.le_refl _), h.front, List.take_add_one, hx]
    simp [others, hp, ha]
  · rw [List.drop_set_of_lt (by have := h.lt; omega), ← List.drop_drop, ← List.drop_drop, h.back]
theorem Kp.at_ {t : Int} {l D : List Sx} {a b : Nat} (h : Kp t l D a b) : D[b]? = l[b]? := by
  have h1 := congrArg (fun z => z[0]?) h.back
  simpa using h1
end Go.Proofs.YthmdiaingolfnaaGreatDoor.St
namespace Go.Proofs.YthmdiaingolfnaaGreatDoor.St
open Go.ChangeShapes Go.WideShapes Go.ChangeAt Go.RowKit Rw Hi
set_option linter.unusedVariables false
def New1 (w w' : World) (v v' : Value) : Prop := v'.ownBlock = v.ownBlock ∨ ∀ g, v'.ownBlock = some g → w.heap.size ≤ g ∧ g < w'.heap.size
end Go.Proofs.YthmdiaingolfnaaGreatDoor.St
namespace Go.Proofs.YthmdiaingolfnaaGreatDoor.St
open Go.ChangeShapes Go.WideShapes Go.ChangeAt Go.RowKit Rw Hi
set_option linter.unusedVariables false
def Apart (v : Value) (p : Nat) (r : Option Nat) : Prop := ∀ g, v.ownBlock = some g → g ≠ p ∧ r ≠ some g
theorem Apart.next {v : Value} {p h : Nat} {r r' : Option Nat} (ha : Apart v p r) (hv : ∀ g, v.ownBlock = some g → g < h) (hr : ∀ g, r' = some g → r = some g ∨ h ≤ g) : Apart v p r' := fun g hg => by
  refine ⟨(ha g hg).1, fun e => ?_⟩
  rcases hr g e with e2 | e2
  · exact (ha g hg).2 e2
  · have := hv g hg; omega
theorem Ss.grown {w w' : World} {B p : Nat} {r : Option Nat} {l : List Sx} {v : Value} (h : Ss w B p r l) (hg : w.grownBy w' v.ownBlock) (ha : Apart v p r) : Ss w' B p r l :=
  h.same (hg.block p h.lt (fun e => (ha p e.symm).1 rfl)) (fun g hg' => hg.block g (h.rowlt g hg').2 (fun e => (ha g e.symm).2 hg'))
theorem Apart.grown {w : World} {B p : Nat} {r : Option Nat} {l : List Sx} {v v' : Value} (ha : Apart v p r) (h : Ss w B p r l) (hv : v'.ownBlock = v.ownBlock ∨ ∃ g, v'.ownBlock = some g ∧ w.heap.size ≤ g) : Apart v' p r := fun g hg => by
  rcases hv with e | ⟨g2, e, h2⟩
  · exact ha g (e.symm.trans hg)
  · rw [e] at hg
    injection hg with hg
    subst hg
    exact ⟨fun e2 => by have := h.lt; omega, fun e2 => by have := (h.rowlt _ e2).2; omega⟩
end Go.Proofs.YthmdiaingolfnaaGreatDoor.St
namespace Go.Proofs.YthmdiaingolfnaaGreatDoor.St
open Go.ChangeShapes Go.WideShapes Go.ChangeAt Go.RowKit Go.Deep Rw Hi
set_option linter.unusedVariables false
theorem Fr.of_below {w w' : World} {a b : Option Nat} (h : Below w.heap.size w w') : Fr a b w w' := ⟨h.os, h.tape, h.output, h.size, fun k hk _ _ => h.block k hk⟩
theorem Apart.new {w w' : World} {A A' : Option Addr} {n c n' c' : Nat} {p : Nat} {r : Option Nat} (ha : Apart (.slice A n c) p r) (h : New1 w w' (.slice A n c) (.slice A' n' c')) (hp : p < w.heap.size) (hr : ∀ g, r = some g → g < w.heap.size) : Apart (.slice A' n' c') p r := fun g hg => by
  rcases h with e | e
  · exact ha g (e.symm.trans hg)
  · have := (e g hg).1
    exact ⟨by omega, fun e2 => by have := hr g e2; omega⟩
end Go.Proofs.YthmdiaingolfnaaGreatDoor.St
