/- A part of the claim: the texts Keep. -/
import Derived.Test.YthmdiaingolfnaaGreatDoorZBase1
namespace Go.Proofs.YthmdiaingolfnaaGreatDoor.Rw
open Go.ChangeShapes Go.WideShapes Go.ChangeAt Go.RowKit
set_option linter.unusedVariables false
def Kr (K : Nat → Prop) (A : Option Addr) : Prop := ∀ a, A = some a → K a.block
theorem Kr.nil_ {K : Nat → Prop} : Kr K none := fun _ e => by cases e
theorem Kr.mono {K L : Nat → Prop} {A : Option Addr} (h : Kr K A) (hk : ∀ g, K g → L g) : Kr L A := fun a e => hk _ (h a e)
theorem Kr.at_ {K : Nat → Prop} {b o : Nat} (h : Kr K (some ⟨b, o, none⟩)) : K b := h _ rfl
theorem Kr.own {K : Nat → Prop} {w : World} {base : Nat} {e : TypeId} {sz n c k : Nat} {A : Option Addr} {xs : List Value} (h : w.ownsRow base e sz (.slice A n c) k xs) (hK : ∀ g, base ≤ g → K g) : Kr K A := by
  intro a ha
  subst ha
  exact hK _ (h.lt a.block rfl).1
abbrev Kn (K : Nat → Prop) (n : Nat) (A : Option Addr) : Prop := 0 < n → Kr K A
theorem Kn.nil_ {K : Nat → Prop} {n : Nat} : Kn K n none := fun _ => Kr.nil_
theorem Kn.zero {K : Nat → Prop} {A : Option Addr} : Kn K 0 A := fun h => absurd h (by omega)
theorem Kn.own {K : Nat → Prop} {w : World} {base : Nat} {e : TypeId} {sz n c k m : Nat} {A : Option Addr} {xs : List Value} (h : w.ownsRow base e sz (.slice A n c) k xs) (hK : ∀ g, base ≤ g → K g) : Kn K m A := fun _ => Kr.own h hK
end Go.Proofs.YthmdiaingolfnaaGreatDoor.Rw
