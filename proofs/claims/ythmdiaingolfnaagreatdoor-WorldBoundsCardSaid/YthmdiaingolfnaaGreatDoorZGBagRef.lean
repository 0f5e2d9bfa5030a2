/- A part of the claim: the texts BagRef BagRefB BagRefC BagRefD. -/
import Derived.Test.YthmdiaingolfnaaGreatDoorZGBag
import Derived.Test.YthmdiaingolfnaaGreatDoorZBase5
import Derived.Test.YthmdiaingolfnaaGreatDoorZWordRef
import Derived.Test.YthmdiaingolfnaaGreatDoorZBase1
import Derived.Test.YthmdiaingolfnaaGreatDoorZKeep
import Derived.Test.YthmdiaingolfnaaGreatDoorZGBagG
namespace Go.Proofs.YthmdiaingolfnaaGreatDoor.Ba
open Go.ChangeShapes Go.WideShapes Go.ChangeAt Go.RowKit Go.Maps Rw Hi Mt
set_option linter.unusedVariables false
def enc5 (a : Int × Ex) : List Value := [.int .u64 a.1, .int .u64 a.2.word, .int .u64 a.2.born, .int .u64 a.2.since, .int .u64 a.2.proved]
abbrev Rb (w : World) (B : Nat) (A : Option Addr) (n c : Nat) (l : List (Int × Ex)) : Prop := Rs enc5 5 w B A n c l
section
variable {β : Type}
def fx (D : List (Int × β)) (id : Int) : Int := match D.findIdx? (fun a => a.1 == id) with
  | some i => (i : Int)
  | none => -1
end
section
variable (A A2 : Option Addr) (n c n2 c2 B : Nat) (D : List (Int × Ex)) (w : World)
end
end Go.Proofs.YthmdiaingolfnaaGreatDoor.Ba
namespace Go.Proofs.YthmdiaingolfnaaGreatDoor.Ba
open Go.ChangeShapes Go.WideShapes Go.ChangeAt Go.RowKit Go.Maps Rw Hi Mt
set_option linter.unusedVariables false
structure Db where
  A : Option Addr
  n : Nat
  c : Nat
  A2 : Option Addr
  n2 : Nat
  c2 : Nat
abbrev Db.val (d : Db) : Value := .agg #[.slice d.A d.n d.c, .slice d.A2 d.n2 d.c2]
def Flt (A : Option Addr) (c : Nat) : Prop := (A = none ∧ c = 0) ∨ ∃ b o, A = some ⟨b, o, none⟩
structure Dq (K : Nat → Prop) (w : World) (d : Db) (D : List (Int × Ex)) (S : List Int) : Prop where
  l : Rb w w.heap.size d.A d.n d.c D
  s : Rd (Value.int .u64) w w.heap.size d.A2 d.n2 d.c2 S
  fl : Flt d.A d.c
  kl : Kn K d.n d.A
  ks : Kn K d.n2 d.A2
theorem Dq.later {K : Nat → Prop} {w w' : World} {d : Db} {D : List (Int × Ex)} {S : List Int} (h : Dq K w d D S) (hb : Below w.heap.size w w') : Dq K w' d D S := ⟨h.l.later hb, h.s.later hb, h.fl, h.kl, h.ks⟩
section
variable {K : Nat → Prop} (A A2 : Option Addr) (n c n2 c2 : Nat) (D : List (Int × Ex)) (S : List Int) (w : World)
end
end Go.Proofs.YthmdiaingolfnaaGreatDoor.Ba
namespace Go.Proofs.YthmdiaingolfnaaGreatDoor.Ba
open Go.ChangeShapes Go.WideShapes Go.ChangeAt Go.RowKit Go.Maps Rw Hi Mt
set_option linter.unusedVariables false
def Vb (w : World) (g : Nat) (a b : Value) : Prop := (w.cell? ⟨g, 0, none⟩ = some a ∧ w.cell? ⟨g, 1, none⟩ = some b) ∧ w.frozen? ⟨g, 0, none⟩ = false ∧ w.frozen? ⟨g, 1, none⟩ = false
theorem Vb.below {w w' : World} {g B : Nat} {a b : Value} (h : Vb w g a b) (hb : Below B w w') (hg : g < B) : Vb w' g a b := by
  obtain ⟨⟨h0, h1⟩, f0, f1⟩ := h
  exact ⟨⟨(hb.cell (p := ⟨g, 0, none⟩) hg).trans h0, (hb.cell (p := ⟨g, 1, none⟩) hg).trans h1⟩, (hb.frozen (p := ⟨g, 0, none⟩) hg).trans f0, (hb.frozen (p := ⟨g, 1, none⟩) hg).trans f1⟩
section
variable {K : Nat → Prop} (A A2 : Option Addr) (n c n2 c2 : Nat) (D : List (Int × Ex)) (S : List Int) (w : World)
end
end Go.Proofs.YthmdiaingolfnaaGreatDoor.Ba
namespace Go.Proofs.YthmdiaingolfnaaGreatDoor.Ba
open Go.ChangeShapes Go.WideShapes Go.ChangeAt Go.RowKit Go.Maps Rw Hi Mt
set_option linter.unusedVariables false
theorem rs_other {α : Type} {enc : α → List Value} {sz : Nat} {w : World} {B : Nat} {A : Option Addr} {n c : Nat} {xs : List α} (h : Rs enc sz w B A n c xs) {p : Addr} {v : Value} (hp : w.cell? p = some v) (hne : ∀ x u, u ∈ enc x → u ≠ v) (u : Value) : Rs enc sz (w.setCell p u) B A n c xs :=
  ⟨h.len, h.cap, h.top, fun hn => by
    obtain ⟨b, o, e, hb, hc⟩ := h.at_ hn
    refine ⟨b, o, e, hb, fun j x hx i u' hi hu => ?_⟩
    have h1 := hc j x hx i u' hi hu
    by_cases e1 : p = ⟨b, o + j * sz + i, none⟩
    · subst e1
      rw [hp] at h1
      injection h1 with h1
      exact absurd h1.symm (hne x u' (List.mem_of_getElem? hu))
    · exact (World.cell?_setCell_other _ _ _ _ e1).trans h1⟩
theorem Rs.more {α : Type} {enc : α → List Value} {sz : Nat} {w : World} {B B' : Nat} {A : Option Addr} {n c : Nat} {xs : List α} (h : Rs enc sz w B A n c xs) (hB : B ≤ B') : Rs enc sz w B' A n c xs :=
  ⟨h.len, h.cap, h.top, fun hn => by
    obtain ⟨b, o, e, hb, hc⟩ := h.at_ hn
    exact ⟨b, o, e, by omega, hc⟩⟩
theorem Dq.store {K : Nat → Prop} {w : World} {d : Db} {D : List (Int × Ex)} {S : List Int} (h : Dq K w d D S) {p : Addr} {A0 : Option Addr} {n0 c0 : Nat} (hp : w.cell? p = some (.slice A0 n0 c0)) (u : Value) : Dq K (w.setCell p u) d D S :=
  ⟨Rs.more (rs_other h.l hp (fun x u hu e => by simp [enc5] at hu; rcases hu with rfl | rfl | rfl | rfl | rfl <;> cases e) u) (by simp), (h.s.setOther hp (fun x e => by cases e) u).more (by simp), h.fl, h.kl, h.ks⟩
section
variable {K : Nat → Prop} (A A2 : Option Addr) (n c n2 c2 : Nat) (D : List (Int × Ex)) (S : List Int) (w : World)
end
end Go.Proofs.YthmdiaingolfnaaGreatDoor.Ba
