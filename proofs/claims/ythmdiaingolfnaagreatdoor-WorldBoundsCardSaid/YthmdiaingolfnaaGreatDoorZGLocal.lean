/- A part of the claim: the texts LocalRef LocalPlaysKit LocalRefK. -/
import Derived.Test.YthmdiaingolfnaaGreatDoorZBase5
import Derived.Test.YthmdiaingolfnaaGreatDoorZKeep
import Derived.Deep.CutRange
namespace Go.Proofs.YthmdiaingolfnaaGreatDoor.Lc
open Go.ChangeShapes Go.WideShapes Go.ChangeAt Go.RowKit Rw Hi Sl
set_option linter.unusedVariables false
structure Sv where
  A : Option Addr
  n : Nat
  c : Nat
def encS (s : Sv) : Value := .slice s.A s.n s.c
structure Dc (w : World) (p : Nat) (A : Option Addr) (c : Nat) (vs : List Sv) (L : Nat → List Int) : Prop where
  rd : Rd encS w w.heap.size A 8 c vs
  bl : ∀ g, (Value.slice A 8 c).ownBlock = some g → g ≠ p
  el : ∀ i s, vs[i]? = some s → Rd (Value.int .u64) w w.heap.size s.A s.n s.c (L i) ∧ ∀ g, (Value.slice s.A s.n s.c).ownBlock = some g → g < w.heap.size ∧ g ≠ p
  len : ∀ i, i < 8 → (L i).length ≤ 4
section
variable {w w' : World} {p : Nat} {A : Option Addr} {c : Nat} {vs : List Sv} {L : Nat → List Int}
theorem Dc.later (h : Dc w p A c vs L) (hb : Below w.heap.size w w') : Dc w' p A c vs L :=
  ⟨h.rd.later hb, h.bl, fun i s hs => ⟨(h.el i s hs).1.later hb, fun g hg => ⟨Nat.lt_of_lt_of_le ((h.el i s hs).2 g hg).1 hb.size, ((h.el i s hs).2 g hg).2⟩⟩, h.len⟩
theorem Dc.fr (h : Dc w p A c vs L) (hf : Fr (some p) none w w') : Dc w' p A c vs L := by
  refine ⟨⟨h.rd.len, h.rd.cap, h.rd.top, fun hn => ?_⟩, h.bl, fun i s hs => ⟨rd_fr (h.el i s hs).1 hf (fun g hg => ((h.el i s hs).2 g hg).2), fun g hg => ⟨Nat.lt_of_lt_of_le ((h.el i s hs).2 g hg).1 hf.size, ((h.el i s hs).2 g hg).2⟩⟩, h.len⟩
  obtain ⟨b, o, e, hb, hc⟩ := h.rd.at_ hn
  subst e
  exact ⟨b, o, rfl, Nat.lt_of_lt_of_le hb hf.size, fun j x hx => (hf.cell (p := ⟨b, o + j, none⟩) hb (fun e => h.bl b rfl (by injection e)) (fun e => by cases e)).trans (hc j x hx)⟩
theorem Dc.turn {p' : Nat} (h : Dc w p A c vs L) (hb : Below w.heap.size w w') (hp : w.heap.size ≤ p') : Dc w' p' A c vs L := by
  have h' := h.later hb
  refine ⟨h'.rd, fun g hg e => ?_, fun i s hs => ⟨(h'.el i s hs).1, fun g hg => ⟨((h'.el i s hs).2 g hg).1, fun e => ?_⟩⟩, h.len⟩
  · obtain ⟨b, o, eA, hb2, _⟩ := h.rd.at_ (by omega)
    subst eA
    injection hg with hg
    have : b = g := hg
    omega
  · have := ((h.el i s hs).2 g hg).1
    omega
theorem Dc.same {L' : Nat → List Int} (h : Dc w p A c vs L) (he : ∀ i, i < 8 → L' i = L i) : Dc w p A c vs L' :=
  ⟨h.rd, h.bl, fun i s hs => by
    have hi : i < 8 := by have := (List.getElem?_eq_some_iff.1 hs).1; have := h.rd.len; omega
    rw [he i hi]; exact h.el i s hs, fun i hi => by rw [he i hi]; exact h.len i hi⟩
theorem Dc.get (h : Dc w p A c vs L) {i : Nat} (hi : i < 8) : ∃ b o s, A = some ⟨b, o, none⟩ ∧ b < w.heap.size ∧ vs[i]? = some s ∧ w.cell? ⟨b, o + i, none⟩ = some (.slice s.A s.n s.c) ∧ Rd (Value.int .u64) w w.heap.size s.A s.n s.c (L i) ∧ s.n ≤ 4 := by
  obtain ⟨b, o, s, h1, h2, h3, h4⟩ := h.rd.get hi
  have h5 := (h.el i s h3).1
  exact ⟨b, o, s, h1, h2, h3, h4, h5, by rw [← h5.len]; exact h.len i hi⟩
end
end Go.Proofs.YthmdiaingolfnaaGreatDoor.Lc
namespace Go.Proofs.YthmdiaingolfnaaGreatDoor.Lc
open Go Go.ChangeShapes Go.WideShapes Go.ChangeAt Go.RowKit Go.Deep Rw Hi Sl
set_option linter.unusedVariables false
abbrev Fx : Nat → Prop := fun _ => False
theorem fx (w : World) : ∀ g, Fx g → g < w.heap.size := fun g hg => hg.elim
structure Pz (w0 w : World) (p : Nat) (A : Option Addr) (c : Nat) (vs : List Sv) (L E : Nat → List Int) : Prop where
  l : Lo Fx w w0.heap.size p L
  d : Dc w p A c vs E
  b : Below w0.heap.size w0 w
structure Px (w0 w : World) (p q : Nat) (A : Option Addr) (c : Nat) (vs : List Sv) (t : Int) (v : Value) (tk cl : Bool) (L E : Nat → List Int) : Prop where
  m : Pz w0 w p A c vs L E
  b0 : w.cell? ⟨q, 0, none⟩ = some (.int .i64 t)
  b1 : w.cell? ⟨q, 1, none⟩ = some v
  b2 : w.cell? ⟨q, 2, none⟩ = some (.bool tk)
  b3 : w.cell? ⟨q, 3, none⟩ = some (.bool cl)
  qp : q ≠ p
section
variable {w0 w w' : World} {p q : Nat} {A : Option Addr} {c : Nat} {vs : List Sv} {t : Int} {v : Value} {tk cl : Bool} {L E : Nat → List Int}
theorem Pz.later (h : Pz w0 w p A c vs L E) (hb : Below w.heap.size w w') : Pz w0 w' p A c vs L E := ⟨h.l.later hb, h.d.later hb, h.b.trans (hb.mono h.b.size)⟩
theorem Px.cells {p1 : Nat} (h : Px w0 w p q A c vs t v tk cl L E) (hf : Fr (some p1) none w w') (hq : q ≠ p1) : w'.cell? ⟨q, 0, none⟩ = some (.int .i64 t) ∧ w'.cell? ⟨q, 1, none⟩ = some v ∧ w'.cell? ⟨q, 2, none⟩ = some (.bool tk) ∧ w'.cell? ⟨q, 3, none⟩ = some (.bool cl) := by
  have hl := Lw.lt_heap h.b0
  have hk (i : Nat) : w'.cell? ⟨q, i, none⟩ = w.cell? ⟨q, i, none⟩ := hf.cell (p := ⟨q, i, none⟩) hl (fun e => hq (by injection e)) (fun e => by cases e)
  exact ⟨(hk 0).trans h.b0, (hk 1).trans h.b1, (hk 2).trans h.b2, (hk 3).trans h.b3⟩
theorem Px.later (h : Px w0 w p q A c vs t v tk cl L E) (hb : Below w.heap.size w w') : Px w0 w' p q A c vs t v tk cl L E := by
  obtain ⟨c0, c1, c2, c3⟩ := h.cells (p1 := p) (Fr.of_below hb) h.qp
  exact ⟨h.m.later hb, c0, c1, c2, c3, h.qp⟩
theorem Px.doc {A' : Option Addr} {c' : Nat} {vs' : List Sv} {E' : Nat → List Int} (h : Px w0 w p q A c vs t v tk cl L E) (hd : Dc w' p A' c' vs' E') (hb : Below w.heap.size w w') : Px w0 w' p q A' c' vs' t v tk cl L E' := by
  have h' := h.later hb
  exact ⟨⟨h'.m.l, hd, h'.m.b⟩, h'.b0, h'.b1, h'.b2, h'.b3, h.qp⟩
theorem Px.fresh {p' : Nat} (h : Px w0 w p q A c vs t v tk cl L E) (hb : Below w.heap.size w w') (hl : Lo Fx w' w0.heap.size p' L) (hp : w.heap.size ≤ p') : Px w0 w' p' q A c vs t v tk cl L E := by
  have h' := h.later hb
  have hq : q < w.heap.size := Lw.lt_heap h.b0
  exact ⟨⟨hl, h.m.d.turn hb hp, h'.m.b⟩, h'.b0, h'.b1, h'.b2, h'.b3, by omega⟩
theorem lo_aside {X : Nat → Prop} {B p p' : Nat} (h : Lo X w B p' L) (hf : Fr (some p) none w w') (hX : X p) : Lo X w' B p' L := by
  have hne : p' ≠ p := fun e => h.px (e ▸ hX)
  have hp' : w'.heap[p']? = w.heap[p']? := hf.block p' h.lt (fun e => hne (by injection e)) (fun e => by cases e)
  refine ⟨fun i hi => ?_, h.len, fun i hi => ?_, h.lo, h.px⟩
  · obtain ⟨A, n, c, h1, h2, h3⟩ := h.at_ i hi
    exact ⟨A, n, c, by unfold World.cell?; simp only [hp']; exact h1, rd_fr h2 hf (fun g hg e => (h3 g hg).2 (e ▸ hX)), fun g hg => ⟨Nat.lt_of_lt_of_le (h3 g hg).1 hf.size, (h3 g hg).2⟩⟩
  · unfold World.frozen?; simp only [hp']; exact h.free i hi
theorem Px.aside {L2 : Nat → List Int} (h : Px w0 w p q A c vs t v tk cl L2 E) (hf : Fr (some p) none w w') : Dc w' p A c vs E ∧ (w'.cell? ⟨q, 0, none⟩ = some (.int .i64 t) ∧ w'.cell? ⟨q, 1, none⟩ = some v ∧ w'.cell? ⟨q, 2, none⟩ = some (.bool tk) ∧ w'.cell? ⟨q, 3, none⟩ = some (.bool cl)) :=
  ⟨h.m.d.fr hf, h.cells hf h.qp⟩
end
end Go.Proofs.YthmdiaingolfnaaGreatDoor.Lc
namespace Go.Proofs.YthmdiaingolfnaaGreatDoor.Lk
open Go.ChangeShapes Go.WideShapes Go.ChangeAt Go.RowKit Rw Hi Sl Lc
set_option linter.unusedVariables false
structure Dc (K : Nat → Prop) (w : World) (A : Option Addr) (c : Nat) (vs : List Sv) (L : Nat → List Int) : Prop where
  rd : Rd encS w w.heap.size A 8 c vs
  bl : ∀ g, (Value.slice A 8 c).ownBlock = some g → K g
  el : ∀ i s, vs[i]? = some s → Rd (Value.int .u64) w w.heap.size s.A s.n s.c (L i) ∧ ∀ g, (Value.slice s.A s.n s.c).ownBlock = some g → g < w.heap.size ∧ K g
  len : ∀ i, i < 8 → (L i).length ≤ 4
section
variable {K : Nat → Prop} {w w' : World} {A : Option Addr} {c : Nat} {vs : List Sv} {L : Nat → List Int}
theorem Dc.later (h : Dc K w A c vs L) (hb : Below w.heap.size w w') : Dc K w' A c vs L :=
  ⟨h.rd.later hb, h.bl, fun i s hs => ⟨(h.el i s hs).1.later hb, fun g hg => ⟨Nat.lt_of_lt_of_le ((h.el i s hs).2 g hg).1 hb.size, ((h.el i s hs).2 g hg).2⟩⟩, h.len⟩
theorem Dc.same {L' : Nat → List Int} (h : Dc K w A c vs L) (he : ∀ i, i < 8 → L' i = L i) : Dc K w A c vs L' :=
  ⟨h.rd, h.bl, fun i s hs => by
    have hi : i < 8 := by have := (List.getElem?_eq_some_iff.1 hs).1; have := h.rd.len; omega
    rw [he i hi]; exact h.el i s hs, fun i hi => by rw [he i hi]; exact h.len i hi⟩
theorem Dc.get (h : Dc K w A c vs L) {i : Nat} (hi : i < 8) : ∃ b o s, A = some ⟨b, o, none⟩ ∧ b < w.heap.size ∧ vs[i]? = some s ∧ w.cell? ⟨b, o + i, none⟩ = some (.slice s.A s.n s.c) ∧ Rd (Value.int .u64) w w.heap.size s.A s.n s.c (L i) ∧ s.n ≤ 4 := by
  obtain ⟨b, o, s, h1, h2, h3, h4⟩ := h.rd.get hi
  have h5 := (h.el i s h3).1
  exact ⟨b, o, s, h1, h2, h3, h4, h5, by rw [← h5.len]; exact h.len i hi⟩
end
end Go.Proofs.YthmdiaingolfnaaGreatDoor.Lk
