/- A part of the claim: the texts LocalRef LocalRefB LocalPlaysKit LocalRefK. -/
import Derived.Test.YthmdiaingolfnaaGreatDoorZBase5
import Derived.Test.YthmdiaingolfnaaGreatDoorZKeep
import Derived.Deep.CutRange
namespace Go.Proofs.YthmdiaingolfnaaGreatDoor.Lc
open Go.ChangeShapes Go.WideShapes Go.ChangeAt Go.RowKit Rw Hi Sl
set_option linter.unusedVariables false
structure Sv where
  A : Option Addr
  n : Nat
  c : Nat
def encS (s : Sv) : Value := .slice s.A s.n s.c
theorem info_s : (Tryz.prog.info? 54).map (fun i => (i.zero, i.size, i.bytes)) = some (some (.slice none 0 0), 1, 24) := by kernel_rfl
structure Dc (w : World) (p : Nat) (A : Option Addr) (c : Nat) (vs : List Sv) (L : Nat → List Int) : Prop where
  rd : Rd encS w w.heap.size A 8 c vs
  bl : ∀ g, (Value.slice A 8 c).ownBlock = some g → g ≠ p
  el : ∀ i s, vs[i]? = some s → Rd (Value.int .u64) w w.heap.size s.A s.n s.c (L i) ∧ ∀ g, (Value.slice s.A s.n s.c).ownBlock = some g → g < w.heap.size ∧ g ≠ p
  len : ∀ i, i < 8 → (L i).length ≤ 4
section
variable {w w' : World} {p : Nat} {A : Option Addr} {c : Nat} {vs : List Sv} {L : Nat → List Int}
theorem Dc.later (h : Dc w p A c vs L) (hb : Below w.heap.size w w') : Dc w' p A c vs L :=
  ⟨h.rd.later hb, h.bl, fun i s hs => ⟨(h.el i s hs).1.later hb, fun g hg => ⟨Nat.lt_of_lt_of_le ((h.el i s hs).2 g hg).1 hb.size, ((h.el i s hs).2 g hg).2⟩⟩, h.len⟩
theorem Dc.fr (h : Dc w p A c vs L) (hf : Fr (some p) none w w') : Dc w' p A c vs L := by
  refine ⟨⟨h.rd.len, h.rd.cap, h.rd.top, fun hn => ?_⟩, h.bl, fun i s hs => ⟨rd_fr (h.el i s hs).1 hf (fun g hg => ((h.el i s hs).2 g hg).2), fun g hg => ⟨Nat.lt_of_lt_of_le ((h.el i s hs).2 g hg).1 hf.size, ((h.el i s hs).2 g hg).2⟩⟩, h.len⟩
  obtain ⟨b, o, e, hb, hc⟩ := h.rd.at_ hn
  subst e
  exact ⟨b, o, rfl, Nat.lt_of_lt_of_le hb hf.size, fun j x hx => (hf.cell (p := ⟨b, o + j, none⟩) hb (fun e => h.bl b rfl (by injection e)) (fun e => by cases e)).trans (hc j x hx)⟩
theorem Dc.turn {p' : Nat} (h : Dc w p A c vs L) (hb : Below w.heap.size w w') (hp : w.heap.size ≤ p') : Dc w' p' A c vs L := by
  have h' := h.later hb
  refine ⟨h'.rd, fun g hg e => ?_, fun i s hs => ⟨(h'.el i s hs).1, fun g hg => ⟨((h'.el i s hs).2 g hg).1, fun e => ?_⟩⟩, h.len⟩
  · obtain ⟨b, o, eA, hb2, _⟩ := h.rd.at_ (by omega)
    subst eA
    injection hg with hg
    have : b = g := hg
    omega
  · have := ((h.el i s hs).2 g hg).1
    omega
theorem Dc.same {L' : Nat → List Int} (h : Dc w p A c vs L) (he : ∀ i, i < 8 → L' i = L i) : Dc w p A c vs L' :=
  ⟨h.rd, h.bl, fun i s hs => by
    have hi : i < 8 := by have := (List.getElem?_eq_some_iff.1 hs).1; have := h.rd.len; omega
    rw [he i hi]; exact h.el i s hs, fun i hi => by rw [he i hi]; exact h.len i hi⟩
theorem Dc.get (h : Dc w p A c vs L) {i : Nat} (hi : i < 8) : ∃ b o s, A = some ⟨b, o, none⟩ ∧ b < w.heap.size ∧ vs[i]? = some s ∧ w.cell? ⟨b, o + i, none⟩ = some (.slice s.A s.n s.c) ∧ Rd (Value.int .u64) w w.heap.size s.A s.n s.c (L i) ∧ s.n ≤ 4 := by
  obtain ⟨b, o, s, h1, h2, h3, h4⟩ := h.rd.get hi
  have h5 := (h.el i s h3).1
  exact ⟨b, o, s, h1, h2, h3, h4, h5, by rw [← h5.len]; exact h.len i hi⟩
end
end Go.Proofs.YthmdiaingolfnaaGreatDoor.Lc
namespace Go.Proofs.YthmdiaingolfnaaGreatDoor.Lc
open Go.ChangeShapes Go.WideShapes Go.ChangeAt Go.RowKit Rw Hi Sl
set_option linter.unusedVariables false
theorem rnew_any (w : World) (p : Nat) (hp : p < w.heap.size) :
    Calls Tryz.prog 97 #[] w fun e w' => ∃ A c vs, e = .returned (.slice A 8 c) ∧ Dc w' p A c vs (fun _ => []) ∧ Below w.heap.size w w' := by
  obtain ⟨i0, hi0, hz0, hz1, hz2⟩ := info_parts info_s
  obtain ⟨w1, hrun, hown, hg⟩ := run_make_full (P := Tryz.prog) w w.heap.size 57 54 i0 (.slice none 0 0) 1 Tryz.underlying57 hi0 hz0 hz1 .i64 .i64 8 (by omega) (by unfold maxLen; omega) (Nat.le_refl _)
  have hrun2 : (Instr.makeSlice 57 (.int .i64 8) (.int .i64 8)).run Tryz.prog w = .ok (.slice (some ⟨w.heap.size, 0, none⟩) 8 8) w1 := hrun
  have hmc : (madeCells (Value.slice none 0 0).cells (8 * 1)).toList = (List.replicate 8 (⟨none, 0, 0⟩ : Sv)).map encS := toList_madeCells_one _ 8
  rw [hmc] at hown
  have hb : Below w.heap.size w w1 := (Below.refl _ _).grown hg (Nat.le_refl _) (fun j hj => by cases hj)
  have hD : Dc w1 p (some ⟨w.heap.size, 0, none⟩) 8 (List.replicate 8 ⟨none, 0, 0⟩) (fun _ => []) := by
    refine ⟨Rd.own_rd hown, fun g hg => ?_, fun i s hs => ?_, fun i hi => by simp⟩
    · injection hg with hg
      have e : w.heap.size = g := hg
      omega
    · have := List.getElem?_eq_some_iff.1 hs
      obtain ⟨h1, h2⟩ := this
      rw [List.getElem_replicate] at h2
      subst h2
      exact ⟨Rd.nil_, fun g hg => by cases hg⟩
  have HD := Lib.hid hD
  have HB := Lib.hid hb
  clear hrun hown hg hmc hb hD
  go_enter Tryz.func97, Tryz.ntmps97
  go_wp2_with fail
  go_ret
  exact ⟨_, _, _, rfl, HD.out, HB.out⟩
end Go.Proofs.YthmdiaingolfnaaGreatDoor.Lc
namespace Go.Proofs.YthmdiaingolfnaaGreatDoor.Lc
open Go Go.ChangeShapes Go.WideShapes Go.ChangeAt Go.RowKit Go.Deep Rw Hi Sl
set_option linter.unusedVariables false
abbrev Fx : Nat → Prop := fun _ => False
theorem fx (w : World) : ∀ g, Fx g → g < w.heap.size := fun g hg => hg.elim
def inR (t : Int) : Bool := decide (0 ≤ t) && decide (t < 8)
theorem inR_yes {t : Int} (h : inR t = true) : ∃ i : Nat, t = i ∧ i < 8 := by
  simp [inR] at h
  exact ⟨t.toNat, by omega, by omega⟩
theorem inR_no {t : Int} (h : inR t = false) : t < 0 ∨ 8 ≤ t := by
  simp [inR] at h
  by_cases h0 : 0 ≤ t
  · exact .inr (h h0)
  · exact .inl (by omega)
def putR (L : Nat → List Int) (t : Int) (ids : List Int) : Nat → List Int := if inR t then upd L t.toNat (last4 (L t.toNat ++ ids)) else L
def putE (t : Int) : Int := if inR t then 0 else 2
section
variable {w0 w w' : World} {p q : Nat} {A : Option Addr} {c : Nat} {vs : List Sv} {t : Int} {v : Value} {tk cl : Bool} {L E : Nat → List Int}
theorem lo_aside {X : Nat → Prop} {B p p' : Nat} (h : Lo X w B p' L) (hf : Fr (some p) none w w') (hX : X p) : Lo X w' B p' L := by
  have hne : p' ≠ p := fun e => h.px (e ▸ hX)
  have hp' : w'.heap[p']? = w.heap[p']? := hf.block p' h.lt (fun e => hne (by injection e)) (fun e => by cases e)
  refine ⟨fun i hi => ?_, h.len, fun i hi => ?_, h.lo, h.px⟩
  · obtain ⟨A, n, c, h1, h2, h3⟩ := h.at_ i hi
    exact ⟨A, n, c, by unfold World.cell?; simp only [hp']; exact h1, rd_fr h2 hf (fun g hg e => (h3 g hg).2 (e ▸ hX)), fun g hg => ⟨Nat.lt_of_lt_of_le (h3 g hg).1 hf.size, (h3 g hg).2⟩⟩
  · unfold World.frozen?; simp only [hp']; exact h.free i hi
end
end Go.Proofs.YthmdiaingolfnaaGreatDoor.Lc
namespace Go.Proofs.YthmdiaingolfnaaGreatDoor.Lk
open Go.ChangeShapes Go.WideShapes Go.ChangeAt Go.RowKit Rw Hi Sl Lc
set_option linter.unusedVariables false
structure Dc (K : Nat → Prop) (w : World) (A : Option Addr) (c : Nat) (vs : List Sv) (L : Nat → List Int) : Prop where
  rd : Rd encS w w.heap.size A 8 c vs
  bl : ∀ g, (Value.slice A 8 c).ownBlock = some g → K g
  el : ∀ i s, vs[i]? = some s → Rd (Value.int .u64) w w.heap.size s.A s.n s.c (L i) ∧ ∀ g, (Value.slice s.A s.n s.c).ownBlock = some g → g < w.heap.size ∧ K g
  len : ∀ i, i < 8 → (L i).length ≤ 4
section
variable {K : Nat → Prop} {w w' : World} {A : Option Addr} {c : Nat} {vs : List Sv} {L : Nat → List Int}
theorem Dc.later (h : Dc K w A c vs L) (hb : Below w.heap.size w w') : Dc K w' A c vs L :=
  ⟨h.rd.later hb, h.bl, fun i s hs => ⟨(h.el i s hs).1.later hb, fun g hg => ⟨Nat.lt_of_lt_of_le ((h.el i s hs).2 g hg).1 hb.size, ((h.el i s hs).2 g hg).2⟩⟩, h.len⟩
theorem Dc.same {L' : Nat → List Int} (h : Dc K w A c vs L) (he : ∀ i, i < 8 → L' i = L i) : Dc K w A c vs L' :=
  ⟨h.rd, h.bl, fun i s hs => by
    have hi : i < 8 := by have := (List.getElem?_eq_some_iff.1 hs).1; have := h.rd.len; omega
    rw [he i hi]; exact h.el i s hs, fun i hi => by rw [he i hi]; exact h.len i hi⟩
theorem Dc.get (h : Dc K w A c vs L) {i : Nat} (hi : i < 8) : ∃ b o s, A = some ⟨b, o, none⟩ ∧ b < w.heap.size ∧ vs[i]? = some s ∧ w.cell? ⟨b, o + i, none⟩ = some (.slice s.A s.n s.c) ∧ Rd (Value.int .u64) w w.heap.size s.A s.n s.c (L i) ∧ s.n ≤ 4 := by
  obtain ⟨b, o, s, h1, h2, h3, h4⟩ := h.rd.get hi
  have h5 := (h.el i s h3).1
  exact ⟨b, o, s, h1, h2, h3, h4, h5, by rw [← h5.len]; exact h.len i hi⟩
end
theorem rnew_any {K : Nat → Prop} (w : World) (hKK : ∀ g, w.heap.size ≤ g → K g) :
    Calls Tryz.prog 97 #[] w fun e w' => ∃ A c vs, e = .returned (.slice A 8 c) ∧ Dc K w' A c vs (fun _ => []) ∧ Below w.heap.size w w' := by
  have HKK := Lib.hid hKK
  clear hKK
  obtain ⟨i0, hi0, hz0, hz1, hz2⟩ := info_parts info_s
  obtain ⟨w1, hrun, hown, hg⟩ := run_make_full (P := Tryz.prog) w w.heap.size 57 54 i0 (.slice none 0 0) 1 Tryz.underlying57 hi0 hz0 hz1 .i64 .i64 8 (by omega) (by unfold maxLen; omega) (Nat.le_refl _)
  have hrun2 : (Instr.makeSlice 57 (.int .i64 8) (.int .i64 8)).run Tryz.prog w = .ok (.slice (some ⟨w.heap.size, 0, none⟩) 8 8) w1 := hrun
  have hmc : (madeCells (Value.slice none 0 0).cells (8 * 1)).toList = (List.replicate 8 (⟨none, 0, 0⟩ : Sv)).map encS := toList_madeCells_one _ 8
  rw [hmc] at hown
  have hb : Below w.heap.size w w1 := (Below.refl _ _).grown hg (Nat.le_refl _) (fun j hj => by cases hj)
  have hD : Dc K w1 (some ⟨w.heap.size, 0, none⟩) 8 (List.replicate 8 ⟨none, 0, 0⟩) (fun _ => []) := by
    refine ⟨Rd.own_rd hown, fun g hg => ?_, fun i s hs => ?_, fun i hi => by simp⟩
    · injection hg with hg
      have e : w.heap.size = g := hg
      exact HKK.out g (by omega)
    · have := List.getElem?_eq_some_iff.1 hs
      obtain ⟨h1, h2⟩ := this
      rw [List.getElem_replicate] at h2
      subst h2
      exact ⟨Rd.nil_, fun g hg => by cases hg⟩
  have HD := Lib.hid hD
  have HB := Lib.hid hb
  clear hrun hown hg hmc hb hD
  go_enter Tryz.func97, Tryz.ntmps97
  go_wp2_with fail
  go_ret
  exact ⟨_, _, _, rfl, HD.out, HB.out⟩
end Go.Proofs.YthmdiaingolfnaaGreatDoor.Lk
