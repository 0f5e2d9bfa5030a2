/- The walk of hackneylaw12.LocalPlays. -/
import Derived.Test.YtbedboekfkobjaaGreatDoorLocalRefB
import Derived.Test.YtbedboekfkobjaaGreatDoorLocalClone
import Derived.Deep.CutRange
namespace Go.Proofs.YtbedboekfkobjaaGreatDoor.Lc
open Go Go.ChangeShapes Go.WideShapes Go.ChangeAt Go.RowKit Go.Deep Rw Hi Sl
set_option linter.unusedVariables false

abbrev Fx : Nat → Prop := fun _ => False
theorem fx (w : World) : ∀ g, Fx g → g < w.heap.size := fun g hg => hg.elim
def inR (t : Int) : Bool := decide (0 ≤ t) && decide (t < 8)
theorem inR_yes {t : Int} (h : inR t = true) : ∃ i : Nat, t = i ∧ i < 8 := by
  simp [inR] at h
  exact ⟨t.toNat, by omega, by omega⟩
theorem inR_no {t : Int} (h : inR t = false) : t < 0 ∨ 8 ≤ t := by
  simp [inR] at h
  by_cases h0 : 0 ≤ t
  · exact .inr (h h0)
  · exact .inl (by omega)
theorem last4_two (l : List Int) (x : Int) : last4 (last4 l ++ [x]) = last4 (l ++ [x]) := by
  unfold last4
  by_cases h : l.length ≤ 4
  · rw [Nat.sub_eq_zero_of_le h]; rfl
  · have e : (l.drop (l.length - 4)).length = 4 := by simp; omega
    simp only [List.length_append, e, List.length_cons, List.length_nil]
    rw [List.drop_append_of_le_length (by rw [e]; omega), List.drop_append_of_le_length (by omega), List.drop_drop]
    congr 2
    omega
/-- What Take does and tells. -/
def takeR (L : Nat → List Int) (t : Int) : (Nat → List Int) × Int × Bool :=
  if inR t then (match (L t.toNat).getLast? with | some x => (upd L t.toNat (L t.toNat).dropLast, x, true) | none => (L, 0, false)) else (L, 0, false)
def putR (L : Nat → List Int) (t : Int) (ids : List Int) : Nat → List Int := if inR t then upd L t.toNat (last4 (L t.toNat ++ ids)) else L
def putE (t : Int) : Int := if inR t then 0 else 2
theorem putR_step (L : Nat → List Int) (t x : Int) (ids : List Int) : ∀ i, putR (putR L t ids) t [x] i = putR L t (ids ++ [x]) i := by
  intro i
  unfold putR
  cases h : inR t with
  | false => simp
  | true =>
    simp only [if_true]
    by_cases e : i = t.toNat
    · subst e
      rw [upd_same, upd_same, upd_same, ← List.append_assoc]
      exact last4_two _ _
    · rw [upd_ne _ _ e, upd_ne _ _ e, upd_ne _ _ e]
theorem putR_nil (L : Nat → List Int) (t : Int) (hl : ∀ i, i < 8 → (L i).length ≤ 4) : ∀ i, i < 8 → putR L t [] i = L i := by
  intro i hi
  unfold putR
  cases h : inR t with
  | false => rfl
  | true =>
    simp only [if_true]
    by_cases e : i = t.toNat
    · subst e; rw [upd_same, List.append_nil, last4_short (hl _ hi)]
    · rw [upd_ne _ _ e]
theorem takeU (w : World) (B p : Nat) (L : Nat → List Int) (t : Int) (h : Lo Fx w B p L) :
    Calls Tryz.prog 34 #[.pointer (some ⟨p, 0, none⟩), .int .i64 t] w fun e w' => e = .returned (.tuple #[.int .u64 (takeR L t).2.1, .bool (takeR L t).2.2]) ∧ Lo Fx w' B p (takeR L t).1 ∧ Fr (some p) none w w' := by
  unfold takeR
  cases hr : inR t with
  | false =>
    simp only [Bool.false_eq_true, if_false]
    refine (take_none (some ⟨p, 0, none⟩) t w (.inr ⟨p, rfl, inR_no hr⟩)).mono ?_
    rintro e w' ⟨rfl, rfl⟩
    exact ⟨rfl, h, Fr.refl _ _ _⟩
  | true =>
    obtain ⟨i, rfl, hi⟩ := inR_yes hr
    simp only [if_true, Int.toNat_natCast]
    cases hg : (L i).getLast? with
    | none =>
      refine (take_empty Fx w B p i L h hi (by simpa using hg)).mono ?_
      rintro e w' ⟨rfl, rfl⟩
      exact ⟨rfl, h, Fr.refl _ _ _⟩
    | some x => exact take_some Fx w B p i L (L i).dropLast x h hi (by obtain ⟨ys, hy⟩ := List.getLast?_eq_some_iff.1 hg; rw [hy]; simp)
theorem rtakeU (w : World) (p : Nat) (A : Option Addr) (c : Nat) (vs : List Sv) (L : Nat → List Int) (t : Int) (h : Dc w p A c vs L) (hp : p < w.heap.size) :
    Calls Tryz.prog 35 #[.slice A 8 c, .int .i64 t] w fun e w' => ∃ A' c' vs', e = .returned (.tuple #[.slice A' 8 c', .int .u64 (takeR L t).2.1, .bool (takeR L t).2.2]) ∧ Dc w' p A' c' vs' (takeR L t).1 ∧ Below w.heap.size w w' := by
  unfold takeR
  cases hr : inR t with
  | false =>
    simp only [Bool.false_eq_true, if_false]
    refine (rtake_out A c t w (inR_no hr)).mono ?_
    rintro e w' ⟨rfl, rfl⟩
    exact ⟨A, c, vs, rfl, h, Below.refl _ _⟩
  | true =>
    obtain ⟨i, rfl, hi⟩ := inR_yes hr
    simp only [if_true, Int.toNat_natCast]
    cases hg : (L i).getLast? with
    | none =>
      refine (rtake_empty w p i A c vs L h hi (by simpa using hg)).mono ?_
      rintro e w' ⟨rfl, rfl⟩
      exact ⟨A, c, vs, rfl, h, Below.refl _ _⟩
    | some x => exact rtake_some w p i A c vs L (L i).dropLast x h hp hi (by obtain ⟨ys, hy⟩ := List.getLast?_eq_some_iff.1 hg; rw [hy]; simp)
theorem putU (w : World) (B p : Nat) (L : Nat → List Int) (t : Int) (A : Option Addr) (n c : Nat) (ids : List Int) (h : Lo Fx w B p L) (hr : Rd (Value.int .u64) w w.heap.size A n c ids) (hn : n ≤ 1000) :
    Calls Tryz.prog 33 #[.pointer (some ⟨p, 0, none⟩), .int .i64 t, .slice A n c] w fun e w' => e = .returned (.int .i64 (putE t)) ∧ Lo Fx w' B p (putR L t ids) ∧ Fr (some p) none w w' := by
  unfold putE putR
  cases hi : inR t with
  | false =>
    simp only [Bool.false_eq_true, if_false]
    refine (put_out p t A n c w (inR_no hi)).mono ?_
    rintro e w' ⟨rfl, rfl⟩
    exact ⟨rfl, h, Fr.refl _ _ _⟩
  | true =>
    obtain ⟨i, rfl, hi8⟩ := inR_yes hi
    simp only [if_true, Int.toNat_natCast]
    exact put_in Fx w B p i L A n c ids (fx w) h hi8 hr hn
theorem rputU (w : World) (p : Nat) (A : Option Addr) (c : Nat) (vs : List Sv) (L : Nat → List Int) (t x : Int) (h : Dc w p A c vs L) (hp : p < w.heap.size) :
    Calls Tryz.prog 36 #[.slice A 8 c, .int .i64 t, .int .u64 x] w fun e w' => ∃ A' c' vs', e = .returned (.tuple #[.slice A' 8 c', .int .i64 (putE t)]) ∧ Dc w' p A' c' vs' (putR L t [x]) ∧ Below w.heap.size w w' := by
  unfold putE putR
  cases hi : inR t with
  | false =>
    simp only [Bool.false_eq_true, if_false]
    refine (rput_out A c t x w (inR_no hi)).mono ?_
    rintro e w' ⟨rfl, rfl⟩
    exact ⟨A, c, vs, rfl, h, Below.refl _ _⟩
  | true =>
    obtain ⟨i, rfl, hi8⟩ := inR_yes hi
    simp only [if_true, Int.toNat_natCast]
    exact rput_in w p i A c vs L x h hp hi8

/-- Lists and the document's, apart from one another. -/
structure Pz (w0 w : World) (p : Nat) (A : Option Addr) (c : Nat) (vs : List Sv) (L E : Nat → List Int) : Prop where
  l : Lo Fx w w0.heap.size p L
  d : Dc w p A c vs E
  b : Below w0.heap.size w0 w
/-- .. and an act's box. -/
structure Px (w0 w : World) (p q : Nat) (A : Option Addr) (c : Nat) (vs : List Sv) (t : Int) (v : Value) (tk cl : Bool) (L E : Nat → List Int) : Prop where
  m : Pz w0 w p A c vs L E
  b0 : w.cell? ⟨q, 0, none⟩ = some (.int .i64 t)
  b1 : w.cell? ⟨q, 1, none⟩ = some v
  b2 : w.cell? ⟨q, 2, none⟩ = some (.bool tk)
  b3 : w.cell? ⟨q, 3, none⟩ = some (.bool cl)
  qp : q ≠ p
section
variable {w0 w w' : World} {p q : Nat} {A : Option Addr} {c : Nat} {vs : List Sv} {t : Int} {v : Value} {tk cl : Bool} {L E : Nat → List Int}
theorem Pz.later (h : Pz w0 w p A c vs L E) (hb : Below w.heap.size w w') : Pz w0 w' p A c vs L E := ⟨h.l.later hb, h.d.later hb, h.b.trans (hb.mono h.b.size)⟩
theorem Px.cells {p1 : Nat} (h : Px w0 w p q A c vs t v tk cl L E) (hf : Fr (some p1) none w w') (hq : q ≠ p1) : w'.cell? ⟨q, 0, none⟩ = some (.int .i64 t) ∧ w'.cell? ⟨q, 1, none⟩ = some v ∧ w'.cell? ⟨q, 2, none⟩ = some (.bool tk) ∧ w'.cell? ⟨q, 3, none⟩ = some (.bool cl) := by
  have hl := Lw.lt_heap h.b0
  have hk (i : Nat) : w'.cell? ⟨q, i, none⟩ = w.cell? ⟨q, i, none⟩ := hf.cell (p := ⟨q, i, none⟩) hl (fun e => hq (by injection e)) (fun e => by cases e)
  exact ⟨(hk 0).trans h.b0, (hk 1).trans h.b1, (hk 2).trans h.b2, (hk 3).trans h.b3⟩
theorem Px.later (h : Px w0 w p q A c vs t v tk cl L E) (hb : Below w.heap.size w w') : Px w0 w' p q A c vs t v tk cl L E := by
  obtain ⟨c0, c1, c2, c3⟩ := h.cells (p1 := p) (Fr.of_below hb) h.qp
  exact ⟨h.m.later hb, c0, c1, c2, c3, h.qp⟩
theorem Pz.box (h : Pz w0 w p A c vs L E) (t : Int) (A1 : Option Addr) (n1 c1 : Nat) (tk cl : Bool) : Px w0 (w.alloc (.cells #[.int .i64 t, .slice A1 n1 c1, .bool tk, .bool cl] 69)) p w.heap.size A c vs t (.slice A1 n1 c1) tk cl L E :=
  ⟨h.later ((Below.refl _ _).alloc (Nat.le_refl _) _), by go_simp, by go_simp, by go_simp, by go_simp, fun e => by have := h.l.lt; omega⟩
theorem Px.list {L' : Nat → List Int} (h : Px w0 w p q A c vs t v tk cl L E) (hl : Lo Fx w' w0.heap.size p L') (hf : Fr (some p) none w w') : Px w0 w' p q A c vs t v tk cl L' E := by
  obtain ⟨c0, c1, c2, c3⟩ := h.cells hf h.qp
  exact ⟨⟨hl, h.m.d.fr hf, h.m.b.trans (fr_bel hf h.m.b.size h.m.l.lo)⟩, c0, c1, c2, c3, h.qp⟩
theorem Px.doc {A' : Option Addr} {c' : Nat} {vs' : List Sv} {E' : Nat → List Int} (h : Px w0 w p q A c vs t v tk cl L E) (hd : Dc w' p A' c' vs' E') (hb : Below w.heap.size w w') : Px w0 w' p q A' c' vs' t v tk cl L E' := by
  have h' := h.later hb
  exact ⟨⟨h'.m.l, hd, h'.m.b⟩, h'.b0, h'.b1, h'.b2, h'.b3, h.qp⟩
theorem Px.fresh {p' : Nat} (h : Px w0 w p q A c vs t v tk cl L E) (hb : Below w.heap.size w w') (hl : Lo Fx w' w0.heap.size p' L) (hp : w.heap.size ≤ p') : Px w0 w' p' q A c vs t v tk cl L E := by
  have h' := h.later hb
  have hq : q < w.heap.size := Lw.lt_heap h.b0
  exact ⟨⟨hl, h.m.d.turn hb hp, h'.m.b⟩, h'.b0, h'.b1, h'.b2, h'.b3, by omega⟩
theorem lo_aside {X : Nat → Prop} {B p p' : Nat} (h : Lo X w B p' L) (hf : Fr (some p) none w w') (hX : X p) : Lo X w' B p' L := by
  have hne : p' ≠ p := fun e => h.px (e ▸ hX)
  have hp' : w'.heap[p']? = w.heap[p']? := hf.block p' h.lt (fun e => hne (by injection e)) (fun e => by cases e)
  refine ⟨fun i hi => ?_, h.len, fun i hi => ?_, h.lo, h.px⟩
  · obtain ⟨A, n, c, h1, h2, h3⟩ := h.at_ i hi
    exact ⟨A, n, c, by unfold World.cell?; simp only [hp']; exact h1, rd_fr h2 hf (fun g hg e => (h3 g hg).2 (e ▸ hX)), fun g hg => ⟨Nat.lt_of_lt_of_le (h3 g hg).1 hf.size, (h3 g hg).2⟩⟩
  · unfold World.frozen?; simp only [hp']; exact h.free i hi
/-- What is done with elder lists leaves a clone, the document's lists, and the box. -/
theorem Px.aside {L2 : Nat → List Int} (h : Px w0 w p q A c vs t v tk cl L2 E) (hf : Fr (some p) none w w') : Dc w' p A c vs E ∧ (w'.cell? ⟨q, 0, none⟩ = some (.int .i64 t) ∧ w'.cell? ⟨q, 1, none⟩ = some v ∧ w'.cell? ⟨q, 2, none⟩ = some (.bool tk) ∧ w'.cell? ⟨q, 3, none⟩ = some (.bool cl)) :=
  ⟨h.m.d.fr hf, h.cells hf h.qp⟩
end
end Go.Proofs.YtbedboekfkobjaaGreatDoor.Lc
