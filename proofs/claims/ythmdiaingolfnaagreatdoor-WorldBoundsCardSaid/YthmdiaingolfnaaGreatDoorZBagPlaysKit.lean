/- A part of the claim: the texts BagPlaysKit. -/
import Derived.Test.YthmdiaingolfnaaGreatDoorZGBagG
import Derived.Test.YthmdiaingolfnaaGreatDoorZBagTold
import Derived.Test.YthmdiaingolfnaaGreatDoorZGBagRef
import Derived.Test.YthmdiaingolfnaaGreatDoorZGBag
import Derived.Deep.CutRange
import Derived.Deep.CutBlock
import Derived.RangeFuncSeq
namespace Go.Proofs.YthmdiaingolfnaaGreatDoor.Ba
open Go.ChangeShapes Go.WideShapes Go.ChangeAt Go.RowKit Go.Maps Rw Hi Mt
set_option linter.unusedVariables false
theorem rs_blk {α : Type} {enc : α → List Value} {sz : Nat} {w w' : World} {A : Option Addr} {n c : Nat} {xs : List α} {B B' : Nat} (h : Rs enc sz w B A n c xs) (hs : B ≤ B') (hk : 0 < n → ∀ b o, A = some ⟨b, o, none⟩ → w'.heap[b]? = w.heap[b]?) : Rs enc sz w' B' A n c xs :=
  ⟨h.len, h.cap, h.top, fun hn => by
    obtain ⟨b, o, e, hb, hc⟩ := h.at_ hn
    exact ⟨b, o, e, by omega, fun j x hx i u hi hu => (World.cell?_of_block (hk hn b o e)).trans (hc j x hx i u hi hu)⟩⟩
section
variable {K L E : Nat → Prop} {w w' : World} {d : Db} {D : List (Int × Ex)} {S : List Int}
theorem Dq.mono (h : Dq K w d D S) (hk : ∀ g, g < w.heap.size → K g → L g) : Dq L w d D S :=
  ⟨h.l, h.s, h.fl, fun hn a e => by
    obtain ⟨b, o, e', hb, _⟩ := h.l.at_ hn
    have hK := h.kl hn a e
    rw [e'] at e; injection e with e; subst e
    exact hk _ hb hK, fun hn a e => by
    obtain ⟨b, o, e', hb, _⟩ := h.s.at_ hn
    have hK := h.ks hn a e
    rw [e'] at e; injection e with e; subst e
    exact hk _ hb hK⟩
theorem Dq.fz (h : Dq K w d D S) (hz : Fz E w w') (hE : ∀ g, g < w.heap.size → K g → ¬ E g) : Dq K w' d D S :=
  ⟨rs_blk h.l hz.size fun hn b o e => hz.block b (by obtain ⟨b', o', e', hb, _⟩ := h.l.at_ hn; rw [e'] at e; injection e with e; injection e with e1; omega)
      (hE b (by obtain ⟨b', o', e', hb, _⟩ := h.l.at_ hn; rw [e'] at e; injection e with e; injection e with e1; omega) (h.kl hn _ e)),
    rd_blk h.s hz.size fun hn b o e => hz.block b (by obtain ⟨b', o', e', hb, _⟩ := h.s.at_ hn; rw [e'] at e; injection e with e; injection e with e1; omega)
      (hE b (by obtain ⟨b', o', e', hb, _⟩ := h.s.at_ hn; rw [e'] at e; injection e with e; injection e with e1; omega) (h.ks hn _ e)), h.fl, h.kl, h.ks⟩
theorem Dq.nil_ : Dq K w ⟨none, 0, 0, none, 0, 0⟩ [] [] := ⟨Rs.nil_, Rd.nil_, .inl ⟨rfl, rfl⟩, Kn.nil_, Kn.nil_⟩
end
def put2 (w : World) (r : Nat) (d : Db) : World := (w.setCell ⟨r, 0, none⟩ (.slice d.A d.n d.c)).setCell ⟨r, 1, none⟩ (.slice d.A2 d.n2 d.c2)
abbrev Vd (w : World) (r : Nat) (d : Db) : Prop := Vb w r (.slice d.A d.n d.c) (.slice d.A2 d.n2 d.c2)
theorem put2_size {w : World} {r : Nat} {d : Db} : (put2 w r d).heap.size = w.heap.size := by simp [put2]
theorem put2_far {w : World} {r g : Nat} {d : Db} (hg : g ≠ r) : (put2 w r d).heap[g]? = w.heap[g]? := by
  unfold put2
  rw [heap_setCell_other _ _ g _ hg, heap_setCell_other _ _ g _ hg]
theorem put2_vd {w : World} {r : Nat} {e d : Db} (h : Vd w r e) : Vd (put2 w r d) r d := by
  obtain ⟨⟨h0, h1⟩, f0, f1⟩ := h
  unfold put2
  exact ⟨⟨by go_simp, by go_simp⟩, by go_simp, by go_simp⟩
theorem put2_fz {w : World} {r : Nat} {d : Db} : Fz (fun g => g = r) w (put2 w r d) := by
  unfold put2
  have h1 : Fz (fun g => g = r) w (w.setCell ⟨r, 0, none⟩ (.slice d.A d.n d.c)) := Fz.of_set _ rfl
  have h2 : Fz (fun g => g = r) (w.setCell ⟨r, 0, none⟩ (.slice d.A d.n d.c)) ((w.setCell ⟨r, 0, none⟩ (.slice d.A d.n d.c)).setCell ⟨r, 1, none⟩ (.slice d.A2 d.n2 d.c2)) := Fz.of_set _ rfl
  exact h1.trans h2
theorem put2_dq {K : Nat → Prop} {w : World} {r : Nat} {e d f : Db} {D : List (Int × Ex)} {S : List Int} (hv : Vd w r e) (h : Dq K w f D S) : Dq K (put2 w r d) f D S := by
  obtain ⟨⟨h0, h1⟩, f0, f1⟩ := hv
  exact (h.store h0 _).store (p := ⟨r, 1, none⟩) (A0 := e.A2) (n0 := e.n2) (c0 := e.c2) (by go_simp) _
theorem Vb.blk {w w' : World} {g : Nat} {a b : Value} (h : Vb w g a b) (hb : w'.heap[g]? = w.heap[g]?) : Vb w' g a b := by
  obtain ⟨⟨h0, h1⟩, f0, f1⟩ := h
  exact ⟨⟨(World.cell?_of_block (a := ⟨g, 0, none⟩) hb).trans h0, (World.cell?_of_block (a := ⟨g, 1, none⟩) hb).trans h1⟩, (World.frozen?_of_block (a := ⟨g, 0, none⟩) hb).trans f0, (World.frozen?_of_block (a := ⟨g, 1, none⟩) hb).trans f1⟩
theorem Vb.lt {w : World} {g : Nat} {a b : Value} (h : Vb w g a b) : g < w.heap.size := Lw.lt_heap h.1.1
structure By (W : World) (p a r q : Nat) (w : World) (e d : Db) (D : List (Int × Ex)) (S : List Int) (D' : List (Int × Ex)) (S' : List Int) : Prop where
  bag : ∃ C R : Nat → Prop, (∀ g, C g → W.heap.size ≤ g) ∧ (∀ g, C g ∨ R g → g ≠ r ∧ g ≠ q ∧ g < w.heap.size) ∧ Bx C R w p a D S ∧ Dq (fun g => ¬ C g) w d D' S'
  vd : Vd w r e
  bel : Below W.heap.size W w
  rl : W.heap.size ≤ r
  qr : q ≠ r → q < w.heap.size
section
variable {W w w' : World} {p a r q : Nat} {e d : Db} {D D' D2 : List (Int × Ex)} {S S' S2 : List Int} {y : Ax} {C R C' R' : Nat → Prop}
theorem By.later (h : By W p a r q w e d D S D' S') (hb : Below w.heap.size w w') : By W p a r q w' e d D S D' S' := by
  obtain ⟨C, R, h1, h2, h3, h4⟩ := h.bag
  exact ⟨⟨C, R, h1, fun g hg => ⟨(h2 g hg).1, (h2 g hg).2.1, Nat.lt_of_lt_of_le (h2 g hg).2.2 hb.size⟩, h3.later hb, h4.later hb⟩, h.vd.below hb h.vd.lt, h.bel.trans (hb.mono h.bel.size), h.rl, fun e => Nat.lt_of_lt_of_le (h.qr e) hb.size⟩
theorem By.turn (h : By W p a r q w e d D S D' S') (hC : ∀ g, C g → W.heap.size ≤ g) (hX : ∀ g, C g ∨ R g → g ≠ r ∧ g ≠ q ∧ g < w.heap.size) (hd : Dq (fun g => ¬ C g) w d D' S') (hb : Bx C' R' w' p a D2 S2) (hz : Fz C w w') (hc : ∀ g, C' g → C g ∨ w.heap.size ≤ g) (hr : ∀ g, R' g → R g ∨ w.heap.size ≤ g) : By W p a r q w' e d D2 S2 D' S' := by
  have hs := h.bel.size
  have hrw := h.vd.lt
  refine ⟨⟨fun g => C' g ∧ g < w'.heap.size, fun g => R' g ∧ g < w'.heap.size, fun g hg => ?_, fun g hg => ?_, hb.mono (fun g h1 h2 => ⟨h2, h1⟩) (fun g h1 h2 => ⟨h2, h1⟩) (fun g h1 h2 => hb.cr g h1.1 h2.1), ?_⟩, ?_, ?_, h.rl, fun e => Nat.lt_of_lt_of_le (h.qr e) hz.size⟩
  · rcases hc g hg.1 with h1 | h1
    · exact hC g h1
    · omega
  · have hlt : g < w'.heap.size := by rcases hg with hg | hg <;> exact hg.2
    have hor : (C g ∨ R g) ∨ w.heap.size ≤ g := by
      rcases hg with hg | hg
      · exact (hc g hg.1).imp .inl id
      · exact (hr g hg.1).imp .inr id
    rcases hor with h1 | h1
    · exact ⟨(hX g h1).1, (hX g h1).2.1, hlt⟩
    · refine ⟨by omega, fun e2 => ?_, hlt⟩
      by_cases hq : q = r
      · omega
      · have := h.qr hq; omega
  · have h0 : Dq (fun g => ¬ C g ∧ ¬ (C' g ∧ g < w'.heap.size)) w d D' S' := hd.mono (fun g hg hk => ⟨hk, fun hc' => (hc g hc'.1).elim hk (fun h2 => by omega)⟩)
    exact (h0.fz hz (fun g hg hk => hk.1)).mono (fun g _ hk => hk.2)
  · exact h.vd.blk (hz.block r hrw (fun e2 => (hX r (.inl e2)).1 rfl))
  · exact h.bel.trans (hz.below hs hC)
theorem By.doc {f : Db} (h : By W p a r q w e d D S D' S') (hC : ∀ g, C g → W.heap.size ≤ g) (hX : ∀ g, C g ∨ R g → g ≠ r ∧ g ≠ q ∧ g < w.heap.size) (hb : Bx C R w p a D S) (hd : Dq (fun g => ¬ C g) w' f D2 S2) (hw : Below w.heap.size w w') : By W p a r q w' e f D S D2 S2 :=
  ⟨⟨C, R, hC, fun g hg => ⟨(hX g hg).1, (hX g hg).2.1, Nat.lt_of_lt_of_le (hX g hg).2.2 hw.size⟩, hb.later hw, hd⟩, h.vd.below hw h.vd.lt, h.bel.trans (hw.mono h.bel.size), h.rl, fun e => Nat.lt_of_lt_of_le (h.qr e) hw.size⟩
theorem By.put (h : By W p a r q w e d D S D' S') : By W p a r q (put2 w r d) d d D S D' S' := by
  obtain ⟨C, R, h1, h2, h3, h4⟩ := h.bag
  exact ⟨⟨C, R, h1, fun g hg => ⟨(h2 g hg).1, (h2 g hg).2.1, by rw [put2_size]; exact (h2 g hg).2.2⟩, h3.aside put2_fz (fun g hg e => (h2 g hg).1 e), put2_dq h.vd h4⟩, put2_vd h.vd, h.bel.trans (put2_fz.below h.bel.size (fun g hg => hg ▸ h.rl)), h.rl, fun e => by rw [put2_size]; exact h.qr e⟩
theorem By.drop (h : By W p a r q w e d D S D' S') : By W p a r r w e d D S D' S' := by
  obtain ⟨C, R, h1, h2, h3, h4⟩ := h.bag
  exact ⟨⟨C, R, h1, fun g hg => ⟨(h2 g hg).1, (h2 g hg).1, (h2 g hg).2.2⟩, h3, h4⟩, h.vd, h.bel, h.rl, fun e => absurd rfl e⟩
end
structure Bz (W : World) (p a p2 a2 r q : Nat) (w : World) (e d : Db) (D0 : List (Int × Ex)) (S0 : List Int) (D : List (Int × Ex)) (S : List Int) (D' : List (Int × Ex)) (S' : List Int) (C R C2 R2 : Nat → Prop) : Prop where
  old : Bx C R w p a D0 S0
  new : Bx C2 R2 w p2 a2 D S
  doc : Dq (fun g => ¬ C g ∧ ¬ C2 g) w d D' S'
  c1 : ∀ g, C g → W.heap.size ≤ g ∧ g ≠ r ∧ g ≠ q ∧ ¬ C2 g ∧ ¬ R2 g
  c2 : ∀ g, C2 g → W.heap.size ≤ g
  x2 : ∀ g, C2 g ∨ R2 g → g ≠ r ∧ g ≠ q ∧ g < w.heap.size
  vd : Vd w r e
  bel : Below W.heap.size W w
  rl : W.heap.size ≤ r
  qr : q ≠ r → q < w.heap.size
section
variable {W w w' : World} {p a p2 a2 r q : Nat} {e d : Db} {D0 D D' D1 : List (Int × Ex)} {S0 S S' S1 : List Int} {C R C2 R2 : Nat → Prop}
theorem Bz.later (h : Bz W p a p2 a2 r q w e d D0 S0 D S D' S' C R C2 R2) (hb : Below w.heap.size w w') : Bz W p a p2 a2 r q w' e d D0 S0 D S D' S' C R C2 R2 :=
  ⟨h.old.later hb, h.new.later hb, h.doc.later hb, h.c1, h.c2, fun g hg => ⟨(h.x2 g hg).1, (h.x2 g hg).2.1, Nat.lt_of_lt_of_le (h.x2 g hg).2.2 hb.size⟩, h.vd.below hb h.vd.lt, h.bel.trans (hb.mono h.bel.size), h.rl, fun e => Nat.lt_of_lt_of_le (h.qr e) hb.size⟩
theorem Bz.turn (h : Bz W p a p2 a2 r q w e d D0 S0 D S D' S' C R C2 R2) (hb : Bx C R w' p a D1 S1) (hz : Fz C w w') : Bz W p a p2 a2 r q w' e d D1 S1 D S D' S' C R C2 R2 :=
  ⟨hb, h.new.aside hz (fun g hg hc => hg.elim (h.c1 g hc).2.2.2.1 (h.c1 g hc).2.2.2.2), h.doc.fz hz (fun g _ hk => hk.1), h.c1, h.c2, fun g hg => ⟨(h.x2 g hg).1, (h.x2 g hg).2.1, Nat.lt_of_lt_of_le (h.x2 g hg).2.2 hz.size⟩,
    h.vd.blk (hz.block r h.vd.lt (fun hc => (h.c1 r hc).2.1 rfl)), h.bel.trans (hz.below h.bel.size (fun g hg => (h.c1 g hg).1)), h.rl, fun e => Nat.lt_of_lt_of_le (h.qr e) hz.size⟩
theorem Bz.done (h : Bz W p a p2 a2 r q w e d D0 S0 D S D' S' C R C2 R2) (hz : Fz C w w') : By W p2 a2 r q w' e d D S D' S' :=
  ⟨⟨C2, R2, h.c2, fun g hg => ⟨(h.x2 g hg).1, (h.x2 g hg).2.1, Nat.lt_of_lt_of_le (h.x2 g hg).2.2 hz.size⟩, h.new.aside hz (fun g hg hc => hg.elim (h.c1 g hc).2.2.2.1 (h.c1 g hc).2.2.2.2), (h.doc.fz hz (fun g _ hk => hk.1)).mono (fun g _ hk => hk.2)⟩,
    h.vd.blk (hz.block r h.vd.lt (fun hc => (h.c1 r hc).2.1 rfl)), h.bel.trans (hz.below h.bel.size (fun g hg => (h.c1 g hg).1)), h.rl, fun e => Nat.lt_of_lt_of_le (h.qr e) hz.size⟩
end
theorem Bq.fz {C : Nat → Prop} {w w' : World} {q : Nat} {y : Ax} (h : Bq w q y) (hz : Fz C w w') (hq : ¬ C q) : Bq w' q y := h.blk (hz.block q (Lw.lt_heap h.z0) hq)
theorem Bq.put {w : World} {q r : Nat} {d : Db} {y : Ax} (h : Bq w q y) (hq : q ≠ r) : Bq (put2 w r d) q y := h.blk (put2_far hq)
end Go.Proofs.YthmdiaingolfnaaGreatDoor.Ba
