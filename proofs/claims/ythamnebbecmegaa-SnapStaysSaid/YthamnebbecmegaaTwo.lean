/- Two rows of the call's own that grow beside each other, in a region that draws its order. -/
import Derived.Test.YthamnebbecmegaaRegApp
import Derived.Test.YthamnebbecmegaaSnapFresh
namespace Go.Proofs.Ythamnebbecmegaa.Rw
open Go Go.RowKit
set_option linter.unusedVariables false
section
variable {P : Program} {ops : Array Oper} {Q : Exit → Act → World → Prop} {md : Region.Mode} {S S1 : World → Prop} {n : Nat}
/-- Of two that may come. -/
theorem reg_two (i j : Nat) {oi oj : Oper} {f : Nat} {listed : Array Bool} {a : Act} {w : World} (hi : ops[i]? = some oi) (hj : ops[j]? = some oj) (hr : Region.ready md ops listed = [i, j])
    (hwi : Region.wanted oi (yielded ops a.tmps) = true) (hwj : Region.wanted oj (yielded ops a.tmps) = true)
    (h1 : oi.wp P a w (fun a' w' => (i < n → S w') ∧ wpAnyT P md ops Q n S f (listed.setIfInBounds i true) a' w') Q)
    (h2 : oj.wp P a w (fun a' w' => (j < n → S w') ∧ wpAnyT P md ops Q n S f (listed.setIfInBounds j true) a' w') Q) : wpAnyT P md ops Q n S (f + 1) listed a w := by
  refine ⟨fun h0 => (by rw [hr] at h0; cases h0), fun k hk => ?_⟩
  rw [hr] at hk
  have hk' : k = i ∨ k = j := by simpa using hk
  rcases hk' with e | e
  · subst e
    unfold wpOp
    simp only [hi, hwi, if_true]
    exact .inl h1
  · subst e
    unfold wpOp
    simp only [hj, hwj, if_true]
    exact .inl h2
end
structure Fr2 (ga gw : Option Nat) (w0 w : World) : Prop where
  os : w.os = w0.os
  tape : w.tape = w0.tape
  output : w.output = w0.output
  size : w0.heap.size ≤ w.heap.size
  block : ∀ k, k < w0.heap.size → some k ≠ ga → some k ≠ gw → w.heap[k]? = w0.heap[k]?
theorem Fr2.refl (ga gw : Option Nat) (w : World) : Fr2 ga gw w w := ⟨rfl, rfl, rfl, Nat.le_refl _, fun _ _ _ _ => rfl⟩
theorem Fr2.cell {ga gw : Option Nat} {w0 w : World} (h : Fr2 ga gw w0 w) {p : Addr} (hp : p.block < w0.heap.size) (h1 : some p.block ≠ ga) (h2 : some p.block ≠ gw) : w.cell? p = w0.cell? p := by
  unfold World.cell?; rw [h.block _ hp h1 h2]
theorem Fr2.frozen {ga gw : Option Nat} {w0 w : World} (h : Fr2 ga gw w0 w) {p : Addr} (hp : p.block < w0.heap.size) (h1 : some p.block ≠ ga) (h2 : some p.block ≠ gw) : w.frozen? p = w0.frozen? p := by
  unfold World.frozen?; rw [h.block _ hp h1 h2]
theorem Fr2.step {ga gw row : Option Nat} {w0 w w' : World} (h : Fr2 ga gw w0 w) (hg : w.grownBy w' row) (hr : ∀ j, row = some j → j < w0.heap.size → some j = ga ∨ some j = gw) : Fr2 ga gw w0 w' :=
  ⟨hg.os.trans h.os, hg.tape.trans h.tape, hg.output.trans h.output, Nat.le_trans h.size hg.size, fun k hk h1 h2 => (hg.block k (Nat.lt_of_lt_of_le hk h.size) (fun e => by
    rcases hr k e.symm hk with e | e
    · exact h1 e
    · exact h2 e)).trans (h.block k hk h1 h2)⟩
/-- A row of the call's own: its slice, its element's type, how many, and its cells. -/
abbrev Own := Value × TypeId × Nat × List Value
structure S2 (t6 t7 : TypeId) (ga gw : Option Nat) (w0 : World) (base : Nat) (w : World) (v6 : Value) (n6 : Nat) (L6 : List Value) (v7 : Value) (n7 : Nat) (L7 : List Value) (pb : List Own) : Prop where
  fr : Fr2 ga gw w0 w
  all : w.ownsRow base t6 1 v6 n6 L6
  was : w.ownsRow base t7 1 v7 n7 L7
  oa : v6.ownBlock = ga ∨ ∃ b, v6.ownBlock = some b ∧ w0.heap.size ≤ b
  ow : v7.ownBlock = gw ∨ ∃ b, v7.ownBlock = some b ∧ w0.heap.size ≤ b
  ne : ∀ b, v6.ownBlock = some b → v7.ownBlock ≠ some b
  prot : ∀ p ∈ pb, w.ownsRow 0 p.2.1 1 p.1 p.2.2.1 p.2.2.2 ∧ ∀ b, p.1.ownBlock = some b → v6.ownBlock ≠ some b ∧ v7.ownBlock ≠ some b
section
variable {t6 t7 : TypeId} {ga gw : Option Nat} {w0 : World} {base : Nat} {w w' : World} {v6 v7 : Value} {n6 n7 : Nat} {L6 L7 : List Value} {pb : List Own}
theorem kept_ne {w w' : World} {base e n : Nat} {v : Value} {xs : List Value} {row : Option Nat} (h : w.ownsRow base e 1 v n xs) (hg : w.grownBy w' row) (hne : ∀ b, v.ownBlock = some b → row ≠ some b) : w'.ownsRow base e 1 v n xs :=
  h.kept hg (by
    cases hv : v.ownBlock with
    | none => exact .inl rfl
    | some j => exact .inr (fun e => hne j hv e.symm))
theorem S2.quiet (h : S2 t6 t7 ga gw w0 base w v6 n6 L6 v7 n7 L7 pb) (hg : w.grownBy w' none) : S2 t6 t7 ga gw w0 base w' v6 n6 L6 v7 n7 L7 pb :=
  ⟨h.fr.step hg (fun j hj => by cases hj), h.all.kept hg (by cases hv : v6.ownBlock with | none => exact .inl rfl | some j => exact .inr (by simp)), h.was.kept hg (by cases hv : v7.ownBlock with | none => exact .inl rfl | some j => exact .inr (by simp)), h.oa, h.ow, h.ne,
    fun p hp => ⟨kept_ne (h.prot p hp).1 hg (fun b _ e => by cases e), (h.prot p hp).2⟩⟩
theorem S2.below (h : S2 t6 t7 ga gw w0 base w v6 n6 L6 v7 n7 L7 pb) (hb : Below w.heap.size w w') : S2 t6 t7 ga gw w0 base w' v6 n6 L6 v7 n7 L7 pb :=
  h.quiet ⟨hb.os, hb.tape, hb.output, hb.size, fun k hk _ => hb.block k hk⟩
/-- A row in memory that is new since w comes to those that are kept. -/
theorem S2.add (h : S2 t6 t7 ga gw w0 base w v6 n6 L6 v7 n7 L7 pb) (hs : S2 t6 t7 ga gw w0 base w' v6 n6 L6 v7 n7 L7 pb) (p : Own) (hp : w'.ownsRow w.heap.size p.2.1 1 p.1 p.2.2.1 p.2.2.2) : S2 t6 t7 ga gw w0 base w' v6 n6 L6 v7 n7 L7 (pb ++ [p]) := by
  refine ⟨hs.fr, hs.all, hs.was, hs.oa, hs.ow, hs.ne, fun q hq => ?_⟩
  rcases List.mem_append.1 hq with hq | hq
  · exact hs.prot q hq
  · obtain rfl : q = p := by simpa using hq
    refine ⟨⟨hp.1, ?_⟩, fun b hb => ⟨fun e => ?_, fun e => ?_⟩⟩
    · rcases hp.2 with h1 | ⟨g, cap, cur, h1, h2, h3⟩
      · exact .inl h1
      · exact .inr ⟨g, cap, cur, h1, Nat.zero_le _, h3⟩
    · have := (hp.lt b hb).1; have := (h.all.lt b e).2; omega
    · have := (hp.lt b hb).1; have := (h.was.lt b e).2; omega
theorem lit_row (w : World) (x : Value) (t : TypeId) : (w.alloc (.cells #[x] t)).ownsRow w.heap.size t 1 (.slice (some ⟨w.heap.size, 0, none⟩) 1 1) 1 [x] :=
  ⟨rfl, .inr ⟨w.heap.size, 1, #[x], rfl, Nat.le_refl _, heap_alloc_new w _, by omega, by unfold maxLen; omega, rfl, rfl⟩⟩
theorem S2.lit (h : S2 t6 t7 ga gw w0 base w v6 n6 L6 v7 n7 L7 pb) (x : Value) (t : TypeId) : S2 t6 t7 ga gw w0 base (w.alloc (.cells #[x] t)) v6 n6 L6 v7 n7 L7 (pb ++ [(.slice (some ⟨w.heap.size, 0, none⟩) 1 1, t, 1, [x])]) :=
  h.add (h.quiet (World.grownBy_alloc w _ none)) _ (lit_row w x t)
theorem S2.app6 (h : S2 t6 t7 ga gw w0 base w v6 n6 L6 v7 n7 L7 pb) {v : Value} {n : Nat} {L : List Value} (hr : w'.ownsRow base t6 1 v n L) (hg : w.grownBy w' v6.ownBlock) (ho : v.ownBlock = v6.ownBlock ∨ v.ownBlock = some w.heap.size) :
    S2 t6 t7 ga gw w0 base w' v n L v7 n7 L7 pb := by
  have hs := h.fr.size
  refine ⟨h.fr.step hg (fun j hj hlt => ?_), hr, kept_ne h.was hg (fun b hb e => h.ne b e hb), ?_, h.ow, fun b hb e => ?_, fun p hp => ⟨kept_ne (h.prot p hp).1 hg (fun b hb => ((h.prot p hp).2 b hb).1), fun b hb => ⟨fun e => ?_, ((h.prot p hp).2 b hb).2⟩⟩⟩
  · rcases h.oa with e | ⟨b, e, hb⟩
    · exact .inl (hj.symm.trans e)
    · rw [hj] at e; injection e; omega
  · rcases ho with e | e
    · rw [e]; exact h.oa
    · exact .inr ⟨_, e, hs⟩
  · rcases ho with e1 | e1
    · exact h.ne b (e1 ▸ hb) e
    · rw [e1] at hb; injection hb with hb; have := (h.was.lt b e).2; omega
  · rcases ho with e1 | e1
    · exact ((h.prot p hp).2 b hb).1 (e1 ▸ e)
    · rw [e1] at e; injection e with e; have := ((h.prot p hp).1.lt b hb).2; omega
theorem S2.app7 (h : S2 t6 t7 ga gw w0 base w v6 n6 L6 v7 n7 L7 pb) {v : Value} {n : Nat} {L : List Value} (hr : w'.ownsRow base t7 1 v n L) (hg : w.grownBy w' v7.ownBlock) (ho : v.ownBlock = v7.ownBlock ∨ v.ownBlock = some w.heap.size) :
    S2 t6 t7 ga gw w0 base w' v6 n6 L6 v n L pb := by
  have hs := h.fr.size
  refine ⟨h.fr.step hg (fun j hj hlt => ?_), kept_ne h.all hg (fun b hb => h.ne b hb), hr, h.oa, ?_, fun b hb e => ?_, fun p hp => ⟨kept_ne (h.prot p hp).1 hg (fun b hb => ((h.prot p hp).2 b hb).2), fun b hb => ⟨((h.prot p hp).2 b hb).1, fun e => ?_⟩⟩⟩
  · rcases h.ow with e | ⟨b, e, hb⟩
    · exact .inr (hj.symm.trans e)
    · rw [hj] at e; injection e; omega
  · rcases ho with e | e
    · rw [e]; exact h.ow
    · exact .inr ⟨_, e, hs⟩
  · rcases ho with e1 | e1
    · exact h.ne b hb (e1 ▸ e)
    · rw [e1] at e; injection e with e; have := (h.all.lt b hb).2; omega
  · rcases ho with e1 | e1
    · exact ((h.prot p hp).2 b hb).2 (e1 ▸ e)
    · rw [e1] at e; injection e with e; have := ((h.prot p hp).1.lt b hb).2; omega
/-- What one cell of a kept row holds, to be appended. -/
theorem S2.rd1 (h : S2 t6 t7 ga gw w0 base w v6 n6 L6 v7 n7 L7 pb) {A : Option Addr} {c : Nat} {t : TypeId} {x : Value} (hp : (.slice A 1 c, t, 1, [x]) ∈ pb) : Rd (fun (_ : Unit) => x) w w.heap.size A 1 c [()] :=
  Rd.own_rd (h.prot _ hp).1
end
end Go.Proofs.Ythamnebbecmegaa.Rw
