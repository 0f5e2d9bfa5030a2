/- A part of the claim: the texts FactOpen FactRef FactRefK. -/
import Derived.Test.YthmdiaingolfnaaGreatDoorZBase4
import Derived.Test.YthmdiaingolfnaaGreatDoorZGHist
import Derived.Test.YthmdiaingolfnaaGreatDoorZKeep
namespace Go.Proofs.YthmdiaingolfnaaGreatDoor.Fc
open Go Go.ChangeShapes Go.WideShapes Go.ChangeAt Go.RowKit Go.Deep Go.Maps Rw
set_option linter.unusedVariables false
section
variable {H : Type} {en : TypeId × Value → H} {P : Program} {w : World} {base : Nat} {spare : Nat → Bool} {held : Bool}
theorem bools_open {t e : TypeId} {v : Value} {d : DataW H} {p : List MemPlace} {b0 : Nat} (ht : P.underlying t = some (.slice e)) (he : P.underlying e = some .bool) (hC : P.cellsOf e = 1)
    (hv : Value.okWide P w .any b0 t v) (h : DataW.Trod en P w base spare held t v d p) :
    ∃ (A : Option Addr) (n c : Nat) (xs : List Bool), v = .slice A n c ∧ Rd Value.bool w w.heap.size A n c xs := by
  obtain ⟨a0, len0, cap0, rfl⟩ := okWide_slice ht hv
  obtain ⟨fuel, hf⟩ := h
  rcases open_slice ht hf with ⟨h0, _⟩ | ⟨a, len, cap, m, n, D, Pl, hcs, _, hl, hm, hmm, _, hi⟩
  · simp [Value.cells] at h0
    obtain ⟨rfl, rfl, rfl⟩ := h0
    exact ⟨none, 0, 0, [], rfl, Rd.nil_⟩
  · simp [Value.cells] at hcs
    obtain ⟨rfl, rfl, rfl⟩ := hcs
    have hcell : ∀ i, i < len0 → ∃ x : Bool, w.cell? (a.add i) = some (.bool x) ∧ True := by
      intro i hil
      obtain ⟨cs', hc, ht'⟩ := hi i (by rw [hmm]; split <;> omega)
      rw [hC] at hc
      obtain ⟨_, hcl, hat⟩ := World.cells?_some hc
      obtain ⟨z, hz, _⟩ := DataW.trod_bool he ht'
      refine ⟨z, ?_, trivial⟩
      have h1 := hat 0 (by omega)
      rw [Go.Deep.add_add] at h1
      simp only [Nat.mul_one, Nat.add_zero] at h1
      rw [h1, hz]
      rfl
    obtain ⟨f, hf⟩ := choose_lt hcell
    unfold maxLen at hm
    refine ⟨_, _, _, (List.range len0).map f, rfl, ⟨by simp, hl, hm, fun hn => ?_⟩⟩
    have hs : a.spot = none := Lw.spot_none (a := a) (by have := (hf 0 hn).1; simpa [Addr.add] using this)
    refine ⟨a.block, a.off, by cases a; simp at hs; subst hs; rfl, ?_, fun j x hx => ?_⟩
    · have := Lw.lt_heap (hf 0 hn).1
      simpa [Addr.add] using this
    · obtain ⟨hj, rfl⟩ := List.getElem?_eq_some_iff.1 hx
      simp at hj
      rw [← Lw.add_eq hs, (hf j hj).1]
      simp
end
structure Ac where
  do_ : Int
  id : Int
structure Ac.ok (a : Ac) : Prop where
  do_ : 0 ≤ a.do_ ∧ a.do_ ≤ 255
  id : 0 ≤ a.id ∧ a.id ≤ 18446744073709551615
end Go.Proofs.YthmdiaingolfnaaGreatDoor.Fc
namespace Go.Proofs.YthmdiaingolfnaaGreatDoor.Fc
open Go.ChangeShapes Go.WideShapes Go.ChangeAt Go.RowKit Go.Maps Rw
set_option linter.unusedVariables false
structure Rn (w : World) (p m : Nat) (A : Option Addr) (n c : Nat) (O : List Bool) : Prop where
  rd : Rd Value.bool w w.heap.size A n c O
  ne : 0 < n → ∀ g o, A = some ⟨g, o, none⟩ → g ≠ p ∧ g ≠ m
theorem Rn.nil_ (w : World) (p m : Nat) : Rn w p m none 0 0 [] := ⟨Rd.nil_, fun h => absurd h (by omega)⟩
theorem Rn.below {w w' : World} {p m : Nat} {A : Option Addr} {n c : Nat} {O : List Bool} (h : Rn w p m A n c O) (hb : Below w.heap.size w w') : Rn w' p m A n c O := ⟨h.rd.later hb, h.ne⟩
theorem Rn.fr {w w' : World} {p m : Nat} {A : Option Addr} {n c : Nat} {O : List Bool} (h : Rn w p m A n c O) (hf : Hi.Fr (some p) (some m) w w') : Rn w' p m A n c O :=
  ⟨⟨h.rd.len, h.rd.cap, h.rd.top, fun hn => by
    obtain ⟨b, o, e, hb, hc⟩ := h.rd.at_ hn
    obtain ⟨n1, n2⟩ := h.ne hn b o e
    exact ⟨b, o, e, Nat.lt_of_lt_of_le hb hf.size, fun j x hx => (hf.cell (p := ⟨b, o + j, none⟩) hb (fun e => n1 (by injection e)) (fun e => n2 (by injection e))).trans (hc j x hx)⟩⟩, h.ne⟩
theorem Rn.of_own {w : World} {base p m : Nat} {A : Option Addr} {n c : Nat} {O : List Bool} (h : w.ownsRow base 4 1 (.slice A n c) n (O.map Value.bool)) (hp : p < base) (hm : m < base) : Rn w p m A n c O := by
  refine ⟨Rd.own_rd h, fun hn g o e => ?_⟩
  have := (h.lt g (by rw [e]; rcases h.2 with ⟨e1, e0⟩ | ⟨g', cap, cur, e1, _⟩
                      · omega
                      · injection e1 with e1 _ _
                        rw [e] at e1
                        injection e1 with e1
                        injection e1 with e1 e2
                        subst e2
                        rfl)).1
  omega
theorem Rd.app {w : World} {A : Option Addr} {n c : Nat} {O : List Bool} (h : Rd Value.bool w w.heap.size A n c O) : n ≤ 9223372036854775807 := by have := h.cap; have := h.top; omega
def Sh (n : Nat) (C : List Int) (S : List Bool) : Prop := S.length = n ∧ ∀ (i : Nat) x, S[i]? = some x → x = decide ((i : Int) + 1 ∈ C)
theorem Sh.nil_ : Sh 0 [] [] := ⟨rfl, fun i x h => by simp at h⟩
theorem Sh.shut {n : Nat} {C : List Int} {S : List Bool} (h : Sh n C S) {k : Nat} (hk : k < n) : Sh n (C ++ [(k : Int) + 1]) (S.set k true) := by
  refine ⟨by simp [h.1], fun i x hx => ?_⟩
  rw [List.getElem?_set] at hx
  split at hx
  · rename_i e
    subst e
    split at hx
    · injection hx with hx
      subst hx
      simp
    · cases hx
  · rename_i e
    have := h.2 i x hx
    rw [this]
    congr 1
    simp
    omega
structure Rf (w : World) (p m : Nat) (v : Value) (O P : List Bool) (n : Nat) (C : List Int) : Prop where
  form : ∃ A1 n1 c1 A2 n2 c2 A3 c3 S, v = .agg #[.slice A1 n1 c1, .slice A2 n2 c2, .slice A3 n c3] ∧ Rn w p m A1 n1 c1 O ∧ Rn w p m A2 n2 c2 P ∧ Rn w p m A3 n c3 S ∧ Sh n C S
theorem Rf.below {w w' : World} {p m n : Nat} {v : Value} {O P : List Bool} {C : List Int} (h : Rf w p m v O P n C) (hb : Below w.heap.size w w') : Rf w' p m v O P n C := by
  obtain ⟨A1, n1, c1, A2, n2, c2, A3, c3, S, e, h1, h2, h3, h4⟩ := h.form
  exact ⟨⟨A1, n1, c1, A2, n2, c2, A3, c3, S, e, h1.below hb, h2.below hb, h3.below hb, h4⟩⟩
theorem Rf.fr {w w' : World} {p m n : Nat} {v : Value} {O P : List Bool} {C : List Int} (h : Rf w p m v O P n C) (hf : Hi.Fr (some p) (some m) w w') : Rf w' p m v O P n C := by
  obtain ⟨A1, n1, c1, A2, n2, c2, A3, c3, S, e, h1, h2, h3, h4⟩ := h.form
  exact ⟨⟨A1, n1, c1, A2, n2, c2, A3, c3, S, e, h1.fr hf, h2.fr hf, h3.fr hf, h4⟩⟩
def V3 (w : World) (g : Nat) (a b c : Value) : Prop := (w.cell? ⟨g, 0, none⟩ = some a ∧ w.cell? ⟨g, 1, none⟩ = some b ∧ w.cell? ⟨g, 2, none⟩ = some c) ∧ w.frozen? ⟨g, 0, none⟩ = false ∧ w.frozen? ⟨g, 1, none⟩ = false ∧ w.frozen? ⟨g, 2, none⟩ = false
theorem V3.below {w w' : World} {g B : Nat} {a b c : Value} (h : V3 w g a b c) (hb : Below B w w') (hg : g < B) : V3 w' g a b c :=
  ⟨⟨(hb.cell (p := ⟨g, 0, none⟩) hg).trans h.1.1, (hb.cell (p := ⟨g, 1, none⟩) hg).trans h.1.2.1, (hb.cell (p := ⟨g, 2, none⟩) hg).trans h.1.2.2⟩, (hb.frozen (p := ⟨g, 0, none⟩) hg).trans h.2.1, (hb.frozen (p := ⟨g, 1, none⟩) hg).trans h.2.2.1, (hb.frozen (p := ⟨g, 2, none⟩) hg).trans h.2.2.2⟩
theorem V3.new (w : World) (a b c : Value) (t : TypeId) : V3 (w.alloc (.cells #[a, b, c] t)) w.heap.size a b c := by
  refine ⟨⟨?_, ?_, ?_⟩, ?_, ?_, ?_⟩ <;> simp
theorem V3.lt {w : World} {g : Nat} {a b c : Value} (h : V3 w g a b c) : g < w.heap.size := Lw.lt_heap h.1.1
end Go.Proofs.YthmdiaingolfnaaGreatDoor.Fc
namespace Go.Proofs.YthmdiaingolfnaaGreatDoor.Fk
open Go.ChangeShapes Go.WideShapes Go.ChangeAt Go.RowKit Go.Maps Rw Fc
set_option linter.unusedVariables false
structure Rn (K : Nat → Prop) (w : World) (A : Option Addr) (n c : Nat) (O : List Bool) : Prop where
  rd : Rd Value.bool w w.heap.size A n c O
  ne : 0 < n → ∀ g o, A = some ⟨g, o, none⟩ → K g
theorem Rn.nil_ (K : Nat → Prop) (w : World) : Rn K w none 0 0 [] := ⟨Rd.nil_, fun h => absurd h (by omega)⟩
theorem Rn.below {K : Nat → Prop} {w w' : World} {A : Option Addr} {n c : Nat} {O : List Bool} (h : Rn K w A n c O) (hb : Below w.heap.size w w') : Rn K w' A n c O := ⟨h.rd.later hb, h.ne⟩
theorem Rn.of_own {w : World} {K : Nat → Prop} {base : Nat} {A : Option Addr} {n c : Nat} {O : List Bool} (h : w.ownsRow base 4 1 (.slice A n c) n (O.map Value.bool)) (hK : ∀ g, base ≤ g → K g) : Rn K w A n c O := by
  refine ⟨Rd.own_rd h, fun hn g o e => ?_⟩
  have := (h.lt g (by rw [e]; rcases h.2 with ⟨e1, e0⟩ | ⟨g', cap, cur, e1, _⟩
                      · omega
                      · injection e1 with e1 _ _
                        rw [e] at e1
                        injection e1 with e1
                        injection e1 with e1 e2
                        subst e2
                        rfl)).1
  exact hK _ this
structure Rf (K : Nat → Prop) (w : World) (v : Value) (O P : List Bool) (n : Nat) (C : List Int) : Prop where
  form : ∃ A1 n1 c1 A2 n2 c2 A3 c3 S, v = .agg #[.slice A1 n1 c1, .slice A2 n2 c2, .slice A3 n c3] ∧ Rn K w A1 n1 c1 O ∧ Rn K w A2 n2 c2 P ∧ Rn K w A3 n c3 S ∧ Sh n C S
theorem Rf.below {K : Nat → Prop} {w w' : World} {n : Nat} {v : Value} {O P : List Bool} {C : List Int} (h : Rf K w v O P n C) (hb : Below w.heap.size w w') : Rf K w' v O P n C := by
  obtain ⟨A1, n1, c1, A2, n2, c2, A3, c3, S, e, h1, h2, h3, h4⟩ := h.form
  exact ⟨⟨A1, n1, c1, A2, n2, c2, A3, c3, S, e, h1.below hb, h2.below hb, h3.below hb, h4⟩⟩
end Go.Proofs.YthmdiaingolfnaaGreatDoor.Fk
