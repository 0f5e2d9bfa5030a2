/- A part of the claim: the texts FactOpen FactRef FactRefK. -/
import Derived.Test.YthmdiaingolfnaaGreatDoorZBase4
import Derived.Test.YthmdiaingolfnaaGreatDoorZBase3
import Derived.Test.YthmdiaingolfnaaGreatDoorZBase1
import Derived.Test.YthmdiaingolfnaaGreatDoorZKeep
import Derived.RegionTactic
namespace Go.Proofs.YthmdiaingolfnaaGreatDoor.Fc
open Go Go.ChangeShapes Go.WideShapes Go.ChangeAt Go.RowKit Go.Deep Go.Maps Rw
set_option linter.unusedVariables false
section
variable {H : Type} {en : TypeId × Value → H} {P : Program} {w : World} {base : Nat} {spare : Nat → Bool} {held : Bool}
end
structure Ac where
  do_ : Int
  id : Int
structure Ac.ok (a : Ac) : Prop where
  do_ : 0 ≤ a.do_ ∧ a.do_ ≤ 255
  id : 0 ≤ a.id ∧ a.id ≤ 18446744073709551615
end Go.Proofs.YthmdiaingolfnaaGreatDoor.Fc
namespace Go.Proofs.YthmdiaingolfnaaGreatDoor.Fc
open Go.ChangeShapes Go.WideShapes Go.ChangeAt Go.RowKit Go.Maps Rw
set_option linter.unusedVariables false
structure Rn (w : World) (p m : Nat) (A : Option Addr) (n c : Nat) (O : List Bool) : Prop where
  rd : Rd Value.bool w w.heap.size A n c O
  ne : 0 < n → ∀ g o, A = some ⟨g, o, none⟩ → g ≠ p ∧ g ≠ m
theorem Rn.nil_ (w : World) (p m : Nat) : Rn w p m none 0 0 [] := ⟨Rd.nil_, fun h => absurd h (by omega)⟩
theorem Rn.below {w w' : World} {p m : Nat} {A : Option Addr} {n c : Nat} {O : List Bool} (h : Rn w p m A n c O) (hb : Below w.heap.size w w') : Rn w' p m A n c O := ⟨h.rd.later hb, h.ne⟩
theorem Rn.fr {w w' : World} {p m : Nat} {A : Option Addr} {n c : Nat} {O : List Bool} (h : Rn w p m A n c O) (hf : Hi.Fr (some p) (some m) w w') : Rn w' p m A n c O :=
  ⟨⟨h.rd.len, h.rd.cap, h.rd.top, fun hn => by
    obtain ⟨b, o, e, hb, hc⟩ := h.rd.at_ hn
    obtain ⟨n1, n2⟩ := h.ne hn b o e
    exact ⟨b, o, e, Nat.lt_of_lt_of_le hb hf.size, fun j x hx => (hf.cell (p := ⟨b, o + j, none⟩) hb (fun e => n1 (by injection e)) (fun e => n2 (by injection e))).trans (hc j x hx)⟩⟩, h.ne⟩
theorem Rn.of_own {w : World} {base p m : Nat} {A : Option Addr} {n c : Nat} {O : List Bool} (h : w.ownsRow base 4 1 (.slice A n c) n (O.map Value.bool)) (hp : p < base) (hm : m < base) : Rn w p m A n c O := by
  refine ⟨Rd.own_rd h, fun hn g o e => ?_⟩
  have := (h.lt g (by rw [e]; rcases h.2 with ⟨e1, e0⟩ | ⟨g', cap, cur, e1, _⟩
                      · omega
                      · injection e1 with e1 _ _
                        rw [e] at e1
                        injection e1 with e1
                        injection e1 with e1 e2
                        subst e2
                        rfl)).1
  omega
theorem Rd.app {w : World} {A : Option Addr} {n c : Nat} {O : List Bool} (h : Rd Value.bool w w.heap.size A n c O) : n ≤ 9223372036854775807 := by have := h.cap; have := h.top; omega
theorem rnext_any (A : Option Addr) (n c p m : Nat) (O : List Bool) (w : World) (h : Rn w p m A n c O) :
    Calls Tryz.prog 82 #[.slice A n c] w fun e w' => ∃ A' n' c' q, e = .returned (.tuple #[.slice A' n' c', .bool (nx O).1]) ∧ (∀ W, Rn W p m A n c O → Rn W p m A' n' c' (nx O).2) ∧ w.drewN q = w' := by
  cases O with
  | nil =>
    obtain rfl : 0 = n := h.rd.len
    clear h
    go_enter Tryz.func82, Tryz.ntmps82
    go_wp2_with fail
    exact bodyPost_ret (v := .tuple #[.slice none 0 0, .bool true]) (by simp [results, Tryz.results82, go_sem]) rfl ⟨none, 0, 0, 0, rfl, fun W _ => Rn.nil_ W p m, rfl⟩
  | cons x l =>
    have hn : (x :: l).length = n := h.rd.len
    simp at hn
    have hnc := h.rd.cap
    have htop := h.rd.top
    obtain ⟨g, o, y, rfl, hg, hx, hcx⟩ := h.rd.get (k := 0) (by omega)
    obtain rfl : x = y := by simpa using hx
    have hz : ((n : Int) == 0) = false := by simp; omega
    have hz' : (n == 0) = false := by simp; omega
    have hn1 : 1 ≤ n := by omega
    simp only [Nat.add_zero] at hcx
    have HR := Lib.hid h
    clear h hx hn
    by_cases hc1 : c = 1
    · subst hc1
      obtain rfl : n = 1 := by omega
      go_enter Tryz.func82, Tryz.ntmps82
      go_wp2_with fail
      go_region
      go_wp2_with fail
      exact bodyPost_ret (v := .tuple #[.slice (some ⟨g, o, none⟩) 0 0, .bool x]) (by simp [results, Tryz.results82, go_sem]) rfl ⟨_, _, _, 1, rfl, fun W hW => ⟨hW.rd.back (i := 1) (A' := some ⟨g, o, none⟩) (by omega) rfl (by omega), fun hk => absurd hk (by omega)⟩, rfl⟩
    · have hc2 : 1 < c := by omega
      go_enter Tryz.func82, Tryz.ntmps82
      go_wp2_with fail
      go_region
      go_wp2_with fail
      exact bodyPost_ret (v := .tuple #[.slice (some ⟨g, o + 1, none⟩) (n - 1) (c - 1), .bool x]) (by simp [results, Tryz.results82, go_sem]) rfl ⟨_, _, _, 1, rfl, fun W hW => ⟨hW.rd.back (i := 1) (A' := some ⟨g, o + 1, none⟩) (by omega) rfl (fun _ => rfl), fun _ g' o' e => by
        injection e with e
        injection e with e1 e2
        subst e1
        exact hW.ne (by omega) g o rfl⟩, rfl⟩
def Sh (n : Nat) (C : List Int) (S : List Bool) : Prop := S.length = n ∧ ∀ (i : Nat) x, S[i]? = some x → x = decide ((i : Int) + 1 ∈ C)
theorem Sh.nil_ : Sh 0 [] [] := ⟨rfl, fun i x h => by simp at h⟩
theorem Sh.snoc {n : Nat} {C : List Int} {S : List Bool} (h : Sh n C S) (hC : ∀ x ∈ C, 1 ≤ x ∧ x ≤ n) : Sh (n + 1) C (S ++ [false]) := by
  refine ⟨by simp [h.1], fun i x hx => ?_⟩
  by_cases hi : i < n
  · rw [List.getElem?_append_left (by rw [h.1]; exact hi)] at hx
    exact h.2 i x hx
  · have hl := (List.getElem?_eq_some_iff.1 hx).1
    simp [h.1] at hl
    obtain rfl : i = n := by omega
    rw [List.getElem?_append_right (by rw [h.1]; omega), h.1] at hx
    simp at hx
    subst hx
    symm
    exact decide_eq_false (fun hm => by have := hC _ hm; omega)
theorem Sh.shut {n : Nat} {C : List Int} {S : List Bool} (h : Sh n C S) {k : Nat} (hk : k < n) : Sh n (C ++ [(k : Int) + 1]) (S.set k true) := by
  refine ⟨by simp [h.1], fun i x hx => ?_⟩
  rw [List.getElem?_set] at hx
  split at hx
  · rename_i e
    subst e
    split at hx
    · injection hx with hx
      subst hx
      simp
    · cases hx
  · rename_i e
    have := h.2 i x hx
    rw [this]
    congr 1
    simp
    omega
structure Rf (w : World) (p m : Nat) (v : Value) (O P : List Bool) (n : Nat) (C : List Int) : Prop where
  form : ∃ A1 n1 c1 A2 n2 c2 A3 c3 S, v = .agg #[.slice A1 n1 c1, .slice A2 n2 c2, .slice A3 n c3] ∧ Rn w p m A1 n1 c1 O ∧ Rn w p m A2 n2 c2 P ∧ Rn w p m A3 n c3 S ∧ Sh n C S
theorem Rf.below {w w' : World} {p m n : Nat} {v : Value} {O P : List Bool} {C : List Int} (h : Rf w p m v O P n C) (hb : Below w.heap.size w w') : Rf w' p m v O P n C := by
  obtain ⟨A1, n1, c1, A2, n2, c2, A3, c3, S, e, h1, h2, h3, h4⟩ := h.form
  exact ⟨⟨A1, n1, c1, A2, n2, c2, A3, c3, S, e, h1.below hb, h2.below hb, h3.below hb, h4⟩⟩
theorem Rf.fr {w w' : World} {p m n : Nat} {v : Value} {O P : List Bool} {C : List Int} (h : Rf w p m v O P n C) (hf : Hi.Fr (some p) (some m) w w') : Rf w' p m v O P n C := by
  obtain ⟨A1, n1, c1, A2, n2, c2, A3, c3, S, e, h1, h2, h3, h4⟩ := h.form
  exact ⟨⟨A1, n1, c1, A2, n2, c2, A3, c3, S, e, h1.fr hf, h2.fr hf, h3.fr hf, h4⟩⟩
def V3 (w : World) (g : Nat) (a b c : Value) : Prop := (w.cell? ⟨g, 0, none⟩ = some a ∧ w.cell? ⟨g, 1, none⟩ = some b ∧ w.cell? ⟨g, 2, none⟩ = some c) ∧ w.frozen? ⟨g, 0, none⟩ = false ∧ w.frozen? ⟨g, 1, none⟩ = false ∧ w.frozen? ⟨g, 2, none⟩ = false
theorem V3.below {w w' : World} {g B : Nat} {a b c : Value} (h : V3 w g a b c) (hb : Below B w w') (hg : g < B) : V3 w' g a b c :=
  ⟨⟨(hb.cell (p := ⟨g, 0, none⟩) hg).trans h.1.1, (hb.cell (p := ⟨g, 1, none⟩) hg).trans h.1.2.1, (hb.cell (p := ⟨g, 2, none⟩) hg).trans h.1.2.2⟩, (hb.frozen (p := ⟨g, 0, none⟩) hg).trans h.2.1, (hb.frozen (p := ⟨g, 1, none⟩) hg).trans h.2.2.1, (hb.frozen (p := ⟨g, 2, none⟩) hg).trans h.2.2.2⟩
theorem V3.new (w : World) (a b c : Value) (t : TypeId) : V3 (w.alloc (.cells #[a, b, c] t)) w.heap.size a b c := by
  refine ⟨⟨?_, ?_, ?_⟩, ?_, ?_, ?_⟩ <;> simp
theorem V3.lt {w : World} {g : Nat} {a b c : Value} (h : V3 w g a b c) : g < w.heap.size := Lw.lt_heap h.1.1
set_option maxRecDepth 100000 in
set_option maxHeartbeats 1000000 in
theorem ropen_any (v : Value) (p m n : Nat) (O P : List Bool) (C : List Int) (w : World) (h : Rf w p m v O P n C) (hn : n ≤ 1000) (hC : ∀ x ∈ C, 1 ≤ x ∧ x ≤ n) (hp : p < w.heap.size) (hm : m < w.heap.size) :
    Calls Tryz.prog 49 #[v] w fun e w' => ∃ v', e = .returned (.tuple #[v', .int .u64 (if (nx O).1 then (n : Int) + 1 else 0), .bool (nx O).1]) ∧ Rf w' p m v' (nx O).2 P (if (nx O).1 then n + 1 else n) C ∧ Below w.heap.size w w' := by
  obtain ⟨i0, hi, hz0, hz1, hz2⟩ := info_parts info_bool
  obtain ⟨A1, n1, c1, A2, n2, c2, A3, c3, S, rfl, h1, h2, h3, h4⟩ := h.form
  have HH := Lib.hid h
  have H1 := Lib.hid h1
  have H2 := Lib.hid h2
  have H3 := Lib.hid h3
  have H4 := Lib.hid h4
  clear h h1 h2 h3 h4
  have hb1 : Below w.heap.size w (w.alloc (.cells #[.slice A1 n1 c1, .slice A2 n2 c2, .slice A3 n c3] 64)) := (Below.refl _ _).alloc (Nat.le_refl _) _
  have hba : Below w.heap.size w ((w.alloc (.cells #[.slice A1 n1 c1, .slice A2 n2 c2, .slice A3 n c3] 64)).alloc (.cells #[.slice none 0 0, .slice none 0 0, .slice none 0 0] 64)) := hb1.alloc (by simp) _
  have hvf : V3 ((w.alloc (.cells #[.slice A1 n1 c1, .slice A2 n2 c2, .slice A3 n c3] 64)).alloc (.cells #[.slice none 0 0, .slice none 0 0, .slice none 0 0] 64)) w.heap.size (.slice A1 n1 c1) (.slice A2 n2 c2) (.slice A3 n c3) := (V3.new w _ _ _ _).below ((Below.refl (w.heap.size + 1) _).alloc (by simp) _) (by omega)
  have hvr : V3 ((w.alloc (.cells #[.slice A1 n1 c1, .slice A2 n2 c2, .slice A3 n c3] 64)).alloc (.cells #[.slice none 0 0, .slice none 0 0, .slice none 0 0] 64)) (w.heap.size + 1) (.slice none 0 0) (.slice none 0 0) (.slice none 0 0) := by have := V3.new (w.alloc (.cells #[.slice A1 n1 c1, .slice A2 n2 c2, .slice A3 n c3] 64)) (.slice none 0 0) (.slice none 0 0) (.slice none 0 0) 64; rw [show (w.alloc (.cells #[.slice A1 n1 c1, .slice A2 n2 c2, .slice A3 n c3] 64)).heap.size = w.heap.size + 1 by simp] at this; exact this
  have HB := Lib.hid hba
  have HVF := Lib.hid hvf
  have HVR := Lib.hid hvr
  have hsz : ((w.alloc (.cells #[.slice A1 n1 c1, .slice A2 n2 c2, .slice A3 n c3] 64)).alloc (.cells #[.slice none 0 0, .slice none 0 0, .slice none 0 0] 64)).heap.size = w.heap.size + 2 := by simp
  have HC := Lib.hid hC
  have HBA := Lib.hid hba
  have RN := rnext_any A1 n1 c1 p m O _ (H1.out.below hba)
  have HRN := Lib.hid RN
  clear hb1 hba hvf hvr RN hC
  generalize nx O = r at *
  obtain ⟨ok, l⟩ := r
  cases ok
  · simp only [Bool.false_eq_true, if_false]
    go_enter Tryz.func49, Tryz.ntmps49
    go_wp2_with fail
    refine HRN.out.mono ?_
    rintro e w3 ⟨A', n', c', q, rfl, hn4, rfl⟩
    have hb3 : Below (w.heap.size + 2) ((w.alloc (.cells #[.slice A1 n1 c1, .slice A2 n2 c2, .slice A3 n c3] 64)).alloc (.cells #[.slice none 0 0, .slice none 0 0, .slice none 0 0] 64)) (((w.alloc (.cells #[.slice A1 n1 c1, .slice A2 n2 c2, .slice A3 n c3] 64)).alloc (.cells #[.slice none 0 0, .slice none 0 0, .slice none 0 0] 64)).drewN q) := below_drewN (Below.refl _ _) q
    have hbw := HB.out.trans (below_drewN (Below.refl w.heap.size _) q)
    obtain ⟨⟨f0, f1, f2⟩, g0, g1, g2⟩ := HVF.out.below hb3 (by omega)
    obtain ⟨⟨r0, r1, r2⟩, e0, e1, e2⟩ := HVR.out.below hb3 (by omega)
    have hs3 : (((w.alloc (.cells #[.slice A1 n1 c1, .slice A2 n2 c2, .slice A3 n c3] 64)).alloc (.cells #[.slice none 0 0, .slice none 0 0, .slice none 0 0] 64)).drewN q).heap.size = w.heap.size + 2 := by simp
    have HN := Lib.hid hn4
    have HBW := Lib.hid hbw
    clear HB hb3 HVF HVR hsz HRN hbw HBA hn4
    generalize (((w.alloc (.cells #[.slice A1 n1 c1, .slice A2 n2 c2, .slice A3 n c3] 64)).alloc (.cells #[.slice none 0 0, .slice none 0 0, .slice none 0 0] 64)).drewN q) = w3 at *
    go_wp2_with fail
    have hfin : Below w.heap.size w ((((w3.setCell ⟨w.heap.size, 0, none⟩ (.slice A' n' c')).setCell ⟨w.heap.size + 1, 0, none⟩ (.slice A' n' c')).setCell ⟨w.heap.size + 1, 1, none⟩ (.slice A2 n2 c2)).setCell ⟨w.heap.size + 1, 2, none⟩ (.slice A3 n c3)) := by
      repeat' (first | exact HBW.out | apply Below.setCell | apply below_drewN | apply Below.drew | apply Below.alloc)
      all_goals (first | (simp; done) | (simp; omega))
    refine bodyPost_ret (v := .tuple #[.agg #[.slice A' n' c', .slice A2 n2 c2, .slice A3 n c3], .int .u64 0, .bool false]) (by simp [results, Tryz.results49, go_sem, r0, r1, r2]) rfl ⟨_, rfl, ⟨⟨_, _, _, _, _, _, _, _, _, rfl, HN.out _ (H1.out.below hfin), H2.out.below hfin, H3.out.below hfin, H4.out⟩⟩, hfin⟩
  · simp only [if_true]
    go_enter Tryz.func49, Tryz.ntmps49
    go_wp2_with fail
    refine HRN.out.mono ?_
    rintro e w3 ⟨A', n', c', q, rfl, hn4, rfl⟩
    have hb3 : Below (w.heap.size + 2) ((w.alloc (.cells #[.slice A1 n1 c1, .slice A2 n2 c2, .slice A3 n c3] 64)).alloc (.cells #[.slice none 0 0, .slice none 0 0, .slice none 0 0] 64)) (((w.alloc (.cells #[.slice A1 n1 c1, .slice A2 n2 c2, .slice A3 n c3] 64)).alloc (.cells #[.slice none 0 0, .slice none 0 0, .slice none 0 0] 64)).drewN q) := below_drewN (Below.refl _ _) q
    have hbw := HB.out.trans (below_drewN (Below.refl w.heap.size _) q)
    obtain ⟨⟨f0, f1, f2⟩, g0, g1, g2⟩ := HVF.out.below hb3 (by omega)
    obtain ⟨⟨r0, r1, r2⟩, e0, e1, e2⟩ := HVR.out.below hb3 (by omega)
    have hs3 : (((w.alloc (.cells #[.slice A1 n1 c1, .slice A2 n2 c2, .slice A3 n c3] 64)).alloc (.cells #[.slice none 0 0, .slice none 0 0, .slice none 0 0] 64)).drewN q).heap.size = w.heap.size + 2 := by simp
    have HN := Lib.hid hn4
    have HBW := Lib.hid hbw
    clear HB hb3 HVF HVR hsz HRN hbw HBA hn4
    generalize (((w.alloc (.cells #[.slice A1 n1 c1, .slice A2 n2 c2, .slice A3 n c3] 64)).alloc (.cells #[.slice none 0 0, .slice none 0 0, .slice none 0 0] 64)).drewN q) = w3 at *
    have hbs : Below w.heap.size w (w3.setCell ⟨w.heap.size, 0, none⟩ (.slice A' n' c')) := HBW.out.setCell (Nat.le_refl _) _
    have hr3 := (H3.out.below hbs).rd
    have HR3 := Lib.hid hr3
    have htop : n ≤ 1000 := hn
    clear hbs hr3
    go_wp2_with (
      at_builtin
      refine append_rd _ rfl _ _ 25 rfl (w.heap.size + 2) 4 i0 (.bool false) 1 Tryz.underlying25 hi hz0 hz1 hz2 rfl _ 0 [] rfl (World.ownsRow_nil _ _ _ _) _ A3 n c3 S rfl HR3.out one_bool n (Nat.zero_add _) (S.map Value.bool) rfl (by unfold maxLen; omega) (by omega) (by simp; omega) ?_
      intro A5 c5 w5 ho5 hg5 ha5
      refine Hid.out ?_)
    refine Lib.hid ?_
    have hg5' : w3.grownBy w5 none ∨ True := .inr trivial
    have ho5b := ho5.lt
    have hbs5 : (w3.setCell ⟨w.heap.size, 0, none⟩ (.slice A' n' c')).heap.size = w3.heap.size := by simp
    have b35 : Below (w.heap.size + 2) (w3.setCell ⟨w.heap.size, 0, none⟩ (.slice A' n' c')) w5 := (Below.refl _ _).grown hg5 (by omega) (fun j hj => by cases hj)
    have f05 : w5.cell? ⟨w.heap.size, 0, none⟩ = some (.slice A' n' c') := (b35.cell (p := ⟨w.heap.size, 0, none⟩) (by simp)).trans (World.cell?_setCell_same _ _ _ f0)
    have f15 : w5.cell? ⟨w.heap.size, 1, none⟩ = some (.slice A2 n2 c2) := (b35.cell (p := ⟨w.heap.size, 1, none⟩) (by simp)).trans ((setCell_ne w3 0 1 _ (by omega)).trans f1)
    have f25 : w5.cell? ⟨w.heap.size, 2, none⟩ = some (.slice A3 n c3) := (b35.cell (p := ⟨w.heap.size, 2, none⟩) (by simp)).trans ((setCell_ne w3 0 2 _ (by omega)).trans f2)
    have g25 : w5.frozen? ⟨w.heap.size, 2, none⟩ = false := (b35.frozen (p := ⟨w.heap.size, 2, none⟩) (by simp)).trans (by simpa using g2)
    have ro (o : Nat) : (w3.setCell ⟨w.heap.size, 0, none⟩ (.slice A' n' c')).cell? ⟨w.heap.size + 1, o, none⟩ = w3.cell? ⟨w.heap.size + 1, o, none⟩ := World.cell?_setCell_other _ _ _ _ (fun e => by injection e with e; omega)
    have r05 : w5.cell? ⟨w.heap.size + 1, 0, none⟩ = some (.slice none 0 0) := (b35.cell (p := ⟨w.heap.size + 1, 0, none⟩) (by simp)).trans ((ro 0).trans r0)
    have r15 : w5.cell? ⟨w.heap.size + 1, 1, none⟩ = some (.slice none 0 0) := (b35.cell (p := ⟨w.heap.size + 1, 1, none⟩) (by simp)).trans ((ro 1).trans r1)
    have r25 : w5.cell? ⟨w.heap.size + 1, 2, none⟩ = some (.slice none 0 0) := (b35.cell (p := ⟨w.heap.size + 1, 2, none⟩) (by simp)).trans ((ro 2).trans r2)
    have e05 : w5.frozen? ⟨w.heap.size + 1, 0, none⟩ = false := (b35.frozen (p := ⟨w.heap.size + 1, 0, none⟩) (by simp)).trans (by simpa using e0)
    have e15 : w5.frozen? ⟨w.heap.size + 1, 1, none⟩ = false := (b35.frozen (p := ⟨w.heap.size + 1, 1, none⟩) (by simp)).trans (by simpa using e1)
    have e25 : w5.frozen? ⟨w.heap.size + 1, 2, none⟩ = false := (b35.frozen (p := ⟨w.heap.size + 1, 2, none⟩) (by simp)).trans (by simpa using e2)
    have HB5 := Lib.hid ((HBW.out.setCell (Nat.le_refl _) _ : Below w.heap.size w (w3.setCell ⟨w.heap.size, 0, none⟩ (.slice A' n' c'))).trans (b35.mono (by omega)))
    have hs5 : w.heap.size + 2 ≤ w5.heap.size := by have := b35.size; omega
    have HO5 := Lib.hid ho5
    clear f0 f1 f2 g0 g1 g2 r0 r1 r2 e0 e1 e2 ro b35 HBW ho5 hg5 ha5 ho5b hbs5 hg5' HR3
    go_wp2_with (
      at_builtin
      refine append_rd _ rfl _ _ 25 rfl (w.heap.size + 2) 4 i0 (.bool false) 1 Tryz.underlying25 hi hz0 hz1 hz2 rfl _ n _ rfl (HO5.out.alloc _) _ _ 1 1 [false] rfl (rd_one w5 false 4) one_bool (n + 1) rfl ((S ++ [false]).map Value.bool) (by simp) (by unfold maxLen; omega) (by omega) (by simp; omega) ?_
      intro A6 c6 w6 ho6 hg6 ha6
      refine Hid.out ?_)
    refine Lib.hid ?_
    have b56 : Below (w.heap.size + 2) w5 w6 := ((Below.refl _ _).alloc (by omega) _).grown hg6 (by simp; omega) (fun j hj => (HO5.out.lt j hj).1)
    have f06 : w6.cell? ⟨w.heap.size, 0, none⟩ = some (.slice A' n' c') := (b56.cell (p := ⟨w.heap.size, 0, none⟩) (by simp)).trans f05
    have f16 : w6.cell? ⟨w.heap.size, 1, none⟩ = some (.slice A2 n2 c2) := (b56.cell (p := ⟨w.heap.size, 1, none⟩) (by simp)).trans f15
    have f26 : w6.cell? ⟨w.heap.size, 2, none⟩ = some (.slice A3 n c3) := (b56.cell (p := ⟨w.heap.size, 2, none⟩) (by simp)).trans f25
    have g26 : w6.frozen? ⟨w.heap.size, 2, none⟩ = false := (b56.frozen (p := ⟨w.heap.size, 2, none⟩) (by simp)).trans g25
    have r06 : w6.cell? ⟨w.heap.size + 1, 0, none⟩ = some (.slice none 0 0) := (b56.cell (p := ⟨w.heap.size + 1, 0, none⟩) (by simp)).trans r05
    have r16 : w6.cell? ⟨w.heap.size + 1, 1, none⟩ = some (.slice none 0 0) := (b56.cell (p := ⟨w.heap.size + 1, 1, none⟩) (by simp)).trans r15
    have r26 : w6.cell? ⟨w.heap.size + 1, 2, none⟩ = some (.slice none 0 0) := (b56.cell (p := ⟨w.heap.size + 1, 2, none⟩) (by simp)).trans r25
    have e06 : w6.frozen? ⟨w.heap.size + 1, 0, none⟩ = false := (b56.frozen (p := ⟨w.heap.size + 1, 0, none⟩) (by simp)).trans e05
    have e16 : w6.frozen? ⟨w.heap.size + 1, 1, none⟩ = false := (b56.frozen (p := ⟨w.heap.size + 1, 1, none⟩) (by simp)).trans e15
    have e26 : w6.frozen? ⟨w.heap.size + 1, 2, none⟩ = false := (b56.frozen (p := ⟨w.heap.size + 1, 2, none⟩) (by simp)).trans e25
    have HBW := Lib.hid (HB5.out.trans (b56.mono (by omega)))
    have hs6 : w.heap.size + 2 ≤ w6.heap.size := by have := b56.size; omega
    have HO6 := Lib.hid ho6
    clear f05 f15 f25 g25 r05 r15 r25 e05 e15 e25 b56 HB5 ho6 hg6 ha6 HO5 hs5
    go_wp2_with fail
    go_region
    go_wp2_with fail
    have hfin : Below w.heap.size w (((((w6.setCell ⟨w.heap.size, 2, none⟩ (.slice A6 (n + 1) c6)).setCell ⟨w.heap.size + 1, 0, none⟩ (.slice A' n' c')).setCell ⟨w.heap.size + 1, 1, none⟩ (.slice A2 n2 c2)).setCell ⟨w.heap.size + 1, 2, none⟩ (.slice A6 (n + 1) c6)).drew) := by
      repeat' (first | exact HBW.out | apply Below.setCell | apply below_drewN | apply Below.drew | apply Below.alloc)
      all_goals (first | (simp; done) | (simp; omega))
    have hA6 : Rn (((((w6.setCell ⟨w.heap.size, 2, none⟩ (.slice A6 (n + 1) c6)).setCell ⟨w.heap.size + 1, 0, none⟩ (.slice A' n' c')).setCell ⟨w.heap.size + 1, 1, none⟩ (.slice A2 n2 c2)).setCell ⟨w.heap.size + 1, 2, none⟩ (.slice A6 (n + 1) c6)).drew) p m A6 (n + 1) c6 (S ++ [false]) := Rn.of_own (base := w.heap.size + 2) (Hi.own_same HO6.out (fun g hg => by
      have hlo := (HO6.out.lt g hg).1
      show ((((w6.setCell ⟨w.heap.size, 2, none⟩ (.slice A6 (n + 1) c6)).setCell ⟨w.heap.size + 1, 0, none⟩ (.slice A' n' c')).setCell ⟨w.heap.size + 1, 1, none⟩ (.slice A2 n2 c2)).setCell ⟨w.heap.size + 1, 2, none⟩ (.slice A6 (n + 1) c6)).heap[g]? = w6.heap[g]?
      rw [heap_setCell_other _ _ g _ (fun e => by have e : g = w.heap.size + 1 := e; omega), heap_setCell_other _ _ g _ (fun e => by have e : g = w.heap.size + 1 := e; omega), heap_setCell_other _ _ g _ (fun e => by have e : g = w.heap.size + 1 := e; omega), heap_setCell_other _ _ g _ (fun e => by have e : g = w.heap.size := e; omega)])) (by omega) (by omega)
    refine bodyPost_ret (v := .tuple #[.agg #[.slice A' n' c', .slice A2 n2 c2, .slice A6 (n + 1) c6], .int .u64 ((n : Int) + 1), .bool true]) (by simp [results, Tryz.results49, go_sem, r06, r16, r26]) rfl ⟨_, rfl, ⟨⟨_, _, _, _, _, _, _, _, _, rfl, HN.out _ (H1.out.below hfin), H2.out.below hfin, hA6, H4.out.snoc HC.out⟩⟩, hfin⟩
theorem own_set {w : World} {base g n c i : Nat} {e : TypeId} {xs : List Value} (h : w.ownsRow base e 1 (.slice (some ⟨g, 0, none⟩) n c) n xs) (u : Value) : (w.setCell ⟨g, i, none⟩ u).ownsRow base e 1 (.slice (some ⟨g, 0, none⟩) n c) n (xs.set i u) := by
  rcases h.2 with ⟨h', _⟩ | ⟨g', cap, cur, h', hb, hg, hnc, hcm, hcs, ht⟩
  · cases h'
  · injection h' with h1 _ h3
    injection h1 with h1
    injection h1 with h1
    subst h1 h3
    refine ⟨by simp [h.1], .inr ⟨g, c, cur.setIfInBounds i u, rfl, hb, ?_, hnc, hcm, by simp [hcs], ?_⟩⟩
    · simp only [World.setCell, Array.getElem?_modify, if_true, hg, Option.map_some]
      rfl
    · rw [Array.toList_setIfInBounds, List.take_set, ht]
end Go.Proofs.YthmdiaingolfnaaGreatDoor.Fc
namespace Go.Proofs.YthmdiaingolfnaaGreatDoor.Fk
open Go.ChangeShapes Go.WideShapes Go.ChangeAt Go.RowKit Go.Maps Rw Fc
set_option linter.unusedVariables false
structure Rn (K : Nat → Prop) (w : World) (A : Option Addr) (n c : Nat) (O : List Bool) : Prop where
  rd : Rd Value.bool w w.heap.size A n c O
  ne : 0 < n → ∀ g o, A = some ⟨g, o, none⟩ → K g
theorem Rn.nil_ (K : Nat → Prop) (w : World) : Rn K w none 0 0 [] := ⟨Rd.nil_, fun h => absurd h (by omega)⟩
theorem Rn.below {K : Nat → Prop} {w w' : World} {A : Option Addr} {n c : Nat} {O : List Bool} (h : Rn K w A n c O) (hb : Below w.heap.size w w') : Rn K w' A n c O := ⟨h.rd.later hb, h.ne⟩
theorem Rn.of_own {w : World} {K : Nat → Prop} {base : Nat} {A : Option Addr} {n c : Nat} {O : List Bool} (h : w.ownsRow base 4 1 (.slice A n c) n (O.map Value.bool)) (hK : ∀ g, base ≤ g → K g) : Rn K w A n c O := by
  refine ⟨Rd.own_rd h, fun hn g o e => ?_⟩
  have := (h.lt g (by rw [e]; rcases h.2 with ⟨e1, e0⟩ | ⟨g', cap, cur, e1, _⟩
                      · omega
                      · injection e1 with e1 _ _
                        rw [e] at e1
                        injection e1 with e1
                        injection e1 with e1 e2
                        subst e2
                        rfl)).1
  exact hK _ this
theorem rnext_any (A : Option Addr) {K : Nat → Prop} (n c : Nat) (O : List Bool) (w : World) (h : Rn K w A n c O) :
    Calls Tryz.prog 82 #[.slice A n c] w fun e w' => ∃ A' n' c' q, e = .returned (.tuple #[.slice A' n' c', .bool (nx O).1]) ∧ (∀ W, Rn K W A n c O → Rn K W A' n' c' (nx O).2) ∧ w.drewN q = w' := by
  cases O with
  | nil =>
    obtain rfl : 0 = n := h.rd.len
    clear h
    go_enter Tryz.func82, Tryz.ntmps82
    go_wp2_with fail
    exact bodyPost_ret (v := .tuple #[.slice none 0 0, .bool true]) (by simp [results, Tryz.results82, go_sem]) rfl ⟨none, 0, 0, 0, rfl, fun W _ => Rn.nil_ K W, rfl⟩
  | cons x l =>
    have hn : (x :: l).length = n := h.rd.len
    simp at hn
    have hnc := h.rd.cap
    have htop := h.rd.top
    obtain ⟨g, o, y, rfl, hg, hx, hcx⟩ := h.rd.get (k := 0) (by omega)
    obtain rfl : x = y := by simpa using hx
    have hz : ((n : Int) == 0) = false := by simp; omega
    have hz' : (n == 0) = false := by simp; omega
    have hn1 : 1 ≤ n := by omega
    simp only [Nat.add_zero] at hcx
    have HR := Lib.hid h
    clear h hx hn
    by_cases hc1 : c = 1
    · subst hc1
      obtain rfl : n = 1 := by omega
      go_enter Tryz.func82, Tryz.ntmps82
      go_wp2_with fail
      go_region
      go_wp2_with fail
      exact bodyPost_ret (v := .tuple #[.slice (some ⟨g, o, none⟩) 0 0, .bool x]) (by simp [results, Tryz.results82, go_sem]) rfl ⟨_, _, _, 1, rfl, fun W hW => ⟨hW.rd.back (i := 1) (A' := some ⟨g, o, none⟩) (by omega) rfl (by omega), fun hk => absurd hk (by omega)⟩, rfl⟩
    · have hc2 : 1 < c := by omega
      go_enter Tryz.func82, Tryz.ntmps82
      go_wp2_with fail
      go_region
      go_wp2_with fail
      exact bodyPost_ret (v := .tuple #[.slice (some ⟨g, o + 1, none⟩) (n - 1) (c - 1), .bool x]) (by simp [results, Tryz.results82, go_sem]) rfl ⟨_, _, _, 1, rfl, fun W hW => ⟨hW.rd.back (i := 1) (A' := some ⟨g, o + 1, none⟩) (by omega) rfl (fun _ => rfl), fun _ g' o' e => by
        injection e with e
        injection e with e1 e2
        subst e1
        exact hW.ne (by omega) g o rfl⟩, rfl⟩
structure Rf (K : Nat → Prop) (w : World) (v : Value) (O P : List Bool) (n : Nat) (C : List Int) : Prop where
  form : ∃ A1 n1 c1 A2 n2 c2 A3 c3 S, v = .agg #[.slice A1 n1 c1, .slice A2 n2 c2, .slice A3 n c3] ∧ Rn K w A1 n1 c1 O ∧ Rn K w A2 n2 c2 P ∧ Rn K w A3 n c3 S ∧ Sh n C S
theorem Rf.below {K : Nat → Prop} {w w' : World} {n : Nat} {v : Value} {O P : List Bool} {C : List Int} (h : Rf K w v O P n C) (hb : Below w.heap.size w w') : Rf K w' v O P n C := by
  obtain ⟨A1, n1, c1, A2, n2, c2, A3, c3, S, e, h1, h2, h3, h4⟩ := h.form
  exact ⟨⟨A1, n1, c1, A2, n2, c2, A3, c3, S, e, h1.below hb, h2.below hb, h3.below hb, h4⟩⟩
set_option maxRecDepth 100000 in
set_option maxHeartbeats 1000000 in
theorem ropen_any {K : Nat → Prop} (v : Value) (n : Nat) (O P : List Bool) (C : List Int) (w : World) (h : Rf K w v O P n C) (hn : n ≤ 1000) (hC : ∀ x ∈ C, 1 ≤ x ∧ x ≤ n) (hKK : ∀ g, w.heap.size ≤ g → K g) :
    Calls Tryz.prog 49 #[v] w fun e w' => ∃ v', e = .returned (.tuple #[v', .int .u64 (if (nx O).1 then (n : Int) + 1 else 0), .bool (nx O).1]) ∧ Rf K w' v' (nx O).2 P (if (nx O).1 then n + 1 else n) C ∧ Below w.heap.size w w' := by
  have HKK := Lib.hid hKK
  clear hKK
  obtain ⟨i0, hi, hz0, hz1, hz2⟩ := info_parts info_bool
  obtain ⟨A1, n1, c1, A2, n2, c2, A3, c3, S, rfl, h1, h2, h3, h4⟩ := h.form
  have HH := Lib.hid h
  have H1 := Lib.hid h1
  have H2 := Lib.hid h2
  have H3 := Lib.hid h3
  have H4 := Lib.hid h4
  clear h h1 h2 h3 h4
  have hb1 : Below w.heap.size w (w.alloc (.cells #[.slice A1 n1 c1, .slice A2 n2 c2, .slice A3 n c3] 64)) := (Below.refl _ _).alloc (Nat.le_refl _) _
  have hba : Below w.heap.size w ((w.alloc (.cells #[.slice A1 n1 c1, .slice A2 n2 c2, .slice A3 n c3] 64)).alloc (.cells #[.slice none 0 0, .slice none 0 0, .slice none 0 0] 64)) := hb1.alloc (by simp) _
  have hvf : V3 ((w.alloc (.cells #[.slice A1 n1 c1, .slice A2 n2 c2, .slice A3 n c3] 64)).alloc (.cells #[.slice none 0 0, .slice none 0 0, .slice none 0 0] 64)) w.heap.size (.slice A1 n1 c1) (.slice A2 n2 c2) (.slice A3 n c3) := (V3.new w _ _ _ _).below ((Below.refl (w.heap.size + 1) _).alloc (by simp) _) (by omega)
  have hvr : V3 ((w.alloc (.cells #[.slice A1 n1 c1, .slice A2 n2 c2, .slice A3 n c3] 64)).alloc (.cells #[.slice none 0 0, .slice none 0 0, .slice none 0 0] 64)) (w.heap.size + 1) (.slice none 0 0) (.slice none 0 0) (.slice none 0 0) := by have := V3.new (w.alloc (.cells #[.slice A1 n1 c1, .slice A2 n2 c2, .slice A3 n c3] 64)) (.slice none 0 0) (.slice none 0 0) (.slice none 0 0) 64; rw [show (w.alloc (.cells #[.slice A1 n1 c1, .slice A2 n2 c2, .slice A3 n c3] 64)).heap.size = w.heap.size + 1 by simp] at this; exact this
  have HB := Lib.hid hba
  have HVF := Lib.hid hvf
  have HVR := Lib.hid hvr
  have hsz : ((w.alloc (.cells #[.slice A1 n1 c1, .slice A2 n2 c2, .slice A3 n c3] 64)).alloc (.cells #[.slice none 0 0, .slice none 0 0, .slice none 0 0] 64)).heap.size = w.heap.size + 2 := by simp
  have HC := Lib.hid hC
  have HBA := Lib.hid hba
  have RN := rnext_any A1 n1 c1 O _ (H1.out.below hba)
  have HRN := Lib.hid RN
  clear hb1 hba hvf hvr RN hC
  generalize nx O = r at *
  obtain ⟨ok, l⟩ := r
  cases ok
  · simp only [Bool.false_eq_true, if_false]
    go_enter Tryz.func49, Tryz.ntmps49
    go_wp2_with fail
    refine HRN.out.mono ?_
    rintro e w3 ⟨A', n', c', q, rfl, hn4, rfl⟩
    have hb3 : Below (w.heap.size + 2) ((w.alloc (.cells #[.slice A1 n1 c1, .slice A2 n2 c2, .slice A3 n c3] 64)).alloc (.cells #[.slice none 0 0, .slice none 0 0, .slice none 0 0] 64)) (((w.alloc (.cells #[.slice A1 n1 c1, .slice A2 n2 c2, .slice A3 n c3] 64)).alloc (.cells #[.slice none 0 0, .slice none 0 0, .slice none 0 0] 64)).drewN q) := below_drewN (Below.refl _ _) q
    have hbw := HB.out.trans (below_drewN (Below.refl w.heap.size _) q)
    obtain ⟨⟨f0, f1, f2⟩, g0, g1, g2⟩ := HVF.out.below hb3 (by omega)
    obtain ⟨⟨r0, r1, r2⟩, e0, e1, e2⟩ := HVR.out.below hb3 (by omega)
    have hs3 : (((w.alloc (.cells #[.slice A1 n1 c1, .slice A2 n2 c2, .slice A3 n c3] 64)).alloc (.cells #[.slice none 0 0, .slice none 0 0, .slice none 0 0] 64)).drewN q).heap.size = w.heap.size + 2 := by simp
    have HN := Lib.hid hn4
    have HBW := Lib.hid hbw
    clear HB hb3 HVF HVR hsz HRN hbw HBA hn4
    generalize (((w.alloc (.cells #[.slice A1 n1 c1, .slice A2 n2 c2, .slice A3 n c3] 64)).alloc (.cells #[.slice none 0 0, .slice none 0 0, .slice none 0 0] 64)).drewN q) = w3 at *
    go_wp2_with fail
    have hfin : Below w.heap.size w ((((w3.setCell ⟨w.heap.size, 0, none⟩ (.slice A' n' c')).setCell ⟨w.heap.size + 1, 0, none⟩ (.slice A' n' c')).setCell ⟨w.heap.size + 1, 1, none⟩ (.slice A2 n2 c2)).setCell ⟨w.heap.size + 1, 2, none⟩ (.slice A3 n c3)) := by
      repeat' (first | exact HBW.out | apply Below.setCell | apply below_drewN | apply Below.drew | apply Below.alloc)
      all_goals (first | (simp; done) | (simp; omega))
    refine bodyPost_ret (v := .tuple #[.agg #[.slice A' n' c', .slice A2 n2 c2, .slice A3 n c3], .int .u64 0, .bool false]) (by simp [results, Tryz.results49, go_sem, r0, r1, r2]) rfl ⟨_, rfl, ⟨⟨_, _, _, _, _, _, _, _, _, rfl, HN.out _ (H1.out.below hfin), H2.out.below hfin, H3.out.below hfin, H4.out⟩⟩, hfin⟩
  · simp only [if_true]
    go_enter Tryz.func49, Tryz.ntmps49
    go_wp2_with fail
    refine HRN.out.mono ?_
    rintro e w3 ⟨A', n', c', q, rfl, hn4, rfl⟩
    have hb3 : Below (w.heap.size + 2) ((w.alloc (.cells #[.slice A1 n1 c1, .slice A2 n2 c2, .slice A3 n c3] 64)).alloc (.cells #[.slice none 0 0, .slice none 0 0, .slice none 0 0] 64)) (((w.alloc (.cells #[.slice A1 n1 c1, .slice A2 n2 c2, .slice A3 n c3] 64)).alloc (.cells #[.slice none 0 0, .slice none 0 0, .slice none 0 0] 64)).drewN q) := below_drewN (Below.refl _ _) q
    have hbw := HB.out.trans (below_drewN (Below.refl w.heap.size _) q)
    obtain ⟨⟨f0, f1, f2⟩, g0, g1, g2⟩ := HVF.out.below hb3 (by omega)
    obtain ⟨⟨r0, r1, r2⟩, e0, e1, e2⟩ := HVR.out.below hb3 (by omega)
    have hs3 : (((w.alloc (.cells #[.slice A1 n1 c1, .slice A2 n2 c2, .slice A3 n c3] 64)).alloc (.cells #[.slice none 0 0, .slice none 0 0, .slice none 0 0] 64)).drewN q).heap.size = w.heap.size + 2 := by simp
    have HN := Lib.hid hn4
    have HBW := Lib.hid hbw
    clear HB hb3 HVF HVR hsz HRN hbw HBA hn4
    generalize (((w.alloc (.cells #[.slice A1 n1 c1, .slice A2 n2 c2, .slice A3 n c3] 64)).alloc (.cells #[.slice none 0 0, .slice none 0 0, .slice none 0 0] 64)).drewN q) = w3 at *
    have hbs : Below w.heap.size w (w3.setCell ⟨w.heap.size, 0, none⟩ (.slice A' n' c')) := HBW.out.setCell (Nat.le_refl _) _
    have hr3 := (H3.out.below hbs).rd
    have HR3 := Lib.hid hr3
    have htop : n ≤ 1000 := hn
    clear hbs hr3
    go_wp2_with (
      at_builtin
      refine append_rd _ rfl _ _ 25 rfl (w.heap.size + 2) 4 i0 (.bool false) 1 Tryz.underlying25 hi hz0 hz1 hz2 rfl _ 0 [] rfl (World.ownsRow_nil _ _ _ _) _ A3 n c3 S rfl HR3.out one_bool n (Nat.zero_add _) (S.map Value.bool) rfl (by unfold maxLen; omega) (by omega) (by simp; omega) ?_
      intro A5 c5 w5 ho5 hg5 ha5
      refine Hid.out ?_)
    refine Lib.hid ?_
    have hg5' : w3.grownBy w5 none ∨ True := .inr trivial
    have ho5b := ho5.lt
    have hbs5 : (w3.setCell ⟨w.heap.size, 0, none⟩ (.slice A' n' c')).heap.size = w3.heap.size := by simp
    have b35 : Below (w.heap.size + 2) (w3.setCell ⟨w.heap.size, 0, none⟩ (.slice A' n' c')) w5 := (Below.refl _ _).grown hg5 (by omega) (fun j hj => by cases hj)
    have f05 : w5.cell? ⟨w.heap.size, 0, none⟩ = some (.slice A' n' c') := (b35.cell (p := ⟨w.heap.size, 0, none⟩) (by simp)).trans (World.cell?_setCell_same _ _ _ f0)
    have f15 : w5.cell? ⟨w.heap.size, 1, none⟩ = some (.slice A2 n2 c2) := (b35.cell (p := ⟨w.heap.size, 1, none⟩) (by simp)).trans ((setCell_ne w3 0 1 _ (by omega)).trans f1)
    have f25 : w5.cell? ⟨w.heap.size, 2, none⟩ = some (.slice A3 n c3) := (b35.cell (p := ⟨w.heap.size, 2, none⟩) (by simp)).trans ((setCell_ne w3 0 2 _ (by omega)).trans f2)
    have g25 : w5.frozen? ⟨w.heap.size, 2, none⟩ = false := (b35.frozen (p := ⟨w.heap.size, 2, none⟩) (by simp)).trans (by simpa using g2)
    have ro (o : Nat) : (w3.setCell ⟨w.heap.size, 0, none⟩ (.slice A' n' c')).cell? ⟨w.heap.size + 1, o, none⟩ = w3.cell? ⟨w.heap.size + 1, o, none⟩ := World.cell?_setCell_other _ _ _ _ (fun e => by injection e with e; omega)
    have r05 : w5.cell? ⟨w.heap.size + 1, 0, none⟩ = some (.slice none 0 0) := (b35.cell (p := ⟨w.heap.size + 1, 0, none⟩) (by simp)).trans ((ro 0).trans r0)
    have r15 : w5.cell? ⟨w.heap.size + 1, 1, none⟩ = some (.slice none 0 0) := (b35.cell (p := ⟨w.heap.size + 1, 1, none⟩) (by simp)).trans ((ro 1).trans r1)
    have r25 : w5.cell? ⟨w.heap.size + 1, 2, none⟩ = some (.slice none 0 0) := (b35.cell (p := ⟨w.heap.size + 1, 2, none⟩) (by simp)).trans ((ro 2).trans r2)
    have e05 : w5.frozen? ⟨w.heap.size + 1, 0, none⟩ = false := (b35.frozen (p := ⟨w.heap.size + 1, 0, none⟩) (by simp)).trans (by simpa using e0)
    have e15 : w5.frozen? ⟨w.heap.size + 1, 1, none⟩ = false := (b35.frozen (p := ⟨w.heap.size + 1, 1, none⟩) (by simp)).trans (by simpa using e1)
    have e25 : w5.frozen? ⟨w.heap.size + 1, 2, none⟩ = false := (b35.frozen (p := ⟨w.heap.size + 1, 2, none⟩) (by simp)).trans (by simpa using e2)
    have HB5 := Lib.hid ((HBW.out.setCell (Nat.le_refl _) _ : Below w.heap.size w (w3.setCell ⟨w.heap.size, 0, none⟩ (.slice A' n' c'))).trans (b35.mono (by omega)))
    have hs5 : w.heap.size + 2 ≤ w5.heap.size := by have := b35.size; omega
    have HO5 := Lib.hid ho5
    clear f0 f1 f2 g0 g1 g2 r0 r1 r2 e0 e1 e2 ro b35 HBW ho5 hg5 ha5 ho5b hbs5 hg5' HR3
    go_wp2_with (
      at_builtin
      refine append_rd _ rfl _ _ 25 rfl (w.heap.size + 2) 4 i0 (.bool false) 1 Tryz.underlying25 hi hz0 hz1 hz2 rfl _ n _ rfl (HO5.out.alloc _) _ _ 1 1 [false] rfl (rd_one w5 false 4) one_bool (n + 1) rfl ((S ++ [false]).map Value.bool) (by simp) (by unfold maxLen; omega) (by omega) (by simp; omega) ?_
      intro A6 c6 w6 ho6 hg6 ha6
      refine Hid.out ?_)
    refine Lib.hid ?_
    have b56 : Below (w.heap.size + 2) w5 w6 := ((Below.refl _ _).alloc (by omega) _).grown hg6 (by simp; omega) (fun j hj => (HO5.out.lt j hj).1)
    have f06 : w6.cell? ⟨w.heap.size, 0, none⟩ = some (.slice A' n' c') := (b56.cell (p := ⟨w.heap.size, 0, none⟩) (by simp)).trans f05
    have f16 : w6.cell? ⟨w.heap.size, 1, none⟩ = some (.slice A2 n2 c2) := (b56.cell (p := ⟨w.heap.size, 1, none⟩) (by simp)).trans f15
    have f26 : w6.cell? ⟨w.heap.size, 2, none⟩ = some (.slice A3 n c3) := (b56.cell (p := ⟨w.heap.size, 2, none⟩) (by simp)).trans f25
    have g26 : w6.frozen? ⟨w.heap.size, 2, none⟩ = false := (b56.frozen (p := ⟨w.heap.size, 2, none⟩) (by simp)).trans g25
    have r06 : w6.cell? ⟨w.heap.size + 1, 0, none⟩ = some (.slice none 0 0) := (b56.cell (p := ⟨w.heap.size + 1, 0, none⟩) (by simp)).trans r05
    have r16 : w6.cell? ⟨w.heap.size + 1, 1, none⟩ = some (.slice none 0 0) := (b56.cell (p := ⟨w.heap.size + 1, 1, none⟩) (by simp)).trans r15
    have r26 : w6.cell? ⟨w.heap.size + 1, 2, none⟩ = some (.slice none 0 0) := (b56.cell (p := ⟨w.heap.size + 1, 2, none⟩) (by simp)).trans r25
    have e06 : w6.frozen? ⟨w.heap.size + 1, 0, none⟩ = false := (b56.frozen (p := ⟨w.heap.size + 1, 0, none⟩) (by simp)).trans e05
    have e16 : w6.frozen? ⟨w.heap.size + 1, 1, none⟩ = false := (b56.frozen (p := ⟨w.heap.size + 1, 1, none⟩) (by simp)).trans e15
    have e26 : w6.frozen? ⟨w.heap.size + 1, 2, none⟩ = false := (b56.frozen (p := ⟨w.heap.size + 1, 2, none⟩) (by simp)).trans e25
    have HBW := Lib.hid (HB5.out.trans (b56.mono (by omega)))
    have hs6 : w.heap.size + 2 ≤ w6.heap.size := by have := b56.size; omega
    have HO6 := Lib.hid ho6
    clear f05 f15 f25 g25 r05 r15 r25 e05 e15 e25 b56 HB5 ho6 hg6 ha6 HO5 hs5
    go_wp2_with fail
    go_region
    go_wp2_with fail
    have hfin : Below w.heap.size w (((((w6.setCell ⟨w.heap.size, 2, none⟩ (.slice A6 (n + 1) c6)).setCell ⟨w.heap.size + 1, 0, none⟩ (.slice A' n' c')).setCell ⟨w.heap.size + 1, 1, none⟩ (.slice A2 n2 c2)).setCell ⟨w.heap.size + 1, 2, none⟩ (.slice A6 (n + 1) c6)).drew) := by
      repeat' (first | exact HBW.out | apply Below.setCell | apply below_drewN | apply Below.drew | apply Below.alloc)
      all_goals (first | (simp; done) | (simp; omega))
    have hA6 : Rn K (((((w6.setCell ⟨w.heap.size, 2, none⟩ (.slice A6 (n + 1) c6)).setCell ⟨w.heap.size + 1, 0, none⟩ (.slice A' n' c')).setCell ⟨w.heap.size + 1, 1, none⟩ (.slice A2 n2 c2)).setCell ⟨w.heap.size + 1, 2, none⟩ (.slice A6 (n + 1) c6)).drew) A6 (n + 1) c6 (S ++ [false]) := Rn.of_own (base := w.heap.size + 2) (Hi.own_same HO6.out (fun g hg => by
      have hlo := (HO6.out.lt g hg).1
      show ((((w6.setCell ⟨w.heap.size, 2, none⟩ (.slice A6 (n + 1) c6)).setCell ⟨w.heap.size + 1, 0, none⟩ (.slice A' n' c')).setCell ⟨w.heap.size + 1, 1, none⟩ (.slice A2 n2 c2)).setCell ⟨w.heap.size + 1, 2, none⟩ (.slice A6 (n + 1) c6)).heap[g]? = w6.heap[g]?
      rw [heap_setCell_other _ _ g _ (fun e => by have e : g = w.heap.size + 1 := e; omega), heap_setCell_other _ _ g _ (fun e => by have e : g = w.heap.size + 1 := e; omega), heap_setCell_other _ _ g _ (fun e => by have e : g = w.heap.size + 1 := e; omega), heap_setCell_other _ _ g _ (fun e => by have e : g = w.heap.size := e; omega)])) (fun g hg => HKK.out g (by omega))
    refine bodyPost_ret (v := .tuple #[.agg #[.slice A' n' c', .slice A2 n2 c2, .slice A6 (n + 1) c6], .int .u64 ((n : Int) + 1), .bool true]) (by simp [results, Tryz.results49, go_sem, r06, r16, r26]) rfl ⟨_, rfl, ⟨⟨_, _, _, _, _, _, _, _, _, rfl, HN.out _ (H1.out.below hfin), H2.out.below hfin, hA6, H4.out.snoc HC.out⟩⟩, hfin⟩
end Go.Proofs.YthmdiaingolfnaaGreatDoor.Fk
