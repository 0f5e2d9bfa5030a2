/- The library's sort at uint64: the choice of a pivot. -/
import Derived.Test.YtbdcdofjcljliaaGreatDoorSortKit
namespace Go.Proofs.YtbdcdofjcljliaaGreatDoor.So
open Go.ChangeShapes Go.WideShapes Go.ChangeAt Go.RowKit Rw
set_option linter.unusedVariables false

/-- The row stays; the count of exchanges, in block sb, is some number. -/
structure Sw (g sb n : Nat) (d : List Int) (w w' : World) : Prop where
  row : Row w' g n d
  cell : ∃ k : Int, w'.cell? ⟨sb, 0, none⟩ = some (.int .i64 k)
  free : w'.frozen? ⟨sb, 0, none⟩ = false
  grown : w.grownBy w' (some sb)
theorem Sw.trans {g sb n : Nat} {d : List Int} {w w1 w2 : World} (h : Sw g sb n d w w1) (h' : Sw g sb n d w1 w2) : Sw g sb n d w w2 := ⟨h'.row, h'.cell, h'.free, h.grown.trans h'.grown⟩
theorem Row.other {w : World} {g n : Nat} {d : List Int} (h : Row w g n d) {p : Addr} (hp : p.block ≠ g) (v : Value) : Row (w.setCell p v) g n d :=
  ⟨h.len, fun j x hx => (World.cell?_setCell_other w p _ v (fun e => hp (by rw [e]))).trans (h.cell j x hx), fun j hj => by rw [World.frozen?_setCell]; exact h.free j hj⟩

def Two (i j : Nat) (G : World → Prop) (e : Ending) (w' : World) : Prop := ∃ p q : Nat, e = .returned (.tuple #[.int .i64 p, .int .i64 q]) ∧ ((p = i ∧ q = j) ∨ (p = j ∧ q = i)) ∧ G w'
set_option maxHeartbeats 2000000 in
set_option maxRecDepth 100000 in
theorem order2_any (g n c sb : Nat) (d : List Int) (i j : Nat) (w : World) (h : Row w g n d) (hi : i < n) (hj : j < n) (hn : n ≤ 1152921504606846976) (hs : ∃ k : Int, w.cell? ⟨sb, 0, none⟩ = some (.int .i64 k)) (hf : w.frozen? ⟨sb, 0, none⟩ = false) (hne : sb ≠ g) :
    Calls Tryz.prog 147 #[.slice (some ⟨g, 0, none⟩) n c, .int .i64 i, .int .i64 j, .pointer (some ⟨sb, 0, none⟩)] w (Two i j (Sw g sb n d w)) := by
  obtain ⟨k, hk⟩ := hs
  obtain ⟨x, hx, hcx⟩ := h.get hi
  obtain ⟨y, hy, hcy⟩ := h.get hj
  have HR := Lib.hid h
  have HNE := Lib.hid hne
  have b0 : (0 : Int) ≤ (i : Int) := by omega
  have b1 : (i : Int) < (n : Int) := by omega
  have b2 : (0 : Int) ≤ (j : Int) := by omega
  have b3 : (j : Int) < (n : Int) := by omega
  clear h hx hy hne
  by_cases hyx : y < x
  · have q1 : decide (y < x) = true := by simpa using hyx
    go_enter Tryz.func147, Tryz.ntmps147
    go_wp2
    go_quiet ((go_at_call 110; first | exact less_quiet _ _ | exact less_quiet2 _ _))
    go_wp2
    go_ret2
    exact ⟨j, i, rfl, .inr ⟨rfl, rfl⟩, (HR.out.drewN nq).other (p := ⟨sb, 0, none⟩) HNE.out _, ⟨_, World.cell?_setCell_same (w.drewN nq) ⟨sb, 0, none⟩ _ hk⟩, by rw [World.frozen?_setCell]; exact hf, (grown_drewN _ _ _).trans (grown_setCell _ _ _ _)⟩
  · have q1 : decide (y < x) = false := by simpa using hyx
    go_enter Tryz.func147, Tryz.ntmps147
    go_wp2
    go_quiet ((go_at_call 110; first | exact less_quiet _ _ | exact less_quiet2 _ _))
    go_wp2
    go_ret2
    exact ⟨i, j, rfl, .inl ⟨rfl, rfl⟩, HR.out.drewN nq, ⟨k, hk⟩, hf, grown_drewN _ _ _⟩

def One (p : Nat → Prop) (G : World → Prop) (e : Ending) (w' : World) : Prop := ∃ r : Nat, e = .returned (.int .i64 r) ∧ p r ∧ G w'
set_option maxHeartbeats 2000000 in
set_option maxRecDepth 100000 in
theorem median_any (g n c sb : Nat) (d : List Int) (i j k : Nat) (w : World) (h : Row w g n d) (hi : i < n) (hj : j < n) (hk : k < n) (hn : n ≤ 1152921504606846976) (hs : ∃ k : Int, w.cell? ⟨sb, 0, none⟩ = some (.int .i64 k)) (hf : w.frozen? ⟨sb, 0, none⟩ = false) (hne : sb ≠ g) :
    Calls Tryz.prog 131 #[.slice (some ⟨g, 0, none⟩) n c, .int .i64 i, .int .i64 j, .int .i64 k, .pointer (some ⟨sb, 0, none⟩)] w (One (fun r => r = i ∨ r = j ∨ r = k) (Sw g sb n d w)) := by
  have HR := Lib.hid h
  have HS := Lib.hid hs
  have HNE := Lib.hid hne
  have HF := Lib.hid hf
  clear h hs hne hf
  go_enter Tryz.func131, Tryz.ntmps131
  go_wp2_with fail
  refine (order2_any g n c sb d i j _ HR.out hi hj hn HS.out HF.out HNE.out).mono ?_
  rintro e w1 ⟨p, q, rfl, hpq, h1⟩
  have H1 := Lib.hid h1
  have hp : p < n := by omega
  have hq : q < n := by omega
  have HPQ := Lib.hid hpq
  clear h1 hpq
  go_wp2_with fail
  refine (order2_any g n c sb d q k _ H1.out.row hq hk hn H1.out.cell H1.out.free HNE.out).mono ?_
  rintro e w2 ⟨p2, q2, rfl, hpq2, h2⟩
  have H2 := Lib.hid h2
  have hp2 : p2 < n := by omega
  have HPQ2 := Lib.hid hpq2
  clear h2 hpq2
  go_wp2_with fail
  refine (order2_any g n c sb d p p2 _ H2.out.row hp hp2 hn H2.out.cell H2.out.free HNE.out).mono ?_
  rintro e w3 ⟨p3, q3, rfl, hpq3, h3⟩
  have H3 := Lib.hid h3
  have HPQ3 := Lib.hid hpq3
  clear h3 hpq3
  go_wp2_with fail
  go_ret
  exact ⟨q3, rfl, by have := HPQ.out; have := HPQ2.out; have := HPQ3.out; omega, (H1.out.trans H2.out).trans H3.out⟩

set_option maxHeartbeats 2000000 in
set_option maxRecDepth 100000 in
theorem adjacent_any (g n c sb : Nat) (d : List Int) (i : Nat) (w : World) (h : Row w g n d) (hi0 : 1 ≤ i) (hi : i + 1 < n) (hn : n ≤ 1152921504606846976) (hs : ∃ k : Int, w.cell? ⟨sb, 0, none⟩ = some (.int .i64 k)) (hf : w.frozen? ⟨sb, 0, none⟩ = false) (hne : sb ≠ g) :
    Calls Tryz.prog 130 #[.slice (some ⟨g, 0, none⟩) n c, .int .i64 i, .pointer (some ⟨sb, 0, none⟩)] w (One (fun r => i ≤ r + 1 ∧ r ≤ i + 1) (Sw g sb n d w)) := by
  have HR := Lib.hid h
  have HS := Lib.hid hs
  have HNE := Lib.hid hne
  have HF := Lib.hid hf
  clear h hs hne hf
  go_enter Tryz.func130, Tryz.ntmps130
  go_wp2_with fail
  rw [show (i : Int) - 1 = ((i - 1 : Nat) : Int) by omega, show (i : Int) + 1 = ((i + 1 : Nat) : Int) by omega]
  refine (median_any g n c sb d (i - 1) i (i + 1) _ HR.out (by omega) (by omega) (by omega) hn HS.out HF.out HNE.out).mono ?_
  rintro e w1 ⟨r, rfl, hr, h1⟩
  have H1 := Lib.hid h1
  clear h1
  go_wp2_with fail
  go_ret
  exact ⟨r, rfl, by omega, H1.out⟩

theorem grown_new {w w' : World} {o : Obj} (h : (w.alloc o).grownBy w' (some w.heap.size)) (r : Option Nat) : w.grownBy w' r :=
  ⟨h.os, h.tape, h.output, by have := h.size; simp at this; omega, fun k hk _ => (h.block k (by simp; omega) (by simp; omega)).trans (Below.heap_alloc w o k hk)⟩
def Piv (a b : Nat) (G : World → Prop) (e : Ending) (w' : World) : Prop := ∃ (r : Nat) (t : Int), e = .returned (.tuple #[.int .i64 r, .int .i64 t]) ∧ a ≤ r ∧ r < b ∧ (t = 0 ∨ t = 1 ∨ t = 2) ∧ G w'
set_option maxHeartbeats 4000000 in
set_option maxRecDepth 100000 in
theorem pivot_any (g n c : Nat) (d : List Int) (a b : Nat) (w : World) (h : Row w g n d) (hab : a + 12 < b) (hb : b ≤ n) (hn : n ≤ 1152921504606846976) :
    Calls Tryz.prog 107 #[.slice (some ⟨g, 0, none⟩) n c, .int .i64 a, .int .i64 b] w (Piv a b (Pm g n d w)) := by
  have hgl := h.lt (by omega)
  have HR := Lib.hid h
  clear h
  obtain ⟨q, hq⟩ : ∃ q : Nat, b = a + q := ⟨b - a, by omega⟩
  obtain ⟨t, ht⟩ : ∃ t : Nat, t = q / 4 := ⟨_, rfl⟩
  have e1 : (b : Int) - (a : Int) = (q : Int) := by omega
  have e2 : (q : Int) / 4 = (t : Int) := by omega
  have ht0 : 3 ≤ t := by omega
  have ht1 : t * 4 ≤ q := by omega
  have hqb : a + q = b := by omega
  have HQ := Lib.hid hqb
  clear hq ht hqb
  have hqn : a + q ≤ n := by have := HQ.out; omega
  have ra : Row (w.alloc (.cells #[.int .i64 0] 3)) g n d := ⟨HR.out.len, fun j x hx => alloc_cell (HR.out.cell j x hx) _, fun j hj => alloc_frozen (HR.out.free j hj) hgl _⟩
  have sc : ∃ k : Int, (w.alloc (.cells #[.int .i64 0] 3)).cell? ⟨w.heap.size, 0, none⟩ = some (.int .i64 k) := ⟨0, by go_simp⟩
  have sf : (w.alloc (.cells #[.int .i64 0] 3)).frozen? ⟨w.heap.size, 0, none⟩ = false := by go_simp
  have hne : w.heap.size ≠ g := by omega
  have RA := Lib.hid ra
  have SC := Lib.hid sc
  have SF := Lib.hid sf
  have HNE := Lib.hid hne
  clear ra sc sf hne
  by_cases h50 : 50 ≤ q
  · go_enter Tryz.func107, Tryz.ntmps107
    go_wp2_with fail
    rw [show (a : Int) + (t : Int) = ((a + t : Nat) : Int) by omega]
    refine (adjacent_any g n c w.heap.size d (a + t) _ RA.out (by omega) (by omega) hn SC.out SF.out HNE.out).mono ?_
    rintro e w1 ⟨r1, rfl, hr1, h1⟩
    have H1 := Lib.hid h1
    clear h1
    go_wp2_with fail
    rw [show (a : Int) + (t : Int) * 2 = ((a + t * 2 : Nat) : Int) by omega]
    refine (adjacent_any g n c w.heap.size d (a + t * 2) _ H1.out.row (by omega) (by omega) hn H1.out.cell H1.out.free HNE.out).mono ?_
    rintro e w2 ⟨r2, rfl, hr2, h2⟩
    have H2 := Lib.hid h2
    clear h2
    go_wp2_with fail
    rw [show (a : Int) + (t : Int) * 3 = ((a + t * 3 : Nat) : Int) by omega]
    refine (adjacent_any g n c w.heap.size d (a + t * 3) _ H2.out.row (by omega) (by omega) hn H2.out.cell H2.out.free HNE.out).mono ?_
    rintro e w3 ⟨r3, rfl, hr3, h3⟩
    have H3 := Lib.hid h3
    clear h3
    go_wp2_with fail
    refine (median_any g n c w.heap.size d r1 r2 r3 _ H3.out.row (by omega) (by omega) (by omega) hn H3.out.cell H3.out.free HNE.out).mono ?_
    rintro e W9 ⟨r, rfl, hr, h4⟩
    have HT := Lib.hid (((H1.out.trans H2.out).trans H3.out).trans h4); clear h4
    obtain ⟨k, hk⟩ := HT.out.cell
    have hP : Pm g n d w W9 := ⟨d, List.Perm.refl _, HT.out.row, grown_new HT.out.grown _⟩
    have HPP := Lib.hid hP
    clear hP
    by_cases k0 : k = 0
    · subst k0
      go_wp2_with fail
      go_ret2
      exact ⟨r, 1, rfl, by have := HQ.out; omega, by have := HQ.out; omega, by omega, HPP.out⟩
    · have q0 : (k == 0) = false := by simpa using k0
      by_cases k12 : k = 12
      · subst k12
        go_wp2_with fail
        go_ret2
        exact ⟨r, 2, rfl, by have := HQ.out; omega, by have := HQ.out; omega, by omega, HPP.out⟩
      · have q12 : (k == 12) = false := by simpa using k12
        go_wp2_with fail
        go_ret2
        exact ⟨r, 0, rfl, by have := HQ.out; omega, by have := HQ.out; omega, by omega, HPP.out⟩
  · have h50' : q < 50 := by omega
    go_enter Tryz.func107, Tryz.ntmps107
    go_wp2_with fail
    rw [show (a : Int) + (t : Int) = ((a + t : Nat) : Int) by omega, show (a : Int) + (t : Int) * 2 = ((a + t * 2 : Nat) : Int) by omega, show (a : Int) + (t : Int) * 3 = ((a + t * 3 : Nat) : Int) by omega]
    refine (median_any g n c w.heap.size d (a + t) (a + t * 2) (a + t * 3) _ RA.out (by omega) (by omega) (by omega) hn SC.out SF.out HNE.out).mono ?_
    rintro e W9 ⟨r, rfl, hr, h4⟩
    have HT := Lib.hid h4; clear h4
    obtain ⟨k, hk⟩ := HT.out.cell
    have hP : Pm g n d w W9 := ⟨d, List.Perm.refl _, HT.out.row, grown_new HT.out.grown _⟩
    have HPP := Lib.hid hP
    clear hP
    by_cases k0 : k = 0
    · subst k0
      go_wp2_with fail
      go_ret2
      exact ⟨r, 1, rfl, by have := HQ.out; omega, by have := HQ.out; omega, by omega, HPP.out⟩
    · have q0 : (k == 0) = false := by simpa using k0
      by_cases k12 : k = 12
      · subst k12
        go_wp2_with fail
        go_ret2
        exact ⟨r, 2, rfl, by have := HQ.out; omega, by have := HQ.out; omega, by omega, HPP.out⟩
      · have q12 : (k == 12) = false := by simpa using k12
        go_wp2_with fail
        go_ret2
        exact ⟨r, 0, rfl, by have := HQ.out; omega, by have := HQ.out; omega, by omega, HPP.out⟩
end Go.Proofs.YtbdcdofjcljliaaGreatDoor.So
