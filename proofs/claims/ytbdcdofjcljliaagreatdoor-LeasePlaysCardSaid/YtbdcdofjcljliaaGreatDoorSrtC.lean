/- The library's sort at uint64, in order: the choice of a pivot turns nothing. -/
import Derived.Test.YtbdcdofjcljliaaGreatDoorSortC
namespace Go.Proofs.YtbdcdofjcljliaaGreatDoor.So
open Go.ChangeShapes Go.WideShapes Go.ChangeAt Go.RowKit Rw
set_option linter.unusedVariables false

set_option maxHeartbeats 4000000 in
set_option maxRecDepth 100000 in
theorem pivot_srt (g n c : Nat) (d : List Int) (a b : Nat) (w : World) (h : Row w g n d) (hab : a + 12 < b) (hb : b ≤ n) (hn : n ≤ 1152921504606846976) :
    Calls Tryz.prog 107 #[.slice (some ⟨g, 0, none⟩) n c, .int .i64 a, .int .i64 b] w (Piv a b (fun w' => Row w' g n d ∧ w.grownBy w' (some g))) := by
  have hgl := h.lt (by omega)
  have HR := Lib.hid h
  clear h
  obtain ⟨q, hq⟩ : ∃ q : Nat, b = a + q := ⟨b - a, by omega⟩
  obtain ⟨t, ht⟩ : ∃ t : Nat, t = q / 4 := ⟨_, rfl⟩
  have e1 : (b : Int) - (a : Int) = (q : Int) := by omega
  have e2 : (q : Int) / 4 = (t : Int) := by omega
  have ht0 : 3 ≤ t := by omega
  have ht1 : t * 4 ≤ q := by omega
  have hqb : a + q = b := by omega
  have HQ := Lib.hid hqb
  clear hq ht hqb
  have hqn : a + q ≤ n := by have := HQ.out; omega
  have ra : Row (w.alloc (.cells #[.int .i64 0] 3)) g n d := ⟨HR.out.len, fun j x hx => alloc_cell (HR.out.cell j x hx) _, fun j hj => alloc_frozen (HR.out.free j hj) hgl _⟩
  have sc : ∃ k : Int, (w.alloc (.cells #[.int .i64 0] 3)).cell? ⟨w.heap.size, 0, none⟩ = some (.int .i64 k) := ⟨0, by go_simp⟩
  have sf : (w.alloc (.cells #[.int .i64 0] 3)).frozen? ⟨w.heap.size, 0, none⟩ = false := by go_simp
  have hne : w.heap.size ≠ g := by omega
  have RA := Lib.hid ra
  have SC := Lib.hid sc
  have SF := Lib.hid sf
  have HNE := Lib.hid hne
  clear ra sc sf hne
  by_cases h50 : 50 ≤ q
  · go_enter Tryz.func107, Tryz.ntmps107
    go_wp2_with fail
    rw [show (a : Int) + (t : Int) = ((a + t : Nat) : Int) by omega]
    refine (adjacent_any g n c w.heap.size d (a + t) _ RA.out (by omega) (by omega) hn SC.out SF.out HNE.out).mono ?_
    rintro e w1 ⟨r1, rfl, hr1, h1⟩
    have H1 := Lib.hid h1
    clear h1
    go_wp2_with fail
    rw [show (a : Int) + (t : Int) * 2 = ((a + t * 2 : Nat) : Int) by omega]
    refine (adjacent_any g n c w.heap.size d (a + t * 2) _ H1.out.row (by omega) (by omega) hn H1.out.cell H1.out.free HNE.out).mono ?_
    rintro e w2 ⟨r2, rfl, hr2, h2⟩
    have H2 := Lib.hid h2
    clear h2
    go_wp2_with fail
    rw [show (a : Int) + (t : Int) * 3 = ((a + t * 3 : Nat) : Int) by omega]
    refine (adjacent_any g n c w.heap.size d (a + t * 3) _ H2.out.row (by omega) (by omega) hn H2.out.cell H2.out.free HNE.out).mono ?_
    rintro e w3 ⟨r3, rfl, hr3, h3⟩
    have H3 := Lib.hid h3
    clear h3
    go_wp2_with fail
    refine (median_any g n c w.heap.size d r1 r2 r3 _ H3.out.row (by omega) (by omega) (by omega) hn H3.out.cell H3.out.free HNE.out).mono ?_
    rintro e W9 ⟨r, rfl, hr, h4⟩
    have HT := Lib.hid (((H1.out.trans H2.out).trans H3.out).trans h4); clear h4
    obtain ⟨k, hk⟩ := HT.out.cell
    have hP : Row W9 g n d ∧ w.grownBy W9 (some g) := ⟨HT.out.row, grown_new HT.out.grown _⟩
    have HPP := Lib.hid hP
    clear hP
    by_cases k0 : k = 0
    · subst k0
      go_wp2_with fail
      go_ret2
      exact ⟨r, 1, rfl, by have := HQ.out; omega, by have := HQ.out; omega, by omega, HPP.out⟩
    · have q0 : (k == 0) = false := by simpa using k0
      by_cases k12 : k = 12
      · subst k12
        go_wp2_with fail
        go_ret2
        exact ⟨r, 2, rfl, by have := HQ.out; omega, by have := HQ.out; omega, by omega, HPP.out⟩
      · have q12 : (k == 12) = false := by simpa using k12
        go_wp2_with fail
        go_ret2
        exact ⟨r, 0, rfl, by have := HQ.out; omega, by have := HQ.out; omega, by omega, HPP.out⟩
  · have h50' : q < 50 := by omega
    go_enter Tryz.func107, Tryz.ntmps107
    go_wp2_with fail
    rw [show (a : Int) + (t : Int) = ((a + t : Nat) : Int) by omega, show (a : Int) + (t : Int) * 2 = ((a + t * 2 : Nat) : Int) by omega, show (a : Int) + (t : Int) * 3 = ((a + t * 3 : Nat) : Int) by omega]
    refine (median_any g n c w.heap.size d (a + t) (a + t * 2) (a + t * 3) _ RA.out (by omega) (by omega) (by omega) hn SC.out SF.out HNE.out).mono ?_
    rintro e W9 ⟨r, rfl, hr, h4⟩
    have HT := Lib.hid h4; clear h4
    obtain ⟨k, hk⟩ := HT.out.cell
    have hP : Row W9 g n d ∧ w.grownBy W9 (some g) := ⟨HT.out.row, grown_new HT.out.grown _⟩
    have HPP := Lib.hid hP
    clear hP
    by_cases k0 : k = 0
    · subst k0
      go_wp2_with fail
      go_ret2
      exact ⟨r, 1, rfl, by have := HQ.out; omega, by have := HQ.out; omega, by omega, HPP.out⟩
    · have q0 : (k == 0) = false := by simpa using k0
      by_cases k12 : k = 12
      · subst k12
        go_wp2_with fail
        go_ret2
        exact ⟨r, 2, rfl, by have := HQ.out; omega, by have := HQ.out; omega, by omega, HPP.out⟩
      · have q12 : (k == 12) = false := by simpa using k12
        go_wp2_with fail
        go_ret2
        exact ⟨r, 0, rfl, by have := HQ.out; omega, by have := HQ.out; omega, by omega, HPP.out⟩
end Go.Proofs.YtbdcdofjcljliaaGreatDoor.So
