/- Picks' Some. -/
import Derived.Test.YtmnjdmcocifogaaGreatDoorPicks
import Derived.Maps.Range
namespace Go.Proofs.YtmnjdmcocifogaaGreatDoor.Pi
open Go.ChangeShapes Go.WideShapes Go.ChangeAt Go.RowKit Rw
set_option linter.unusedVariables false

theorem Pk.grown {w w' : World} {g : Nat} {l : List Int} {t : Int} {row : Option Nat} (h : Pk w g l t) (hg : w.grownBy w' row) (hlt : ∀ j, row = some j → g < j) : Pk w' g l t := by
  have hl := h.lt
  obtain ⟨A, n, c, h0, hr⟩ := h.script
  have hne : some g ≠ row := by intro e; have := hlt g e.symm; omega
  refine ⟨⟨A, n, c, hg.cell h0 hne, ?_⟩, hg.cell h.turn hne, grown_frozen hg h.free0 hl hne, grown_frozen hg h.free1 hl hne, h.lo⟩
  exact hr.grown hg (by omega) (fun j hj => by have := hlt j hj; omega)
/-- The k-th that is taken. -/
def val (l : List Int) (t : Int) (k : Nat) : Int := if h : k < l.length then l[k] else t + ((k - l.length : Nat) : Int)
theorem tk_drop (l : List Int) (t : Int) (k : Nat) : tk (l.drop k) (t + ((k - l.length : Nat) : Int)) = (val l t k, l.drop (k + 1), t + ((k + 1 - l.length : Nat) : Int)) := by
  unfold val
  by_cases h : k < l.length
  · rw [List.drop_eq_getElem_cons h, dif_pos h]
    have h1 : k - l.length = 0 := by omega
    have h2 : k + 1 - l.length = 0 := by omega
    simp [tk, h1, h2]
  · rw [List.drop_eq_nil_of_le (by omega), List.drop_eq_nil_of_le (by omega), dif_neg h]
    have h2 : k + 1 - l.length = (k - l.length) + 1 := by omega
    simp only [tk, h2]
    congr 2
    push_cast
    omega
/-- What is taken, so many times of n. -/
def outs (l : List Int) (t n : Int) (k : Nat) : List Int := (List.range k).map fun j => val l t j % n
theorem outs_succ (l : List Int) (t n : Int) (k : Nat) : outs l t n (k + 1) = outs l t n k ++ [val l t k % n] := by
  unfold outs; rw [List.range_succ, List.map_append]; rfl
theorem some_zero (P : Value) (n k : Int) (hk : k ≤ 0) (w : World) :
    Calls Tryz.prog 67 #[P, .int .i64 n, .int .i64 k] w fun e w' => e = .returned (.slice none 0 0) ∧ w = w' := by
  have hm : min k 10000 = k := by omega
  have hd : decide ((0 : Int) < k) = false := decide_eq_false (by omega)
  go_enter Tryz.func67, Tryz.ntmps67
  go_wp2_with fail
  go_loopw [7, 12] (fun v i wr => v = .slice none 0 0 ∧ i = .int .i64 0 ∧ wr = w) (fun _ _ _ => 0)
  case atStart => exact ⟨rfl, rfl, rfl⟩
  case round =>
    obtain ⟨rfl, rfl, rfl⟩ := hrel
    go_wp2_with fail
    go_ret
    exact ⟨rfl, rfl⟩
theorem some_nil (n k : Int) (hk : 1 ≤ k) (hk' : k ≤ 10000) (w : World) :
    Calls Tryz.prog 67 #[.pointer none, .int .i64 n, .int .i64 k] w fun e w' => e = .returned (.slice none 0 0) ∧ w = w' := by
  have hd : decide ((0 : Int) < k) = true := decide_eq_true (by omega)
  have hm : min k 10000 = k := by omega
  go_enter Tryz.func67, Tryz.ntmps67
  go_wp2_with fail
  go_loopw [7, 12] (fun v i wr => v = .slice none 0 0 ∧ i = .int .i64 0 ∧ wr = w) (fun _ _ _ => 0)
  case atStart => exact ⟨rfl, rfl, rfl⟩
  case round =>
    obtain ⟨rfl, rfl, rfl⟩ := hrel
    go_wp2_with fail
    refine (next_nil _ _).mono ?_
    rintro e w1 ⟨rfl, rfl⟩
    go_wp2_with fail
    go_ret
    exact ⟨rfl, rfl⟩
theorem some_low (g : Nat) (n k : Int) (hn : n < 1) (hk : 1 ≤ k) (hk' : k ≤ 10000) (w : World) :
    Calls Tryz.prog 67 #[.pointer (some ⟨g, 0, none⟩), .int .i64 n, .int .i64 k] w fun e w' => e = .returned (.slice none 0 0) ∧ w = w' := by
  have hd : decide ((0 : Int) < k) = true := decide_eq_true (by omega)
  have hm : min k 10000 = k := by omega
  go_enter Tryz.func67, Tryz.ntmps67
  go_wp2_with fail
  go_loopw [7, 12] (fun v i wr => v = .slice none 0 0 ∧ i = .int .i64 0 ∧ wr = w) (fun _ _ _ => 0)
  case atStart => exact ⟨rfl, rfl, rfl⟩
  case round =>
    obtain ⟨rfl, rfl, rfl⟩ := hrel
    go_wp2_with fail
    refine (next_low _ _ hn _).mono ?_
    rintro e w1 ⟨rfl, rfl⟩
    go_wp2_with fail
    go_ret
    exact ⟨rfl, rfl⟩
set_option maxRecDepth 100000 in
set_option maxHeartbeats 2000000 in
theorem some_any (g : Nat) (l : List Int) (t n : Int) (k : Nat) (hn : 1 ≤ n) (hn' : n ≤ 9223372036854775807) (hk : k ≤ 10000) (w : World) (h : Pk w g l t) (ht : 0 ≤ t) (ht' : t + k ≤ 9223372036854775807) :
    Calls Tryz.prog 67 #[.pointer (some ⟨g, 0, none⟩), .int .i64 n, .int .i64 k] w fun e w' => ∃ A' c', e = .returned (.slice A' k c') ∧
      w'.ownsRow w.heap.size 3 1 (.slice A' k c') k ((outs l t n k).map (Value.int .i64)) ∧ Pk w' g (l.drop k) (t + ((k - l.length : Nat) : Int)) ∧ w.grownBy w' (some g) := by
  obtain ⟨i0, hi, hz0, hz1, hz2⟩ := info_parts Si.info_int
  have hm : min (k : Int) 10000 = k := by omega
  have hl := h.lt
  have HH := Lib.hid h
  clear h
  go_enter Tryz.func67, Tryz.ntmps67
  go_wp2_with fail
  go_loopw [7, 12] (fun v i wr => ∃ (m c' : Nat) (A' : Option Addr), m ≤ k ∧ i = .int .i64 m ∧ v = .slice A' m c' ∧
      wr.ownsRow w.heap.size 3 1 (.slice A' m c') m ((outs l t n m).map (Value.int .i64)) ∧ Pk wr g (l.drop m) (t + ((m - l.length : Nat) : Int)) ∧ w.grownBy wr (some g)) (fun _ i _ => k - (intOf i).toNat)
  case atStart => exact ⟨0, 0, none, Nat.zero_le _, rfl, rfl, World.ownsRow_nil _ _ _ _, by simpa using HH.out, World.grownBy.refl _ _⟩
  case round =>
    obtain ⟨m, c', A', hmk, rfl, rfl, hrow, hpk, hg⟩ := hrel
    clear HH
    have HROW := Lib.hid hrow
    have HPK := Lib.hid hpk
    have HG := Lib.hid hg
    clear hrow hpk hg
    by_cases hlt : m < k
    · go_wp2_with fail
      refine (next_any g (l.drop m) _ n hn hn' _ HPK.out ⟨by omega, by omega⟩).mono ?_
      rw [tk_drop]
      rintro e w1 ⟨rfl, hpk1, hg1⟩
      have hne : (Value.slice A' m c').ownBlock ≠ some g := by
        intro e
        have := (HROW.out.lt g e).1
        omega
      have hrow1 : w1.ownsRow w.heap.size 3 1 (.slice A' m c') m ((outs l t n m).map (Value.int .i64)) := HROW.out.kept hg1 (by
        cases hv : (Value.slice A' m c').ownBlock with
        | none => exact .inl rfl
        | some j => exact .inr (fun e => hne (by rw [hv]; exact e)))
      have HROW1 := Lib.hid hrow1
      have HG1 := Lib.hid (HG.out.trans hg1)
      have HPK1 := Lib.hid hpk1
      have hs1 := HG1.out.size
      have hmp : (outs l t n m).map (Value.int .i64) ++ [val l t m % n].map (Value.int .i64) = (outs l t n (m + 1)).map (Value.int .i64) := by rw [outs_succ, List.map_append]
      have HMP := Lib.hid hmp
      generalize val l t m % n = y at *
      have hrd : Rd (Value.int .i64) (w1.alloc (.cells #[.int .i64 y] 3)) (w1.heap.size + 1) (some ⟨w1.heap.size, 0, none⟩) 1 1 [y] := rd_one w1 y 3
      have HRD := Lib.hid hrd
      clear hrow1 hpk1 hg1 hmp hrd hne HROW HPK HG
      go_wp2_with (
        at_builtin
        refine append_rd _ rfl _ _ 42 rfl w.heap.size 3 i0 (.int .i64 0) 8 Tryz.underlying42 hi hz0 hz1 hz2 rfl _ m _ rfl (HROW1.out.alloc _) _ _ 1 1 [y] rfl HRD.out Si.one_int (m + 1) rfl _ HMP.out (by unfold maxLen; omega) (by omega) (by simp; omega) ?_
        intro A3 c3 w3 hrow3 hg3 hat3
        have HROW3 := Lib.hid hrow3
        have hpk3 : Pk w3 g (l.drop (m + 1)) (t + ((m + 1 - l.length : Nat) : Int)) := (HPK1.out.later ((Below.refl _ _).alloc (Nat.le_refl _) _)).grown hg3 (fun j hj => by have := (HROW1.out.lt j hj).1; omega)
        have hg4 : w.grownBy w3 (some g) := (HG1.out.trans (World.grownBy_alloc _ _ _)).andThen hg3 (fun j hj => .inl (HROW1.out.lt j hj).1)
        have HPK3 := Lib.hid hpk3
        have HG3 := Lib.hid hg4
        clear hrow3 hpk3 hg3 hg4 hat3)
      go_roundw
      case rel => exact ⟨m + 1, c3, A3, by omega, by go_num, rfl, HROW3.out, HPK3.out, HG3.out⟩
      case measure => simp [intOf]; omega
    · obtain rfl : m = k := by omega
      go_wp2_with fail
      go_ret
      exact ⟨_, _, rfl, HROW.out, HPK.out, HG.out⟩
end Go.Proofs.YtmnjdmcocifogaaGreatDoor.Pi
