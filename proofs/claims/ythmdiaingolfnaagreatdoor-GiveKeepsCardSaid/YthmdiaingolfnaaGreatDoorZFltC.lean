/- A part of the claim: the texts FltC. -/
import Derived.Test.YthmdiaingolfnaaGreatDoorZFltB
namespace Go.Proofs.YthmdiaingolfnaaGreatDoor.Ff
open Go.ChangeShapes Go.WideShapes Go.ChangeAt Go.RowKit Rw Go.Shelf Go.Sort
set_option linter.unusedVariables false
abbrev e8 : UInt8 → Value := fun b => .int .u8 (b.toNat : Int)
abbrev zeros32 : Array Value := #[.int .u8 0, .int .u8 0, .int .u8 0, .int .u8 0, .int .u8 0, .int .u8 0, .int .u8 0, .int .u8 0, .int .u8 0, .int .u8 0, .int .u8 0, .int .u8 0, .int .u8 0, .int .u8 0, .int .u8 0, .int .u8 0, .int .u8 0, .int .u8 0, .int .u8 0, .int .u8 0, .int .u8 0, .int .u8 0, .int .u8 0, .int .u8 0, .int .u8 0, .int .u8 0, .int .u8 0, .int .u8 0, .int .u8 0, .int .u8 0, .int .u8 0, .int .u8 0]
theorem zeros32_at : ∀ j, j < 32 → zeros32[j]? = some (.int .u8 0)
  | 0, _ => rfl
  | 1, _ => rfl
  | 2, _ => rfl
  | 3, _ => rfl
  | 4, _ => rfl
  | 5, _ => rfl
  | 6, _ => rfl
  | 7, _ => rfl
  | 8, _ => rfl
  | 9, _ => rfl
  | 10, _ => rfl
  | 11, _ => rfl
  | 12, _ => rfl
  | 13, _ => rfl
  | 14, _ => rfl
  | 15, _ => rfl
  | 16, _ => rfl
  | 17, _ => rfl
  | 18, _ => rfl
  | 19, _ => rfl
  | 20, _ => rfl
  | 21, _ => rfl
  | 22, _ => rfl
  | 23, _ => rfl
  | 24, _ => rfl
  | 25, _ => rfl
  | 26, _ => rfl
  | 27, _ => rfl
  | 28, _ => rfl
  | 29, _ => rfl
  | 30, _ => rfl
  | 31, _ => rfl
  | j + 32, h => absurd h (by omega)
def trl (ds : List UInt8) : Nat → Nat
  | 0 => 0
  | k + 1 => if ds[k]? = some 48 then trl ds k else k + 1
theorem digits_at (u j : Nat) (hj : j < Lib.nDigits u) : ∃ x, (Lib.decDigits u)[j]? = some x := by
  have : j < (Lib.decDigits u).length := by rw [Lib.decDigits_length]; exact hj
  exact ⟨_, List.getElem?_eq_getElem this⟩
theorem nd20 (u : Nat) (h1 : 1 ≤ u) (h2 : u < 18446744073709551616) : 1 ≤ Lib.nDigits u ∧ Lib.nDigits u ≤ 20 := by
  have h0 : 1 ≤ Lib.nDigits u := by rw [Lib.nDigits]; split <;> omega
  have := Lib.numDigits_eq u h1 h2
  split at this <;> omega
theorem put_other (w : World) (h : Nat) (dk : Array UInt8) (i : Nat) (hne : i ≠ h) : (putRow e8 w h 0 dk).heap[i]? = w.heap[i]? := by
  have : ¬ h = i := fun e => hne e.symm
  simp [putRow, mapBlock, Array.getElem?_modify, this]
set_option maxRecDepth 100000 in
theorem setDigits_any (h d : Nat) (p : Int) (w : World) (hz : ∀ j, j < 32 → w.cell? ⟨h, j, none⟩ = some (.int .u8 0) ∧ w.frozen? ⟨h, j, none⟩ = false) (hd1 : 1 ≤ d) (hd : d < 18446744073709551616) (hp : -400 ≤ p ∧ p ≤ 400) (n : Nat) (hn : Lib.nDigits d = n) :
    Calls Tryz.prog 228 #[.slice (some ⟨h, 0, none⟩) 32 32, .int .u64 d, .int .i64 p, .int .i64 n] w fun e w' => e = .returned (.tuple #[.int .i64 (n + p), .int .i64 (trl (Lib.decDigits d) n)]) ∧
      (∀ j x, (Lib.decDigits d)[j]? = some x → w'.cell? ⟨h, j, none⟩ = some (e8 x)) ∧ w.grownBy w' (some h) := by
  have hnd := nd20 d hd1 hd
  rw [hn] at hnd
  have hH0 : Holds e8 w h 0 (Array.replicate n (0 : UInt8)) := fun j hj => by
    have hj' : j < n := by simpa using hj
    obtain ⟨a, b⟩ := hz j (by omega)
    refine ⟨?_, by rw [Nat.zero_add]; exact b⟩
    rw [Nat.zero_add, a, getElem!_pos _ j hj]
    simp [e8]
  have hfmt := Any.internal_strconv_formatBase10 (P := Tryz.prog) (ρ := ffRen) ffBase h 0 32 d (Array.replicate n 0) w hH0 (by rw [Array.size_replicate, ← hn]; exact Lib.lt_pow_nDigits d) hd (by rw [Array.size_replicate]; omega)
  rw [Array.size_replicate] at hfmt
  have HF := Lib.hid hfmt
  have HH0 := Lib.hid hH0
  have HN := Lib.hid hn
  clear hfmt hH0 hz hn
  go_enter Tryz.func228, Tryz.ntmps228
  go_wp2_with fail
  refine HF.out.mono ?_
  rintro e w' ⟨rfl, k, v', dk, rfl, hF⟩
  obtain ⟨w1, hw1⟩ : ∃ w1, w1 = (putRow e8 w h 0 dk).drewN k := ⟨_, rfl⟩
  have hcell : ∀ j x, (Lib.decDigits d)[j]? = some x → w1.cell? ⟨h, j, none⟩ = some (e8 x) := by
    intro j x hx
    obtain ⟨hj, rfl⟩ := List.getElem?_eq_some_iff.1 hx
    have hF' : Lib.FmtInv (Lib.nDigits d) d 0 v' dk := by rw [HN.out]; exact hF
    have h1 := Lib.row_is_numeral hF' j hj
    rw [hw1, World.cell?_drewN, h1]
    have h2 := cell?_putRow e8 w h 0 _ dk HH0.out (by rw [hF.size, Array.size_replicate]) j (by rw [hF.size]; rw [Lib.decDigits_length, HN.out] at hj; exact hj)
    rw [Nat.zero_add] at h2
    exact h2
  have hgrow : w.grownBy w1 (some h) := by
    rw [hw1]
    exact ⟨rfl, rfl, rfl, by simp, fun i hi hne => put_other w h dk i (fun e => hne (by rw [e]))⟩
  rw [← hw1]
  have HC := Lib.hid hcell
  have HG := Lib.hid hgrow
  clear hcell hgrow hw1 hF HF HH0
  go_wp2_with fail
  go_loopw [3] (fun s3 wr => ∃ q : Nat, s3 = .int .i64 q ∧ q ≤ n ∧ Hid (trl (Lib.decDigits d) q = trl (Lib.decDigits d) n ∧ wr = w1)) (fun s3 _ => (intOf s3).toNat)
  case atStart => exact ⟨n, rfl, Nat.le_refl _, rfl, rfl⟩
  case round =>
    obtain ⟨q, rfl, hq, hrq⟩ := hrel
    cases q with
    | zero =>
      have e0 := hrq.out.2
      subst e0
      go_wp2_with fail
      go_ret2
      refine ⟨by rw [← hrq.out.1]; rfl, HC.out, HG.out⟩
    | succ m =>
      obtain ⟨x, hx⟩ := digits_at d m (by rw [HN.out]; omega)
      have hc := HC.out m x hx
      rw [← hrq.out.2] at hc
      have hpos : decide ((0 : Int) < ((m + 1 : Nat) : Int)) = true := decide_eq_true (by omega)
      have hm1 : ((m + 1 : Nat) : Int) - 1 = (m : Int) := by omega
      have b0 : (0 : Int) ≤ (m : Int) := by omega
      have b1 : (m : Int) < 32 := by omega
      have HX := Lib.hid hx
      clear hx
      by_cases h48 : x = 48
      · subst h48
        go_wp2_with fail
        go_roundw
        case rel => exact ⟨m, by go_num, by omega, by rw [← hrq.out.1]; conv => rhs; unfold trl; rw [if_pos HX.out], hrq.out.2⟩
        case measure => simp [intOf]
      · have hne : (((x.toNat : Int)) == 48) = false := by
          rw [beq_eq_false_iff_ne]
          intro e
          apply h48
          apply UInt8.toNat_inj.1
          show x.toNat = 48
          omega
        go_wp2_with fail
        go_ret2
        have e0 := hrq.out.2
        subst e0
        refine ⟨?_, HC.out, HG.out⟩
        have : trl (Lib.decDigits d) (m + 1) = m + 1 := by unfold trl; rw [if_neg (by rw [HX.out]; intro e; exact h48 (by injection e))]
        rw [← hrq.out.1, this]
        rfl
end Go.Proofs.YthmdiaingolfnaaGreatDoor.Ff
