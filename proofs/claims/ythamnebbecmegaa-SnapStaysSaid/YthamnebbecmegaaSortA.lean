/- The library's sort at uint64: insertion sort, sift down, heap sort. -/
import Derived.Test.YthamnebbecmegaaSortKit
namespace Go.Proofs.Ythamnebbecmegaa.So
open Go.ChangeShapes Go.WideShapes Go.ChangeAt Go.RowKit Rw
set_option linter.unusedVariables false

theorem Pm.drewN {g n : Nat} {d : List Int} {w w' : World} (h : Pm g n d w w') (k : Nat) : Pm g n d w (w'.drewN k) := by
  obtain ⟨d', h1, h2, h3⟩ := h
  exact ⟨d', h1, h2.drewN k, h3.trans (grown_drewN _ _ _)⟩

set_option maxHeartbeats 2000000 in
set_option maxRecDepth 100000 in
theorem insertion_any (g n c : Nat) (d : List Int) (a b : Nat) (w : World) (h : Row w g n d) (hb : b ≤ n) (ha : a ≤ n) (hn : n ≤ 4611686018427387904) :
    Calls Try.prog 90 #[.slice (some ⟨g, 0, none⟩) n c, .int .i64 a, .int .i64 b] w fun e w' => e = .returned (.tuple #[]) ∧ Pm g n d w w' := by
  have HR := Lib.hid h
  clear h
  go_enter Try.func90, Try.ntmps90
  go_wp2
  go_loopw [6, 7] (fun si _ wr => ∃ i : Nat, a + 1 ≤ i ∧ i ≤ n + 1 ∧ si = .int .i64 i ∧ Hid (Pm g n d w wr)) (fun si _ _ => n + 1 - (intOf si).toNat)
  case atStart => exact ⟨a + 1, Nat.le_refl _, by omega, by go_num, Pm.refl HR.out⟩
  case round =>
    obtain ⟨i, hi0, hi1, rfl, hpm⟩ := hrel
    by_cases hlt : i < b
    · go_wp2
      obtain ⟨wo, hwo⟩ : ∃ wo : World, wo = wr := ⟨_, rfl⟩
      subst hwo
      go_loopw [7] (fun sj wq => ∃ J : Int, (a : Int) ≤ J ∧ J ≤ i ∧ sj = .int .i64 J ∧ Hid (Pm g n d w wq)) (fun sj _ => (intOf sj).toNat)
      case atStart => exact ⟨i, by omega, by omega, rfl, hpm⟩
      case round =>
        clear hpm
        obtain ⟨J, hj0, hj1, rfl, hpm⟩ := hrel
        by_cases hja : (a : Int) < J
        · obtain ⟨m, hm⟩ := Int.eq_ofNat_of_zero_le (show 0 ≤ J - 1 by omega)
          have hj2 : 0 ≤ J := by omega
          have hj3 : J < (n : Int) := by omega
          have hj4 : J.toNat = m + 1 := by omega
          obtain ⟨d1, hp1, hr1, hg1⟩ := hpm.out
          obtain ⟨x, hx, hcx⟩ := hr1.get (show J.toNat < n by omega)
          obtain ⟨y, hy, hcy⟩ := hr1.get (show m < n by omega)
          have fx := hr1.free J.toNat (by omega)
          have fy := hr1.free m (by omega)
          have b2 : (0 : Int) ≤ (m : Int) := by omega
          have b3 : (m : Int) < (n : Int) := by omega
          have hne : J.toNat ≠ m := by omega
          have w1 : IntKind.i64.wrap (J - 1) = (m : Int) := by rw [hm]; exact IntWalk.i64_in _ (by omega)
          have HX := Lib.hid hx
          have HY := Lib.hid hy
          have HR1 := Lib.hid hr1
          have HP1 := Lib.hid hp1
          have HM := Lib.hid hm
          have H4 := Lib.hid hj4
          have qa : decide ((a : Int) < J) = true := by simpa using hja
          clear hx hy hr1 hp1 hpm hm hj4
          by_cases hxy : x < y
          · have q1 : decide (x < y) = true := by simpa using hxy
            go_wp2
            go_quiet ((go_at_call 96; first | exact less_quiet _ _ | exact less_quiet2 _ _))
            go_wp2
            go_region
            go_wp2
            go_roundw
            case rel => exact ⟨m, by have := HM.out; omega, by have := HM.out; omega, by go_num, Pm.trans HP1.out (hg1.trans (grown_drewN _ nq _)) ((HR1.out.drewN nq).swap HX.out HY.out 1 rfl)⟩
            case measure => simp [intOf]; have := H4.out; omega
          · have q1 : decide (x < y) = false := by simpa using hxy
            go_wp2
            go_quiet ((go_at_call 96; first | exact less_quiet _ _ | exact less_quiet2 _ _))
            go_wp2
            go_roundw
            case rel => exact ⟨i + 1, by omega, by omega, by go_num, Pm.trans HP1.out hg1 ((Pm.refl HR1.out).drewN _)⟩
            case measure => simp [intOf]; omega
        · have qa : decide ((a : Int) < J) = false := by simpa using hja
          go_wp2
          go_quiet (fail)
          go_wp2
          go_roundw
          case rel => exact ⟨i + 1, by omega, by omega, by go_num, hpm.out.drewN _⟩
          case measure => simp [intOf]; omega
    · go_wp2
      go_end0
      exact ⟨rfl, hpm.out⟩

set_option maxHeartbeats 4000000 in
set_option maxRecDepth 100000 in
theorem sift_any (g n c : Nat) (d : List Int) (lo hi f : Nat) (w : World) (h : Row w g n d) (hb : f + hi ≤ n) (hl : lo ≤ n) (hn : n ≤ 1152921504606846976) :
    Calls Try.prog 118 #[.slice (some ⟨g, 0, none⟩) n c, .int .i64 lo, .int .i64 hi, .int .i64 f] w fun e w' => e = .returned (.tuple #[]) ∧ Pm g n d w w' := by
  have HR := Lib.hid h
  clear h
  go_enter Try.func118, Try.ntmps118
  go_wp2
  go_loopw [8, 9] (fun sr _ wr => ∃ r : Nat, r ≤ n ∧ sr = .int .i64 r ∧ Hid (Pm g n d w wr)) (fun sr _ _ => n - (intOf sr).toNat)
  case atStart => exact ⟨lo, hl, rfl, Pm.refl HR.out⟩
  case round =>
    obtain ⟨r, hr, rfl, hpm⟩ := hrel
    by_cases hk : 2 * r + 1 < hi
    · have hk' : (2 : Int) * (r : Int) + 1 < (hi : Int) := by omega
      obtain ⟨d1, hp1, hr1, hg1⟩ := hpm.out
      obtain ⟨k, hkk⟩ : ∃ k : Nat, k = 2 * r + 1 := ⟨_, rfl⟩
      have hrk : r < k := by omega
      have hkh : k < hi := by omega
      have e1 : (2 : Int) * (r : Int) + 1 = (k : Int) := by omega
      clear hkk hk' hk
      obtain ⟨x, hx, hcx⟩ := hr1.get (show f + k < n by omega)
      obtain ⟨z, hz, hcz⟩ := hr1.get (show f + r < n by omega)
      have fz := hr1.free (f + r) (by omega)
      have fx := hr1.free (f + k) (by omega)
      have w1 : IntKind.i64.wrap ((k : Int) + 1) = (k : Int) + 1 := IntWalk.i64_in _ (by omega)
      have w2 : IntKind.i64.wrap ((f : Int) + (k : Int)) = (f : Int) + (k : Int) := IntWalk.i64_in _ (by omega)
      have w3 : IntKind.i64.wrap ((f : Int) + (k : Int) + 1) = (f : Int) + (k : Int) + 1 := IntWalk.i64_in _ (by omega)
      have w4 : IntKind.i64.wrap ((f : Int) + (r : Int)) = (f : Int) + (r : Int) := IntWalk.i64_in _ (by omega)
      have t2 : ((f : Int) + (k : Int)).toNat = f + k := by omega
      have t3 : ((f : Int) + (k : Int) + 1).toNat = f + k + 1 := by omega
      have t4 : ((f : Int) + (r : Int)).toNat = f + r := by omega
      have b2 : (0 : Int) ≤ (f : Int) + (k : Int) := by omega
      have b3 : (f : Int) + (k : Int) < (n : Int) := by omega
      have b4 : (0 : Int) ≤ (f : Int) + (r : Int) := by omega
      have b5 : (f : Int) + (r : Int) < (n : Int) := by omega
      have b6 : (0 : Int) ≤ (f : Int) + (k : Int) + 1 := by omega
      have hne : r ≠ k := by omega
      have HX := Lib.hid hx
      have HZ := Lib.hid hz
      have HR1 := Lib.hid hr1
      have HP1 := Lib.hid hp1
      clear hx hz hp1 hpm
      by_cases hk1 : k + 1 < hi
      · obtain ⟨y, hy, hcy⟩ := hr1.get (show f + k + 1 < n by omega)
        have fy := hr1.free (f + k + 1) (by omega)
        have HY := Lib.hid hy
        have b7 : (f : Int) + (k : Int) + 1 < (n : Int) := by omega
        have q3 : decide ((k : Int) + 1 < (hi : Int)) = true := by simp; omega
        clear hy hr1
        by_cases hxy : x < y
        · have q4 : decide (x < y) = true := by simpa using hxy
          have w5 : IntKind.i64.wrap ((f : Int) + ((k : Int) + 1)) = (f : Int) + ((k : Int) + 1) := IntWalk.i64_in _ (by omega)
          have t5 : ((f : Int) + ((k : Int) + 1)).toNat = f + k + 1 := by omega
          have b8 : (0 : Int) ≤ (f : Int) + ((k : Int) + 1) := by omega
          have b9 : (f : Int) + ((k : Int) + 1) < (n : Int) := by omega
          have hne2 : ¬ r = k + 1 := by omega
          by_cases hzm : z < y
          · have q5 : decide (z < y) = true := by simpa using hzm
            go_wp2
            go_quiet ((go_at_call 96; first | exact less_quiet _ _ | exact less_quiet2 _ _))
            go_wp2
            go_quiet ((go_at_call 96; first | exact less_quiet _ _ | exact less_quiet2 _ _))
            go_wp2
            go_region
            go_wp2
            go_roundw
            case rel => exact ⟨k + 1, by omega, by go_num, by first | exact Pm.trans HP1.out (hg1.trans (grown_drewN _ _ _)) ((HR1.out.drewN _).swap HZ.out HY.out 1 rfl) | exact Pm.trans HP1.out ((hg1.trans (grown_drewN _ _ _)).trans (grown_drewN _ _ _)) (((HR1.out.drewN _).drewN _).swap HZ.out HY.out 1 rfl)⟩
            case measure => simp [intOf]; omega
          · have q5 : decide (z < y) = false := by simpa using hzm
            have q6 : y ≤ z := by omega
            go_wp2
            go_quiet ((go_at_call 96; first | exact less_quiet _ _ | exact less_quiet2 _ _))
            go_wp2
            go_quiet ((go_at_call 96; first | exact less_quiet _ _ | exact less_quiet2 _ _))
            go_wp2
            refine bodyPost_ret (v := .tuple #[]) (by simp [results, Try.results118]) rfl ?_
            exact ⟨rfl, by first | exact Pm.trans HP1.out hg1 ((Pm.refl HR1.out).drewN _) | exact Pm.trans HP1.out hg1 (((Pm.refl HR1.out).drewN _).drewN _)⟩
        · have q4 : decide (x < y) = false := by simpa using hxy
          by_cases hzm : z < x
          · have q5 : decide (z < x) = true := by simpa using hzm
            go_wp2
            go_quiet ((go_at_call 96; first | exact less_quiet _ _ | exact less_quiet2 _ _))
            go_wp2
            go_quiet ((go_at_call 96; first | exact less_quiet _ _ | exact less_quiet2 _ _))
            go_wp2
            go_region
            go_wp2
            go_roundw
            case rel => exact ⟨k, by omega, by go_num, by first | exact Pm.trans HP1.out (hg1.trans (grown_drewN _ _ _)) ((HR1.out.drewN _).swap HZ.out HX.out 1 rfl) | exact Pm.trans HP1.out ((hg1.trans (grown_drewN _ _ _)).trans (grown_drewN _ _ _)) (((HR1.out.drewN _).drewN _).swap HZ.out HX.out 1 rfl)⟩
            case measure => simp [intOf]; omega
          · have q5 : decide (z < x) = false := by simpa using hzm
            have q6 : x ≤ z := by omega
            go_wp2
            go_quiet ((go_at_call 96; first | exact less_quiet _ _ | exact less_quiet2 _ _))
            go_wp2
            go_quiet ((go_at_call 96; first | exact less_quiet _ _ | exact less_quiet2 _ _))
            go_wp2
            refine bodyPost_ret (v := .tuple #[]) (by simp [results, Try.results118]) rfl ?_
            exact ⟨rfl, by first | exact Pm.trans HP1.out hg1 ((Pm.refl HR1.out).drewN _) | exact Pm.trans HP1.out hg1 (((Pm.refl HR1.out).drewN _).drewN _)⟩
      · have q3 : decide ((k : Int) + 1 < (hi : Int)) = false := by simp; omega
        clear hr1
        by_cases hzm : z < x
        · have q5 : decide (z < x) = true := by simpa using hzm
          go_wp2
          go_quiet (fail)
          go_wp2
          go_quiet ((go_at_call 96; first | exact less_quiet _ _ | exact less_quiet2 _ _))
          go_wp2
          go_region
          go_wp2
          go_roundw
          case rel => exact ⟨k, by omega, by go_num, by first | exact Pm.trans HP1.out (hg1.trans (grown_drewN _ _ _)) ((HR1.out.drewN _).swap HZ.out HX.out 1 rfl) | exact Pm.trans HP1.out ((hg1.trans (grown_drewN _ _ _)).trans (grown_drewN _ _ _)) (((HR1.out.drewN _).drewN _).swap HZ.out HX.out 1 rfl)⟩
          case measure => simp [intOf]; omega
        · have q5 : decide (z < x) = false := by simpa using hzm
          have q6 : x ≤ z := by omega
          go_wp2
          go_quiet (fail)
          go_wp2
          go_quiet ((go_at_call 96; first | exact less_quiet _ _ | exact less_quiet2 _ _))
          go_wp2
          refine bodyPost_ret (v := .tuple #[]) (by simp [results, Try.results118]) rfl ?_
          exact ⟨rfl, by first | exact Pm.trans HP1.out hg1 ((Pm.refl HR1.out).drewN _) | exact Pm.trans HP1.out hg1 (((Pm.refl HR1.out).drewN _).drewN _)⟩
    · have hk' : (hi : Int) ≤ (2 : Int) * (r : Int) + 1 := by omega
      go_wp2
      go_end0
      exact ⟨rfl, hpm.out⟩
end Go.Proofs.Ythamnebbecmegaa.So
