/- The library's sort at uint64: heap sort; the choice of a pivot. -/
import Derived.Test.YthamnebbecmegaaSortA
namespace Go.Proofs.Ythamnebbecmegaa.So
open Go.ChangeShapes Go.WideShapes Go.ChangeAt Go.RowKit Rw
set_option linter.unusedVariables false

theorem sift_zero (g n c : Nat) (d : List Int) (hi f : Nat) (w : World) (h : Row w g n d) (hb : f + hi ≤ n) (hn : n ≤ 1152921504606846976) :
    Calls Try.prog 118 #[.slice (some ⟨g, 0, none⟩) n c, .int .i64 0, .int .i64 hi, .int .i64 f] w fun e w' => e = .returned (.tuple #[]) ∧ Pm g n d w w' :=
  sift_any g n c d 0 hi f w h hb (Nat.zero_le _) hn

set_option maxHeartbeats 4000000 in
set_option maxRecDepth 100000 in
theorem heap_any (g n c : Nat) (d : List Int) (a b : Nat) (w : World) (h : Row w g n d) (ha : a < b) (hb : b ≤ n) (hn : n ≤ 1152921504606846976) :
    Calls Try.prog 91 #[.slice (some ⟨g, 0, none⟩) n c, .int .i64 a, .int .i64 b] w fun e w' => e = .returned (.tuple #[]) ∧ Pm g n d w w' := by
  have HR := Lib.hid h
  clear h
  obtain ⟨q, hq⟩ : ∃ q : Nat, b = a + q := ⟨b - a, by omega⟩
  have e1 : (b : Int) - (a : Int) = (q : Int) := by omega
  have hq1 : 1 ≤ q := by omega
  have hqn : a + q ≤ n := by omega
  clear hq
  go_enter Try.func91, Try.ntmps91
  go_wp2
  go_loopw [9] (fun si wr => ∃ i : Int, -1 ≤ i ∧ i ≤ q ∧ si = .int .i64 i ∧ Hid (Pm g n d w wr)) (fun si _ => (intOf si + 1).toNat)
  case atStart => exact ⟨((q : Int) - 1) / 2, by omega, by omega, rfl, Pm.refl HR.out⟩
  case round =>
    obtain ⟨i, hi0, hi1, rfl, hpm⟩ := hrel
    by_cases hlt : 0 ≤ i
    · obtain ⟨m, rfl⟩ := Int.eq_ofNat_of_zero_le hlt
      obtain ⟨d1, hp1, hr1, hg1⟩ := hpm.out
      have HR1 := Lib.hid hr1
      have HP1 := Lib.hid hp1
      clear hr1 hp1 hpm
      go_wp2_with fail
      refine (sift_any g n c d1 m q a _ HR1.out hqn (by omega) hn).mono ?_
      rintro e w2 ⟨rfl, h2⟩
      have H2 := Lib.hid h2
      clear h2
      go_wp2_with fail
      go_roundw
      case rel => exact ⟨(m : Int) - 1, by omega, by omega, rfl, Pm.trans HP1.out hg1 H2.out⟩
      case measure => simp [intOf] <;> omega
    · go_wp2
      obtain ⟨wo, hwo⟩ : ∃ wo : World, wo = wr := ⟨_, rfl⟩
      subst hwo
      go_loopw [10] (fun si wq => ∃ i : Int, -1 ≤ i ∧ i < q ∧ si = .int .i64 i ∧ Hid (Pm g n d w wq)) (fun si _ => (intOf si + 1).toNat)
      case atStart => exact ⟨(q : Int) - 1, by omega, by omega, rfl, hpm⟩
      case round =>
        clear hpm
        obtain ⟨j, hj0, hj1, rfl, hpm⟩ := hrel
        by_cases hjt : 0 ≤ j
        · obtain ⟨m, rfl⟩ := Int.eq_ofNat_of_zero_le hjt
          obtain ⟨d1, hp1, hr1, hg1⟩ := hpm.out
          obtain ⟨x, hx, hcx⟩ := hr1.get (show a < n by omega)
          obtain ⟨y, hy, hcy⟩ := hr1.get (show a + m < n by omega)
          have fx := hr1.free a (by omega)
          have fy := hr1.free (a + m) (by omega)
          have w1 : IntKind.i64.wrap ((a : Int) + (m : Int)) = (a : Int) + (m : Int) := IntWalk.i64_in _ (by omega)
          have t1 : ((a : Int) + (m : Int)).toNat = a + m := by omega
          have b0 : (0 : Int) ≤ (a : Int) := by omega
          have b1 : (a : Int) < (n : Int) := by omega
          have b2 : (0 : Int) ≤ (a : Int) + (m : Int) := by omega
          have b3 : (a : Int) + (m : Int) < (n : Int) := by omega
          have HX := Lib.hid hx
          have HY := Lib.hid hy
          have HR1 := Lib.hid hr1
          have HP1 := Lib.hid hp1
          clear hx hy hr1 hp1 hpm
          by_cases hm0 : m = 0
          · subst hm0
            simp only [Nat.add_zero] at hcy fy HY
            have hxy : x = y := by have h1 := HX.out; have h2 := HY.out; rw [h1] at h2; injection h2
            subst hxy
            go_wp2
            go_region
            go_wp2_with fail
            refine (sift_zero g n c ((d1.set a x).set a x) 0 a _ ?_ (by omega) hn).mono ?_
            · exact ((HR1.out.drewN 1).set (by omega) x).set (by omega) x
            rintro e w2 ⟨rfl, h2⟩
            have H2 := Lib.hid h2
            clear h2
            go_wp2_with fail
            go_roundw
            case rel => exact ⟨-1, by omega, by omega, by go_num, Pm.trans ((perm_swap HX.out HX.out).trans HP1.out) (((hg1.trans (grown_drewN _ 1 _)).trans (grown_setCell _ _ _ _)).trans (grown_setCell _ _ _ _)) H2.out⟩
            case measure => simp [intOf]
          · have hne : ¬ m = 0 := hm0
            go_wp2
            go_region
            go_wp2_with fail
            refine (sift_zero g n c ((d1.set a y).set (a + m) x) m a _ ?_ (by omega) hn).mono ?_
            · exact ((HR1.out.drewN 1).set (by omega) y).set (by omega) x
            rintro e w2 ⟨rfl, h2⟩
            have H2 := Lib.hid h2
            clear h2
            go_wp2_with fail
            go_roundw
            case rel => exact ⟨(m : Int) - 1, by omega, by omega, rfl, Pm.trans ((perm_swap HX.out HY.out).trans HP1.out) (((hg1.trans (grown_drewN _ 1 _)).trans (grown_setCell _ _ _ _)).trans (grown_setCell _ _ _ _)) H2.out⟩
            case measure => simp [intOf] <;> omega
        · go_wp2
          go_end0
          exact ⟨rfl, hpm.out⟩
end Go.Proofs.Ythamnebbecmegaa.So
