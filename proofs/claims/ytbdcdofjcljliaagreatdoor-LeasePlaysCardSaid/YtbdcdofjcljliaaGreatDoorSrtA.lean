/- The library's sort at uint64, in order: sift down, heap sort. -/
import Derived.Test.YtbdcdofjcljliaaGreatDoorSrtKit
namespace Go.Proofs.YtbdcdofjcljliaaGreatDoor.So
open Go.ChangeShapes Go.WideShapes Go.ChangeAt Go.RowKit Rw
open Go.Sort (swp ltInt siftDown heapBuild heapPop heapSort PermIn SortedIn swo_ltInt)
set_option linter.unusedVariables false

theorem sift_done {hi f r : Nat} {A : Array Int} (h : hi ≤ 2 * r + 1) : siftDown ltInt hi f r A = A := by rw [siftDown, dif_pos h]
section
variable {hi f r k : Nat} {A : Array Int} {x y z : Int}
theorem sift_right_go (hk : k = 2 * r + 1) (h1 : k + 1 < hi) (hx : A[f + k]! = x) (hy : A[f + k + 1]! = y) (hz : A[f + r]! = z) (hxy : x < y) (hzy : z < y) : siftDown ltInt hi f r A = siftDown ltInt hi f (k + 1) (swp A (f + r) (f + k + 1)) := by
  subst hk
  have e : f + (2 * r + 1) + 1 = f + (2 * r + 2) := by omega
  conv => lhs; rw [siftDown]
  rw [dif_neg (by omega), hx, hy, lt_t hxy, decide_eq_true h1, Bool.and_true, if_pos rfl]
  rw [e] at hy
  rw [hz, hy, lt_t hzy, if_neg (by decide), dif_pos (by omega)]
  rfl
theorem sift_right_stop (hk : k = 2 * r + 1) (h1 : k + 1 < hi) (hx : A[f + k]! = x) (hy : A[f + k + 1]! = y) (hz : A[f + r]! = z) (hxy : x < y) (hzy : ¬ z < y) : siftDown ltInt hi f r A = A := by
  subst hk
  have e : f + (2 * r + 1) + 1 = f + (2 * r + 2) := by omega
  rw [siftDown, dif_neg (by omega), hx, hy, lt_t hxy, decide_eq_true h1, Bool.and_true, if_pos rfl]
  rw [e] at hy
  rw [hz, hy, lt_f hzy, if_pos (by decide)]
theorem sift_cond (hx : A[f + (2 * r + 1)]! = x) (h1 : ¬ 2 * r + 1 + 1 < hi ∨ ∃ y, A[f + (2 * r + 1) + 1]! = y ∧ ¬ x < y) : (decide (2 * r + 1 + 1 < hi) && ltInt A[f + (2 * r + 1)]! A[f + (2 * r + 1) + 1]!) = false := by
  rcases h1 with h1 | ⟨y, hy, hxy⟩
  · rw [decide_eq_false h1, Bool.false_and]
  · rw [hx, hy, lt_f hxy, Bool.and_false]
theorem sift_left_go (hk : k = 2 * r + 1) (h0 : k < hi) (hx : A[f + k]! = x) (hz : A[f + r]! = z) (h1 : ¬ k + 1 < hi ∨ ∃ y, A[f + k + 1]! = y ∧ ¬ x < y) (hzx : z < x) : siftDown ltInt hi f r A = siftDown ltInt hi f k (swp A (f + r) (f + k)) := by
  subst hk
  conv => lhs; rw [siftDown]
  rw [dif_neg (by omega), sift_cond hx h1, if_neg (by decide), hz, hx, lt_t hzx, if_neg (by decide)]
theorem sift_left_stop (hk : k = 2 * r + 1) (h0 : k < hi) (hx : A[f + k]! = x) (hz : A[f + r]! = z) (h1 : ¬ k + 1 < hi ∨ ∃ y, A[f + k + 1]! = y ∧ ¬ x < y) (hzx : ¬ z < x) : siftDown ltInt hi f r A = A := by
  subst hk
  rw [siftDown, dif_neg (by omega), sift_cond hx h1, if_neg (by decide), hz, hx, lt_f hzx, if_pos (by decide)]
end

set_option maxHeartbeats 4000000 in
set_option maxRecDepth 100000 in
theorem sift_srt (g n c : Nat) (D T : Array Int) (lo hi f : Nat) (w : World) (hD : D.size = n) (hT : siftDown ltInt hi f lo D = T) (h : Row w g n D.toList) (hb : f + hi ≤ n) (hl : lo ≤ n) (hn : n ≤ 1152921504606846976) :
    Calls Tryz.prog 129 #[.slice (some ⟨g, 0, none⟩) n c, .int .i64 lo, .int .i64 hi, .int .i64 f] w fun e w' => e = .returned (.tuple #[]) ∧ Pq g n (fun A => A = T) w w' := by
  have HR : Hid (Pq g n (fun A => siftDown ltInt hi f lo A = T) w w) := Lib.hid (Pq.start hD hT h)
  clear h hT hD
  go_enter Tryz.func129, Tryz.ntmps129
  go_wp2
  go_loopw [8, 9] (fun sr _ wr => ∃ r : Nat, r ≤ n ∧ sr = .int .i64 r ∧ Hid (Pq g n (fun A => siftDown ltInt hi f r A = T) w wr)) (fun sr _ _ => n - (intOf sr).toNat)
  case atStart => exact ⟨lo, hl, rfl, HR.out⟩
  case round =>
    obtain ⟨r, hr, rfl, hpm⟩ := hrel
    by_cases hk : 2 * r + 1 < hi
    · have hk' : (2 : Int) * (r : Int) + 1 < (hi : Int) := by omega
      obtain ⟨d1, hs1, hp1, hr1, hg1⟩ := hpm.out
      obtain ⟨k, hkk⟩ : ∃ k : Nat, k = 2 * r + 1 := ⟨_, rfl⟩
      have hkk0 := hkk
      have hrk : r < k := by omega
      have hkh : k < hi := by omega
      have e1 : (2 : Int) * (r : Int) + 1 = (k : Int) := by omega
      clear hkk hk' hk
      obtain ⟨x, hx, hcx⟩ := hr1.get (show f + k < n by omega)
      obtain ⟨z, hz, hcz⟩ := hr1.get (show f + r < n by omega)
      have fz := hr1.free (f + r) (by omega)
      have fx := hr1.free (f + k) (by omega)
      have w1 : IntKind.i64.wrap ((k : Int) + 1) = (k : Int) + 1 := IntWalk.i64_in _ (by omega)
      have w2 : IntKind.i64.wrap ((f : Int) + (k : Int)) = (f : Int) + (k : Int) := IntWalk.i64_in _ (by omega)
      have w3 : IntKind.i64.wrap ((f : Int) + (k : Int) + 1) = (f : Int) + (k : Int) + 1 := IntWalk.i64_in _ (by omega)
      have w4 : IntKind.i64.wrap ((f : Int) + (r : Int)) = (f : Int) + (r : Int) := IntWalk.i64_in _ (by omega)
      have t2 : ((f : Int) + (k : Int)).toNat = f + k := by omega
      have t3 : ((f : Int) + (k : Int) + 1).toNat = f + k + 1 := by omega
      have t4 : ((f : Int) + (r : Int)).toNat = f + r := by omega
      have b2 : (0 : Int) ≤ (f : Int) + (k : Int) := by omega
      have b3 : (f : Int) + (k : Int) < (n : Int) := by omega
      have b4 : (0 : Int) ≤ (f : Int) + (r : Int) := by omega
      have b5 : (f : Int) + (r : Int) < (n : Int) := by omega
      have b6 : (0 : Int) ≤ (f : Int) + (k : Int) + 1 := by omega
      have hne : r ≠ k := by omega
      have HX := Lib.hid hx
      have HZ := Lib.hid hz
      have HR1 := Lib.hid hr1
      have HP1 := Lib.hid hp1
      have HS1 := Lib.hid hs1
      have HK := Lib.hid hkk0
      clear hx hz hp1 hpm hs1 hkk0
      by_cases hk1 : k + 1 < hi
      · obtain ⟨y, hy, hcy⟩ := hr1.get (show f + k + 1 < n by omega)
        have fy := hr1.free (f + k + 1) (by omega)
        have HY := Lib.hid hy
        have b7 : (f : Int) + (k : Int) + 1 < (n : Int) := by omega
        have q3 : decide ((k : Int) + 1 < (hi : Int)) = true := by simp; omega
        clear hy hr1
        by_cases hxy : x < y
        · have q4 : decide (x < y) = true := by simpa using hxy
          have w5 : IntKind.i64.wrap ((f : Int) + ((k : Int) + 1)) = (f : Int) + ((k : Int) + 1) := IntWalk.i64_in _ (by omega)
          have t5 : ((f : Int) + ((k : Int) + 1)).toNat = f + k + 1 := by omega
          have b8 : (0 : Int) ≤ (f : Int) + ((k : Int) + 1) := by omega
          have b9 : (f : Int) + ((k : Int) + 1) < (n : Int) := by omega
          have hne2 : ¬ r = k + 1 := by omega
          by_cases hzm : z < y
          · have q5 : decide (z < y) = true := by simpa using hzm
            have HQ : Hid (siftDown ltInt hi f (k + 1) (swp d1 (f + r) (f + k + 1)) = T) := Lib.hid ((sift_right_go HK.out hk1 (bang HX.out) (bang HY.out) (bang HZ.out) hxy hzm).symm.trans HP1.out)
            go_wp2
            go_quiet ((go_at_call 110; first | exact less_quiet _ _ | exact less_quiet2 _ _))
            go_wp2
            go_quiet ((go_at_call 110; first | exact less_quiet _ _ | exact less_quiet2 _ _))
            go_wp2
            go_region
            go_wp2
            go_roundw
            case rel => exact ⟨k + 1, by omega, by go_num, by first | exact Pq.swap HS1.out (hg1.trans (grown_drewN _ _ _)) (HR1.out.drewN _) HZ.out HY.out 1 rfl HQ.out | exact Pq.swap HS1.out ((hg1.trans (grown_drewN _ _ _)).trans (grown_drewN _ _ _)) ((HR1.out.drewN _).drewN _) HZ.out HY.out 1 rfl HQ.out⟩
            case measure => simp [intOf]; omega
          · have q5 : decide (z < y) = false := by simpa using hzm
            have HQ : Hid (d1 = T) := Lib.hid ((sift_right_stop HK.out hk1 (bang HX.out) (bang HY.out) (bang HZ.out) hxy hzm).symm.trans HP1.out)
            have q6 : y ≤ z := by omega
            go_wp2
            go_quiet ((go_at_call 110; first | exact less_quiet _ _ | exact less_quiet2 _ _))
            go_wp2
            go_quiet ((go_at_call 110; first | exact less_quiet _ _ | exact less_quiet2 _ _))
            go_wp2
            refine bodyPost_ret (v := .tuple #[]) (by simp [results, Tryz.results129]) rfl ?_
            exact ⟨rfl, by first | exact (Pq.mk' HS1.out HQ.out hg1 HR1.out).drewN _ | exact ((Pq.mk' HS1.out HQ.out hg1 HR1.out).drewN _).drewN _⟩
        · have q4 : decide (x < y) = false := by simpa using hxy
          by_cases hzm : z < x
          · have q5 : decide (z < x) = true := by simpa using hzm
            have HQ : Hid (siftDown ltInt hi f k (swp d1 (f + r) (f + k)) = T) := Lib.hid ((sift_left_go HK.out hkh (bang HX.out) (bang HZ.out) (.inr ⟨_, bang HY.out, hxy⟩) hzm).symm.trans HP1.out)
            go_wp2
            go_quiet ((go_at_call 110; first | exact less_quiet _ _ | exact less_quiet2 _ _))
            go_wp2
            go_quiet ((go_at_call 110; first | exact less_quiet _ _ | exact less_quiet2 _ _))
            go_wp2
            go_region
            go_wp2
            go_roundw
            case rel => exact ⟨k, by omega, by go_num, by first | exact Pq.swap HS1.out (hg1.trans (grown_drewN _ _ _)) (HR1.out.drewN _) HZ.out HX.out 1 rfl HQ.out | exact Pq.swap HS1.out ((hg1.trans (grown_drewN _ _ _)).trans (grown_drewN _ _ _)) ((HR1.out.drewN _).drewN _) HZ.out HX.out 1 rfl HQ.out⟩
            case measure => simp [intOf]; omega
          · have q5 : decide (z < x) = false := by simpa using hzm
            have HQ : Hid (d1 = T) := Lib.hid ((sift_left_stop HK.out hkh (bang HX.out) (bang HZ.out) (.inr ⟨_, bang HY.out, hxy⟩) hzm).symm.trans HP1.out)
            have q6 : x ≤ z := by omega
            go_wp2
            go_quiet ((go_at_call 110; first | exact less_quiet _ _ | exact less_quiet2 _ _))
            go_wp2
            go_quiet ((go_at_call 110; first | exact less_quiet _ _ | exact less_quiet2 _ _))
            go_wp2
            refine bodyPost_ret (v := .tuple #[]) (by simp [results, Tryz.results129]) rfl ?_
            exact ⟨rfl, by first | exact (Pq.mk' HS1.out HQ.out hg1 HR1.out).drewN _ | exact ((Pq.mk' HS1.out HQ.out hg1 HR1.out).drewN _).drewN _⟩
      · have q3 : decide ((k : Int) + 1 < (hi : Int)) = false := by simp; omega
        clear hr1
        by_cases hzm : z < x
        · have q5 : decide (z < x) = true := by simpa using hzm
          have HQ : Hid (siftDown ltInt hi f k (swp d1 (f + r) (f + k)) = T) := Lib.hid ((sift_left_go HK.out hkh (bang HX.out) (bang HZ.out) (.inl hk1) hzm).symm.trans HP1.out)
          go_wp2
          go_quiet (fail)
          go_wp2
          go_quiet ((go_at_call 110; first | exact less_quiet _ _ | exact less_quiet2 _ _))
          go_wp2
          go_region
          go_wp2
          go_roundw
          case rel => exact ⟨k, by omega, by go_num, by first | exact Pq.swap HS1.out (hg1.trans (grown_drewN _ _ _)) (HR1.out.drewN _) HZ.out HX.out 1 rfl HQ.out | exact Pq.swap HS1.out ((hg1.trans (grown_drewN _ _ _)).trans (grown_drewN _ _ _)) ((HR1.out.drewN _).drewN _) HZ.out HX.out 1 rfl HQ.out⟩
          case measure => simp [intOf]; omega
        · have q5 : decide (z < x) = false := by simpa using hzm
          have HQ : Hid (d1 = T) := Lib.hid ((sift_left_stop HK.out hkh (bang HX.out) (bang HZ.out) (.inl hk1) hzm).symm.trans HP1.out)
          have q6 : x ≤ z := by omega
          go_wp2
          go_quiet (fail)
          go_wp2
          go_quiet ((go_at_call 110; first | exact less_quiet _ _ | exact less_quiet2 _ _))
          go_wp2
          refine bodyPost_ret (v := .tuple #[]) (by simp [results, Tryz.results129]) rfl ?_
          exact ⟨rfl, by first | exact (Pq.mk' HS1.out HQ.out hg1 HR1.out).drewN _ | exact ((Pq.mk' HS1.out HQ.out hg1 HR1.out).drewN _).drewN _⟩
    · have hk' : (hi : Int) ≤ (2 : Int) * (r : Int) + 1 := by omega
      have HQ : Hid (Pq g n (fun A => A = T) w wr) := Lib.hid (hpm.out.imp fun A _ hA => by rw [sift_done (by omega)] at hA; exact hA)
      clear hpm
      go_wp2
      go_end0
      exact ⟨rfl, HQ.out⟩

theorem sift_zero' (g n c : Nat) (D T : Array Int) (hi f : Nat) (w : World) (hD : D.size = n) (hT : siftDown ltInt hi f 0 D = T) (h : Row w g n D.toList) (hb : f + hi ≤ n) (hn : n ≤ 1152921504606846976) :
    Calls Tryz.prog 129 #[.slice (some ⟨g, 0, none⟩) n c, .int .i64 0, .int .i64 hi, .int .i64 f] w fun e w' => e = .returned (.tuple #[]) ∧ Pq g n (fun A => A = T) w w' :=
  sift_srt g n c D T 0 hi f w hD hT h hb (Nat.zero_le _) hn

set_option maxHeartbeats 4000000 in
set_option maxRecDepth 100000 in
theorem heap_srt (g n c : Nat) (D : Array Int) (a b : Nat) (w : World) (hD : D.size = n) (h : Row w g n D.toList) (ha : a < b) (hb : b ≤ n) (hn : n ≤ 1152921504606846976) :
    Calls Tryz.prog 105 #[.slice (some ⟨g, 0, none⟩) n c, .int .i64 a, .int .i64 b] w fun e w' => e = .returned (.tuple #[]) ∧ Pq g n (fun A => PermIn a b D A ∧ SortedIn ltInt a b A) w w' := by
  have HS := Lib.hid (Go.Sort.heapSort_holds swo_ltInt D a b (by omega) (by rw [hD]; exact hb))
  obtain ⟨T, hT⟩ : ∃ T, heapSort ltInt D a b = T := ⟨_, rfl⟩
  rw [hT] at HS
  have HR : Hid (Pq g n (fun A => heapPop ltInt a (b - a) (heapBuild ltInt (b - a) a ((b - a - 1) / 2 + 1) A) = T) w w) := Lib.hid (Pq.start hD hT h)
  clear h hT hD
  obtain ⟨q, hq⟩ : ∃ q : Nat, b = a + q := ⟨b - a, by omega⟩
  have e1 : (b : Int) - (a : Int) = (q : Int) := by omega
  have eq1 : b - a = q := by omega
  rw [eq1] at HR
  have hq1 : 1 ≤ q := by omega
  have hqn : a + q ≤ n := by omega
  clear hq eq1
  go_enter Tryz.func105, Tryz.ntmps105
  go_wp2
  go_loopw [9] (fun si wr => ∃ i : Int, -1 ≤ i ∧ i ≤ q ∧ si = .int .i64 i ∧ Hid (Pq g n (fun A => heapPop ltInt a q (heapBuild ltInt q a (i + 1).toNat A) = T) w wr)) (fun si _ => (intOf si + 1).toNat)
  case atStart => exact ⟨((q : Int) - 1) / 2, by omega, by omega, rfl, by rw [show (((q : Int) - 1) / 2 + 1).toNat = (q - 1) / 2 + 1 by omega]; exact HR.out⟩
  case round =>
    obtain ⟨i, hi0, hi1, rfl, hpm⟩ := hrel
    by_cases hlt : 0 ≤ i
    · obtain ⟨m, rfl⟩ := Int.eq_ofNat_of_zero_le hlt
      obtain ⟨d1, hs1, hp1, hr1, hg1⟩ := hpm.out
      have HR1 := Lib.hid hr1
      have HP1 := Lib.hid hp1
      have HS1 := Lib.hid hs1
      clear hr1 hp1 hpm hs1
      go_wp2_with fail
      refine (sift_srt g n c d1 _ m q a _ HS1.out rfl HR1.out hqn (by omega) hn).mono ?_
      rintro e w2 ⟨rfl, h2⟩
      have H2 := Lib.hid h2
      clear h2
      go_wp2_with fail
      go_roundw
      case rel => exact ⟨(m : Int) - 1, by omega, by omega, rfl, Pq.trans hg1 (H2.out.imp fun A _ hA => by rw [hA, show ((m : Int) - 1 + 1).toNat = m by omega]; have h9 := HP1.out; rw [show ((m : Int) + 1).toNat = m + 1 by omega, heapBuild] at h9; exact h9)⟩
      case measure => simp [intOf] <;> omega
    · have HX9 : Hid (Pq g n (fun A => heapPop ltInt a q A = T) w wr) := Lib.hid (hpm.out.imp fun A _ hA => by rw [show (i + 1).toNat = 0 by omega, heapBuild] at hA; exact hA)
      clear hpm
      go_wp2
      obtain ⟨wo, hwo⟩ : ∃ wo : World, wo = wr := ⟨_, rfl⟩
      subst hwo
      go_loopw [10] (fun si wq => ∃ i : Int, -1 ≤ i ∧ i < q ∧ si = .int .i64 i ∧ Hid (Pq g n (fun A => heapPop ltInt a (i + 1).toNat A = T) w wq)) (fun si _ => (intOf si + 1).toNat)
      case atStart => exact ⟨(q : Int) - 1, by omega, by omega, rfl, by rw [show ((q : Int) - 1 + 1).toNat = q by omega]; exact HX9⟩
      case round =>
        clear HX9
        obtain ⟨j, hj0, hj1, rfl, hpm⟩ := hrel
        by_cases hjt : 0 ≤ j
        · obtain ⟨m, rfl⟩ := Int.eq_ofNat_of_zero_le hjt
          obtain ⟨d1, hs1, hp1, hr1, hg1⟩ := hpm.out
          obtain ⟨x, hx, hcx⟩ := hr1.get (show a < n by omega)
          obtain ⟨y, hy, hcy⟩ := hr1.get (show a + m < n by omega)
          have fx := hr1.free a (by omega)
          have fy := hr1.free (a + m) (by omega)
          have w1 : IntKind.i64.wrap ((a : Int) + (m : Int)) = (a : Int) + (m : Int) := IntWalk.i64_in _ (by omega)
          have t1 : ((a : Int) + (m : Int)).toNat = a + m := by omega
          have b0 : (0 : Int) ≤ (a : Int) := by omega
          have b1 : (a : Int) < (n : Int) := by omega
          have b2 : (0 : Int) ≤ (a : Int) + (m : Int) := by omega
          have b3 : (a : Int) + (m : Int) < (n : Int) := by omega
          have HX := Lib.hid hx
          have HY := Lib.hid hy
          have HR1 := Lib.hid hr1
          have HP1 := Lib.hid hp1
          have HS1 := Lib.hid hs1
          clear hx hy hr1 hp1 hpm hs1
          by_cases hm0 : m = 0
          · subst hm0
            simp only [Nat.add_zero] at hcy fy HY
            have hxy : x = y := by have h1 := HX.out; have h2 := HY.out; rw [h1] at h2; injection h2
            subst hxy
            go_wp2
            go_region
            go_wp2_with fail
            refine (sift_zero' g n c (swp d1 a a) _ 0 a _ (by rw [Go.Sort.swp_size]; exact HS1.out) rfl ?_ (by omega) hn).mono ?_
            · rw [swp_list HX.out HX.out]; exact ((HR1.out.drewN 1).set (by omega) x).set (by omega) x
            rintro e w2 ⟨rfl, h2⟩
            have H2 := Lib.hid h2
            clear h2
            go_wp2_with fail
            go_roundw
            case rel => exact ⟨-1, by omega, by omega, by go_num, Pq.trans (((hg1.trans (grown_drewN _ 1 _)).trans (grown_setCell _ _ _ _)).trans (grown_setCell _ _ _ _)) (H2.out.imp fun A _ hA => by rw [hA]; exact HP1.out)⟩
            case measure => simp [intOf]
          · have hne : ¬ m = 0 := hm0
            go_wp2
            go_region
            go_wp2_with fail
            refine (sift_zero' g n c (swp d1 a (a + m)) _ m a _ (by rw [Go.Sort.swp_size]; exact HS1.out) rfl ?_ (by omega) hn).mono ?_
            · rw [swp_list HX.out HY.out]; exact ((HR1.out.drewN 1).set (by omega) y).set (by omega) x
            rintro e w2 ⟨rfl, h2⟩
            have H2 := Lib.hid h2
            clear h2
            go_wp2_with fail
            go_roundw
            case rel => exact ⟨(m : Int) - 1, by omega, by omega, rfl, Pq.trans (((hg1.trans (grown_drewN _ 1 _)).trans (grown_setCell _ _ _ _)).trans (grown_setCell _ _ _ _)) (H2.out.imp fun A _ hA => by rw [hA, show ((m : Int) - 1 + 1).toNat = m by omega]; have h9 := HP1.out; rw [show ((m : Int) + 1).toNat = m + 1 by omega, heapPop] at h9; exact h9)⟩
            case measure => simp [intOf] <;> omega
        · have HQ : Hid (Pq g n (fun A => PermIn a b D A ∧ SortedIn ltInt a b A) w wr) := Lib.hid (hpm.out.imp fun A _ hA => by rw [show (j + 1).toNat = 0 by omega, heapPop] at hA; rw [hA]; exact HS.out)
          clear hpm
          go_wp2
          go_end0
          exact ⟨rfl, HQ.out⟩
end Go.Proofs.YtbdcdofjcljliaaGreatDoor.So
