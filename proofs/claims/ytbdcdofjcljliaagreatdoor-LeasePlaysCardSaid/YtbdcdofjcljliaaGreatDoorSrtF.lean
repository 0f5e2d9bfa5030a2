/- The library's sort at uint64, in order: the partial insertion sort. -/
import Derived.Test.YtbdcdofjcljliaaGreatDoorSrtKit
namespace Go.Proofs.YtbdcdofjcljliaaGreatDoor.So
open Go.ChangeShapes Go.WideShapes Go.ChangeAt Go.RowKit Rw
open Go.Sort (swp ltInt PermIn SortedIn partialIns partialInsertionSort scanSorted shiftDown shiftUp swo_ltInt)
set_option linter.unusedVariables false

section
variable {a b s i : Nat} {A : Array Int} {x y : Int}
theorem pins_up (hi : i < b) (hx : A[i]! = x) (hy : A[i - 1]! = y) (h : ¬ x < y) : partialIns ltInt a b (s + 1) i A = partialIns ltInt a b (s + 1) (i + 1) A := by
  have e : scanSorted ltInt A b i = scanSorted ltInt A b (i + 1) := by
    rw [scanSorted, hx, hy, lt_f h, decide_eq_true hi]; rfl
  rw [Go.Sort.partialIns_succ, Go.Sort.partialIns_succ, e]
theorem pins_end : partialIns ltInt a b (s + 1) b A = (A, true) := by
  have e : scanSorted ltInt A b b = b := by rw [scanSorted, decide_eq_false (Nat.lt_irrefl b)]; rfl
  rw [Go.Sort.partialIns_succ, e, if_pos rfl]
theorem scan_stop (hi : i < b) (hx : A[i]! = x) (hy : A[i - 1]! = y) (h : x < y) : scanSorted ltInt A b i = i := by
  rw [scanSorted, hx, hy, lt_t h, decide_eq_true hi]; rfl
theorem pins_stop (hi : i < b) (hx : A[i]! = x) (hy : A[i - 1]! = y) (h : x < y) (h5 : b - a < 50) : partialIns ltInt a b (s + 1) i A = (A, false) := by
  rw [Go.Sort.partialIns_succ, scan_stop hi hx hy h, if_neg (by omega), if_pos h5]
theorem pins_go (hi : i < b) (hx : A[i]! = x) (hy : A[i - 1]! = y) (h : x < y) (h5 : ¬ b - a < 50) : partialIns ltInt a b (s + 1) i A = partialIns ltInt a b s i (Go.Sort.fixUp ltInt b i (Go.Sort.fixDown ltInt a i (swp A i (i - 1)))) := by
  rw [Go.Sort.partialIns_succ, scan_stop hi hx hy h, if_neg (by omega), if_neg h5]
theorem down_go {m : Nat} (hi : i = m + 1) (hx : A[i]! = x) (hy : A[m]! = y) (h : x < y) : shiftDown ltInt i A = shiftDown ltInt m (swp A i m) := by
  subst hi
  rw [shiftDown, hx, hy, lt_t h]; rfl
theorem down_stop {m : Nat} (hi : i = m + 1) (hx : A[i]! = x) (hy : A[m]! = y) (h : ¬ x < y) : shiftDown ltInt i A = A := by
  subst hi
  rw [shiftDown, hx, hy, lt_f h]; rfl
theorem down_end (hi : i = 0) : shiftDown ltInt i A = A := by subst hi; rw [shiftDown]
theorem up_go (hi : i < b) (hx : A[i]! = x) (hy : A[i - 1]! = y) (h : x < y) : shiftUp ltInt b i A = shiftUp ltInt b (i + 1) (swp A i (i - 1)) := by
  conv => lhs; rw [shiftUp]
  rw [if_pos hi, hx, hy, lt_t h]; rfl
theorem up_stop (hx : A[i]! = x) (hy : A[i - 1]! = y) (h : ¬ x < y) : shiftUp ltInt b i A = A := by
  rw [shiftUp, hx, hy, lt_f h]; simp
theorem up_end (hi : ¬ i < b) : shiftUp ltInt b i A = A := by rw [shiftUp, if_neg hi]
end

set_option maxHeartbeats 20000000 in
set_option maxRecDepth 100000 in
theorem partial_srt (g n c : Nat) (D : Array Int) (a b : Nat) (w : World) (hD : D.size = n) (h : Row w g n D.toList) (ha : a < b) (hb : b ≤ n) (hB : Go.Sort.Below ltInt a b D) (hn : n ≤ 1152921504606846976) :
    Calls Tryz.prog 109 #[.slice (some ⟨g, 0, none⟩) n c, .int .i64 a, .int .i64 b] w fun e w' => ∃ t : Bool, e = .returned (.bool t) ∧ Pq g n (fun A => PermIn a b D A ∧ (t = true → SortedIn ltInt a b A)) w w' := by
  have HSP := Lib.hid (Go.Sort.partialInsertionSort_holds swo_ltInt D a b ha (by rw [hD]; exact hb) hB)
  obtain ⟨T, hT⟩ : ∃ T, partialInsertionSort ltInt D a b = T := ⟨_, rfl⟩
  rw [hT] at HSP
  have hpS : Hid (Pq g n (fun A => partialIns ltInt a b 5 (a + 1) A = T) w w) := Lib.hid (Pq.start hD hT h)
  clear h hT hD hB
  go_enter Tryz.func109, Tryz.ntmps109
  go_wp2
  go_loopw [7, 8] (fun si sj wr => ∃ (I : Int) (j : Nat), (a : Int) + 1 ≤ I ∧ I ≤ b ∧ j ≤ 5 ∧ si = .int .i64 I ∧ sj = .int .i64 j ∧ Hid (Pq g n (fun A => partialIns ltInt a b (5 - j) I.toNat A = T) w wr)) (fun _ sj _ => 5 - (intOf sj).toNat)
  case atStart => exact ⟨(a : Int) + 1, 0, by omega, by omega, by omega, rfl, rfl, by rw [show ((a : Int) + 1).toNat = a + 1 by omega]; exact hpS⟩
  case round =>
    obtain ⟨I, j, hI0, hI1, hj, rfl, rfl, hp0⟩ := hrel
    by_cases hj5 : j < 5
    · have qj : decide ((j : Int) < 5) = true := by simp; omega
      obtain ⟨s, hs⟩ : ∃ s, 5 - j = s + 1 := ⟨4 - j, by omega⟩
      rw [hs] at hp0
      go_wp2
      go_loopw [7] (fun sv wq => ∃ I1 : Int, (a : Int) + 1 ≤ I1 ∧ I1 ≤ b ∧ sv = .int .i64 I1 ∧ Hid (Pq g n (fun A => partialIns ltInt a b (s + 1) I1.toNat A = T) w wq)) (fun sv _ => ((b : Int) - intOf sv).toNat)
      case atStart => exact ⟨I, hI0, hI1, rfl, hp0⟩
      case round =>
        clear hp0
        obtain ⟨I1, k0, k1, rfl, hpa⟩ := hrel
        by_cases hib : I1 < (b : Int)
        · obtain ⟨m, hm⟩ := Int.eq_ofNat_of_zero_le (show 0 ≤ I1 - 1 by omega)
          have v0 : 0 ≤ I1 := by omega
          have v1 : I1 < (n : Int) := by omega
          have v2 : (0 : Int) ≤ (m : Int) := by omega
          have v3 : (m : Int) < (n : Int) := by omega
          have hne : I1.toNat ≠ m := by omega
          have w1 : IntKind.i64.wrap (I1 - 1) = (m : Int) := by rw [hm]; exact IntWalk.i64_in _ (by omega)
          obtain ⟨d1, hs1, hp1, hr1, hg1⟩ := hpa.out
          obtain ⟨x, hx, hcx⟩ := hr1.get (show I1.toNat < n by omega)
          obtain ⟨y, hy, hcy⟩ := hr1.get (show m < n by omega)
          have fx := hr1.free I1.toNat (by omega)
          have fy := hr1.free m (by omega)
          have HX := Lib.hid hx
          have HY := Lib.hid hy
          have HR1 := Lib.hid hr1
          have HP1 := Lib.hid hp1
          have HS1 := Lib.hid hs1
          have HM := Lib.hid hm
          have HVM : Hid (I1.toNat = m + 1) := Lib.hid (by omega)
          clear hx hy hr1 hp1 hm hs1 hpa
          have qg : decide (I1 < (b : Int)) = true := by simpa using hib
          have HYP : Hid (d1[I1.toNat - 1]! = y) := Lib.hid (by rw [HVM.out]; exact bang HY.out)
          by_cases hxy : x < y
          · have q5 : decide (x < y) = true := by simpa using hxy
            have qe : (I1 == (b : Int)) = false := by rw [beq_eq_false_iff_ne]; omega
            by_cases h50 : (b : Int) - a < 50
            · have HQ : Hid (Pq g n (fun A => PermIn a b D A ∧ (false = true → SortedIn ltInt a b A)) w wr) := Lib.hid (Pq.mk' HS1.out (by
                have h9 := HP1.out
                rw [pins_stop (by omega) (bang HX.out) HYP.out hxy (by omega)] at h9
                have h8 := HSP.out.1
                rw [← h9] at h8
                exact ⟨h8, fun e => by cases e⟩) hg1 HR1.out)
              go_wp2
              go_quiet ((go_at_call 110; first | exact less_quiet _ _ | exact less_quiet2 _ _))
              go_wp2
              go_ret
              exact ⟨false, rfl, HQ.out.drewN _⟩
            · have HG9 : Hid (partialIns ltInt a b s I1.toNat (Go.Sort.fixUp ltInt b I1.toNat (Go.Sort.fixDown ltInt a I1.toNat (swp d1 I1.toNat (I1.toNat - 1)))) = T) := Lib.hid (by
                have h9 := HP1.out
                rw [pins_go (by omega) (bang HX.out) HYP.out hxy (by omega)] at h9
                exact h9)
              clear HYP
              go_wp2
              go_quiet ((go_at_call 110; first | exact less_quiet _ _ | exact less_quiet2 _ _))
              go_wp2
              generalize hwx : wr.drewN nq = wx
              have hcx2 : wx.cell? ⟨g, I1.toNat, none⟩ = some (.int .u64 x) := by rw [← hwx]; exact hcx
              have hcy2 : wx.cell? ⟨g, m, none⟩ = some (.int .u64 y) := by rw [← hwx]; exact hcy
              have fx2 : wx.frozen? ⟨g, I1.toNat, none⟩ = false := by rw [← hwx]; exact fx
              have fy2 : wx.frozen? ⟨g, m, none⟩ = false := by rw [← hwx]; exact fy
              have HRX : Hid (Row wx g n d1.toList) := by rw [← hwx]; exact HR1.out.drewN nq
              have HGX : Hid (w.grownBy wx (some g)) := by rw [← hwx]; exact hg1.trans (grown_drewN _ _ _)
              clear hwx hcx hcy fx fy HR1 hg1
              go_wp2
              go_region
              by_cases hl2 : 2 ≤ I1 - (a : Int) <;> by_cases hr2 : 2 ≤ (b : Int) - I1
              · have HQ : Hid (partialIns ltInt a b s I1.toNat (shiftUp ltInt b (I1 + 1).toNat (shiftDown ltInt m (swp d1 I1.toNat m))) = T) := Lib.hid (by
                  have h9 := HG9.out
                  unfold Go.Sort.fixUp Go.Sort.fixDown at h9
                  rw [if_pos (by omega), if_pos (by omega)] at h9
                  rw [show I1.toNat - 1 = m by have := HVM.out; omega] at h9; rw [show (I1 + 1).toNat = I1.toNat + 1 by omega]; exact h9)
                go_wp2
                have hps := Lib.hid (Pq.swap (Q := fun A => partialIns ltInt a b s I1.toNat (shiftUp ltInt b (I1 + 1).toNat (shiftDown ltInt m A)) = T) HS1.out HGX.out HRX.out HX.out HY.out 1 rfl HQ.out)
                have HMS := HM
                clear HX HY HRX HGX HP1 HS1 HM HVM HG9 HQ hcx2 hcy2 fx2 fy2 v0 v1 v2 v3 hne w1 q5 qg qe hxy
                generalize ((wx.drew.setCell ⟨g, I1.toNat, none⟩ (.int .u64 y)).setCell ⟨g, m, none⟩ (.int .u64 x)) = wy at hps ⊢
                go_loopw [9] (fun sv wq => ∃ V1 : Int, 0 ≤ V1 ∧ V1 < (b : Int) ∧ sv = .int .i64 V1 ∧ Hid (Pq g n (fun A => partialIns ltInt a b s I1.toNat (shiftUp ltInt b (I1 + 1).toNat (shiftDown ltInt (V1).toNat A)) = T) w wq)) (fun sv _ => (intOf sv).toNat)
                case atStart => exact ⟨(m : Int), by have := HMS.out; omega, by have := HMS.out; omega, by first | rfl | go_num, by rw [show ((m : Int)).toNat = m from rfl]; exact hps⟩
                case round =>
                  obtain ⟨V1, hl4, hu5, rfl, hp2⟩ := hrel
                  by_cases hvt : 1 ≤ V1
                  · obtain ⟨m, hm⟩ := Int.eq_ofNat_of_zero_le (show 0 ≤ V1 - 1 by omega)
                    have v0 : 0 ≤ V1 := by omega
                    have v1 : V1 < (n : Int) := by omega
                    have v2 : (0 : Int) ≤ (m : Int) := by omega
                    have v3 : (m : Int) < (n : Int) := by omega
                    have hne : V1.toNat ≠ m := by omega
                    have w1 : IntKind.i64.wrap (V1 - 1) = (m : Int) := by rw [hm]; exact IntWalk.i64_in _ (by omega)
                    obtain ⟨d1, hs1, hp1, hr1, hg1⟩ := hp2.out
                    obtain ⟨x, hx, hcx⟩ := hr1.get (show V1.toNat < n by omega)
                    obtain ⟨y, hy, hcy⟩ := hr1.get (show m < n by omega)
                    have fx := hr1.free V1.toNat (by omega)
                    have fy := hr1.free m (by omega)
                    have HX := Lib.hid hx
                    have HY := Lib.hid hy
                    have HR1 := Lib.hid hr1
                    have HP1 := Lib.hid hp1
                    have HS1 := Lib.hid hs1
                    have HM := Lib.hid hm
                    have HVM : Hid (V1.toNat = m + 1) := Lib.hid (by omega)
                    clear hx hy hr1 hp1 hm hs1 hp2
                    by_cases hxy : x < y
                    · have q5 : decide (x < y) = true := by simpa using hxy
                      have HQ : Hid (partialIns ltInt a b s I1.toNat (shiftUp ltInt b (I1 + 1).toNat (shiftDown ltInt ((m : Int)).toNat (swp d1 V1.toNat m))) = T) := Lib.hid (by have h9 := HP1.out; rw [down_go HVM.out (bang HX.out) (bang HY.out) hxy] at h9; exact h9)
                      go_wp2
                      go_quiet ((go_at_call 110; first | exact less_quiet _ _ | exact less_quiet2 _ _))
                      go_wp2
                      go_region
                      go_wp2
                      go_roundw
                      case rel => exact ⟨(m : Int), by have := HM.out; omega, by have := HM.out; omega, by first | rfl | go_num, Pq.swap HS1.out (hg1.trans (grown_drewN _ _ _)) (HR1.out.drewN _) HX.out HY.out 1 rfl HQ.out⟩
                      case measure => simp [intOf]; have := HM.out; omega
                    · have q5 : decide (x < y) = false := by simpa using hxy
                      have q6 : y ≤ x := by omega
                      have HQ : Hid (partialIns ltInt a b s I1.toNat (shiftUp ltInt b (I1 + 1).toNat d1) = T) := Lib.hid (by have h9 := HP1.out; rw [down_stop HVM.out (bang HX.out) (bang HY.out) hxy] at h9; exact h9)
                      go_wp2
                      go_quiet ((go_at_call 110; first | exact less_quiet _ _ | exact less_quiet2 _ _))
                      go_wp2
                      have hp3 := Lib.hid ((Pq.mk' (P := fun A => partialIns ltInt a b s I1.toNat (shiftUp ltInt b (I1 + 1).toNat A) = T) HS1.out HQ.out hg1 HR1.out).drewN nq)
                      clear HX HY HR1 HP1 HS1 HM HVM hcx hcy fx fy hg1 v0 v1 v2 v3 hne w1 q5 q6 hxy HQ
                      generalize wr.drewN nq = wx at hp3 ⊢
                      go_loopw [10] (fun sv wq => ∃ V6 : Int, I1 + 1 ≤ V6 ∧ V6 ≤ (b : Int) ∧ sv = .int .i64 V6 ∧ Hid (Pq g n (fun A => partialIns ltInt a b s I1.toNat (shiftUp ltInt b (V6).toNat A) = T) w wq)) (fun sv _ => ((b : Int) - intOf sv).toNat)
                      case atStart => exact ⟨I1 + 1, by omega, by omega, by first | rfl | go_num, hp3⟩
                      case round =>
                        obtain ⟨V6, hl9, hu10, rfl, hp7⟩ := hrel
                        by_cases hvt : V6 < (b : Int)
                        · obtain ⟨m, hm⟩ := Int.eq_ofNat_of_zero_le (show 0 ≤ V6 - 1 by omega)
                          have v0 : 0 ≤ V6 := by omega
                          have v1 : V6 < (n : Int) := by omega
                          have v2 : (0 : Int) ≤ (m : Int) := by omega
                          have v3 : (m : Int) < (n : Int) := by omega
                          have hne : V6.toNat ≠ m := by omega
                          have w1 : IntKind.i64.wrap (V6 - 1) = (m : Int) := by rw [hm]; exact IntWalk.i64_in _ (by omega)
                          obtain ⟨d1, hs1, hp1, hr1, hg1⟩ := hp7.out
                          obtain ⟨x, hx, hcx⟩ := hr1.get (show V6.toNat < n by omega)
                          obtain ⟨y, hy, hcy⟩ := hr1.get (show m < n by omega)
                          have fx := hr1.free V6.toNat (by omega)
                          have fy := hr1.free m (by omega)
                          have HX := Lib.hid hx
                          have HY := Lib.hid hy
                          have HR1 := Lib.hid hr1
                          have HP1 := Lib.hid hp1
                          have HS1 := Lib.hid hs1
                          have HM := Lib.hid hm
                          have HVM : Hid (V6.toNat = m + 1) := Lib.hid (by omega)
                          clear hx hy hr1 hp1 hm hs1 hp7
                          by_cases hxy : x < y
                          · have q5 : decide (x < y) = true := by simpa using hxy
                            have HQ : Hid (partialIns ltInt a b s I1.toNat (shiftUp ltInt b (V6 + 1).toNat (swp d1 V6.toNat m)) = T) := Lib.hid (by have h9 := HP1.out; rw [up_go (by omega) (bang HX.out) (by rw [HVM.out]; exact bang HY.out) hxy] at h9; rw [show (V6 + 1).toNat = V6.toNat + 1 by omega]; rw [show V6.toNat - 1 = m by have := HVM.out; omega] at h9; exact h9)
                            go_wp2
                            go_quiet ((go_at_call 110; first | exact less_quiet _ _ | exact less_quiet2 _ _))
                            go_wp2
                            go_region
                            go_wp2
                            go_roundw
                            case rel => exact ⟨V6 + 1, by have := HM.out; omega, by have := HM.out; omega, by first | rfl | go_num, Pq.swap HS1.out (hg1.trans (grown_drewN _ _ _)) (HR1.out.drewN _) HX.out HY.out 1 rfl HQ.out⟩
                            case measure => simp [intOf]; have := HM.out; omega
                          · have q5 : decide (x < y) = false := by simpa using hxy
                            have q6 : y ≤ x := by omega
                            have HQ : Hid (partialIns ltInt a b s I1.toNat d1 = T) := Lib.hid (by have h9 := HP1.out; rw [up_stop (bang HX.out) (by rw [HVM.out]; exact bang HY.out) hxy] at h9; exact h9)
                            go_wp2
                            go_quiet ((go_at_call 110; first | exact less_quiet _ _ | exact less_quiet2 _ _))
                            go_wp2
                            have hp8 := Lib.hid ((Pq.mk' (P := fun A => partialIns ltInt a b s I1.toNat A = T) HS1.out HQ.out hg1 HR1.out).drewN nq)
                            clear HX HY HR1 HP1 HS1 HM HVM hcx hcy fx fy hg1 v0 v1 v2 v3 hne w1 q5 q6 hxy HQ
                            generalize wr.drewN nq = wx at hp8 ⊢
                            go_roundw
                            case rel => first | exact ⟨I1, j + 1, by omega, by omega, by omega, rfl, by go_num, by rw [show 5 - (j + 1) = s by omega]; exact hp8.out⟩ | ((repeat apply Exists.intro); exact ⟨⟨I1, j + 1, by omega, by omega, by omega, rfl, by go_num, by rw [show 5 - (j + 1) = s by omega]; exact hp8.out⟩, rfl⟩)
                            case measure => simp [intOf] <;> omega
                        · have HQ : Hid (Pq g n (fun A => partialIns ltInt a b s I1.toNat A = T) w wr) := Lib.hid (hp7.out.imp fun A _ h9 => by rw [up_end (by omega)] at h9; exact h9)
                          clear hp7
                          go_wp2
                          go_roundw
                          case rel => first | exact ⟨I1, j + 1, by omega, by omega, by omega, rfl, by go_num, by rw [show 5 - (j + 1) = s by omega]; exact HQ.out⟩ | ((repeat apply Exists.intro); exact ⟨⟨I1, j + 1, by omega, by omega, by omega, rfl, by go_num, by rw [show 5 - (j + 1) = s by omega]; exact HQ.out⟩, rfl⟩)
                          case measure => simp [intOf] <;> omega
                  · have HQ : Hid (Pq g n (fun A => partialIns ltInt a b s I1.toNat (shiftUp ltInt b (I1 + 1).toNat A) = T) w wr) := Lib.hid (hp2.out.imp fun A _ h9 => by rw [down_end (show V1.toNat = 0 by omega)] at h9; exact h9)
                    clear hp2
                    go_wp2
                    go_loopw [10] (fun sv wq => ∃ V11 : Int, I1 + 1 ≤ V11 ∧ V11 ≤ (b : Int) ∧ sv = .int .i64 V11 ∧ Hid (Pq g n (fun A => partialIns ltInt a b s I1.toNat (shiftUp ltInt b (V11).toNat A) = T) w wq)) (fun sv _ => ((b : Int) - intOf sv).toNat)
                    case atStart => exact ⟨I1 + 1, by omega, by omega, by first | rfl | go_num, HQ⟩
                    case round =>
                      obtain ⟨V11, hl14, hu15, rfl, hp12⟩ := hrel
                      by_cases hvt : V11 < (b : Int)
                      · obtain ⟨m, hm⟩ := Int.eq_ofNat_of_zero_le (show 0 ≤ V11 - 1 by omega)
                        have v0 : 0 ≤ V11 := by omega
                        have v1 : V11 < (n : Int) := by omega
                        have v2 : (0 : Int) ≤ (m : Int) := by omega
                        have v3 : (m : Int) < (n : Int) := by omega
                        have hne : V11.toNat ≠ m := by omega
                        have w1 : IntKind.i64.wrap (V11 - 1) = (m : Int) := by rw [hm]; exact IntWalk.i64_in _ (by omega)
                        obtain ⟨d1, hs1, hp1, hr1, hg1⟩ := hp12.out
                        obtain ⟨x, hx, hcx⟩ := hr1.get (show V11.toNat < n by omega)
                        obtain ⟨y, hy, hcy⟩ := hr1.get (show m < n by omega)
                        have fx := hr1.free V11.toNat (by omega)
                        have fy := hr1.free m (by omega)
                        have HX := Lib.hid hx
                        have HY := Lib.hid hy
                        have HR1 := Lib.hid hr1
                        have HP1 := Lib.hid hp1
                        have HS1 := Lib.hid hs1
                        have HM := Lib.hid hm
                        have HVM : Hid (V11.toNat = m + 1) := Lib.hid (by omega)
                        clear hx hy hr1 hp1 hm hs1 hp12
                        by_cases hxy : x < y
                        · have q5 : decide (x < y) = true := by simpa using hxy
                          have HQ : Hid (partialIns ltInt a b s I1.toNat (shiftUp ltInt b (V11 + 1).toNat (swp d1 V11.toNat m)) = T) := Lib.hid (by have h9 := HP1.out; rw [up_go (by omega) (bang HX.out) (by rw [HVM.out]; exact bang HY.out) hxy] at h9; rw [show (V11 + 1).toNat = V11.toNat + 1 by omega]; rw [show V11.toNat - 1 = m by have := HVM.out; omega] at h9; exact h9)
                          go_wp2
                          go_quiet ((go_at_call 110; first | exact less_quiet _ _ | exact less_quiet2 _ _))
                          go_wp2
                          go_region
                          go_wp2
                          go_roundw
                          case rel => exact ⟨V11 + 1, by have := HM.out; omega, by have := HM.out; omega, by first | rfl | go_num, Pq.swap HS1.out (hg1.trans (grown_drewN _ _ _)) (HR1.out.drewN _) HX.out HY.out 1 rfl HQ.out⟩
                          case measure => simp [intOf]; have := HM.out; omega
                        · have q5 : decide (x < y) = false := by simpa using hxy
                          have q6 : y ≤ x := by omega
                          have HQ : Hid (partialIns ltInt a b s I1.toNat d1 = T) := Lib.hid (by have h9 := HP1.out; rw [up_stop (bang HX.out) (by rw [HVM.out]; exact bang HY.out) hxy] at h9; exact h9)
                          go_wp2
                          go_quiet ((go_at_call 110; first | exact less_quiet _ _ | exact less_quiet2 _ _))
                          go_wp2
                          have hp13 := Lib.hid ((Pq.mk' (P := fun A => partialIns ltInt a b s I1.toNat A = T) HS1.out HQ.out hg1 HR1.out).drewN nq)
                          clear HX HY HR1 HP1 HS1 HM HVM hcx hcy fx fy hg1 v0 v1 v2 v3 hne w1 q5 q6 hxy HQ
                          generalize wr.drewN nq = wx at hp13 ⊢
                          go_roundw
                          case rel => first | exact ⟨I1, j + 1, by omega, by omega, by omega, rfl, by go_num, by rw [show 5 - (j + 1) = s by omega]; exact hp13.out⟩ | ((repeat apply Exists.intro); exact ⟨⟨I1, j + 1, by omega, by omega, by omega, rfl, by go_num, by rw [show 5 - (j + 1) = s by omega]; exact hp13.out⟩, rfl⟩)
                          case measure => simp [intOf] <;> omega
                      · have HQ : Hid (Pq g n (fun A => partialIns ltInt a b s I1.toNat A = T) w wr) := Lib.hid (hp12.out.imp fun A _ h9 => by rw [up_end (by omega)] at h9; exact h9)
                        clear hp12
                        go_wp2
                        go_roundw
                        case rel => first | exact ⟨I1, j + 1, by omega, by omega, by omega, rfl, by go_num, by rw [show 5 - (j + 1) = s by omega]; exact HQ.out⟩ | ((repeat apply Exists.intro); exact ⟨⟨I1, j + 1, by omega, by omega, by omega, rfl, by go_num, by rw [show 5 - (j + 1) = s by omega]; exact HQ.out⟩, rfl⟩)
                        case measure => simp [intOf] <;> omega
              · have HQ : Hid (partialIns ltInt a b s I1.toNat (shiftDown ltInt m (swp d1 I1.toNat m)) = T) := Lib.hid (by
                  have h9 := HG9.out
                  unfold Go.Sort.fixUp Go.Sort.fixDown at h9
                  rw [if_neg (by omega), if_pos (by omega)] at h9
                  rw [show I1.toNat - 1 = m by have := HVM.out; omega] at h9; exact h9)
                go_wp2
                have hps := Lib.hid (Pq.swap (Q := fun A => partialIns ltInt a b s I1.toNat (shiftDown ltInt m A) = T) HS1.out HGX.out HRX.out HX.out HY.out 1 rfl HQ.out)
                have HMS := HM
                clear HX HY HRX HGX HP1 HS1 HM HVM HG9 HQ hcx2 hcy2 fx2 fy2 v0 v1 v2 v3 hne w1 q5 qg qe hxy
                generalize ((wx.drew.setCell ⟨g, I1.toNat, none⟩ (.int .u64 y)).setCell ⟨g, m, none⟩ (.int .u64 x)) = wy at hps ⊢
                go_loopw [9] (fun sv wq => ∃ V16 : Int, 0 ≤ V16 ∧ V16 < (b : Int) ∧ sv = .int .i64 V16 ∧ Hid (Pq g n (fun A => partialIns ltInt a b s I1.toNat (shiftDown ltInt (V16).toNat A) = T) w wq)) (fun sv _ => (intOf sv).toNat)
                case atStart => exact ⟨(m : Int), by have := HMS.out; omega, by have := HMS.out; omega, by first | rfl | go_num, by rw [show ((m : Int)).toNat = m from rfl]; exact hps⟩
                case round =>
                  obtain ⟨V16, hl19, hu20, rfl, hp17⟩ := hrel
                  by_cases hvt : 1 ≤ V16
                  · obtain ⟨m, hm⟩ := Int.eq_ofNat_of_zero_le (show 0 ≤ V16 - 1 by omega)
                    have v0 : 0 ≤ V16 := by omega
                    have v1 : V16 < (n : Int) := by omega
                    have v2 : (0 : Int) ≤ (m : Int) := by omega
                    have v3 : (m : Int) < (n : Int) := by omega
                    have hne : V16.toNat ≠ m := by omega
                    have w1 : IntKind.i64.wrap (V16 - 1) = (m : Int) := by rw [hm]; exact IntWalk.i64_in _ (by omega)
                    obtain ⟨d1, hs1, hp1, hr1, hg1⟩ := hp17.out
                    obtain ⟨x, hx, hcx⟩ := hr1.get (show V16.toNat < n by omega)
                    obtain ⟨y, hy, hcy⟩ := hr1.get (show m < n by omega)
                    have fx := hr1.free V16.toNat (by omega)
                    have fy := hr1.free m (by omega)
                    have HX := Lib.hid hx
                    have HY := Lib.hid hy
                    have HR1 := Lib.hid hr1
                    have HP1 := Lib.hid hp1
                    have HS1 := Lib.hid hs1
                    have HM := Lib.hid hm
                    have HVM : Hid (V16.toNat = m + 1) := Lib.hid (by omega)
                    clear hx hy hr1 hp1 hm hs1 hp17
                    by_cases hxy : x < y
                    · have q5 : decide (x < y) = true := by simpa using hxy
                      have HQ : Hid (partialIns ltInt a b s I1.toNat (shiftDown ltInt ((m : Int)).toNat (swp d1 V16.toNat m)) = T) := Lib.hid (by have h9 := HP1.out; rw [down_go HVM.out (bang HX.out) (bang HY.out) hxy] at h9; exact h9)
                      go_wp2
                      go_quiet ((go_at_call 110; first | exact less_quiet _ _ | exact less_quiet2 _ _))
                      go_wp2
                      go_region
                      go_wp2
                      go_roundw
                      case rel => exact ⟨(m : Int), by have := HM.out; omega, by have := HM.out; omega, by first | rfl | go_num, Pq.swap HS1.out (hg1.trans (grown_drewN _ _ _)) (HR1.out.drewN _) HX.out HY.out 1 rfl HQ.out⟩
                      case measure => simp [intOf]; have := HM.out; omega
                    · have q5 : decide (x < y) = false := by simpa using hxy
                      have q6 : y ≤ x := by omega
                      have HQ : Hid (partialIns ltInt a b s I1.toNat d1 = T) := Lib.hid (by have h9 := HP1.out; rw [down_stop HVM.out (bang HX.out) (bang HY.out) hxy] at h9; exact h9)
                      go_wp2
                      go_quiet ((go_at_call 110; first | exact less_quiet _ _ | exact less_quiet2 _ _))
                      go_wp2
                      have hp18 := Lib.hid ((Pq.mk' (P := fun A => partialIns ltInt a b s I1.toNat A = T) HS1.out HQ.out hg1 HR1.out).drewN nq)
                      clear HX HY HR1 HP1 HS1 HM HVM hcx hcy fx fy hg1 v0 v1 v2 v3 hne w1 q5 q6 hxy HQ
                      generalize wr.drewN nq = wx at hp18 ⊢
                      go_roundw
                      case rel => first | exact ⟨I1, j + 1, by omega, by omega, by omega, rfl, by go_num, by rw [show 5 - (j + 1) = s by omega]; exact hp18.out⟩ | ((repeat apply Exists.intro); exact ⟨⟨I1, j + 1, by omega, by omega, by omega, rfl, by go_num, by rw [show 5 - (j + 1) = s by omega]; exact hp18.out⟩, rfl⟩)
                      case measure => simp [intOf] <;> omega
                  · have HQ : Hid (Pq g n (fun A => partialIns ltInt a b s I1.toNat A = T) w wr) := Lib.hid (hp17.out.imp fun A _ h9 => by rw [down_end (show V16.toNat = 0 by omega)] at h9; exact h9)
                    clear hp17
                    go_wp2
                    go_roundw
                    case rel => first | exact ⟨I1, j + 1, by omega, by omega, by omega, rfl, by go_num, by rw [show 5 - (j + 1) = s by omega]; exact HQ.out⟩ | ((repeat apply Exists.intro); exact ⟨⟨I1, j + 1, by omega, by omega, by omega, rfl, by go_num, by rw [show 5 - (j + 1) = s by omega]; exact HQ.out⟩, rfl⟩)
                    case measure => simp [intOf] <;> omega
              · have HQ : Hid (partialIns ltInt a b s I1.toNat (shiftUp ltInt b (I1 + 1).toNat (swp d1 I1.toNat m)) = T) := Lib.hid (by
                  have h9 := HG9.out
                  unfold Go.Sort.fixUp Go.Sort.fixDown at h9
                  rw [if_pos (by omega), if_neg (by omega)] at h9
                  rw [show I1.toNat - 1 = m by have := HVM.out; omega] at h9; rw [show (I1 + 1).toNat = I1.toNat + 1 by omega]; exact h9)
                go_wp2
                have hps := Lib.hid (Pq.swap (Q := fun A => partialIns ltInt a b s I1.toNat (shiftUp ltInt b (I1 + 1).toNat A) = T) HS1.out HGX.out HRX.out HX.out HY.out 1 rfl HQ.out)
                have HMS := HM
                clear HX HY HRX HGX HP1 HS1 HM HVM HG9 HQ hcx2 hcy2 fx2 fy2 v0 v1 v2 v3 hne w1 q5 qg qe hxy
                generalize ((wx.drew.setCell ⟨g, I1.toNat, none⟩ (.int .u64 y)).setCell ⟨g, m, none⟩ (.int .u64 x)) = wy at hps ⊢
                go_loopw [10] (fun sv wq => ∃ V24 : Int, I1 + 1 ≤ V24 ∧ V24 ≤ (b : Int) ∧ sv = .int .i64 V24 ∧ Hid (Pq g n (fun A => partialIns ltInt a b s I1.toNat (shiftUp ltInt b (V24).toNat A) = T) w wq)) (fun sv _ => ((b : Int) - intOf sv).toNat)
                case atStart => exact ⟨I1 + 1, by omega, by omega, by first | rfl | go_num, hps⟩
                case round =>
                  obtain ⟨V24, hl27, hu28, rfl, hp25⟩ := hrel
                  by_cases hvt : V24 < (b : Int)
                  · obtain ⟨m, hm⟩ := Int.eq_ofNat_of_zero_le (show 0 ≤ V24 - 1 by omega)
                    have v0 : 0 ≤ V24 := by omega
                    have v1 : V24 < (n : Int) := by omega
                    have v2 : (0 : Int) ≤ (m : Int) := by omega
                    have v3 : (m : Int) < (n : Int) := by omega
                    have hne : V24.toNat ≠ m := by omega
                    have w1 : IntKind.i64.wrap (V24 - 1) = (m : Int) := by rw [hm]; exact IntWalk.i64_in _ (by omega)
                    obtain ⟨d1, hs1, hp1, hr1, hg1⟩ := hp25.out
                    obtain ⟨x, hx, hcx⟩ := hr1.get (show V24.toNat < n by omega)
                    obtain ⟨y, hy, hcy⟩ := hr1.get (show m < n by omega)
                    have fx := hr1.free V24.toNat (by omega)
                    have fy := hr1.free m (by omega)
                    have HX := Lib.hid hx
                    have HY := Lib.hid hy
                    have HR1 := Lib.hid hr1
                    have HP1 := Lib.hid hp1
                    have HS1 := Lib.hid hs1
                    have HM := Lib.hid hm
                    have HVM : Hid (V24.toNat = m + 1) := Lib.hid (by omega)
                    clear hx hy hr1 hp1 hm hs1 hp25
                    by_cases hxy : x < y
                    · have q5 : decide (x < y) = true := by simpa using hxy
                      have HQ : Hid (partialIns ltInt a b s I1.toNat (shiftUp ltInt b (V24 + 1).toNat (swp d1 V24.toNat m)) = T) := Lib.hid (by have h9 := HP1.out; rw [up_go (by omega) (bang HX.out) (by rw [HVM.out]; exact bang HY.out) hxy] at h9; rw [show (V24 + 1).toNat = V24.toNat + 1 by omega]; rw [show V24.toNat - 1 = m by have := HVM.out; omega] at h9; exact h9)
                      go_wp2
                      go_quiet ((go_at_call 110; first | exact less_quiet _ _ | exact less_quiet2 _ _))
                      go_wp2
                      go_region
                      go_wp2
                      go_roundw
                      case rel => exact ⟨V24 + 1, by have := HM.out; omega, by have := HM.out; omega, by first | rfl | go_num, Pq.swap HS1.out (hg1.trans (grown_drewN _ _ _)) (HR1.out.drewN _) HX.out HY.out 1 rfl HQ.out⟩
                      case measure => simp [intOf]; have := HM.out; omega
                    · have q5 : decide (x < y) = false := by simpa using hxy
                      have q6 : y ≤ x := by omega
                      have HQ : Hid (partialIns ltInt a b s I1.toNat d1 = T) := Lib.hid (by have h9 := HP1.out; rw [up_stop (bang HX.out) (by rw [HVM.out]; exact bang HY.out) hxy] at h9; exact h9)
                      go_wp2
                      go_quiet ((go_at_call 110; first | exact less_quiet _ _ | exact less_quiet2 _ _))
                      go_wp2
                      have hp26 := Lib.hid ((Pq.mk' (P := fun A => partialIns ltInt a b s I1.toNat A = T) HS1.out HQ.out hg1 HR1.out).drewN nq)
                      clear HX HY HR1 HP1 HS1 HM HVM hcx hcy fx fy hg1 v0 v1 v2 v3 hne w1 q5 q6 hxy HQ
                      generalize wr.drewN nq = wx at hp26 ⊢
                      go_roundw
                      case rel => first | exact ⟨I1, j + 1, by omega, by omega, by omega, rfl, by go_num, by rw [show 5 - (j + 1) = s by omega]; exact hp26.out⟩ | ((repeat apply Exists.intro); exact ⟨⟨I1, j + 1, by omega, by omega, by omega, rfl, by go_num, by rw [show 5 - (j + 1) = s by omega]; exact hp26.out⟩, rfl⟩)
                      case measure => simp [intOf] <;> omega
                  · have HQ : Hid (Pq g n (fun A => partialIns ltInt a b s I1.toNat A = T) w wr) := Lib.hid (hp25.out.imp fun A _ h9 => by rw [up_end (by omega)] at h9; exact h9)
                    clear hp25
                    go_wp2
                    go_roundw
                    case rel => first | exact ⟨I1, j + 1, by omega, by omega, by omega, rfl, by go_num, by rw [show 5 - (j + 1) = s by omega]; exact HQ.out⟩ | ((repeat apply Exists.intro); exact ⟨⟨I1, j + 1, by omega, by omega, by omega, rfl, by go_num, by rw [show 5 - (j + 1) = s by omega]; exact HQ.out⟩, rfl⟩)
                    case measure => simp [intOf] <;> omega
              · have HQ : Hid (partialIns ltInt a b s I1.toNat (swp d1 I1.toNat m) = T) := Lib.hid (by
                  have h9 := HG9.out
                  unfold Go.Sort.fixUp Go.Sort.fixDown at h9
                  rw [if_neg (by omega), if_neg (by omega)] at h9
                  rw [show I1.toNat - 1 = m by have := HVM.out; omega] at h9; exact h9)
                go_wp2
                have hps := Lib.hid (Pq.swap (Q := fun A => partialIns ltInt a b s I1.toNat A = T) HS1.out HGX.out HRX.out HX.out HY.out 1 rfl HQ.out)
                have HMS := HM
                clear HX HY HRX HGX HP1 HS1 HM HVM HG9 HQ hcx2 hcy2 fx2 fy2 v0 v1 v2 v3 hne w1 q5 qg qe hxy
                generalize ((wx.drew.setCell ⟨g, I1.toNat, none⟩ (.int .u64 y)).setCell ⟨g, m, none⟩ (.int .u64 x)) = wy at hps ⊢
                go_roundw
                case rel => first | exact ⟨I1, j + 1, by omega, by omega, by omega, rfl, by go_num, by rw [show 5 - (j + 1) = s by omega]; exact hps.out⟩ | ((repeat apply Exists.intro); exact ⟨⟨I1, j + 1, by omega, by omega, by omega, rfl, by go_num, by rw [show 5 - (j + 1) = s by omega]; exact hps.out⟩, rfl⟩)
                case measure => simp [intOf] <;> omega
          · have q5 : decide (x < y) = false := by simpa using hxy
            have q6 : y ≤ x := by omega
            have HQ : Hid (Pq g n (fun A => partialIns ltInt a b (s + 1) (I1 + 1).toNat A = T) w wr) := Lib.hid (Pq.mk' HS1.out (by
              have h9 := HP1.out
              rw [pins_up (by omega) (bang HX.out) HYP.out hxy] at h9
              rw [show (I1 + 1).toNat = I1.toNat + 1 by omega]; exact h9) hg1 HR1.out)
            go_wp2
            go_quiet ((go_at_call 110; first | exact less_quiet _ _ | exact less_quiet2 _ _))
            go_wp2
            go_roundw
            case rel => first | exact ⟨I1 + 1, by omega, by omega, by go_num, HQ.out.drewN _⟩ | ((repeat apply Exists.intro); exact ⟨⟨I1 + 1, by omega, by omega, by go_num, HQ.out.drewN _⟩, rfl⟩)
            case measure => simp [intOf] <;> omega
        · have qg : decide (I1 < (b : Int)) = false := by simpa using hib
          obtain rfl : I1 = (b : Int) := by omega
          have HQ : Hid (Pq g n (fun A => PermIn a b D A ∧ SortedIn ltInt a b A) w wr) := Lib.hid (hpa.out.imp fun A _ h9 => by
            rw [show ((b : Int)).toNat = b from rfl, pins_end] at h9
            have h8 := HSP.out
            rw [← h9] at h8
            exact ⟨h8.1, h8.2 rfl⟩)
          clear hpa
          go_wp2
          go_quiet (fail)
          go_wp2
          go_ret
          exact ⟨true, rfl, (HQ.out.imp fun A _ h => ⟨h.1, fun _ => h.2⟩).drewN _⟩
    · have HQ : Hid (Pq g n (fun A => PermIn a b D A ∧ (false = true → SortedIn ltInt a b A)) w wr) := Lib.hid (hp0.out.imp fun A _ h9 => by
        rw [show 5 - j = 0 by omega, partialIns] at h9
        have h8 := HSP.out.1
        rw [← h9] at h8
        exact ⟨h8, fun e => by cases e⟩)
      clear hp0
      go_wp2
      go_ret
      exact ⟨false, rfl, HQ.out⟩
end Go.Proofs.YtbdcdofjcljliaaGreatDoor.So
