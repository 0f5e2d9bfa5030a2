/- The library's sort at uint64: the partial insertion sort. -/
import Derived.Test.YthamnebbecmegaaSortA
namespace Go.Proofs.Ythamnebbecmegaa.So
open Go.ChangeShapes Go.WideShapes Go.ChangeAt Go.RowKit Rw
set_option linter.unusedVariables false

def Bol (G : World → Prop) (e : Ending) (w' : World) : Prop := ∃ t : Bool, e = .returned (.bool t) ∧ G w'
set_option maxHeartbeats 20000000 in
set_option maxRecDepth 100000 in
theorem partial_any (g n c : Nat) (d : List Int) (a b : Nat) (w : World) (h : Row w g n d) (ha : a < b) (hb : b ≤ n) (hn : n ≤ 1152921504606846976) :
    Calls Try.prog 95 #[.slice (some ⟨g, 0, none⟩) n c, .int .i64 a, .int .i64 b] w (Bol (Pm g n d w)) := by
  have hpS : Hid (Pm g n d w w) := Pm.refl h
  clear h
  go_enter Try.func95, Try.ntmps95
  go_wp2
  go_loopw [7, 8] (fun si sj wr => ∃ (I : Int) (j : Nat), (a : Int) + 1 ≤ I ∧ I ≤ b ∧ j ≤ 5 ∧ si = .int .i64 I ∧ sj = .int .i64 j ∧ Hid (Pm g n d w wr)) (fun _ sj _ => 5 - (intOf sj).toNat)
  case atStart => exact ⟨(a : Int) + 1, 0, by omega, by omega, by omega, rfl, rfl, hpS⟩
  case round =>
    obtain ⟨I, j, hI0, hI1, hj, rfl, rfl, hp0⟩ := hrel
    by_cases hj5 : j < 5
    · have qj : decide ((j : Int) < 5) = true := by simp; omega
      go_wp2
      go_loopw [7] (fun sv wq => ∃ I1 : Int, (a : Int) + 1 ≤ I1 ∧ I1 ≤ b ∧ sv = .int .i64 I1 ∧ Hid (Pm g n d w wq)) (fun sv _ => ((b : Int) - intOf sv).toNat)
      case atStart => exact ⟨I, hI0, hI1, rfl, hp0⟩
      case round =>
        clear hp0
        obtain ⟨I1, k0, k1, rfl, hpa⟩ := hrel
        by_cases hib : I1 < (b : Int)
        · obtain ⟨m, hm⟩ := Int.eq_ofNat_of_zero_le (show 0 ≤ I1 - 1 by omega)
          have v0 : 0 ≤ I1 := by omega
          have v1 : I1 < (n : Int) := by omega
          have v2 : (0 : Int) ≤ (m : Int) := by omega
          have v3 : (m : Int) < (n : Int) := by omega
          have hne : I1.toNat ≠ m := by omega
          have w1 : IntKind.i64.wrap (I1 - 1) = (m : Int) := by rw [hm]; exact IntWalk.i64_in _ (by omega)
          obtain ⟨d1, hp1, hr1, hg1⟩ := hpa.out
          obtain ⟨x, hx, hcx⟩ := hr1.get (show I1.toNat < n by omega)
          obtain ⟨y, hy, hcy⟩ := hr1.get (show m < n by omega)
          have fx := hr1.free I1.toNat (by omega)
          have fy := hr1.free m (by omega)
          have HX := Lib.hid hx
          have HY := Lib.hid hy
          have HR1 := Lib.hid hr1
          have HP1 := Lib.hid hp1
          have HM := Lib.hid hm
          clear hx hy hr1 hp1 hm hpa
          have qg : decide (I1 < (b : Int)) = true := by simpa using hib
          by_cases hxy : x < y
          · have q5 : decide (x < y) = true := by simpa using hxy
            have qe : (I1 == (b : Int)) = false := by rw [beq_eq_false_iff_ne]; omega
            by_cases h50 : (b : Int) - a < 50
            · go_wp2
              go_quiet ((go_at_call 96; first | exact less_quiet _ _ | exact less_quiet2 _ _))
              go_wp2
              go_ret
              exact ⟨false, rfl, Pm.trans HP1.out hg1 ((Pm.refl HR1.out).drewN _)⟩
            · go_wp2
              go_quiet ((go_at_call 96; first | exact less_quiet _ _ | exact less_quiet2 _ _))
              go_wp2
              generalize hwx : wr.drewN nq = wx
              have hcx2 : wx.cell? ⟨g, I1.toNat, none⟩ = some (.int .u64 x) := by rw [← hwx]; exact hcx
              have hcy2 : wx.cell? ⟨g, m, none⟩ = some (.int .u64 y) := by rw [← hwx]; exact hcy
              have fx2 : wx.frozen? ⟨g, I1.toNat, none⟩ = false := by rw [← hwx]; exact fx
              have fy2 : wx.frozen? ⟨g, m, none⟩ = false := by rw [← hwx]; exact fy
              have HRX : Hid (Row wx g n d1) := by rw [← hwx]; exact HR1.out.drewN nq
              have HGX : Hid (w.grownBy wx (some g)) := by rw [← hwx]; exact hg1.trans (grown_drewN _ _ _)
              clear hwx hcx hcy fx fy HR1 hg1
              go_wp2
              go_region
              by_cases hl2 : 2 ≤ I1 - (a : Int) <;> by_cases hr2 : 2 ≤ (b : Int) - I1
              · go_wp2
                have hps := Lib.hid (Pm.trans HP1.out HGX.out (HRX.out.swap HX.out HY.out 1 rfl))
                have HMS := HM
                clear HX HY HRX HGX HP1 HM hcx2 hcy2 fx2 fy2 v0 v1 v2 v3 hne w1 q5 qg qe hxy
                generalize ((wx.drew.setCell ⟨g, I1.toNat, none⟩ (.int .u64 y)).setCell ⟨g, m, none⟩ (.int .u64 x)) = wy at hps ⊢
                go_loopw [9] (fun sv wq => ∃ V1 : Int, 0 ≤ V1 ∧ V1 < (b : Int) ∧ sv = .int .i64 V1 ∧ Hid (Pm g n d w wq)) (fun sv _ => (intOf sv).toNat)
                case atStart => exact ⟨(m : Int), by have := HMS.out; omega, by have := HMS.out; omega, by first | rfl | go_num, hps⟩
                case round =>
                  obtain ⟨V1, hl4, hu5, rfl, hp2⟩ := hrel
                  by_cases hvt : 1 ≤ V1
                  · obtain ⟨m, hm⟩ := Int.eq_ofNat_of_zero_le (show 0 ≤ V1 - 1 by omega)
                    have v0 : 0 ≤ V1 := by omega
                    have v1 : V1 < (n : Int) := by omega
                    have v2 : (0 : Int) ≤ (m : Int) := by omega
                    have v3 : (m : Int) < (n : Int) := by omega
                    have hne : V1.toNat ≠ m := by omega
                    have w1 : IntKind.i64.wrap (V1 - 1) = (m : Int) := by rw [hm]; exact IntWalk.i64_in _ (by omega)
                    obtain ⟨d1, hp1, hr1, hg1⟩ := hp2.out
                    obtain ⟨x, hx, hcx⟩ := hr1.get (show V1.toNat < n by omega)
                    obtain ⟨y, hy, hcy⟩ := hr1.get (show m < n by omega)
                    have fx := hr1.free V1.toNat (by omega)
                    have fy := hr1.free m (by omega)
                    have HX := Lib.hid hx
                    have HY := Lib.hid hy
                    have HR1 := Lib.hid hr1
                    have HP1 := Lib.hid hp1
                    have HM := Lib.hid hm
                    clear hx hy hr1 hp1 hm hp2
                    by_cases hxy : x < y
                    · have q5 : decide (x < y) = true := by simpa using hxy
                      go_wp2
                      go_quiet ((go_at_call 96; first | exact less_quiet _ _ | exact less_quiet2 _ _))
                      go_wp2
                      go_region
                      go_wp2
                      go_roundw
                      case rel => exact ⟨(m : Int), by have := HM.out; omega, by have := HM.out; omega, by first | rfl | go_num, Pm.trans HP1.out (hg1.trans (grown_drewN _ _ _)) ((HR1.out.drewN _).swap HX.out HY.out 1 rfl)⟩
                      case measure => simp [intOf]; have := HM.out; omega
                    · have q5 : decide (x < y) = false := by simpa using hxy
                      have q6 : y ≤ x := by omega
                      go_wp2
                      go_quiet ((go_at_call 96; first | exact less_quiet _ _ | exact less_quiet2 _ _))
                      go_wp2
                      have hp3 := Lib.hid (Pm.trans HP1.out hg1 ((Pm.refl HR1.out).drewN nq))
                      clear HX HY HR1 HP1 HM hcx hcy fx fy hg1 v0 v1 v2 v3 hne w1 q5 q6 hxy
                      generalize wr.drewN nq = wx at hp3 ⊢
                      go_loopw [10] (fun sv wq => ∃ V6 : Int, I1 + 1 ≤ V6 ∧ V6 ≤ (b : Int) ∧ sv = .int .i64 V6 ∧ Hid (Pm g n d w wq)) (fun sv _ => ((b : Int) - intOf sv).toNat)
                      case atStart => exact ⟨I1 + 1, by omega, by omega, by first | rfl | go_num, hp3⟩
                      case round =>
                        obtain ⟨V6, hl9, hu10, rfl, hp7⟩ := hrel
                        by_cases hvt : V6 < (b : Int)
                        · obtain ⟨m, hm⟩ := Int.eq_ofNat_of_zero_le (show 0 ≤ V6 - 1 by omega)
                          have v0 : 0 ≤ V6 := by omega
                          have v1 : V6 < (n : Int) := by omega
                          have v2 : (0 : Int) ≤ (m : Int) := by omega
                          have v3 : (m : Int) < (n : Int) := by omega
                          have hne : V6.toNat ≠ m := by omega
                          have w1 : IntKind.i64.wrap (V6 - 1) = (m : Int) := by rw [hm]; exact IntWalk.i64_in _ (by omega)
                          obtain ⟨d1, hp1, hr1, hg1⟩ := hp7.out
                          obtain ⟨x, hx, hcx⟩ := hr1.get (show V6.toNat < n by omega)
                          obtain ⟨y, hy, hcy⟩ := hr1.get (show m < n by omega)
                          have fx := hr1.free V6.toNat (by omega)
                          have fy := hr1.free m (by omega)
                          have HX := Lib.hid hx
                          have HY := Lib.hid hy
                          have HR1 := Lib.hid hr1
                          have HP1 := Lib.hid hp1
                          have HM := Lib.hid hm
                          clear hx hy hr1 hp1 hm hp7
                          by_cases hxy : x < y
                          · have q5 : decide (x < y) = true := by simpa using hxy
                            go_wp2
                            go_quiet ((go_at_call 96; first | exact less_quiet _ _ | exact less_quiet2 _ _))
                            go_wp2
                            go_region
                            go_wp2
                            go_roundw
                            case rel => exact ⟨V6 + 1, by have := HM.out; omega, by have := HM.out; omega, by first | rfl | go_num, Pm.trans HP1.out (hg1.trans (grown_drewN _ _ _)) ((HR1.out.drewN _).swap HX.out HY.out 1 rfl)⟩
                            case measure => simp [intOf]; have := HM.out; omega
                          · have q5 : decide (x < y) = false := by simpa using hxy
                            have q6 : y ≤ x := by omega
                            go_wp2
                            go_quiet ((go_at_call 96; first | exact less_quiet _ _ | exact less_quiet2 _ _))
                            go_wp2
                            have hp8 := Lib.hid (Pm.trans HP1.out hg1 ((Pm.refl HR1.out).drewN nq))
                            clear HX HY HR1 HP1 HM hcx hcy fx fy hg1 v0 v1 v2 v3 hne w1 q5 q6 hxy
                            generalize wr.drewN nq = wx at hp8 ⊢
                            go_roundw
                            case rel => first | exact ⟨I1, j + 1, by omega, by omega, by omega, rfl, by go_num, hp8.out⟩ | ((repeat apply Exists.intro); exact ⟨⟨I1, j + 1, by omega, by omega, by omega, rfl, by go_num, hp8.out⟩, rfl⟩)
                            case measure => simp [intOf] <;> omega
                        · go_wp2
                          go_roundw
                          case rel => first | exact ⟨I1, j + 1, by omega, by omega, by omega, rfl, by go_num, hp7.out⟩ | ((repeat apply Exists.intro); exact ⟨⟨I1, j + 1, by omega, by omega, by omega, rfl, by go_num, hp7.out⟩, rfl⟩)
                          case measure => simp [intOf] <;> omega
                  · go_wp2
                    go_loopw [10] (fun sv wq => ∃ V11 : Int, I1 + 1 ≤ V11 ∧ V11 ≤ (b : Int) ∧ sv = .int .i64 V11 ∧ Hid (Pm g n d w wq)) (fun sv _ => ((b : Int) - intOf sv).toNat)
                    case atStart => exact ⟨I1 + 1, by omega, by omega, by first | rfl | go_num, hp2⟩
                    case round =>
                      obtain ⟨V11, hl14, hu15, rfl, hp12⟩ := hrel
                      by_cases hvt : V11 < (b : Int)
                      · obtain ⟨m, hm⟩ := Int.eq_ofNat_of_zero_le (show 0 ≤ V11 - 1 by omega)
                        have v0 : 0 ≤ V11 := by omega
                        have v1 : V11 < (n : Int) := by omega
                        have v2 : (0 : Int) ≤ (m : Int) := by omega
                        have v3 : (m : Int) < (n : Int) := by omega
                        have hne : V11.toNat ≠ m := by omega
                        have w1 : IntKind.i64.wrap (V11 - 1) = (m : Int) := by rw [hm]; exact IntWalk.i64_in _ (by omega)
                        obtain ⟨d1, hp1, hr1, hg1⟩ := hp12.out
                        obtain ⟨x, hx, hcx⟩ := hr1.get (show V11.toNat < n by omega)
                        obtain ⟨y, hy, hcy⟩ := hr1.get (show m < n by omega)
                        have fx := hr1.free V11.toNat (by omega)
                        have fy := hr1.free m (by omega)
                        have HX := Lib.hid hx
                        have HY := Lib.hid hy
                        have HR1 := Lib.hid hr1
                        have HP1 := Lib.hid hp1
                        have HM := Lib.hid hm
                        clear hx hy hr1 hp1 hm hp12
                        by_cases hxy : x < y
                        · have q5 : decide (x < y) = true := by simpa using hxy
                          go_wp2
                          go_quiet ((go_at_call 96; first | exact less_quiet _ _ | exact less_quiet2 _ _))
                          go_wp2
                          go_region
                          go_wp2
                          go_roundw
                          case rel => exact ⟨V11 + 1, by have := HM.out; omega, by have := HM.out; omega, by first | rfl | go_num, Pm.trans HP1.out (hg1.trans (grown_drewN _ _ _)) ((HR1.out.drewN _).swap HX.out HY.out 1 rfl)⟩
                          case measure => simp [intOf]; have := HM.out; omega
                        · have q5 : decide (x < y) = false := by simpa using hxy
                          have q6 : y ≤ x := by omega
                          go_wp2
                          go_quiet ((go_at_call 96; first | exact less_quiet _ _ | exact less_quiet2 _ _))
                          go_wp2
                          have hp13 := Lib.hid (Pm.trans HP1.out hg1 ((Pm.refl HR1.out).drewN nq))
                          clear HX HY HR1 HP1 HM hcx hcy fx fy hg1 v0 v1 v2 v3 hne w1 q5 q6 hxy
                          generalize wr.drewN nq = wx at hp13 ⊢
                          go_roundw
                          case rel => first | exact ⟨I1, j + 1, by omega, by omega, by omega, rfl, by go_num, hp13.out⟩ | ((repeat apply Exists.intro); exact ⟨⟨I1, j + 1, by omega, by omega, by omega, rfl, by go_num, hp13.out⟩, rfl⟩)
                          case measure => simp [intOf] <;> omega
                      · go_wp2
                        go_roundw
                        case rel => first | exact ⟨I1, j + 1, by omega, by omega, by omega, rfl, by go_num, hp12.out⟩ | ((repeat apply Exists.intro); exact ⟨⟨I1, j + 1, by omega, by omega, by omega, rfl, by go_num, hp12.out⟩, rfl⟩)
                        case measure => simp [intOf] <;> omega
              · go_wp2
                have hps := Lib.hid (Pm.trans HP1.out HGX.out (HRX.out.swap HX.out HY.out 1 rfl))
                have HMS := HM
                clear HX HY HRX HGX HP1 HM hcx2 hcy2 fx2 fy2 v0 v1 v2 v3 hne w1 q5 qg qe hxy
                generalize ((wx.drew.setCell ⟨g, I1.toNat, none⟩ (.int .u64 y)).setCell ⟨g, m, none⟩ (.int .u64 x)) = wy at hps ⊢
                go_loopw [9] (fun sv wq => ∃ V16 : Int, 0 ≤ V16 ∧ V16 < (b : Int) ∧ sv = .int .i64 V16 ∧ Hid (Pm g n d w wq)) (fun sv _ => (intOf sv).toNat)
                case atStart => exact ⟨(m : Int), by have := HMS.out; omega, by have := HMS.out; omega, by first | rfl | go_num, hps⟩
                case round =>
                  obtain ⟨V16, hl19, hu20, rfl, hp17⟩ := hrel
                  by_cases hvt : 1 ≤ V16
                  · obtain ⟨m, hm⟩ := Int.eq_ofNat_of_zero_le (show 0 ≤ V16 - 1 by omega)
                    have v0 : 0 ≤ V16 := by omega
                    have v1 : V16 < (n : Int) := by omega
                    have v2 : (0 : Int) ≤ (m : Int) := by omega
                    have v3 : (m : Int) < (n : Int) := by omega
                    have hne : V16.toNat ≠ m := by omega
                    have w1 : IntKind.i64.wrap (V16 - 1) = (m : Int) := by rw [hm]; exact IntWalk.i64_in _ (by omega)
                    obtain ⟨d1, hp1, hr1, hg1⟩ := hp17.out
                    obtain ⟨x, hx, hcx⟩ := hr1.get (show V16.toNat < n by omega)
                    obtain ⟨y, hy, hcy⟩ := hr1.get (show m < n by omega)
                    have fx := hr1.free V16.toNat (by omega)
                    have fy := hr1.free m (by omega)
                    have HX := Lib.hid hx
                    have HY := Lib.hid hy
                    have HR1 := Lib.hid hr1
                    have HP1 := Lib.hid hp1
                    have HM := Lib.hid hm
                    clear hx hy hr1 hp1 hm hp17
                    by_cases hxy : x < y
                    · have q5 : decide (x < y) = true := by simpa using hxy
                      go_wp2
                      go_quiet ((go_at_call 96; first | exact less_quiet _ _ | exact less_quiet2 _ _))
                      go_wp2
                      go_region
                      go_wp2
                      go_roundw
                      case rel => exact ⟨(m : Int), by have := HM.out; omega, by have := HM.out; omega, by first | rfl | go_num, Pm.trans HP1.out (hg1.trans (grown_drewN _ _ _)) ((HR1.out.drewN _).swap HX.out HY.out 1 rfl)⟩
                      case measure => simp [intOf]; have := HM.out; omega
                    · have q5 : decide (x < y) = false := by simpa using hxy
                      have q6 : y ≤ x := by omega
                      go_wp2
                      go_quiet ((go_at_call 96; first | exact less_quiet _ _ | exact less_quiet2 _ _))
                      go_wp2
                      have hp18 := Lib.hid (Pm.trans HP1.out hg1 ((Pm.refl HR1.out).drewN nq))
                      clear HX HY HR1 HP1 HM hcx hcy fx fy hg1 v0 v1 v2 v3 hne w1 q5 q6 hxy
                      generalize wr.drewN nq = wx at hp18 ⊢
                      go_roundw
                      case rel => first | exact ⟨I1, j + 1, by omega, by omega, by omega, rfl, by go_num, hp18.out⟩ | ((repeat apply Exists.intro); exact ⟨⟨I1, j + 1, by omega, by omega, by omega, rfl, by go_num, hp18.out⟩, rfl⟩)
                      case measure => simp [intOf] <;> omega
                  · go_wp2
                    go_roundw
                    case rel => first | exact ⟨I1, j + 1, by omega, by omega, by omega, rfl, by go_num, hp17.out⟩ | ((repeat apply Exists.intro); exact ⟨⟨I1, j + 1, by omega, by omega, by omega, rfl, by go_num, hp17.out⟩, rfl⟩)
                    case measure => simp [intOf] <;> omega
              · go_wp2
                have hps := Lib.hid (Pm.trans HP1.out HGX.out (HRX.out.swap HX.out HY.out 1 rfl))
                have HMS := HM
                clear HX HY HRX HGX HP1 HM hcx2 hcy2 fx2 fy2 v0 v1 v2 v3 hne w1 q5 qg qe hxy
                generalize ((wx.drew.setCell ⟨g, I1.toNat, none⟩ (.int .u64 y)).setCell ⟨g, m, none⟩ (.int .u64 x)) = wy at hps ⊢
                go_loopw [10] (fun sv wq => ∃ V24 : Int, I1 + 1 ≤ V24 ∧ V24 ≤ (b : Int) ∧ sv = .int .i64 V24 ∧ Hid (Pm g n d w wq)) (fun sv _ => ((b : Int) - intOf sv).toNat)
                case atStart => exact ⟨I1 + 1, by omega, by omega, by first | rfl | go_num, hps⟩
                case round =>
                  obtain ⟨V24, hl27, hu28, rfl, hp25⟩ := hrel
                  by_cases hvt : V24 < (b : Int)
                  · obtain ⟨m, hm⟩ := Int.eq_ofNat_of_zero_le (show 0 ≤ V24 - 1 by omega)
                    have v0 : 0 ≤ V24 := by omega
                    have v1 : V24 < (n : Int) := by omega
                    have v2 : (0 : Int) ≤ (m : Int) := by omega
                    have v3 : (m : Int) < (n : Int) := by omega
                    have hne : V24.toNat ≠ m := by omega
                    have w1 : IntKind.i64.wrap (V24 - 1) = (m : Int) := by rw [hm]; exact IntWalk.i64_in _ (by omega)
                    obtain ⟨d1, hp1, hr1, hg1⟩ := hp25.out
                    obtain ⟨x, hx, hcx⟩ := hr1.get (show V24.toNat < n by omega)
                    obtain ⟨y, hy, hcy⟩ := hr1.get (show m < n by omega)
                    have fx := hr1.free V24.toNat (by omega)
                    have fy := hr1.free m (by omega)
                    have HX := Lib.hid hx
                    have HY := Lib.hid hy
                    have HR1 := Lib.hid hr1
                    have HP1 := Lib.hid hp1
                    have HM := Lib.hid hm
                    clear hx hy hr1 hp1 hm hp25
                    by_cases hxy : x < y
                    · have q5 : decide (x < y) = true := by simpa using hxy
                      go_wp2
                      go_quiet ((go_at_call 96; first | exact less_quiet _ _ | exact less_quiet2 _ _))
                      go_wp2
                      go_region
                      go_wp2
                      go_roundw
                      case rel => exact ⟨V24 + 1, by have := HM.out; omega, by have := HM.out; omega, by first | rfl | go_num, Pm.trans HP1.out (hg1.trans (grown_drewN _ _ _)) ((HR1.out.drewN _).swap HX.out HY.out 1 rfl)⟩
                      case measure => simp [intOf]; have := HM.out; omega
                    · have q5 : decide (x < y) = false := by simpa using hxy
                      have q6 : y ≤ x := by omega
                      go_wp2
                      go_quiet ((go_at_call 96; first | exact less_quiet _ _ | exact less_quiet2 _ _))
                      go_wp2
                      have hp26 := Lib.hid (Pm.trans HP1.out hg1 ((Pm.refl HR1.out).drewN nq))
                      clear HX HY HR1 HP1 HM hcx hcy fx fy hg1 v0 v1 v2 v3 hne w1 q5 q6 hxy
                      generalize wr.drewN nq = wx at hp26 ⊢
                      go_roundw
                      case rel => first | exact ⟨I1, j + 1, by omega, by omega, by omega, rfl, by go_num, hp26.out⟩ | ((repeat apply Exists.intro); exact ⟨⟨I1, j + 1, by omega, by omega, by omega, rfl, by go_num, hp26.out⟩, rfl⟩)
                      case measure => simp [intOf] <;> omega
                  · go_wp2
                    go_roundw
                    case rel => first | exact ⟨I1, j + 1, by omega, by omega, by omega, rfl, by go_num, hp25.out⟩ | ((repeat apply Exists.intro); exact ⟨⟨I1, j + 1, by omega, by omega, by omega, rfl, by go_num, hp25.out⟩, rfl⟩)
                    case measure => simp [intOf] <;> omega
              · go_wp2
                have hps := Lib.hid (Pm.trans HP1.out HGX.out (HRX.out.swap HX.out HY.out 1 rfl))
                have HMS := HM
                clear HX HY HRX HGX HP1 HM hcx2 hcy2 fx2 fy2 v0 v1 v2 v3 hne w1 q5 qg qe hxy
                generalize ((wx.drew.setCell ⟨g, I1.toNat, none⟩ (.int .u64 y)).setCell ⟨g, m, none⟩ (.int .u64 x)) = wy at hps ⊢
                go_roundw
                case rel => first | exact ⟨I1, j + 1, by omega, by omega, by omega, rfl, by go_num, hps.out⟩ | ((repeat apply Exists.intro); exact ⟨⟨I1, j + 1, by omega, by omega, by omega, rfl, by go_num, hps.out⟩, rfl⟩)
                case measure => simp [intOf] <;> omega
          · have q5 : decide (x < y) = false := by simpa using hxy
            have q6 : y ≤ x := by omega
            go_wp2
            go_quiet ((go_at_call 96; first | exact less_quiet _ _ | exact less_quiet2 _ _))
            go_wp2
            go_roundw
            case rel => first | exact ⟨I1 + 1, by omega, by omega, by go_num, Pm.trans HP1.out hg1 ((Pm.refl HR1.out).drewN _)⟩ | ((repeat apply Exists.intro); exact ⟨⟨I1 + 1, by omega, by omega, by go_num, Pm.trans HP1.out hg1 ((Pm.refl HR1.out).drewN _)⟩, rfl⟩)
            case measure => simp [intOf] <;> omega
        · have qg : decide (I1 < (b : Int)) = false := by simpa using hib
          obtain rfl : I1 = (b : Int) := by omega
          go_wp2
          go_quiet (fail)
          go_wp2
          go_ret
          exact ⟨true, rfl, hpa.out.drewN _⟩
    · go_wp2
      go_ret
      exact ⟨false, rfl, hp0.out⟩
end Go.Proofs.Ythamnebbecmegaa.So
