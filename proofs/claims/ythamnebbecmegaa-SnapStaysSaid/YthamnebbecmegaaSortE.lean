/- The library's sort at uint64: the partitions. -/
import Derived.Test.YthamnebbecmegaaSortA
import Derived.Test.YthamnebbecmegaaSortC
namespace Go.Proofs.Ythamnebbecmegaa.So
open Go.ChangeShapes Go.WideShapes Go.ChangeAt Go.RowKit Rw
set_option linter.unusedVariables false

def Par (a b : Nat) (G : World → Prop) (e : Ending) (w' : World) : Prop := ∃ (r : Nat) (t : Bool), e = .returned (.tuple #[.int .i64 r, .bool t]) ∧ a ≤ r ∧ r < b ∧ G w'
set_option maxHeartbeats 20000000 in
set_option maxRecDepth 100000 in
theorem part_any (g n c : Nat) (d : List Int) (a b p : Nat) (w : World) (h : Row w g n d) (ha : a < b) (hb : b ≤ n) (hpa : a ≤ p) (hpb : p < b) (hn : n ≤ 1152921504606846976) :
    Calls Try.prog 98 #[.slice (some ⟨g, 0, none⟩) n c, .int .i64 a, .int .i64 b, .int .i64 p] w (Par a b (Pm g n d w)) := by
  have hpS : Hid (Pm g n d w w) := Pm.refl h
  clear h
  go_enter Try.func98, Try.ntmps98
  obtain ⟨d2, hp2, hr2, hg2⟩ := hpS.out
  obtain ⟨x2, hx2, hcx2⟩ := hr2.get (show a < n by omega)
  obtain ⟨y2, hy2, hcy2⟩ := hr2.get (show p < n by omega)
  have fx2 := hr2.free a (by omega)
  have fy2 := hr2.free p (by omega)
  have s0 : (0 : Int) ≤ (a : Int) := by omega
  have s1 : (a : Int) < (n : Int) := by omega
  have s2 : (0 : Int) ≤ (p : Int) := by omega
  have s3 : (p : Int) < (n : Int) := by omega
  have HX2 := Lib.hid hx2
  have HY2 := Lib.hid hy2
  have HR2 := Lib.hid hr2
  have HP2 := Lib.hid hp2
  clear hx2 hy2 hr2 hp2 hpS
  by_cases hsame : p = a
  · rw [hsame] at hcy2 fy2 HY2
    have hxy2 : x2 = y2 := by have h1 := HX2.out; have h2 := HY2.out; rw [h2] at h1; injection h1 with h1; exact h1.symm
    subst hxy2
    have hsame2 := hsame.symm; subst hsame2
    go_wp2
    go_region
    go_wp2
    have hp1 := Lib.hid (Pm.trans HP2.out hg2 (HR2.out.swap HX2.out HX2.out 1 rfl))
    clear HP2 hg2 HR2 HX2 HY2 hcx2 hcy2 fx2 fy2 s0 s1 s2 s3
    obtain ⟨I0, hI0⟩ : ∃ I0 : Int, I0 = (a : Int) + 1 := ⟨_, rfl⟩
    obtain ⟨J0, hJ0⟩ : ∃ J0 : Int, J0 = (b : Int) - 1 := ⟨_, rfl⟩
    rw [← hI0, ← hJ0]
    have k1 : (a : Int) + 1 ≤ I0 := by omega
    have k2 : I0 ≤ b := by omega
    have k3 : (a : Int) ≤ J0 := by omega
    have k4 : J0 < b := by omega
    clear hI0 hJ0
    go_loopw [10] (fun sv wq => ∃ I2 : Int, I0 ≤ I2 ∧ I2 ≤ (b : Int) ∧ sv = .int .i64 I2 ∧ Hid (Pm g n d w wq)) (fun sv _ => ((b : Int) - intOf sv).toNat)
    case atStart => exact ⟨I0, by omega, by omega, rfl, hp1⟩
    case round =>
      obtain ⟨I2, ha4, hb5, rfl, hp3⟩ := hrel
      by_cases hij : I2 ≤ J0
      · obtain ⟨d1, hp1, hr1, hg1⟩ := hp3.out
        have hv0 : 0 ≤ I2 := by omega
        have hv1 : I2 < (n : Int) := by omega
        have ba0 : (0 : Int) ≤ (a : Int) := by omega
        have ba1 : (a : Int) < (n : Int) := by omega
        obtain ⟨x, hx, hcx⟩ := hr1.get (show I2.toNat < n by omega)
        obtain ⟨z, hz, hcz⟩ := hr1.get (show a < n by omega)
        have qg : decide (I2 ≤ J0) = true := by simpa using hij
        have HPX := Lib.hid (Pm.trans hp1 hg1 (Pm.refl hr1))
        clear hx hz hr1 hp1 hp3
        by_cases hxz : x < z
        · have q5 : decide (x < z) = true := by simpa using hxz
          go_wp2
          go_quiet ((go_at_call 96; first | exact less_quiet _ _ | exact less_quiet2 _ _))
          go_wp2
          go_roundw
          case rel => exact ⟨I2 + 1, by omega, by omega, by go_num, HPX.out.drewN _⟩
          case measure => simp [intOf] <;> omega
        · have q5 : decide (x < z) = false := by simpa using hxz
          have q6 : z ≤ x := by omega
          go_wp2
          go_quiet ((go_at_call 96; first | exact less_quiet _ _ | exact less_quiet2 _ _))
          go_wp2
          have hp6 := Lib.hid (HPX.out.drewN nq)
          clear HPX hcx hcz q5 q6 qg hxz hg1
          generalize wr.drewN nq = wx at hp6 ⊢
          go_loopw [11] (fun sv wq => ∃ J8 : Int, (a : Int) ≤ J8 ∧ J8 ≤ J0 ∧ sv = .int .i64 J8 ∧ Hid (Pm g n d w wq)) (fun sv _ => (intOf sv).toNat)
          case atStart => exact ⟨J0, by omega, by omega, rfl, hp6⟩
          case round =>
            obtain ⟨J8, ha10, hb11, rfl, hp9⟩ := hrel
            by_cases hij : I2 ≤ J8
            · obtain ⟨d1, hp1, hr1, hg1⟩ := hp9.out
              have hv0 : 0 ≤ J8 := by omega
              have hv1 : J8 < (n : Int) := by omega
              have ba0 : (0 : Int) ≤ (a : Int) := by omega
              have ba1 : (a : Int) < (n : Int) := by omega
              obtain ⟨x, hx, hcx⟩ := hr1.get (show J8.toNat < n by omega)
              obtain ⟨z, hz, hcz⟩ := hr1.get (show a < n by omega)
              have qg : decide (I2 ≤ J8) = true := by simpa using hij
              have HPX := Lib.hid (Pm.trans hp1 hg1 (Pm.refl hr1))
              clear hx hz hr1 hp1 hp9
              by_cases hxz : x < z
              · have q5 : decide (x < z) = true := by simpa using hxz
                go_wp2
                go_quiet ((go_at_call 96; first | exact less_quiet _ _ | exact less_quiet2 _ _))
                go_wp2
                have hp12 := Lib.hid (HPX.out.drewN nq)
                clear HPX hcx hcz q5 qg hxz hg1
                generalize wr.drewN nq = wx at hp12 ⊢
                have hgo : I2 ≤ J8 := hij
                obtain ⟨d2, hp2, hr2, hg2⟩ := hp12.out
                obtain ⟨x2, hx2, hcx2⟩ := hr2.get (show I2.toNat < n by omega)
                obtain ⟨y2, hy2, hcy2⟩ := hr2.get (show J8.toNat < n by omega)
                have fx2 := hr2.free I2.toNat (by omega)
                have fy2 := hr2.free J8.toNat (by omega)
                have s0 : (0 : Int) ≤ I2 := by omega
                have s1 : I2 < (n : Int) := by omega
                have s2 : (0 : Int) ≤ J8 := by omega
                have s3 : J8 < (n : Int) := by omega
                have HX2 := Lib.hid hx2
                have HY2 := Lib.hid hy2
                have HR2 := Lib.hid hr2
                have HP2 := Lib.hid hp2
                clear hx2 hy2 hr2 hp2 hp12
                by_cases hsame : J8.toNat = I2.toNat
                · rw [hsame] at hcy2 fy2 HY2
                  have hxy2 : x2 = y2 := by have h1 := HX2.out; have h2 := HY2.out; rw [h2] at h1; injection h1 with h1; exact h1.symm
                  subst hxy2
                  go_wp2
                  go_region
                  go_wp2
                  have hp14 := Lib.hid (Pm.trans HP2.out hg2 (HR2.out.swap HX2.out HX2.out 1 rfl))
                  clear HP2 hg2 HR2 HX2 HY2 hcx2 hcy2 fx2 fy2 s0 s1 s2 s3 hsame
                  go_loopw [10, 11] (fun si sj wr => ∃ I J : Int, (a : Int) + 1 ≤ I ∧ I ≤ b ∧ (a : Int) ≤ J ∧ J < b ∧ si = .int .i64 I ∧ sj = .int .i64 J ∧ Hid (Pm g n d w wr)) (fun si sj _ => (intOf sj - intOf si + 2).toNat)
                  case atStart => exact ⟨I2 + 1, J8 - 1, by omega, by omega, by omega, by omega, rfl, rfl, hp14⟩
                  case round =>
                    obtain ⟨I, J, hI0, hI1, hJ0, hJ1, rfl, rfl, hp0⟩ := hrel
                    go_wp2
                    go_loopw [10] (fun sv wq => ∃ I15 : Int, I ≤ I15 ∧ I15 ≤ (b : Int) ∧ sv = .int .i64 I15 ∧ Hid (Pm g n d w wq)) (fun sv _ => ((b : Int) - intOf sv).toNat)
                    case atStart => exact ⟨I, by omega, by omega, rfl, hp0⟩
                    case round =>
                      obtain ⟨I15, ha17, hb18, rfl, hp16⟩ := hrel
                      by_cases hij : I15 ≤ J
                      · obtain ⟨d1, hp1, hr1, hg1⟩ := hp16.out
                        have hv0 : 0 ≤ I15 := by omega
                        have hv1 : I15 < (n : Int) := by omega
                        have ba0 : (0 : Int) ≤ (a : Int) := by omega
                        have ba1 : (a : Int) < (n : Int) := by omega
                        obtain ⟨x, hx, hcx⟩ := hr1.get (show I15.toNat < n by omega)
                        obtain ⟨z, hz, hcz⟩ := hr1.get (show a < n by omega)
                        have qg : decide (I15 ≤ J) = true := by simpa using hij
                        have HPX := Lib.hid (Pm.trans hp1 hg1 (Pm.refl hr1))
                        clear hx hz hr1 hp1 hp16
                        by_cases hxz : x < z
                        · have q5 : decide (x < z) = true := by simpa using hxz
                          go_wp2
                          go_quiet ((go_at_call 96; first | exact less_quiet _ _ | exact less_quiet2 _ _))
                          go_wp2
                          go_roundw
                          case rel => exact ⟨I15 + 1, by omega, by omega, by go_num, HPX.out.drewN _⟩
                          case measure => simp [intOf] <;> omega
                        · have q5 : decide (x < z) = false := by simpa using hxz
                          have q6 : z ≤ x := by omega
                          go_wp2
                          go_quiet ((go_at_call 96; first | exact less_quiet _ _ | exact less_quiet2 _ _))
                          go_wp2
                          have hp19 := Lib.hid (HPX.out.drewN nq)
                          clear HPX hcx hcz q5 q6 qg hxz hg1
                          generalize wr.drewN nq = wx at hp19 ⊢
                          go_loopw [11] (fun sv wq => ∃ J21 : Int, (a : Int) ≤ J21 ∧ J21 ≤ J ∧ sv = .int .i64 J21 ∧ Hid (Pm g n d w wq)) (fun sv _ => (intOf sv).toNat)
                          case atStart => exact ⟨J, by omega, by omega, rfl, hp19⟩
                          case round =>
                            obtain ⟨J21, ha23, hb24, rfl, hp22⟩ := hrel
                            by_cases hij : I15 ≤ J21
                            · obtain ⟨d1, hp1, hr1, hg1⟩ := hp22.out
                              have hv0 : 0 ≤ J21 := by omega
                              have hv1 : J21 < (n : Int) := by omega
                              have ba0 : (0 : Int) ≤ (a : Int) := by omega
                              have ba1 : (a : Int) < (n : Int) := by omega
                              obtain ⟨x, hx, hcx⟩ := hr1.get (show J21.toNat < n by omega)
                              obtain ⟨z, hz, hcz⟩ := hr1.get (show a < n by omega)
                              have qg : decide (I15 ≤ J21) = true := by simpa using hij
                              have HPX := Lib.hid (Pm.trans hp1 hg1 (Pm.refl hr1))
                              clear hx hz hr1 hp1 hp22
                              by_cases hxz : x < z
                              · have q5 : decide (x < z) = true := by simpa using hxz
                                go_wp2
                                go_quiet ((go_at_call 96; first | exact less_quiet _ _ | exact less_quiet2 _ _))
                                go_wp2
                                have hp25 := Lib.hid (HPX.out.drewN nq)
                                clear HPX hcx hcz q5 qg hxz hg1
                                generalize wr.drewN nq = wx at hp25 ⊢
                                have hgo : I15 ≤ J21 := hij
                                obtain ⟨d2, hp2, hr2, hg2⟩ := hp25.out
                                obtain ⟨x2, hx2, hcx2⟩ := hr2.get (show I15.toNat < n by omega)
                                obtain ⟨y2, hy2, hcy2⟩ := hr2.get (show J21.toNat < n by omega)
                                have fx2 := hr2.free I15.toNat (by omega)
                                have fy2 := hr2.free J21.toNat (by omega)
                                have s0 : (0 : Int) ≤ I15 := by omega
                                have s1 : I15 < (n : Int) := by omega
                                have s2 : (0 : Int) ≤ J21 := by omega
                                have s3 : J21 < (n : Int) := by omega
                                have HX2 := Lib.hid hx2
                                have HY2 := Lib.hid hy2
                                have HR2 := Lib.hid hr2
                                have HP2 := Lib.hid hp2
                                clear hx2 hy2 hr2 hp2 hp25
                                by_cases hsame : J21.toNat = I15.toNat
                                · rw [hsame] at hcy2 fy2 HY2
                                  have hxy2 : x2 = y2 := by have h1 := HX2.out; have h2 := HY2.out; rw [h2] at h1; injection h1 with h1; exact h1.symm
                                  subst hxy2
                                  go_wp2
                                  go_region
                                  go_wp2
                                  have hp27 := Lib.hid (Pm.trans HP2.out hg2 (HR2.out.swap HX2.out HX2.out 1 rfl))
                                  clear HP2 hg2 HR2 HX2 HY2 hcx2 hcy2 fx2 fy2 s0 s1 s2 s3 hsame
                                  go_roundw
                                  case rel => first | exact ⟨I15 + 1, J21 - 1, by omega, by omega, by omega, by omega, by go_num, by go_num, hp27.out⟩ | ((repeat apply Exists.intro); exact ⟨⟨I15 + 1, J21 - 1, by omega, by omega, by omega, by omega, by go_num, by go_num, hp27.out⟩, rfl⟩)
                                  case measure => simp [intOf] <;> omega
                                · have hne2 : ¬ I15.toNat = J21.toNat := fun e => hsame e.symm
                                  go_wp2
                                  go_region
                                  go_wp2
                                  have hp27 := Lib.hid (Pm.trans HP2.out hg2 (HR2.out.swap HX2.out HY2.out 1 rfl))
                                  clear HP2 hg2 HR2 HX2 HY2 hcx2 hcy2 fx2 fy2 s0 s1 s2 s3 hsame hne2
                                  go_roundw
                                  case rel => first | exact ⟨I15 + 1, J21 - 1, by omega, by omega, by omega, by omega, by go_num, by go_num, hp27.out⟩ | ((repeat apply Exists.intro); exact ⟨⟨I15 + 1, J21 - 1, by omega, by omega, by omega, by omega, by go_num, by go_num, hp27.out⟩, rfl⟩)
                                  case measure => simp [intOf] <;> omega
                              · have q5 : decide (x < z) = false := by simpa using hxz
                                have q6 : z ≤ x := by omega
                                go_wp2
                                go_quiet ((go_at_call 96; first | exact less_quiet _ _ | exact less_quiet2 _ _))
                                go_wp2
                                go_roundw
                                case rel => exact ⟨J21 - 1, by omega, by omega, by go_num, HPX.out.drewN _⟩
                                case measure => simp [intOf] <;> omega
                            · have qg : decide (I15 ≤ J21) = false := by simpa using hij
                              go_wp2
                              go_quiet (fail)
                              go_wp2
                              have hp26 := Lib.hid (hp22.out.drewN nq)
                              clear hp22 qg
                              generalize wr.drewN nq = wx at hp26 ⊢
                              have hbrk : J21 < I15 := by omega
                              obtain ⟨d2, hp2, hr2, hg2⟩ := hp26.out
                              obtain ⟨x2, hx2, hcx2⟩ := hr2.get (show J21.toNat < n by omega)
                              obtain ⟨y2, hy2, hcy2⟩ := hr2.get (show a < n by omega)
                              have fx2 := hr2.free J21.toNat (by omega)
                              have fy2 := hr2.free a (by omega)
                              have s0 : (0 : Int) ≤ J21 := by omega
                              have s1 : J21 < (n : Int) := by omega
                              have s2 : (0 : Int) ≤ (a : Int) := by omega
                              have s3 : (a : Int) < (n : Int) := by omega
                              have HX2 := Lib.hid hx2
                              have HY2 := Lib.hid hy2
                              have HR2 := Lib.hid hr2
                              have HP2 := Lib.hid hp2
                              clear hx2 hy2 hr2 hp2 hp26
                              by_cases hsame : J21.toNat = a
                              · rw [hsame] at hcx2 fx2 HX2
                                have hxy2 : x2 = y2 := by have h1 := HX2.out; have h2 := HY2.out; rw [h2] at h1; injection h1 with h1; exact h1.symm
                                subst hxy2
                                go_wp2
                                go_region
                                go_wp2
                                have hp28 := Lib.hid (Pm.trans HP2.out hg2 (HR2.out.swap HX2.out HX2.out 1 rfl))
                                clear HP2 hg2 HR2 HX2 HY2 hcx2 hcy2 fx2 fy2 s0 s1 s2 s3 hsame
                                go_ret2
                                exact ⟨J21.toNat, false, by rw [show ((J21.toNat : Nat) : Int) = J21 by omega]; rfl, by omega, by omega, hp28.out⟩
                              · have hne2 : ¬ a = J21.toNat := fun e => hsame e.symm
                                go_wp2
                                go_region
                                go_wp2
                                have hp28 := Lib.hid (Pm.trans HP2.out hg2 (HR2.out.swap HX2.out HY2.out 1 rfl))
                                clear HP2 hg2 HR2 HX2 HY2 hcx2 hcy2 fx2 fy2 s0 s1 s2 s3 hsame hne2
                                go_ret2
                                exact ⟨J21.toNat, false, by rw [show ((J21.toNat : Nat) : Int) = J21 by omega]; rfl, by omega, by omega, hp28.out⟩
                      · have qg : decide (I15 ≤ J) = false := by simpa using hij
                        go_wp2
                        go_quiet (fail)
                        go_wp2
                        have hp20 := Lib.hid (hp16.out.drewN nq)
                        clear hp16 qg
                        generalize wr.drewN nq = wx at hp20 ⊢
                        go_loopw [11] (fun sv wq => ∃ J29 : Int, (a : Int) ≤ J29 ∧ J29 ≤ J ∧ sv = .int .i64 J29 ∧ Hid (Pm g n d w wq)) (fun sv _ => (intOf sv).toNat)
                        case atStart => exact ⟨J, by omega, by omega, rfl, hp20⟩
                        case round =>
                          obtain ⟨J29, ha31, hb32, rfl, hp30⟩ := hrel
                          by_cases hij : I15 ≤ J29
                          · exfalso; omega
                          · have qg : decide (I15 ≤ J29) = false := by simpa using hij
                            go_wp2
                            go_quiet (fail)
                            go_wp2
                            have hp34 := Lib.hid (hp30.out.drewN nq)
                            clear hp30 qg
                            generalize wr.drewN nq = wx at hp34 ⊢
                            have hbrk : J29 < I15 := by omega
                            obtain ⟨d2, hp2, hr2, hg2⟩ := hp34.out
                            obtain ⟨x2, hx2, hcx2⟩ := hr2.get (show J29.toNat < n by omega)
                            obtain ⟨y2, hy2, hcy2⟩ := hr2.get (show a < n by omega)
                            have fx2 := hr2.free J29.toNat (by omega)
                            have fy2 := hr2.free a (by omega)
                            have s0 : (0 : Int) ≤ J29 := by omega
                            have s1 : J29 < (n : Int) := by omega
                            have s2 : (0 : Int) ≤ (a : Int) := by omega
                            have s3 : (a : Int) < (n : Int) := by omega
                            have HX2 := Lib.hid hx2
                            have HY2 := Lib.hid hy2
                            have HR2 := Lib.hid hr2
                            have HP2 := Lib.hid hp2
                            clear hx2 hy2 hr2 hp2 hp34
                            by_cases hsame : J29.toNat = a
                            · rw [hsame] at hcx2 fx2 HX2
                              have hxy2 : x2 = y2 := by have h1 := HX2.out; have h2 := HY2.out; rw [h2] at h1; injection h1 with h1; exact h1.symm
                              subst hxy2
                              go_wp2
                              go_region
                              go_wp2
                              have hp36 := Lib.hid (Pm.trans HP2.out hg2 (HR2.out.swap HX2.out HX2.out 1 rfl))
                              clear HP2 hg2 HR2 HX2 HY2 hcx2 hcy2 fx2 fy2 s0 s1 s2 s3 hsame
                              go_ret2
                              exact ⟨J29.toNat, false, by rw [show ((J29.toNat : Nat) : Int) = J29 by omega]; rfl, by omega, by omega, hp36.out⟩
                            · have hne2 : ¬ a = J29.toNat := fun e => hsame e.symm
                              go_wp2
                              go_region
                              go_wp2
                              have hp36 := Lib.hid (Pm.trans HP2.out hg2 (HR2.out.swap HX2.out HY2.out 1 rfl))
                              clear HP2 hg2 HR2 HX2 HY2 hcx2 hcy2 fx2 fy2 s0 s1 s2 s3 hsame hne2
                              go_ret2
                              exact ⟨J29.toNat, false, by rw [show ((J29.toNat : Nat) : Int) = J29 by omega]; rfl, by omega, by omega, hp36.out⟩
                · have hne2 : ¬ I2.toNat = J8.toNat := fun e => hsame e.symm
                  go_wp2
                  go_region
                  go_wp2
                  have hp14 := Lib.hid (Pm.trans HP2.out hg2 (HR2.out.swap HX2.out HY2.out 1 rfl))
                  clear HP2 hg2 HR2 HX2 HY2 hcx2 hcy2 fx2 fy2 s0 s1 s2 s3 hsame hne2
                  go_loopw [10, 11] (fun si sj wr => ∃ I J : Int, (a : Int) + 1 ≤ I ∧ I ≤ b ∧ (a : Int) ≤ J ∧ J < b ∧ si = .int .i64 I ∧ sj = .int .i64 J ∧ Hid (Pm g n d w wr)) (fun si sj _ => (intOf sj - intOf si + 2).toNat)
                  case atStart => exact ⟨I2 + 1, J8 - 1, by omega, by omega, by omega, by omega, rfl, rfl, hp14⟩
                  case round =>
                    obtain ⟨I, J, hI0, hI1, hJ0, hJ1, rfl, rfl, hp0⟩ := hrel
                    go_wp2
                    go_loopw [10] (fun sv wq => ∃ I15 : Int, I ≤ I15 ∧ I15 ≤ (b : Int) ∧ sv = .int .i64 I15 ∧ Hid (Pm g n d w wq)) (fun sv _ => ((b : Int) - intOf sv).toNat)
                    case atStart => exact ⟨I, by omega, by omega, rfl, hp0⟩
                    case round =>
                      obtain ⟨I15, ha17, hb18, rfl, hp16⟩ := hrel
                      by_cases hij : I15 ≤ J
                      · obtain ⟨d1, hp1, hr1, hg1⟩ := hp16.out
                        have hv0 : 0 ≤ I15 := by omega
                        have hv1 : I15 < (n : Int) := by omega
                        have ba0 : (0 : Int) ≤ (a : Int) := by omega
                        have ba1 : (a : Int) < (n : Int) := by omega
                        obtain ⟨x, hx, hcx⟩ := hr1.get (show I15.toNat < n by omega)
                        obtain ⟨z, hz, hcz⟩ := hr1.get (show a < n by omega)
                        have qg : decide (I15 ≤ J) = true := by simpa using hij
                        have HPX := Lib.hid (Pm.trans hp1 hg1 (Pm.refl hr1))
                        clear hx hz hr1 hp1 hp16
                        by_cases hxz : x < z
                        · have q5 : decide (x < z) = true := by simpa using hxz
                          go_wp2
                          go_quiet ((go_at_call 96; first | exact less_quiet _ _ | exact less_quiet2 _ _))
                          go_wp2
                          go_roundw
                          case rel => exact ⟨I15 + 1, by omega, by omega, by go_num, HPX.out.drewN _⟩
                          case measure => simp [intOf] <;> omega
                        · have q5 : decide (x < z) = false := by simpa using hxz
                          have q6 : z ≤ x := by omega
                          go_wp2
                          go_quiet ((go_at_call 96; first | exact less_quiet _ _ | exact less_quiet2 _ _))
                          go_wp2
                          have hp19 := Lib.hid (HPX.out.drewN nq)
                          clear HPX hcx hcz q5 q6 qg hxz hg1
                          generalize wr.drewN nq = wx at hp19 ⊢
                          go_loopw [11] (fun sv wq => ∃ J21 : Int, (a : Int) ≤ J21 ∧ J21 ≤ J ∧ sv = .int .i64 J21 ∧ Hid (Pm g n d w wq)) (fun sv _ => (intOf sv).toNat)
                          case atStart => exact ⟨J, by omega, by omega, rfl, hp19⟩
                          case round =>
                            obtain ⟨J21, ha23, hb24, rfl, hp22⟩ := hrel
                            by_cases hij : I15 ≤ J21
                            · obtain ⟨d1, hp1, hr1, hg1⟩ := hp22.out
                              have hv0 : 0 ≤ J21 := by omega
                              have hv1 : J21 < (n : Int) := by omega
                              have ba0 : (0 : Int) ≤ (a : Int) := by omega
                              have ba1 : (a : Int) < (n : Int) := by omega
                              obtain ⟨x, hx, hcx⟩ := hr1.get (show J21.toNat < n by omega)
                              obtain ⟨z, hz, hcz⟩ := hr1.get (show a < n by omega)
                              have qg : decide (I15 ≤ J21) = true := by simpa using hij
                              have HPX := Lib.hid (Pm.trans hp1 hg1 (Pm.refl hr1))
                              clear hx hz hr1 hp1 hp22
                              by_cases hxz : x < z
                              · have q5 : decide (x < z) = true := by simpa using hxz
                                go_wp2
                                go_quiet ((go_at_call 96; first | exact less_quiet _ _ | exact less_quiet2 _ _))
                                go_wp2
                                have hp25 := Lib.hid (HPX.out.drewN nq)
                                clear HPX hcx hcz q5 qg hxz hg1
                                generalize wr.drewN nq = wx at hp25 ⊢
                                have hgo : I15 ≤ J21 := hij
                                obtain ⟨d2, hp2, hr2, hg2⟩ := hp25.out
                                obtain ⟨x2, hx2, hcx2⟩ := hr2.get (show I15.toNat < n by omega)
                                obtain ⟨y2, hy2, hcy2⟩ := hr2.get (show J21.toNat < n by omega)
                                have fx2 := hr2.free I15.toNat (by omega)
                                have fy2 := hr2.free J21.toNat (by omega)
                                have s0 : (0 : Int) ≤ I15 := by omega
                                have s1 : I15 < (n : Int) := by omega
                                have s2 : (0 : Int) ≤ J21 := by omega
                                have s3 : J21 < (n : Int) := by omega
                                have HX2 := Lib.hid hx2
                                have HY2 := Lib.hid hy2
                                have HR2 := Lib.hid hr2
                                have HP2 := Lib.hid hp2
                                clear hx2 hy2 hr2 hp2 hp25
                                by_cases hsame : J21.toNat = I15.toNat
                                · rw [hsame] at hcy2 fy2 HY2
                                  have hxy2 : x2 = y2 := by have h1 := HX2.out; have h2 := HY2.out; rw [h2] at h1; injection h1 with h1; exact h1.symm
                                  subst hxy2
                                  go_wp2
                                  go_region
                                  go_wp2
                                  have hp27 := Lib.hid (Pm.trans HP2.out hg2 (HR2.out.swap HX2.out HX2.out 1 rfl))
                                  clear HP2 hg2 HR2 HX2 HY2 hcx2 hcy2 fx2 fy2 s0 s1 s2 s3 hsame
                                  go_roundw
                                  case rel => first | exact ⟨I15 + 1, J21 - 1, by omega, by omega, by omega, by omega, by go_num, by go_num, hp27.out⟩ | ((repeat apply Exists.intro); exact ⟨⟨I15 + 1, J21 - 1, by omega, by omega, by omega, by omega, by go_num, by go_num, hp27.out⟩, rfl⟩)
                                  case measure => simp [intOf] <;> omega
                                · have hne2 : ¬ I15.toNat = J21.toNat := fun e => hsame e.symm
                                  go_wp2
                                  go_region
                                  go_wp2
                                  have hp27 := Lib.hid (Pm.trans HP2.out hg2 (HR2.out.swap HX2.out HY2.out 1 rfl))
                                  clear HP2 hg2 HR2 HX2 HY2 hcx2 hcy2 fx2 fy2 s0 s1 s2 s3 hsame hne2
                                  go_roundw
                                  case rel => first | exact ⟨I15 + 1, J21 - 1, by omega, by omega, by omega, by omega, by go_num, by go_num, hp27.out⟩ | ((repeat apply Exists.intro); exact ⟨⟨I15 + 1, J21 - 1, by omega, by omega, by omega, by omega, by go_num, by go_num, hp27.out⟩, rfl⟩)
                                  case measure => simp [intOf] <;> omega
                              · have q5 : decide (x < z) = false := by simpa using hxz
                                have q6 : z ≤ x := by omega
                                go_wp2
                                go_quiet ((go_at_call 96; first | exact less_quiet _ _ | exact less_quiet2 _ _))
                                go_wp2
                                go_roundw
                                case rel => exact ⟨J21 - 1, by omega, by omega, by go_num, HPX.out.drewN _⟩
                                case measure => simp [intOf] <;> omega
                            · have qg : decide (I15 ≤ J21) = false := by simpa using hij
                              go_wp2
                              go_quiet (fail)
                              go_wp2
                              have hp26 := Lib.hid (hp22.out.drewN nq)
                              clear hp22 qg
                              generalize wr.drewN nq = wx at hp26 ⊢
                              have hbrk : J21 < I15 := by omega
                              obtain ⟨d2, hp2, hr2, hg2⟩ := hp26.out
                              obtain ⟨x2, hx2, hcx2⟩ := hr2.get (show J21.toNat < n by omega)
                              obtain ⟨y2, hy2, hcy2⟩ := hr2.get (show a < n by omega)
                              have fx2 := hr2.free J21.toNat (by omega)
                              have fy2 := hr2.free a (by omega)
                              have s0 : (0 : Int) ≤ J21 := by omega
                              have s1 : J21 < (n : Int) := by omega
                              have s2 : (0 : Int) ≤ (a : Int) := by omega
                              have s3 : (a : Int) < (n : Int) := by omega
                              have HX2 := Lib.hid hx2
                              have HY2 := Lib.hid hy2
                              have HR2 := Lib.hid hr2
                              have HP2 := Lib.hid hp2
                              clear hx2 hy2 hr2 hp2 hp26
                              by_cases hsame : J21.toNat = a
                              · rw [hsame] at hcx2 fx2 HX2
                                have hxy2 : x2 = y2 := by have h1 := HX2.out; have h2 := HY2.out; rw [h2] at h1; injection h1 with h1; exact h1.symm
                                subst hxy2
                                go_wp2
                                go_region
                                go_wp2
                                have hp28 := Lib.hid (Pm.trans HP2.out hg2 (HR2.out.swap HX2.out HX2.out 1 rfl))
                                clear HP2 hg2 HR2 HX2 HY2 hcx2 hcy2 fx2 fy2 s0 s1 s2 s3 hsame
                                go_ret2
                                exact ⟨J21.toNat, false, by rw [show ((J21.toNat : Nat) : Int) = J21 by omega]; rfl, by omega, by omega, hp28.out⟩
                              · have hne2 : ¬ a = J21.toNat := fun e => hsame e.symm
                                go_wp2
                                go_region
                                go_wp2
                                have hp28 := Lib.hid (Pm.trans HP2.out hg2 (HR2.out.swap HX2.out HY2.out 1 rfl))
                                clear HP2 hg2 HR2 HX2 HY2 hcx2 hcy2 fx2 fy2 s0 s1 s2 s3 hsame hne2
                                go_ret2
                                exact ⟨J21.toNat, false, by rw [show ((J21.toNat : Nat) : Int) = J21 by omega]; rfl, by omega, by omega, hp28.out⟩
                      · have qg : decide (I15 ≤ J) = false := by simpa using hij
                        go_wp2
                        go_quiet (fail)
                        go_wp2
                        have hp20 := Lib.hid (hp16.out.drewN nq)
                        clear hp16 qg
                        generalize wr.drewN nq = wx at hp20 ⊢
                        go_loopw [11] (fun sv wq => ∃ J29 : Int, (a : Int) ≤ J29 ∧ J29 ≤ J ∧ sv = .int .i64 J29 ∧ Hid (Pm g n d w wq)) (fun sv _ => (intOf sv).toNat)
                        case atStart => exact ⟨J, by omega, by omega, rfl, hp20⟩
                        case round =>
                          obtain ⟨J29, ha31, hb32, rfl, hp30⟩ := hrel
                          by_cases hij : I15 ≤ J29
                          · exfalso; omega
                          · have qg : decide (I15 ≤ J29) = false := by simpa using hij
                            go_wp2
                            go_quiet (fail)
                            go_wp2
                            have hp34 := Lib.hid (hp30.out.drewN nq)
                            clear hp30 qg
                            generalize wr.drewN nq = wx at hp34 ⊢
                            have hbrk : J29 < I15 := by omega
                            obtain ⟨d2, hp2, hr2, hg2⟩ := hp34.out
                            obtain ⟨x2, hx2, hcx2⟩ := hr2.get (show J29.toNat < n by omega)
                            obtain ⟨y2, hy2, hcy2⟩ := hr2.get (show a < n by omega)
                            have fx2 := hr2.free J29.toNat (by omega)
                            have fy2 := hr2.free a (by omega)
                            have s0 : (0 : Int) ≤ J29 := by omega
                            have s1 : J29 < (n : Int) := by omega
                            have s2 : (0 : Int) ≤ (a : Int) := by omega
                            have s3 : (a : Int) < (n : Int) := by omega
                            have HX2 := Lib.hid hx2
                            have HY2 := Lib.hid hy2
                            have HR2 := Lib.hid hr2
                            have HP2 := Lib.hid hp2
                            clear hx2 hy2 hr2 hp2 hp34
                            by_cases hsame : J29.toNat = a
                            · rw [hsame] at hcx2 fx2 HX2
                              have hxy2 : x2 = y2 := by have h1 := HX2.out; have h2 := HY2.out; rw [h2] at h1; injection h1 with h1; exact h1.symm
                              subst hxy2
                              go_wp2
                              go_region
                              go_wp2
                              have hp36 := Lib.hid (Pm.trans HP2.out hg2 (HR2.out.swap HX2.out HX2.out 1 rfl))
                              clear HP2 hg2 HR2 HX2 HY2 hcx2 hcy2 fx2 fy2 s0 s1 s2 s3 hsame
                              go_ret2
                              exact ⟨J29.toNat, false, by rw [show ((J29.toNat : Nat) : Int) = J29 by omega]; rfl, by omega, by omega, hp36.out⟩
                            · have hne2 : ¬ a = J29.toNat := fun e => hsame e.symm
                              go_wp2
                              go_region
                              go_wp2
                              have hp36 := Lib.hid (Pm.trans HP2.out hg2 (HR2.out.swap HX2.out HY2.out 1 rfl))
                              clear HP2 hg2 HR2 HX2 HY2 hcx2 hcy2 fx2 fy2 s0 s1 s2 s3 hsame hne2
                              go_ret2
                              exact ⟨J29.toNat, false, by rw [show ((J29.toNat : Nat) : Int) = J29 by omega]; rfl, by omega, by omega, hp36.out⟩
              · have q5 : decide (x < z) = false := by simpa using hxz
                have q6 : z ≤ x := by omega
                go_wp2
                go_quiet ((go_at_call 96; first | exact less_quiet _ _ | exact less_quiet2 _ _))
                go_wp2
                go_roundw
                case rel => exact ⟨J8 - 1, by omega, by omega, by go_num, HPX.out.drewN _⟩
                case measure => simp [intOf] <;> omega
            · have qg : decide (I2 ≤ J8) = false := by simpa using hij
              go_wp2
              go_quiet (fail)
              go_wp2
              have hp13 := Lib.hid (hp9.out.drewN nq)
              clear hp9 qg
              generalize wr.drewN nq = wx at hp13 ⊢
              have hbrk : J8 < I2 := by omega
              obtain ⟨d2, hp2, hr2, hg2⟩ := hp13.out
              obtain ⟨x2, hx2, hcx2⟩ := hr2.get (show J8.toNat < n by omega)
              obtain ⟨y2, hy2, hcy2⟩ := hr2.get (show a < n by omega)
              have fx2 := hr2.free J8.toNat (by omega)
              have fy2 := hr2.free a (by omega)
              have s0 : (0 : Int) ≤ J8 := by omega
              have s1 : J8 < (n : Int) := by omega
              have s2 : (0 : Int) ≤ (a : Int) := by omega
              have s3 : (a : Int) < (n : Int) := by omega
              have HX2 := Lib.hid hx2
              have HY2 := Lib.hid hy2
              have HR2 := Lib.hid hr2
              have HP2 := Lib.hid hp2
              clear hx2 hy2 hr2 hp2 hp13
              by_cases hsame : J8.toNat = a
              · rw [hsame] at hcx2 fx2 HX2
                have hxy2 : x2 = y2 := by have h1 := HX2.out; have h2 := HY2.out; rw [h2] at h1; injection h1 with h1; exact h1.symm
                subst hxy2
                go_wp2
                go_region
                go_wp2
                have hp37 := Lib.hid (Pm.trans HP2.out hg2 (HR2.out.swap HX2.out HX2.out 1 rfl))
                clear HP2 hg2 HR2 HX2 HY2 hcx2 hcy2 fx2 fy2 s0 s1 s2 s3 hsame
                go_ret2
                exact ⟨J8.toNat, true, by rw [show ((J8.toNat : Nat) : Int) = J8 by omega]; rfl, by omega, by omega, hp37.out⟩
              · have hne2 : ¬ a = J8.toNat := fun e => hsame e.symm
                go_wp2
                go_region
                go_wp2
                have hp37 := Lib.hid (Pm.trans HP2.out hg2 (HR2.out.swap HX2.out HY2.out 1 rfl))
                clear HP2 hg2 HR2 HX2 HY2 hcx2 hcy2 fx2 fy2 s0 s1 s2 s3 hsame hne2
                go_ret2
                exact ⟨J8.toNat, true, by rw [show ((J8.toNat : Nat) : Int) = J8 by omega]; rfl, by omega, by omega, hp37.out⟩
      · have qg : decide (I2 ≤ J0) = false := by simpa using hij
        go_wp2
        go_quiet (fail)
        go_wp2
        have hp7 := Lib.hid (hp3.out.drewN nq)
        clear hp3 qg
        generalize wr.drewN nq = wx at hp7 ⊢
        go_loopw [11] (fun sv wq => ∃ J38 : Int, (a : Int) ≤ J38 ∧ J38 ≤ J0 ∧ sv = .int .i64 J38 ∧ Hid (Pm g n d w wq)) (fun sv _ => (intOf sv).toNat)
        case atStart => exact ⟨J0, by omega, by omega, rfl, hp7⟩
        case round =>
          obtain ⟨J38, ha40, hb41, rfl, hp39⟩ := hrel
          by_cases hij : I2 ≤ J38
          · exfalso; omega
          · have qg : decide (I2 ≤ J38) = false := by simpa using hij
            go_wp2
            go_quiet (fail)
            go_wp2
            have hp43 := Lib.hid (hp39.out.drewN nq)
            clear hp39 qg
            generalize wr.drewN nq = wx at hp43 ⊢
            have hbrk : J38 < I2 := by omega
            obtain ⟨d2, hp2, hr2, hg2⟩ := hp43.out
            obtain ⟨x2, hx2, hcx2⟩ := hr2.get (show J38.toNat < n by omega)
            obtain ⟨y2, hy2, hcy2⟩ := hr2.get (show a < n by omega)
            have fx2 := hr2.free J38.toNat (by omega)
            have fy2 := hr2.free a (by omega)
            have s0 : (0 : Int) ≤ J38 := by omega
            have s1 : J38 < (n : Int) := by omega
            have s2 : (0 : Int) ≤ (a : Int) := by omega
            have s3 : (a : Int) < (n : Int) := by omega
            have HX2 := Lib.hid hx2
            have HY2 := Lib.hid hy2
            have HR2 := Lib.hid hr2
            have HP2 := Lib.hid hp2
            clear hx2 hy2 hr2 hp2 hp43
            by_cases hsame : J38.toNat = a
            · rw [hsame] at hcx2 fx2 HX2
              have hxy2 : x2 = y2 := by have h1 := HX2.out; have h2 := HY2.out; rw [h2] at h1; injection h1 with h1; exact h1.symm
              subst hxy2
              go_wp2
              go_region
              go_wp2
              have hp67 := Lib.hid (Pm.trans HP2.out hg2 (HR2.out.swap HX2.out HX2.out 1 rfl))
              clear HP2 hg2 HR2 HX2 HY2 hcx2 hcy2 fx2 fy2 s0 s1 s2 s3 hsame
              go_ret2
              exact ⟨J38.toNat, true, by rw [show ((J38.toNat : Nat) : Int) = J38 by omega]; rfl, by omega, by omega, hp67.out⟩
            · have hne2 : ¬ a = J38.toNat := fun e => hsame e.symm
              go_wp2
              go_region
              go_wp2
              have hp67 := Lib.hid (Pm.trans HP2.out hg2 (HR2.out.swap HX2.out HY2.out 1 rfl))
              clear HP2 hg2 HR2 HX2 HY2 hcx2 hcy2 fx2 fy2 s0 s1 s2 s3 hsame hne2
              go_ret2
              exact ⟨J38.toNat, true, by rw [show ((J38.toNat : Nat) : Int) = J38 by omega]; rfl, by omega, by omega, hp67.out⟩
  · have hne2 : ¬ a = p := fun e => hsame e.symm
    go_wp2
    go_region
    go_wp2
    have hp1 := Lib.hid (Pm.trans HP2.out hg2 (HR2.out.swap HX2.out HY2.out 1 rfl))
    clear HP2 hg2 HR2 HX2 HY2 hcx2 hcy2 fx2 fy2 s0 s1 s2 s3 hsame hne2
    obtain ⟨I0, hI0⟩ : ∃ I0 : Int, I0 = (a : Int) + 1 := ⟨_, rfl⟩
    obtain ⟨J0, hJ0⟩ : ∃ J0 : Int, J0 = (b : Int) - 1 := ⟨_, rfl⟩
    rw [← hI0, ← hJ0]
    have k1 : (a : Int) + 1 ≤ I0 := by omega
    have k2 : I0 ≤ b := by omega
    have k3 : (a : Int) ≤ J0 := by omega
    have k4 : J0 < b := by omega
    clear hI0 hJ0
    go_loopw [10] (fun sv wq => ∃ I2 : Int, I0 ≤ I2 ∧ I2 ≤ (b : Int) ∧ sv = .int .i64 I2 ∧ Hid (Pm g n d w wq)) (fun sv _ => ((b : Int) - intOf sv).toNat)
    case atStart => exact ⟨I0, by omega, by omega, rfl, hp1⟩
    case round =>
      obtain ⟨I2, ha4, hb5, rfl, hp3⟩ := hrel
      by_cases hij : I2 ≤ J0
      · obtain ⟨d1, hp1, hr1, hg1⟩ := hp3.out
        have hv0 : 0 ≤ I2 := by omega
        have hv1 : I2 < (n : Int) := by omega
        have ba0 : (0 : Int) ≤ (a : Int) := by omega
        have ba1 : (a : Int) < (n : Int) := by omega
        obtain ⟨x, hx, hcx⟩ := hr1.get (show I2.toNat < n by omega)
        obtain ⟨z, hz, hcz⟩ := hr1.get (show a < n by omega)
        have qg : decide (I2 ≤ J0) = true := by simpa using hij
        have HPX := Lib.hid (Pm.trans hp1 hg1 (Pm.refl hr1))
        clear hx hz hr1 hp1 hp3
        by_cases hxz : x < z
        · have q5 : decide (x < z) = true := by simpa using hxz
          go_wp2
          go_quiet ((go_at_call 96; first | exact less_quiet _ _ | exact less_quiet2 _ _))
          go_wp2
          go_roundw
          case rel => exact ⟨I2 + 1, by omega, by omega, by go_num, HPX.out.drewN _⟩
          case measure => simp [intOf] <;> omega
        · have q5 : decide (x < z) = false := by simpa using hxz
          have q6 : z ≤ x := by omega
          go_wp2
          go_quiet ((go_at_call 96; first | exact less_quiet _ _ | exact less_quiet2 _ _))
          go_wp2
          have hp6 := Lib.hid (HPX.out.drewN nq)
          clear HPX hcx hcz q5 q6 qg hxz hg1
          generalize wr.drewN nq = wx at hp6 ⊢
          go_loopw [11] (fun sv wq => ∃ J8 : Int, (a : Int) ≤ J8 ∧ J8 ≤ J0 ∧ sv = .int .i64 J8 ∧ Hid (Pm g n d w wq)) (fun sv _ => (intOf sv).toNat)
          case atStart => exact ⟨J0, by omega, by omega, rfl, hp6⟩
          case round =>
            obtain ⟨J8, ha10, hb11, rfl, hp9⟩ := hrel
            by_cases hij : I2 ≤ J8
            · obtain ⟨d1, hp1, hr1, hg1⟩ := hp9.out
              have hv0 : 0 ≤ J8 := by omega
              have hv1 : J8 < (n : Int) := by omega
              have ba0 : (0 : Int) ≤ (a : Int) := by omega
              have ba1 : (a : Int) < (n : Int) := by omega
              obtain ⟨x, hx, hcx⟩ := hr1.get (show J8.toNat < n by omega)
              obtain ⟨z, hz, hcz⟩ := hr1.get (show a < n by omega)
              have qg : decide (I2 ≤ J8) = true := by simpa using hij
              have HPX := Lib.hid (Pm.trans hp1 hg1 (Pm.refl hr1))
              clear hx hz hr1 hp1 hp9
              by_cases hxz : x < z
              · have q5 : decide (x < z) = true := by simpa using hxz
                go_wp2
                go_quiet ((go_at_call 96; first | exact less_quiet _ _ | exact less_quiet2 _ _))
                go_wp2
                have hp12 := Lib.hid (HPX.out.drewN nq)
                clear HPX hcx hcz q5 qg hxz hg1
                generalize wr.drewN nq = wx at hp12 ⊢
                have hgo : I2 ≤ J8 := hij
                obtain ⟨d2, hp2, hr2, hg2⟩ := hp12.out
                obtain ⟨x2, hx2, hcx2⟩ := hr2.get (show I2.toNat < n by omega)
                obtain ⟨y2, hy2, hcy2⟩ := hr2.get (show J8.toNat < n by omega)
                have fx2 := hr2.free I2.toNat (by omega)
                have fy2 := hr2.free J8.toNat (by omega)
                have s0 : (0 : Int) ≤ I2 := by omega
                have s1 : I2 < (n : Int) := by omega
                have s2 : (0 : Int) ≤ J8 := by omega
                have s3 : J8 < (n : Int) := by omega
                have HX2 := Lib.hid hx2
                have HY2 := Lib.hid hy2
                have HR2 := Lib.hid hr2
                have HP2 := Lib.hid hp2
                clear hx2 hy2 hr2 hp2 hp12
                by_cases hsame : J8.toNat = I2.toNat
                · rw [hsame] at hcy2 fy2 HY2
                  have hxy2 : x2 = y2 := by have h1 := HX2.out; have h2 := HY2.out; rw [h2] at h1; injection h1 with h1; exact h1.symm
                  subst hxy2
                  go_wp2
                  go_region
                  go_wp2
                  have hp14 := Lib.hid (Pm.trans HP2.out hg2 (HR2.out.swap HX2.out HX2.out 1 rfl))
                  clear HP2 hg2 HR2 HX2 HY2 hcx2 hcy2 fx2 fy2 s0 s1 s2 s3 hsame
                  go_loopw [10, 11] (fun si sj wr => ∃ I J : Int, (a : Int) + 1 ≤ I ∧ I ≤ b ∧ (a : Int) ≤ J ∧ J < b ∧ si = .int .i64 I ∧ sj = .int .i64 J ∧ Hid (Pm g n d w wr)) (fun si sj _ => (intOf sj - intOf si + 2).toNat)
                  case atStart => exact ⟨I2 + 1, J8 - 1, by omega, by omega, by omega, by omega, rfl, rfl, hp14⟩
                  case round =>
                    obtain ⟨I, J, hI0, hI1, hJ0, hJ1, rfl, rfl, hp0⟩ := hrel
                    go_wp2
                    go_loopw [10] (fun sv wq => ∃ I15 : Int, I ≤ I15 ∧ I15 ≤ (b : Int) ∧ sv = .int .i64 I15 ∧ Hid (Pm g n d w wq)) (fun sv _ => ((b : Int) - intOf sv).toNat)
                    case atStart => exact ⟨I, by omega, by omega, rfl, hp0⟩
                    case round =>
                      obtain ⟨I15, ha17, hb18, rfl, hp16⟩ := hrel
                      by_cases hij : I15 ≤ J
                      · obtain ⟨d1, hp1, hr1, hg1⟩ := hp16.out
                        have hv0 : 0 ≤ I15 := by omega
                        have hv1 : I15 < (n : Int) := by omega
                        have ba0 : (0 : Int) ≤ (a : Int) := by omega
                        have ba1 : (a : Int) < (n : Int) := by omega
                        obtain ⟨x, hx, hcx⟩ := hr1.get (show I15.toNat < n by omega)
                        obtain ⟨z, hz, hcz⟩ := hr1.get (show a < n by omega)
                        have qg : decide (I15 ≤ J) = true := by simpa using hij
                        have HPX := Lib.hid (Pm.trans hp1 hg1 (Pm.refl hr1))
                        clear hx hz hr1 hp1 hp16
                        by_cases hxz : x < z
                        · have q5 : decide (x < z) = true := by simpa using hxz
                          go_wp2
                          go_quiet ((go_at_call 96; first | exact less_quiet _ _ | exact less_quiet2 _ _))
                          go_wp2
                          go_roundw
                          case rel => exact ⟨I15 + 1, by omega, by omega, by go_num, HPX.out.drewN _⟩
                          case measure => simp [intOf] <;> omega
                        · have q5 : decide (x < z) = false := by simpa using hxz
                          have q6 : z ≤ x := by omega
                          go_wp2
                          go_quiet ((go_at_call 96; first | exact less_quiet _ _ | exact less_quiet2 _ _))
                          go_wp2
                          have hp19 := Lib.hid (HPX.out.drewN nq)
                          clear HPX hcx hcz q5 q6 qg hxz hg1
                          generalize wr.drewN nq = wx at hp19 ⊢
                          go_loopw [11] (fun sv wq => ∃ J21 : Int, (a : Int) ≤ J21 ∧ J21 ≤ J ∧ sv = .int .i64 J21 ∧ Hid (Pm g n d w wq)) (fun sv _ => (intOf sv).toNat)
                          case atStart => exact ⟨J, by omega, by omega, rfl, hp19⟩
                          case round =>
                            obtain ⟨J21, ha23, hb24, rfl, hp22⟩ := hrel
                            by_cases hij : I15 ≤ J21
                            · obtain ⟨d1, hp1, hr1, hg1⟩ := hp22.out
                              have hv0 : 0 ≤ J21 := by omega
                              have hv1 : J21 < (n : Int) := by omega
                              have ba0 : (0 : Int) ≤ (a : Int) := by omega
                              have ba1 : (a : Int) < (n : Int) := by omega
                              obtain ⟨x, hx, hcx⟩ := hr1.get (show J21.toNat < n by omega)
                              obtain ⟨z, hz, hcz⟩ := hr1.get (show a < n by omega)
                              have qg : decide (I15 ≤ J21) = true := by simpa using hij
                              have HPX := Lib.hid (Pm.trans hp1 hg1 (Pm.refl hr1))
                              clear hx hz hr1 hp1 hp22
                              by_cases hxz : x < z
                              · have q5 : decide (x < z) = true := by simpa using hxz
                                go_wp2
                                go_quiet ((go_at_call 96; first | exact less_quiet _ _ | exact less_quiet2 _ _))
                                go_wp2
                                have hp25 := Lib.hid (HPX.out.drewN nq)
                                clear HPX hcx hcz q5 qg hxz hg1
                                generalize wr.drewN nq = wx at hp25 ⊢
                                have hgo : I15 ≤ J21 := hij
                                obtain ⟨d2, hp2, hr2, hg2⟩ := hp25.out
                                obtain ⟨x2, hx2, hcx2⟩ := hr2.get (show I15.toNat < n by omega)
                                obtain ⟨y2, hy2, hcy2⟩ := hr2.get (show J21.toNat < n by omega)
                                have fx2 := hr2.free I15.toNat (by omega)
                                have fy2 := hr2.free J21.toNat (by omega)
                                have s0 : (0 : Int) ≤ I15 := by omega
                                have s1 : I15 < (n : Int) := by omega
                                have s2 : (0 : Int) ≤ J21 := by omega
                                have s3 : J21 < (n : Int) := by omega
                                have HX2 := Lib.hid hx2
                                have HY2 := Lib.hid hy2
                                have HR2 := Lib.hid hr2
                                have HP2 := Lib.hid hp2
                                clear hx2 hy2 hr2 hp2 hp25
                                by_cases hsame : J21.toNat = I15.toNat
                                · rw [hsame] at hcy2 fy2 HY2
                                  have hxy2 : x2 = y2 := by have h1 := HX2.out; have h2 := HY2.out; rw [h2] at h1; injection h1 with h1; exact h1.symm
                                  subst hxy2
                                  go_wp2
                                  go_region
                                  go_wp2
                                  have hp27 := Lib.hid (Pm.trans HP2.out hg2 (HR2.out.swap HX2.out HX2.out 1 rfl))
                                  clear HP2 hg2 HR2 HX2 HY2 hcx2 hcy2 fx2 fy2 s0 s1 s2 s3 hsame
                                  go_roundw
                                  case rel => first | exact ⟨I15 + 1, J21 - 1, by omega, by omega, by omega, by omega, by go_num, by go_num, hp27.out⟩ | ((repeat apply Exists.intro); exact ⟨⟨I15 + 1, J21 - 1, by omega, by omega, by omega, by omega, by go_num, by go_num, hp27.out⟩, rfl⟩)
                                  case measure => simp [intOf] <;> omega
                                · have hne2 : ¬ I15.toNat = J21.toNat := fun e => hsame e.symm
                                  go_wp2
                                  go_region
                                  go_wp2
                                  have hp27 := Lib.hid (Pm.trans HP2.out hg2 (HR2.out.swap HX2.out HY2.out 1 rfl))
                                  clear HP2 hg2 HR2 HX2 HY2 hcx2 hcy2 fx2 fy2 s0 s1 s2 s3 hsame hne2
                                  go_roundw
                                  case rel => first | exact ⟨I15 + 1, J21 - 1, by omega, by omega, by omega, by omega, by go_num, by go_num, hp27.out⟩ | ((repeat apply Exists.intro); exact ⟨⟨I15 + 1, J21 - 1, by omega, by omega, by omega, by omega, by go_num, by go_num, hp27.out⟩, rfl⟩)
                                  case measure => simp [intOf] <;> omega
                              · have q5 : decide (x < z) = false := by simpa using hxz
                                have q6 : z ≤ x := by omega
                                go_wp2
                                go_quiet ((go_at_call 96; first | exact less_quiet _ _ | exact less_quiet2 _ _))
                                go_wp2
                                go_roundw
                                case rel => exact ⟨J21 - 1, by omega, by omega, by go_num, HPX.out.drewN _⟩
                                case measure => simp [intOf] <;> omega
                            · have qg : decide (I15 ≤ J21) = false := by simpa using hij
                              go_wp2
                              go_quiet (fail)
                              go_wp2
                              have hp26 := Lib.hid (hp22.out.drewN nq)
                              clear hp22 qg
                              generalize wr.drewN nq = wx at hp26 ⊢
                              have hbrk : J21 < I15 := by omega
                              obtain ⟨d2, hp2, hr2, hg2⟩ := hp26.out
                              obtain ⟨x2, hx2, hcx2⟩ := hr2.get (show J21.toNat < n by omega)
                              obtain ⟨y2, hy2, hcy2⟩ := hr2.get (show a < n by omega)
                              have fx2 := hr2.free J21.toNat (by omega)
                              have fy2 := hr2.free a (by omega)
                              have s0 : (0 : Int) ≤ J21 := by omega
                              have s1 : J21 < (n : Int) := by omega
                              have s2 : (0 : Int) ≤ (a : Int) := by omega
                              have s3 : (a : Int) < (n : Int) := by omega
                              have HX2 := Lib.hid hx2
                              have HY2 := Lib.hid hy2
                              have HR2 := Lib.hid hr2
                              have HP2 := Lib.hid hp2
                              clear hx2 hy2 hr2 hp2 hp26
                              by_cases hsame : J21.toNat = a
                              · rw [hsame] at hcx2 fx2 HX2
                                have hxy2 : x2 = y2 := by have h1 := HX2.out; have h2 := HY2.out; rw [h2] at h1; injection h1 with h1; exact h1.symm
                                subst hxy2
                                go_wp2
                                go_region
                                go_wp2
                                have hp28 := Lib.hid (Pm.trans HP2.out hg2 (HR2.out.swap HX2.out HX2.out 1 rfl))
                                clear HP2 hg2 HR2 HX2 HY2 hcx2 hcy2 fx2 fy2 s0 s1 s2 s3 hsame
                                go_ret2
                                exact ⟨J21.toNat, false, by rw [show ((J21.toNat : Nat) : Int) = J21 by omega]; rfl, by omega, by omega, hp28.out⟩
                              · have hne2 : ¬ a = J21.toNat := fun e => hsame e.symm
                                go_wp2
                                go_region
                                go_wp2
                                have hp28 := Lib.hid (Pm.trans HP2.out hg2 (HR2.out.swap HX2.out HY2.out 1 rfl))
                                clear HP2 hg2 HR2 HX2 HY2 hcx2 hcy2 fx2 fy2 s0 s1 s2 s3 hsame hne2
                                go_ret2
                                exact ⟨J21.toNat, false, by rw [show ((J21.toNat : Nat) : Int) = J21 by omega]; rfl, by omega, by omega, hp28.out⟩
                      · have qg : decide (I15 ≤ J) = false := by simpa using hij
                        go_wp2
                        go_quiet (fail)
                        go_wp2
                        have hp20 := Lib.hid (hp16.out.drewN nq)
                        clear hp16 qg
                        generalize wr.drewN nq = wx at hp20 ⊢
                        go_loopw [11] (fun sv wq => ∃ J29 : Int, (a : Int) ≤ J29 ∧ J29 ≤ J ∧ sv = .int .i64 J29 ∧ Hid (Pm g n d w wq)) (fun sv _ => (intOf sv).toNat)
                        case atStart => exact ⟨J, by omega, by omega, rfl, hp20⟩
                        case round =>
                          obtain ⟨J29, ha31, hb32, rfl, hp30⟩ := hrel
                          by_cases hij : I15 ≤ J29
                          · exfalso; omega
                          · have qg : decide (I15 ≤ J29) = false := by simpa using hij
                            go_wp2
                            go_quiet (fail)
                            go_wp2
                            have hp34 := Lib.hid (hp30.out.drewN nq)
                            clear hp30 qg
                            generalize wr.drewN nq = wx at hp34 ⊢
                            have hbrk : J29 < I15 := by omega
                            obtain ⟨d2, hp2, hr2, hg2⟩ := hp34.out
                            obtain ⟨x2, hx2, hcx2⟩ := hr2.get (show J29.toNat < n by omega)
                            obtain ⟨y2, hy2, hcy2⟩ := hr2.get (show a < n by omega)
                            have fx2 := hr2.free J29.toNat (by omega)
                            have fy2 := hr2.free a (by omega)
                            have s0 : (0 : Int) ≤ J29 := by omega
                            have s1 : J29 < (n : Int) := by omega
                            have s2 : (0 : Int) ≤ (a : Int) := by omega
                            have s3 : (a : Int) < (n : Int) := by omega
                            have HX2 := Lib.hid hx2
                            have HY2 := Lib.hid hy2
                            have HR2 := Lib.hid hr2
                            have HP2 := Lib.hid hp2
                            clear hx2 hy2 hr2 hp2 hp34
                            by_cases hsame : J29.toNat = a
                            · rw [hsame] at hcx2 fx2 HX2
                              have hxy2 : x2 = y2 := by have h1 := HX2.out; have h2 := HY2.out; rw [h2] at h1; injection h1 with h1; exact h1.symm
                              subst hxy2
                              go_wp2
                              go_region
                              go_wp2
                              have hp36 := Lib.hid (Pm.trans HP2.out hg2 (HR2.out.swap HX2.out HX2.out 1 rfl))
                              clear HP2 hg2 HR2 HX2 HY2 hcx2 hcy2 fx2 fy2 s0 s1 s2 s3 hsame
                              go_ret2
                              exact ⟨J29.toNat, false, by rw [show ((J29.toNat : Nat) : Int) = J29 by omega]; rfl, by omega, by omega, hp36.out⟩
                            · have hne2 : ¬ a = J29.toNat := fun e => hsame e.symm
                              go_wp2
                              go_region
                              go_wp2
                              have hp36 := Lib.hid (Pm.trans HP2.out hg2 (HR2.out.swap HX2.out HY2.out 1 rfl))
                              clear HP2 hg2 HR2 HX2 HY2 hcx2 hcy2 fx2 fy2 s0 s1 s2 s3 hsame hne2
                              go_ret2
                              exact ⟨J29.toNat, false, by rw [show ((J29.toNat : Nat) : Int) = J29 by omega]; rfl, by omega, by omega, hp36.out⟩
                · have hne2 : ¬ I2.toNat = J8.toNat := fun e => hsame e.symm
                  go_wp2
                  go_region
                  go_wp2
                  have hp14 := Lib.hid (Pm.trans HP2.out hg2 (HR2.out.swap HX2.out HY2.out 1 rfl))
                  clear HP2 hg2 HR2 HX2 HY2 hcx2 hcy2 fx2 fy2 s0 s1 s2 s3 hsame hne2
                  go_loopw [10, 11] (fun si sj wr => ∃ I J : Int, (a : Int) + 1 ≤ I ∧ I ≤ b ∧ (a : Int) ≤ J ∧ J < b ∧ si = .int .i64 I ∧ sj = .int .i64 J ∧ Hid (Pm g n d w wr)) (fun si sj _ => (intOf sj - intOf si + 2).toNat)
                  case atStart => exact ⟨I2 + 1, J8 - 1, by omega, by omega, by omega, by omega, rfl, rfl, hp14⟩
                  case round =>
                    obtain ⟨I, J, hI0, hI1, hJ0, hJ1, rfl, rfl, hp0⟩ := hrel
                    go_wp2
                    go_loopw [10] (fun sv wq => ∃ I15 : Int, I ≤ I15 ∧ I15 ≤ (b : Int) ∧ sv = .int .i64 I15 ∧ Hid (Pm g n d w wq)) (fun sv _ => ((b : Int) - intOf sv).toNat)
                    case atStart => exact ⟨I, by omega, by omega, rfl, hp0⟩
                    case round =>
                      obtain ⟨I15, ha17, hb18, rfl, hp16⟩ := hrel
                      by_cases hij : I15 ≤ J
                      · obtain ⟨d1, hp1, hr1, hg1⟩ := hp16.out
                        have hv0 : 0 ≤ I15 := by omega
                        have hv1 : I15 < (n : Int) := by omega
                        have ba0 : (0 : Int) ≤ (a : Int) := by omega
                        have ba1 : (a : Int) < (n : Int) := by omega
                        obtain ⟨x, hx, hcx⟩ := hr1.get (show I15.toNat < n by omega)
                        obtain ⟨z, hz, hcz⟩ := hr1.get (show a < n by omega)
                        have qg : decide (I15 ≤ J) = true := by simpa using hij
                        have HPX := Lib.hid (Pm.trans hp1 hg1 (Pm.refl hr1))
                        clear hx hz hr1 hp1 hp16
                        by_cases hxz : x < z
                        · have q5 : decide (x < z) = true := by simpa using hxz
                          go_wp2
                          go_quiet ((go_at_call 96; first | exact less_quiet _ _ | exact less_quiet2 _ _))
                          go_wp2
                          go_roundw
                          case rel => exact ⟨I15 + 1, by omega, by omega, by go_num, HPX.out.drewN _⟩
                          case measure => simp [intOf] <;> omega
                        · have q5 : decide (x < z) = false := by simpa using hxz
                          have q6 : z ≤ x := by omega
                          go_wp2
                          go_quiet ((go_at_call 96; first | exact less_quiet _ _ | exact less_quiet2 _ _))
                          go_wp2
                          have hp19 := Lib.hid (HPX.out.drewN nq)
                          clear HPX hcx hcz q5 q6 qg hxz hg1
                          generalize wr.drewN nq = wx at hp19 ⊢
                          go_loopw [11] (fun sv wq => ∃ J21 : Int, (a : Int) ≤ J21 ∧ J21 ≤ J ∧ sv = .int .i64 J21 ∧ Hid (Pm g n d w wq)) (fun sv _ => (intOf sv).toNat)
                          case atStart => exact ⟨J, by omega, by omega, rfl, hp19⟩
                          case round =>
                            obtain ⟨J21, ha23, hb24, rfl, hp22⟩ := hrel
                            by_cases hij : I15 ≤ J21
                            · obtain ⟨d1, hp1, hr1, hg1⟩ := hp22.out
                              have hv0 : 0 ≤ J21 := by omega
                              have hv1 : J21 < (n : Int) := by omega
                              have ba0 : (0 : Int) ≤ (a : Int) := by omega
                              have ba1 : (a : Int) < (n : Int) := by omega
                              obtain ⟨x, hx, hcx⟩ := hr1.get (show J21.toNat < n by omega)
                              obtain ⟨z, hz, hcz⟩ := hr1.get (show a < n by omega)
                              have qg : decide (I15 ≤ J21) = true := by simpa using hij
                              have HPX := Lib.hid (Pm.trans hp1 hg1 (Pm.refl hr1))
                              clear hx hz hr1 hp1 hp22
                              by_cases hxz : x < z
                              · have q5 : decide (x < z) = true := by simpa using hxz
                                go_wp2
                                go_quiet ((go_at_call 96; first | exact less_quiet _ _ | exact less_quiet2 _ _))
                                go_wp2
                                have hp25 := Lib.hid (HPX.out.drewN nq)
                                clear HPX hcx hcz q5 qg hxz hg1
                                generalize wr.drewN nq = wx at hp25 ⊢
                                have hgo : I15 ≤ J21 := hij
                                obtain ⟨d2, hp2, hr2, hg2⟩ := hp25.out
                                obtain ⟨x2, hx2, hcx2⟩ := hr2.get (show I15.toNat < n by omega)
                                obtain ⟨y2, hy2, hcy2⟩ := hr2.get (show J21.toNat < n by omega)
                                have fx2 := hr2.free I15.toNat (by omega)
                                have fy2 := hr2.free J21.toNat (by omega)
                                have s0 : (0 : Int) ≤ I15 := by omega
                                have s1 : I15 < (n : Int) := by omega
                                have s2 : (0 : Int) ≤ J21 := by omega
                                have s3 : J21 < (n : Int) := by omega
                                have HX2 := Lib.hid hx2
                                have HY2 := Lib.hid hy2
                                have HR2 := Lib.hid hr2
                                have HP2 := Lib.hid hp2
                                clear hx2 hy2 hr2 hp2 hp25
                                by_cases hsame : J21.toNat = I15.toNat
                                · rw [hsame] at hcy2 fy2 HY2
                                  have hxy2 : x2 = y2 := by have h1 := HX2.out; have h2 := HY2.out; rw [h2] at h1; injection h1 with h1; exact h1.symm
                                  subst hxy2
                                  go_wp2
                                  go_region
                                  go_wp2
                                  have hp27 := Lib.hid (Pm.trans HP2.out hg2 (HR2.out.swap HX2.out HX2.out 1 rfl))
                                  clear HP2 hg2 HR2 HX2 HY2 hcx2 hcy2 fx2 fy2 s0 s1 s2 s3 hsame
                                  go_roundw
                                  case rel => first | exact ⟨I15 + 1, J21 - 1, by omega, by omega, by omega, by omega, by go_num, by go_num, hp27.out⟩ | ((repeat apply Exists.intro); exact ⟨⟨I15 + 1, J21 - 1, by omega, by omega, by omega, by omega, by go_num, by go_num, hp27.out⟩, rfl⟩)
                                  case measure => simp [intOf] <;> omega
                                · have hne2 : ¬ I15.toNat = J21.toNat := fun e => hsame e.symm
                                  go_wp2
                                  go_region
                                  go_wp2
                                  have hp27 := Lib.hid (Pm.trans HP2.out hg2 (HR2.out.swap HX2.out HY2.out 1 rfl))
                                  clear HP2 hg2 HR2 HX2 HY2 hcx2 hcy2 fx2 fy2 s0 s1 s2 s3 hsame hne2
                                  go_roundw
                                  case rel => first | exact ⟨I15 + 1, J21 - 1, by omega, by omega, by omega, by omega, by go_num, by go_num, hp27.out⟩ | ((repeat apply Exists.intro); exact ⟨⟨I15 + 1, J21 - 1, by omega, by omega, by omega, by omega, by go_num, by go_num, hp27.out⟩, rfl⟩)
                                  case measure => simp [intOf] <;> omega
                              · have q5 : decide (x < z) = false := by simpa using hxz
                                have q6 : z ≤ x := by omega
                                go_wp2
                                go_quiet ((go_at_call 96; first | exact less_quiet _ _ | exact less_quiet2 _ _))
                                go_wp2
                                go_roundw
                                case rel => exact ⟨J21 - 1, by omega, by omega, by go_num, HPX.out.drewN _⟩
                                case measure => simp [intOf] <;> omega
                            · have qg : decide (I15 ≤ J21) = false := by simpa using hij
                              go_wp2
                              go_quiet (fail)
                              go_wp2
                              have hp26 := Lib.hid (hp22.out.drewN nq)
                              clear hp22 qg
                              generalize wr.drewN nq = wx at hp26 ⊢
                              have hbrk : J21 < I15 := by omega
                              obtain ⟨d2, hp2, hr2, hg2⟩ := hp26.out
                              obtain ⟨x2, hx2, hcx2⟩ := hr2.get (show J21.toNat < n by omega)
                              obtain ⟨y2, hy2, hcy2⟩ := hr2.get (show a < n by omega)
                              have fx2 := hr2.free J21.toNat (by omega)
                              have fy2 := hr2.free a (by omega)
                              have s0 : (0 : Int) ≤ J21 := by omega
                              have s1 : J21 < (n : Int) := by omega
                              have s2 : (0 : Int) ≤ (a : Int) := by omega
                              have s3 : (a : Int) < (n : Int) := by omega
                              have HX2 := Lib.hid hx2
                              have HY2 := Lib.hid hy2
                              have HR2 := Lib.hid hr2
                              have HP2 := Lib.hid hp2
                              clear hx2 hy2 hr2 hp2 hp26
                              by_cases hsame : J21.toNat = a
                              · rw [hsame] at hcx2 fx2 HX2
                                have hxy2 : x2 = y2 := by have h1 := HX2.out; have h2 := HY2.out; rw [h2] at h1; injection h1 with h1; exact h1.symm
                                subst hxy2
                                go_wp2
                                go_region
                                go_wp2
                                have hp28 := Lib.hid (Pm.trans HP2.out hg2 (HR2.out.swap HX2.out HX2.out 1 rfl))
                                clear HP2 hg2 HR2 HX2 HY2 hcx2 hcy2 fx2 fy2 s0 s1 s2 s3 hsame
                                go_ret2
                                exact ⟨J21.toNat, false, by rw [show ((J21.toNat : Nat) : Int) = J21 by omega]; rfl, by omega, by omega, hp28.out⟩
                              · have hne2 : ¬ a = J21.toNat := fun e => hsame e.symm
                                go_wp2
                                go_region
                                go_wp2
                                have hp28 := Lib.hid (Pm.trans HP2.out hg2 (HR2.out.swap HX2.out HY2.out 1 rfl))
                                clear HP2 hg2 HR2 HX2 HY2 hcx2 hcy2 fx2 fy2 s0 s1 s2 s3 hsame hne2
                                go_ret2
                                exact ⟨J21.toNat, false, by rw [show ((J21.toNat : Nat) : Int) = J21 by omega]; rfl, by omega, by omega, hp28.out⟩
                      · have qg : decide (I15 ≤ J) = false := by simpa using hij
                        go_wp2
                        go_quiet (fail)
                        go_wp2
                        have hp20 := Lib.hid (hp16.out.drewN nq)
                        clear hp16 qg
                        generalize wr.drewN nq = wx at hp20 ⊢
                        go_loopw [11] (fun sv wq => ∃ J29 : Int, (a : Int) ≤ J29 ∧ J29 ≤ J ∧ sv = .int .i64 J29 ∧ Hid (Pm g n d w wq)) (fun sv _ => (intOf sv).toNat)
                        case atStart => exact ⟨J, by omega, by omega, rfl, hp20⟩
                        case round =>
                          obtain ⟨J29, ha31, hb32, rfl, hp30⟩ := hrel
                          by_cases hij : I15 ≤ J29
                          · exfalso; omega
                          · have qg : decide (I15 ≤ J29) = false := by simpa using hij
                            go_wp2
                            go_quiet (fail)
                            go_wp2
                            have hp34 := Lib.hid (hp30.out.drewN nq)
                            clear hp30 qg
                            generalize wr.drewN nq = wx at hp34 ⊢
                            have hbrk : J29 < I15 := by omega
                            obtain ⟨d2, hp2, hr2, hg2⟩ := hp34.out
                            obtain ⟨x2, hx2, hcx2⟩ := hr2.get (show J29.toNat < n by omega)
                            obtain ⟨y2, hy2, hcy2⟩ := hr2.get (show a < n by omega)
                            have fx2 := hr2.free J29.toNat (by omega)
                            have fy2 := hr2.free a (by omega)
                            have s0 : (0 : Int) ≤ J29 := by omega
                            have s1 : J29 < (n : Int) := by omega
                            have s2 : (0 : Int) ≤ (a : Int) := by omega
                            have s3 : (a : Int) < (n : Int) := by omega
                            have HX2 := Lib.hid hx2
                            have HY2 := Lib.hid hy2
                            have HR2 := Lib.hid hr2
                            have HP2 := Lib.hid hp2
                            clear hx2 hy2 hr2 hp2 hp34
                            by_cases hsame : J29.toNat = a
                            · rw [hsame] at hcx2 fx2 HX2
                              have hxy2 : x2 = y2 := by have h1 := HX2.out; have h2 := HY2.out; rw [h2] at h1; injection h1 with h1; exact h1.symm
                              subst hxy2
                              go_wp2
                              go_region
                              go_wp2
                              have hp36 := Lib.hid (Pm.trans HP2.out hg2 (HR2.out.swap HX2.out HX2.out 1 rfl))
                              clear HP2 hg2 HR2 HX2 HY2 hcx2 hcy2 fx2 fy2 s0 s1 s2 s3 hsame
                              go_ret2
                              exact ⟨J29.toNat, false, by rw [show ((J29.toNat : Nat) : Int) = J29 by omega]; rfl, by omega, by omega, hp36.out⟩
                            · have hne2 : ¬ a = J29.toNat := fun e => hsame e.symm
                              go_wp2
                              go_region
                              go_wp2
                              have hp36 := Lib.hid (Pm.trans HP2.out hg2 (HR2.out.swap HX2.out HY2.out 1 rfl))
                              clear HP2 hg2 HR2 HX2 HY2 hcx2 hcy2 fx2 fy2 s0 s1 s2 s3 hsame hne2
                              go_ret2
                              exact ⟨J29.toNat, false, by rw [show ((J29.toNat : Nat) : Int) = J29 by omega]; rfl, by omega, by omega, hp36.out⟩
              · have q5 : decide (x < z) = false := by simpa using hxz
                have q6 : z ≤ x := by omega
                go_wp2
                go_quiet ((go_at_call 96; first | exact less_quiet _ _ | exact less_quiet2 _ _))
                go_wp2
                go_roundw
                case rel => exact ⟨J8 - 1, by omega, by omega, by go_num, HPX.out.drewN _⟩
                case measure => simp [intOf] <;> omega
            · have qg : decide (I2 ≤ J8) = false := by simpa using hij
              go_wp2
              go_quiet (fail)
              go_wp2
              have hp13 := Lib.hid (hp9.out.drewN nq)
              clear hp9 qg
              generalize wr.drewN nq = wx at hp13 ⊢
              have hbrk : J8 < I2 := by omega
              obtain ⟨d2, hp2, hr2, hg2⟩ := hp13.out
              obtain ⟨x2, hx2, hcx2⟩ := hr2.get (show J8.toNat < n by omega)
              obtain ⟨y2, hy2, hcy2⟩ := hr2.get (show a < n by omega)
              have fx2 := hr2.free J8.toNat (by omega)
              have fy2 := hr2.free a (by omega)
              have s0 : (0 : Int) ≤ J8 := by omega
              have s1 : J8 < (n : Int) := by omega
              have s2 : (0 : Int) ≤ (a : Int) := by omega
              have s3 : (a : Int) < (n : Int) := by omega
              have HX2 := Lib.hid hx2
              have HY2 := Lib.hid hy2
              have HR2 := Lib.hid hr2
              have HP2 := Lib.hid hp2
              clear hx2 hy2 hr2 hp2 hp13
              by_cases hsame : J8.toNat = a
              · rw [hsame] at hcx2 fx2 HX2
                have hxy2 : x2 = y2 := by have h1 := HX2.out; have h2 := HY2.out; rw [h2] at h1; injection h1 with h1; exact h1.symm
                subst hxy2
                go_wp2
                go_region
                go_wp2
                have hp37 := Lib.hid (Pm.trans HP2.out hg2 (HR2.out.swap HX2.out HX2.out 1 rfl))
                clear HP2 hg2 HR2 HX2 HY2 hcx2 hcy2 fx2 fy2 s0 s1 s2 s3 hsame
                go_ret2
                exact ⟨J8.toNat, true, by rw [show ((J8.toNat : Nat) : Int) = J8 by omega]; rfl, by omega, by omega, hp37.out⟩
              · have hne2 : ¬ a = J8.toNat := fun e => hsame e.symm
                go_wp2
                go_region
                go_wp2
                have hp37 := Lib.hid (Pm.trans HP2.out hg2 (HR2.out.swap HX2.out HY2.out 1 rfl))
                clear HP2 hg2 HR2 HX2 HY2 hcx2 hcy2 fx2 fy2 s0 s1 s2 s3 hsame hne2
                go_ret2
                exact ⟨J8.toNat, true, by rw [show ((J8.toNat : Nat) : Int) = J8 by omega]; rfl, by omega, by omega, hp37.out⟩
      · have qg : decide (I2 ≤ J0) = false := by simpa using hij
        go_wp2
        go_quiet (fail)
        go_wp2
        have hp7 := Lib.hid (hp3.out.drewN nq)
        clear hp3 qg
        generalize wr.drewN nq = wx at hp7 ⊢
        go_loopw [11] (fun sv wq => ∃ J38 : Int, (a : Int) ≤ J38 ∧ J38 ≤ J0 ∧ sv = .int .i64 J38 ∧ Hid (Pm g n d w wq)) (fun sv _ => (intOf sv).toNat)
        case atStart => exact ⟨J0, by omega, by omega, rfl, hp7⟩
        case round =>
          obtain ⟨J38, ha40, hb41, rfl, hp39⟩ := hrel
          by_cases hij : I2 ≤ J38
          · exfalso; omega
          · have qg : decide (I2 ≤ J38) = false := by simpa using hij
            go_wp2
            go_quiet (fail)
            go_wp2
            have hp43 := Lib.hid (hp39.out.drewN nq)
            clear hp39 qg
            generalize wr.drewN nq = wx at hp43 ⊢
            have hbrk : J38 < I2 := by omega
            obtain ⟨d2, hp2, hr2, hg2⟩ := hp43.out
            obtain ⟨x2, hx2, hcx2⟩ := hr2.get (show J38.toNat < n by omega)
            obtain ⟨y2, hy2, hcy2⟩ := hr2.get (show a < n by omega)
            have fx2 := hr2.free J38.toNat (by omega)
            have fy2 := hr2.free a (by omega)
            have s0 : (0 : Int) ≤ J38 := by omega
            have s1 : J38 < (n : Int) := by omega
            have s2 : (0 : Int) ≤ (a : Int) := by omega
            have s3 : (a : Int) < (n : Int) := by omega
            have HX2 := Lib.hid hx2
            have HY2 := Lib.hid hy2
            have HR2 := Lib.hid hr2
            have HP2 := Lib.hid hp2
            clear hx2 hy2 hr2 hp2 hp43
            by_cases hsame : J38.toNat = a
            · rw [hsame] at hcx2 fx2 HX2
              have hxy2 : x2 = y2 := by have h1 := HX2.out; have h2 := HY2.out; rw [h2] at h1; injection h1 with h1; exact h1.symm
              subst hxy2
              go_wp2
              go_region
              go_wp2
              have hp67 := Lib.hid (Pm.trans HP2.out hg2 (HR2.out.swap HX2.out HX2.out 1 rfl))
              clear HP2 hg2 HR2 HX2 HY2 hcx2 hcy2 fx2 fy2 s0 s1 s2 s3 hsame
              go_ret2
              exact ⟨J38.toNat, true, by rw [show ((J38.toNat : Nat) : Int) = J38 by omega]; rfl, by omega, by omega, hp67.out⟩
            · have hne2 : ¬ a = J38.toNat := fun e => hsame e.symm
              go_wp2
              go_region
              go_wp2
              have hp67 := Lib.hid (Pm.trans HP2.out hg2 (HR2.out.swap HX2.out HY2.out 1 rfl))
              clear HP2 hg2 HR2 HX2 HY2 hcx2 hcy2 fx2 fy2 s0 s1 s2 s3 hsame hne2
              go_ret2
              exact ⟨J38.toNat, true, by rw [show ((J38.toNat : Nat) : Int) = J38 by omega]; rfl, by omega, by omega, hp67.out⟩
end Go.Proofs.Ythamnebbecmegaa.So
