/- The library's sort at uint64, in order: the partitions. -/
import Derived.Test.YtbdcdofjcljliaaGreatDoorSrtD
namespace Go.Proofs.YtbdcdofjcljliaaGreatDoor.So
open Go.ChangeShapes Go.WideShapes Go.ChangeAt Go.RowKit Rw
open Go.Sort (swp ltInt PermIn SortedIn)
set_option linter.unusedVariables false

set_option maxHeartbeats 20000000 in
set_option maxRecDepth 100000 in
theorem part_srt (g n c : Nat) (D : Array Int) (a b p : Nat) (w : World) (hD : D.size = n) (h : Row w g n D.toList) (ha : a < b) (hb : b ≤ n) (hpa : a ≤ p) (hpb : p < b) (hn : n ≤ 1152921504606846976) :
    Calls Tryz.prog 112 #[.slice (some ⟨g, 0, none⟩) n c, .int .i64 a, .int .i64 b, .int .i64 p] w fun e w' => ∃ (r : Nat) (t : Bool), e = .returned (.tuple #[.int .i64 r, .bool t]) ∧ a ≤ r ∧ r < b ∧ Pq g n (fun A => Split D a b D[p]! r A) w w' := by
  obtain ⟨pv, hpv⟩ : ∃ pv, D[p]! = pv := ⟨_, rfl⟩
  have hpS : Hid (Pq g n (fun A => A = D) w w) := Lib.hid (Pq.start hD rfl h)
  have HDs : Hid (n = D.size) := Lib.hid hD.symm
  have HPV := Lib.hid hpv
  clear h hD
  rw [hpv]
  clear hpv
  go_enter Tryz.func112, Tryz.ntmps112
  obtain ⟨d2, hs2, hp2, hr2, hg2⟩ := hpS.out
  obtain ⟨x2, hx2, hcx2⟩ := hr2.get (show a < n by omega)
  obtain ⟨y2, hy2, hcy2⟩ := hr2.get (show p < n by omega)
  have fx2 := hr2.free a (by omega)
  have fy2 := hr2.free p (by omega)
  have s0 : (0 : Int) ≤ (a : Int) := by omega
  have s1 : (a : Int) < (n : Int) := by omega
  have s2 : (0 : Int) ≤ (p : Int) := by omega
  have s3 : (p : Int) < (n : Int) := by omega
  have HX2 := Lib.hid hx2
  have HY2 := Lib.hid hy2
  have HR2 := Lib.hid hr2
  have HP2 := Lib.hid hp2
  have HS2 := Lib.hid hs2
  clear hx2 hy2 hr2 hp2 hs2 hpS
  by_cases hsame : p = a
  · rw [hsame] at hcy2 fy2 HY2
    have hxy2 : x2 = y2 := by have h1 := HX2.out; have h2 := HY2.out; rw [h2] at h1; injection h1 with h1; exact h1.symm
    subst hxy2
    have HQ2 : Hid (Pt (plt pv) D a b pv ((a : Int) + 1) ((b : Int) - 1) (swp d2 a p)) := Lib.hid (Pt.init HPV.out (by omega) (by omega) (by rw [← HDs.out]; omega) HP2.out)
    have hsame2 := hsame.symm; subst hsame2
    go_wp2
    go_region
    go_wp2
    have hp1 := Lib.hid (Pq.swap (Q := fun A => Pt (plt pv) D a b pv ((a : Int) + 1) ((b : Int) - 1) A) HS2.out hg2 HR2.out HX2.out HX2.out 1 rfl HQ2.out)
    clear HP2 hg2 HR2 HX2 HY2 HS2 hcx2 hcy2 fx2 fy2 s0 s1 s2 s3 HQ2 HPV HDs
    obtain ⟨I0, hI0⟩ : ∃ I0 : Int, I0 = (a : Int) + 1 := ⟨_, rfl⟩
    obtain ⟨J0, hJ0⟩ : ∃ J0 : Int, J0 = (b : Int) - 1 := ⟨_, rfl⟩
    rw [← hI0, ← hJ0] at hp1
    rw [← hI0, ← hJ0]
    have k1 : (a : Int) + 1 ≤ I0 := by omega
    have k2 : I0 ≤ b := by omega
    have k3 : (a : Int) ≤ J0 := by omega
    have k4 : J0 < b := by omega
    clear hI0 hJ0
    go_loopw [10] (fun sv wq => ∃ I2 : Int, I0 ≤ I2 ∧ I2 ≤ (b : Int) ∧ sv = .int .i64 I2 ∧ Hid (Pq g n (fun A => Pt (plt pv) D a b pv (I2) (J0) A) w wq)) (fun sv _ => ((b : Int) - intOf sv).toNat)
    case atStart => exact ⟨I0, by omega, by omega, rfl, hp1⟩
    case round =>
      obtain ⟨I2, ha4, hb5, rfl, hp3⟩ := hrel
      by_cases hij : I2 ≤ J0
      · obtain ⟨d1, hs1, hp1, hr1, hg1⟩ := hp3.out
        have hv0 : 0 ≤ I2 := by omega
        have hv1 : I2 < (n : Int) := by omega
        have ba0 : (0 : Int) ≤ (a : Int) := by omega
        have ba1 : (a : Int) < (n : Int) := by omega
        obtain ⟨x, hx, hcx⟩ := hr1.get (show I2.toNat < n by omega)
        obtain ⟨z, hz, hcz⟩ := hr1.get (show a < n by omega)
        have hzp : z = pv := (bang hz).symm.trans hp1.piv
        have qg : decide (I2 ≤ J0) = true := by simpa using hij
        by_cases hxz : x < z
        · have q5 : decide (x < z) = true := by simpa using hxz
          have HPX : Hid (Pq g n (fun A => Pt (plt pv) D a b pv (I2 + 1) (J0) A) w wr) := Lib.hid (Pq.mk' hs1 (hp1.up (by omega) (bang hx) (show plt pv x = true from decide_eq_true (by omega))) hg1 hr1)
          clear hx hz hs1 hp1 hr1 hp3 hzp
          go_wp2
          go_quiet ((go_at_call 110; first | exact less_quiet _ _ | exact less_quiet2 _ _))
          go_wp2
          go_roundw
          case rel => exact ⟨I2 + 1, by omega, by omega, by go_num, HPX.out.drewN _⟩
          case measure => simp [intOf] <;> omega
        · have q5 : decide (x < z) = false := by simpa using hxz
          have q6 : z ≤ x := by omega
          have HPX : Hid (Pq g n (fun A => Pt (plt pv) D a b pv (I2) (J0) A ∧ plt pv A[(I2).toNat]! = false) w wr) := Lib.hid (Pq.mk' hs1 ⟨hp1, by rw [bang hx]; exact (show plt pv x = false from decide_eq_false (by omega))⟩ hg1 hr1)
          clear hx hz hs1 hp1 hr1 hp3 hzp
          go_wp2
          go_quiet ((go_at_call 110; first | exact less_quiet _ _ | exact less_quiet2 _ _))
          go_wp2
          have hp6 := Lib.hid (HPX.out.drewN nq)
          clear HPX hcx hcz q5 q6 qg hxz hg1
          generalize wr.drewN nq = wx at hp6 ⊢
          go_loopw [11] (fun sv wq => ∃ J8 : Int, (a : Int) ≤ J8 ∧ J8 ≤ J0 ∧ sv = .int .i64 J8 ∧ Hid (Pq g n (fun A => Pt (plt pv) D a b pv (I2) (J8) A ∧ plt pv A[(I2).toNat]! = false) w wq)) (fun sv _ => (intOf sv).toNat)
          case atStart => exact ⟨J0, by omega, by omega, rfl, hp6⟩
          case round =>
            obtain ⟨J8, ha10, hb11, rfl, hp9⟩ := hrel
            by_cases hij : I2 ≤ J8
            · obtain ⟨d1, hs1, hp1, hr1, hg1⟩ := hp9.out
              have hv0 : 0 ≤ J8 := by omega
              have hv1 : J8 < (n : Int) := by omega
              have ba0 : (0 : Int) ≤ (a : Int) := by omega
              have ba1 : (a : Int) < (n : Int) := by omega
              obtain ⟨x, hx, hcx⟩ := hr1.get (show J8.toNat < n by omega)
              obtain ⟨z, hz, hcz⟩ := hr1.get (show a < n by omega)
              have hzp : z = pv := (bang hz).symm.trans hp1.1.piv
              have qg : decide (I2 ≤ J8) = true := by simpa using hij
              by_cases hxz : x < z
              · have q5 : decide (x < z) = true := by simpa using hxz
                have HPX : Hid (Pq g n (fun A => Pt (plt pv) D a b pv (I2) (J8) A ∧ plt pv A[(I2).toNat]! = false ∧ plt pv A[(J8).toNat]! = true) w wr) := Lib.hid (Pq.mk' hs1 ⟨hp1.1, hp1.2, by rw [bang hx]; exact (show plt pv x = true from decide_eq_true (by omega))⟩ hg1 hr1)
                clear hx hz hs1 hp1 hr1 hp9 hzp
                go_wp2
                go_quiet ((go_at_call 110; first | exact less_quiet _ _ | exact less_quiet2 _ _))
                go_wp2
                have hp12 := Lib.hid (HPX.out.drewN nq)
                clear HPX hcx hcz q5 qg hxz hg1
                generalize wr.drewN nq = wx at hp12 ⊢
                have hgo : I2 ≤ J8 := hij
                obtain ⟨d2, hs2, hp2, hr2, hg2⟩ := hp12.out
                obtain ⟨x2, hx2, hcx2⟩ := hr2.get (show I2.toNat < n by omega)
                obtain ⟨y2, hy2, hcy2⟩ := hr2.get (show J8.toNat < n by omega)
                have fx2 := hr2.free I2.toNat (by omega)
                have fy2 := hr2.free J8.toNat (by omega)
                have s0 : (0 : Int) ≤ I2 := by omega
                have s1 : I2 < (n : Int) := by omega
                have s2 : (0 : Int) ≤ J8 := by omega
                have s3 : J8 < (n : Int) := by omega
                have HX2 := Lib.hid hx2
                have HY2 := Lib.hid hy2
                have HR2 := Lib.hid hr2
                have HP2 := Lib.hid hp2
                have HS2 := Lib.hid hs2
                clear hx2 hy2 hr2 hp2 hs2 hp12
                have hij2 : I2 < J8 := by
                  have h3 := HP2.out.2.1
                  have h4 := HP2.out.2.2
                  rcases Int.lt_or_le I2 J8 with h5 | h5
                  · exact h5
                  · exfalso
                    rw [show J8 = I2 by omega, h3] at h4
                    cases h4
                have hne2 : ¬ I2.toNat = J8.toNat := by omega
                have HQ2 : Hid (Pt (plt pv) D a b pv (I2 + 1) (J8 - 1) (swp d2 I2.toNat J8.toNat)) := Lib.hid (HP2.out.1.swap (by omega) hij2 (by omega) (by rw [HS2.out]; omega) HP2.out.2.1 HP2.out.2.2)
                go_wp2
                go_region
                go_wp2
                have hp14 := Lib.hid (Pq.swap (Q := fun A => Pt (plt pv) D a b pv (I2 + 1) (J8 - 1) A) HS2.out hg2 HR2.out HX2.out HY2.out 1 rfl HQ2.out)
                clear HP2 hg2 HR2 HX2 HY2 HS2 hcx2 hcy2 fx2 fy2 s0 s1 s2 s3 hne2 hij2 HQ2
                go_loopw [10, 11] (fun si sj wr => ∃ I J : Int, (a : Int) + 1 ≤ I ∧ I ≤ b ∧ (a : Int) ≤ J ∧ J < b ∧ si = .int .i64 I ∧ sj = .int .i64 J ∧ Hid (Pq g n (fun A => Pt (plt pv) D a b pv (I) (J) A) w wr)) (fun si sj _ => (intOf sj - intOf si + 2).toNat)
                case atStart => exact ⟨I2 + 1, J8 - 1, by omega, by omega, by omega, by omega, rfl, rfl, hp14⟩
                case round =>
                  obtain ⟨I, J, hI0, hI1, hJ0, hJ1, rfl, rfl, hp0⟩ := hrel
                  go_wp2
                  go_loopw [10] (fun sv wq => ∃ I15 : Int, I ≤ I15 ∧ I15 ≤ (b : Int) ∧ sv = .int .i64 I15 ∧ Hid (Pq g n (fun A => Pt (plt pv) D a b pv (I15) (J) A) w wq)) (fun sv _ => ((b : Int) - intOf sv).toNat)
                  case atStart => exact ⟨I, by omega, by omega, rfl, hp0⟩
                  case round =>
                    obtain ⟨I15, ha17, hb18, rfl, hp16⟩ := hrel
                    by_cases hij : I15 ≤ J
                    · obtain ⟨d1, hs1, hp1, hr1, hg1⟩ := hp16.out
                      have hv0 : 0 ≤ I15 := by omega
                      have hv1 : I15 < (n : Int) := by omega
                      have ba0 : (0 : Int) ≤ (a : Int) := by omega
                      have ba1 : (a : Int) < (n : Int) := by omega
                      obtain ⟨x, hx, hcx⟩ := hr1.get (show I15.toNat < n by omega)
                      obtain ⟨z, hz, hcz⟩ := hr1.get (show a < n by omega)
                      have hzp : z = pv := (bang hz).symm.trans hp1.piv
                      have qg : decide (I15 ≤ J) = true := by simpa using hij
                      by_cases hxz : x < z
                      · have q5 : decide (x < z) = true := by simpa using hxz
                        have HPX : Hid (Pq g n (fun A => Pt (plt pv) D a b pv (I15 + 1) (J) A) w wr) := Lib.hid (Pq.mk' hs1 (hp1.up (by omega) (bang hx) (show plt pv x = true from decide_eq_true (by omega))) hg1 hr1)
                        clear hx hz hs1 hp1 hr1 hp16 hzp
                        go_wp2
                        go_quiet ((go_at_call 110; first | exact less_quiet _ _ | exact less_quiet2 _ _))
                        go_wp2
                        go_roundw
                        case rel => exact ⟨I15 + 1, by omega, by omega, by go_num, HPX.out.drewN _⟩
                        case measure => simp [intOf] <;> omega
                      · have q5 : decide (x < z) = false := by simpa using hxz
                        have q6 : z ≤ x := by omega
                        have HPX : Hid (Pq g n (fun A => Pt (plt pv) D a b pv (I15) (J) A ∧ plt pv A[(I15).toNat]! = false) w wr) := Lib.hid (Pq.mk' hs1 ⟨hp1, by rw [bang hx]; exact (show plt pv x = false from decide_eq_false (by omega))⟩ hg1 hr1)
                        clear hx hz hs1 hp1 hr1 hp16 hzp
                        go_wp2
                        go_quiet ((go_at_call 110; first | exact less_quiet _ _ | exact less_quiet2 _ _))
                        go_wp2
                        have hp19 := Lib.hid (HPX.out.drewN nq)
                        clear HPX hcx hcz q5 q6 qg hxz hg1
                        generalize wr.drewN nq = wx at hp19 ⊢
                        go_loopw [11] (fun sv wq => ∃ J21 : Int, (a : Int) ≤ J21 ∧ J21 ≤ J ∧ sv = .int .i64 J21 ∧ Hid (Pq g n (fun A => Pt (plt pv) D a b pv (I15) (J21) A ∧ plt pv A[(I15).toNat]! = false) w wq)) (fun sv _ => (intOf sv).toNat)
                        case atStart => exact ⟨J, by omega, by omega, rfl, hp19⟩
                        case round =>
                          obtain ⟨J21, ha23, hb24, rfl, hp22⟩ := hrel
                          by_cases hij : I15 ≤ J21
                          · obtain ⟨d1, hs1, hp1, hr1, hg1⟩ := hp22.out
                            have hv0 : 0 ≤ J21 := by omega
                            have hv1 : J21 < (n : Int) := by omega
                            have ba0 : (0 : Int) ≤ (a : Int) := by omega
                            have ba1 : (a : Int) < (n : Int) := by omega
                            obtain ⟨x, hx, hcx⟩ := hr1.get (show J21.toNat < n by omega)
                            obtain ⟨z, hz, hcz⟩ := hr1.get (show a < n by omega)
                            have hzp : z = pv := (bang hz).symm.trans hp1.1.piv
                            have qg : decide (I15 ≤ J21) = true := by simpa using hij
                            by_cases hxz : x < z
                            · have q5 : decide (x < z) = true := by simpa using hxz
                              have HPX : Hid (Pq g n (fun A => Pt (plt pv) D a b pv (I15) (J21) A ∧ plt pv A[(I15).toNat]! = false ∧ plt pv A[(J21).toNat]! = true) w wr) := Lib.hid (Pq.mk' hs1 ⟨hp1.1, hp1.2, by rw [bang hx]; exact (show plt pv x = true from decide_eq_true (by omega))⟩ hg1 hr1)
                              clear hx hz hs1 hp1 hr1 hp22 hzp
                              go_wp2
                              go_quiet ((go_at_call 110; first | exact less_quiet _ _ | exact less_quiet2 _ _))
                              go_wp2
                              have hp25 := Lib.hid (HPX.out.drewN nq)
                              clear HPX hcx hcz q5 qg hxz hg1
                              generalize wr.drewN nq = wx at hp25 ⊢
                              have hgo : I15 ≤ J21 := hij
                              obtain ⟨d2, hs2, hp2, hr2, hg2⟩ := hp25.out
                              obtain ⟨x2, hx2, hcx2⟩ := hr2.get (show I15.toNat < n by omega)
                              obtain ⟨y2, hy2, hcy2⟩ := hr2.get (show J21.toNat < n by omega)
                              have fx2 := hr2.free I15.toNat (by omega)
                              have fy2 := hr2.free J21.toNat (by omega)
                              have s0 : (0 : Int) ≤ I15 := by omega
                              have s1 : I15 < (n : Int) := by omega
                              have s2 : (0 : Int) ≤ J21 := by omega
                              have s3 : J21 < (n : Int) := by omega
                              have HX2 := Lib.hid hx2
                              have HY2 := Lib.hid hy2
                              have HR2 := Lib.hid hr2
                              have HP2 := Lib.hid hp2
                              have HS2 := Lib.hid hs2
                              clear hx2 hy2 hr2 hp2 hs2 hp25
                              have hij2 : I15 < J21 := by
                                have h3 := HP2.out.2.1
                                have h4 := HP2.out.2.2
                                rcases Int.lt_or_le I15 J21 with h5 | h5
                                · exact h5
                                · exfalso
                                  rw [show J21 = I15 by omega, h3] at h4
                                  cases h4
                              have hne2 : ¬ I15.toNat = J21.toNat := by omega
                              have HQ2 : Hid (Pt (plt pv) D a b pv (I15 + 1) (J21 - 1) (swp d2 I15.toNat J21.toNat)) := Lib.hid (HP2.out.1.swap (by omega) hij2 (by omega) (by rw [HS2.out]; omega) HP2.out.2.1 HP2.out.2.2)
                              go_wp2
                              go_region
                              go_wp2
                              have hp27 := Lib.hid (Pq.swap (Q := fun A => Pt (plt pv) D a b pv (I15 + 1) (J21 - 1) A) HS2.out hg2 HR2.out HX2.out HY2.out 1 rfl HQ2.out)
                              clear HP2 hg2 HR2 HX2 HY2 HS2 hcx2 hcy2 fx2 fy2 s0 s1 s2 s3 hne2 hij2 HQ2
                              go_roundw
                              case rel => first | exact ⟨I15 + 1, J21 - 1, by omega, by omega, by omega, by omega, by go_num, by go_num, hp27.out⟩ | ((repeat apply Exists.intro); exact ⟨⟨I15 + 1, J21 - 1, by omega, by omega, by omega, by omega, by go_num, by go_num, hp27.out⟩, rfl⟩)
                              case measure => simp [intOf] <;> omega
                            · have q5 : decide (x < z) = false := by simpa using hxz
                              have q6 : z ≤ x := by omega
                              have HPX : Hid (Pq g n (fun A => Pt (plt pv) D a b pv (I15) (J21 - 1) A ∧ plt pv A[(I15).toNat]! = false) w wr) := Lib.hid (Pq.mk' hs1 ⟨hp1.1.down (by omega) (bang hx) (show plt pv x = false from decide_eq_false (by omega)), hp1.2⟩ hg1 hr1)
                              clear hx hz hs1 hp1 hr1 hp22 hzp
                              go_wp2
                              go_quiet ((go_at_call 110; first | exact less_quiet _ _ | exact less_quiet2 _ _))
                              go_wp2
                              go_roundw
                              case rel => exact ⟨J21 - 1, by omega, by omega, by go_num, HPX.out.drewN _⟩
                              case measure => simp [intOf] <;> omega
                          · have qg : decide (I15 ≤ J21) = false := by simpa using hij
                            have HPG : Hid (Pq g n (fun A => Pt (plt pv) D a b pv (I15) (J21) A) w wr) := Lib.hid (hp22.out.imp fun A _ hA => hA.1)
                            clear hp22
                            go_wp2
                            go_quiet (fail)
                            go_wp2
                            have hp26 := Lib.hid (HPG.out.drewN nq)
                            clear HPG qg
                            generalize wr.drewN nq = wx at hp26 ⊢
                            have hbrk : J21 < I15 := by omega
                            obtain ⟨d2, hs2, hp2, hr2, hg2⟩ := hp26.out
                            obtain ⟨x2, hx2, hcx2⟩ := hr2.get (show J21.toNat < n by omega)
                            obtain ⟨y2, hy2, hcy2⟩ := hr2.get (show a < n by omega)
                            have fx2 := hr2.free J21.toNat (by omega)
                            have fy2 := hr2.free a (by omega)
                            have s0 : (0 : Int) ≤ J21 := by omega
                            have s1 : J21 < (n : Int) := by omega
                            have s2 : (0 : Int) ≤ (a : Int) := by omega
                            have s3 : (a : Int) < (n : Int) := by omega
                            have HX2 := Lib.hid hx2
                            have HY2 := Lib.hid hy2
                            have HR2 := Lib.hid hr2
                            have HP2 := Lib.hid hp2
                            have HS2 := Lib.hid hs2
                            clear hx2 hy2 hr2 hp2 hs2 hp26
                            by_cases hsame : J21.toNat = a
                            · rw [hsame] at hcx2 fx2 HX2
                              have hxy2 : x2 = y2 := by have h1 := HX2.out; have h2 := HY2.out; rw [h2] at h1; injection h1 with h1; exact h1.symm
                              subst hxy2
                              have HQ2 : Hid (Split D a b pv J21.toNat (swp d2 J21.toNat a)) := Lib.hid (HP2.out.fin (by omega) (by omega) (by omega) (by rw [HS2.out]; omega))
                              rw [show swp d2 J21.toNat a = swp d2 a a by rw [hsame]] at HQ2
                              go_wp2
                              go_region
                              go_wp2
                              have hp28 := Lib.hid (Pq.swap (Q := fun A => Split D a b pv J21.toNat A) HS2.out hg2 HR2.out HX2.out HX2.out 1 rfl HQ2.out)
                              clear HP2 hg2 HR2 HX2 HY2 HS2 hcx2 hcy2 fx2 fy2 s0 s1 s2 s3 hsame HQ2
                              go_ret2
                              exact ⟨J21.toNat, false, by rw [show ((J21.toNat : Nat) : Int) = J21 by omega]; rfl, by omega, by omega, hp28.out⟩
                            · have hne2 : ¬ a = J21.toNat := fun e => hsame e.symm
                              have HQ2 : Hid (Split D a b pv J21.toNat (swp d2 J21.toNat a)) := Lib.hid (HP2.out.fin (by omega) (by omega) (by omega) (by rw [HS2.out]; omega))
                              go_wp2
                              go_region
                              go_wp2
                              have hp28 := Lib.hid (Pq.swap (Q := fun A => Split D a b pv J21.toNat A) HS2.out hg2 HR2.out HX2.out HY2.out 1 rfl HQ2.out)
                              clear HP2 hg2 HR2 HX2 HY2 HS2 hcx2 hcy2 fx2 fy2 s0 s1 s2 s3 hsame hne2 HQ2
                              go_ret2
                              exact ⟨J21.toNat, false, by rw [show ((J21.toNat : Nat) : Int) = J21 by omega]; rfl, by omega, by omega, hp28.out⟩
                    · have qg : decide (I15 ≤ J) = false := by simpa using hij
                      have HPG : Hid (Pq g n (fun A => Pt (plt pv) D a b pv (I15) (J) A) w wr) := hp16
                      clear hp16
                      go_wp2
                      go_quiet (fail)
                      go_wp2
                      have hp20 := Lib.hid (HPG.out.drewN nq)
                      clear HPG qg
                      generalize wr.drewN nq = wx at hp20 ⊢
                      go_loopw [11] (fun sv wq => ∃ J29 : Int, (a : Int) ≤ J29 ∧ J29 ≤ J ∧ sv = .int .i64 J29 ∧ Hid (Pq g n (fun A => Pt (plt pv) D a b pv (I15) (J29) A) w wq)) (fun sv _ => (intOf sv).toNat)
                      case atStart => exact ⟨J, by omega, by omega, rfl, hp20⟩
                      case round =>
                        obtain ⟨J29, ha31, hb32, rfl, hp30⟩ := hrel
                        by_cases hij : I15 ≤ J29
                        · exfalso; omega
                        · have qg : decide (I15 ≤ J29) = false := by simpa using hij
                          have HPG : Hid (Pq g n (fun A => Pt (plt pv) D a b pv (I15) (J29) A) w wr) := hp30
                          clear hp30
                          go_wp2
                          go_quiet (fail)
                          go_wp2
                          have hp34 := Lib.hid (HPG.out.drewN nq)
                          clear HPG qg
                          generalize wr.drewN nq = wx at hp34 ⊢
                          have hbrk : J29 < I15 := by omega
                          obtain ⟨d2, hs2, hp2, hr2, hg2⟩ := hp34.out
                          obtain ⟨x2, hx2, hcx2⟩ := hr2.get (show J29.toNat < n by omega)
                          obtain ⟨y2, hy2, hcy2⟩ := hr2.get (show a < n by omega)
                          have fx2 := hr2.free J29.toNat (by omega)
                          have fy2 := hr2.free a (by omega)
                          have s0 : (0 : Int) ≤ J29 := by omega
                          have s1 : J29 < (n : Int) := by omega
                          have s2 : (0 : Int) ≤ (a : Int) := by omega
                          have s3 : (a : Int) < (n : Int) := by omega
                          have HX2 := Lib.hid hx2
                          have HY2 := Lib.hid hy2
                          have HR2 := Lib.hid hr2
                          have HP2 := Lib.hid hp2
                          have HS2 := Lib.hid hs2
                          clear hx2 hy2 hr2 hp2 hs2 hp34
                          by_cases hsame : J29.toNat = a
                          · rw [hsame] at hcx2 fx2 HX2
                            have hxy2 : x2 = y2 := by have h1 := HX2.out; have h2 := HY2.out; rw [h2] at h1; injection h1 with h1; exact h1.symm
                            subst hxy2
                            have HQ2 : Hid (Split D a b pv J29.toNat (swp d2 J29.toNat a)) := Lib.hid (HP2.out.fin (by omega) (by omega) (by omega) (by rw [HS2.out]; omega))
                            rw [show swp d2 J29.toNat a = swp d2 a a by rw [hsame]] at HQ2
                            go_wp2
                            go_region
                            go_wp2
                            have hp36 := Lib.hid (Pq.swap (Q := fun A => Split D a b pv J29.toNat A) HS2.out hg2 HR2.out HX2.out HX2.out 1 rfl HQ2.out)
                            clear HP2 hg2 HR2 HX2 HY2 HS2 hcx2 hcy2 fx2 fy2 s0 s1 s2 s3 hsame HQ2
                            go_ret2
                            exact ⟨J29.toNat, false, by rw [show ((J29.toNat : Nat) : Int) = J29 by omega]; rfl, by omega, by omega, hp36.out⟩
                          · have hne2 : ¬ a = J29.toNat := fun e => hsame e.symm
                            have HQ2 : Hid (Split D a b pv J29.toNat (swp d2 J29.toNat a)) := Lib.hid (HP2.out.fin (by omega) (by omega) (by omega) (by rw [HS2.out]; omega))
                            go_wp2
                            go_region
                            go_wp2
                            have hp36 := Lib.hid (Pq.swap (Q := fun A => Split D a b pv J29.toNat A) HS2.out hg2 HR2.out HX2.out HY2.out 1 rfl HQ2.out)
                            clear HP2 hg2 HR2 HX2 HY2 HS2 hcx2 hcy2 fx2 fy2 s0 s1 s2 s3 hsame hne2 HQ2
                            go_ret2
                            exact ⟨J29.toNat, false, by rw [show ((J29.toNat : Nat) : Int) = J29 by omega]; rfl, by omega, by omega, hp36.out⟩
              · have q5 : decide (x < z) = false := by simpa using hxz
                have q6 : z ≤ x := by omega
                have HPX : Hid (Pq g n (fun A => Pt (plt pv) D a b pv (I2) (J8 - 1) A ∧ plt pv A[(I2).toNat]! = false) w wr) := Lib.hid (Pq.mk' hs1 ⟨hp1.1.down (by omega) (bang hx) (show plt pv x = false from decide_eq_false (by omega)), hp1.2⟩ hg1 hr1)
                clear hx hz hs1 hp1 hr1 hp9 hzp
                go_wp2
                go_quiet ((go_at_call 110; first | exact less_quiet _ _ | exact less_quiet2 _ _))
                go_wp2
                go_roundw
                case rel => exact ⟨J8 - 1, by omega, by omega, by go_num, HPX.out.drewN _⟩
                case measure => simp [intOf] <;> omega
            · have qg : decide (I2 ≤ J8) = false := by simpa using hij
              have HPG : Hid (Pq g n (fun A => Pt (plt pv) D a b pv (I2) (J8) A) w wr) := Lib.hid (hp9.out.imp fun A _ hA => hA.1)
              clear hp9
              go_wp2
              go_quiet (fail)
              go_wp2
              have hp13 := Lib.hid (HPG.out.drewN nq)
              clear HPG qg
              generalize wr.drewN nq = wx at hp13 ⊢
              have hbrk : J8 < I2 := by omega
              obtain ⟨d2, hs2, hp2, hr2, hg2⟩ := hp13.out
              obtain ⟨x2, hx2, hcx2⟩ := hr2.get (show J8.toNat < n by omega)
              obtain ⟨y2, hy2, hcy2⟩ := hr2.get (show a < n by omega)
              have fx2 := hr2.free J8.toNat (by omega)
              have fy2 := hr2.free a (by omega)
              have s0 : (0 : Int) ≤ J8 := by omega
              have s1 : J8 < (n : Int) := by omega
              have s2 : (0 : Int) ≤ (a : Int) := by omega
              have s3 : (a : Int) < (n : Int) := by omega
              have HX2 := Lib.hid hx2
              have HY2 := Lib.hid hy2
              have HR2 := Lib.hid hr2
              have HP2 := Lib.hid hp2
              have HS2 := Lib.hid hs2
              clear hx2 hy2 hr2 hp2 hs2 hp13
              by_cases hsame : J8.toNat = a
              · rw [hsame] at hcx2 fx2 HX2
                have hxy2 : x2 = y2 := by have h1 := HX2.out; have h2 := HY2.out; rw [h2] at h1; injection h1 with h1; exact h1.symm
                subst hxy2
                have HQ2 : Hid (Split D a b pv J8.toNat (swp d2 J8.toNat a)) := Lib.hid (HP2.out.fin (by omega) (by omega) (by omega) (by rw [HS2.out]; omega))
                rw [show swp d2 J8.toNat a = swp d2 a a by rw [hsame]] at HQ2
                go_wp2
                go_region
                go_wp2
                have hp37 := Lib.hid (Pq.swap (Q := fun A => Split D a b pv J8.toNat A) HS2.out hg2 HR2.out HX2.out HX2.out 1 rfl HQ2.out)
                clear HP2 hg2 HR2 HX2 HY2 HS2 hcx2 hcy2 fx2 fy2 s0 s1 s2 s3 hsame HQ2
                go_ret2
                exact ⟨J8.toNat, true, by rw [show ((J8.toNat : Nat) : Int) = J8 by omega]; rfl, by omega, by omega, hp37.out⟩
              · have hne2 : ¬ a = J8.toNat := fun e => hsame e.symm
                have HQ2 : Hid (Split D a b pv J8.toNat (swp d2 J8.toNat a)) := Lib.hid (HP2.out.fin (by omega) (by omega) (by omega) (by rw [HS2.out]; omega))
                go_wp2
                go_region
                go_wp2
                have hp37 := Lib.hid (Pq.swap (Q := fun A => Split D a b pv J8.toNat A) HS2.out hg2 HR2.out HX2.out HY2.out 1 rfl HQ2.out)
                clear HP2 hg2 HR2 HX2 HY2 HS2 hcx2 hcy2 fx2 fy2 s0 s1 s2 s3 hsame hne2 HQ2
                go_ret2
                exact ⟨J8.toNat, true, by rw [show ((J8.toNat : Nat) : Int) = J8 by omega]; rfl, by omega, by omega, hp37.out⟩
      · have qg : decide (I2 ≤ J0) = false := by simpa using hij
        have HPG : Hid (Pq g n (fun A => Pt (plt pv) D a b pv (I2) (J0) A) w wr) := hp3
        clear hp3
        go_wp2
        go_quiet (fail)
        go_wp2
        have hp7 := Lib.hid (HPG.out.drewN nq)
        clear HPG qg
        generalize wr.drewN nq = wx at hp7 ⊢
        go_loopw [11] (fun sv wq => ∃ J38 : Int, (a : Int) ≤ J38 ∧ J38 ≤ J0 ∧ sv = .int .i64 J38 ∧ Hid (Pq g n (fun A => Pt (plt pv) D a b pv (I2) (J38) A) w wq)) (fun sv _ => (intOf sv).toNat)
        case atStart => exact ⟨J0, by omega, by omega, rfl, hp7⟩
        case round =>
          obtain ⟨J38, ha40, hb41, rfl, hp39⟩ := hrel
          by_cases hij : I2 ≤ J38
          · exfalso; omega
          · have qg : decide (I2 ≤ J38) = false := by simpa using hij
            have HPG : Hid (Pq g n (fun A => Pt (plt pv) D a b pv (I2) (J38) A) w wr) := hp39
            clear hp39
            go_wp2
            go_quiet (fail)
            go_wp2
            have hp43 := Lib.hid (HPG.out.drewN nq)
            clear HPG qg
            generalize wr.drewN nq = wx at hp43 ⊢
            have hbrk : J38 < I2 := by omega
            obtain ⟨d2, hs2, hp2, hr2, hg2⟩ := hp43.out
            obtain ⟨x2, hx2, hcx2⟩ := hr2.get (show J38.toNat < n by omega)
            obtain ⟨y2, hy2, hcy2⟩ := hr2.get (show a < n by omega)
            have fx2 := hr2.free J38.toNat (by omega)
            have fy2 := hr2.free a (by omega)
            have s0 : (0 : Int) ≤ J38 := by omega
            have s1 : J38 < (n : Int) := by omega
            have s2 : (0 : Int) ≤ (a : Int) := by omega
            have s3 : (a : Int) < (n : Int) := by omega
            have HX2 := Lib.hid hx2
            have HY2 := Lib.hid hy2
            have HR2 := Lib.hid hr2
            have HP2 := Lib.hid hp2
            have HS2 := Lib.hid hs2
            clear hx2 hy2 hr2 hp2 hs2 hp43
            by_cases hsame : J38.toNat = a
            · rw [hsame] at hcx2 fx2 HX2
              have hxy2 : x2 = y2 := by have h1 := HX2.out; have h2 := HY2.out; rw [h2] at h1; injection h1 with h1; exact h1.symm
              subst hxy2
              have HQ2 : Hid (Split D a b pv J38.toNat (swp d2 J38.toNat a)) := Lib.hid (HP2.out.fin (by omega) (by omega) (by omega) (by rw [HS2.out]; omega))
              rw [show swp d2 J38.toNat a = swp d2 a a by rw [hsame]] at HQ2
              go_wp2
              go_region
              go_wp2
              have hp67 := Lib.hid (Pq.swap (Q := fun A => Split D a b pv J38.toNat A) HS2.out hg2 HR2.out HX2.out HX2.out 1 rfl HQ2.out)
              clear HP2 hg2 HR2 HX2 HY2 HS2 hcx2 hcy2 fx2 fy2 s0 s1 s2 s3 hsame HQ2
              go_ret2
              exact ⟨J38.toNat, true, by rw [show ((J38.toNat : Nat) : Int) = J38 by omega]; rfl, by omega, by omega, hp67.out⟩
            · have hne2 : ¬ a = J38.toNat := fun e => hsame e.symm
              have HQ2 : Hid (Split D a b pv J38.toNat (swp d2 J38.toNat a)) := Lib.hid (HP2.out.fin (by omega) (by omega) (by omega) (by rw [HS2.out]; omega))
              go_wp2
              go_region
              go_wp2
              have hp67 := Lib.hid (Pq.swap (Q := fun A => Split D a b pv J38.toNat A) HS2.out hg2 HR2.out HX2.out HY2.out 1 rfl HQ2.out)
              clear HP2 hg2 HR2 HX2 HY2 HS2 hcx2 hcy2 fx2 fy2 s0 s1 s2 s3 hsame hne2 HQ2
              go_ret2
              exact ⟨J38.toNat, true, by rw [show ((J38.toNat : Nat) : Int) = J38 by omega]; rfl, by omega, by omega, hp67.out⟩
  · have hne2 : ¬ a = p := fun e => hsame e.symm
    have HQ2 : Hid (Pt (plt pv) D a b pv ((a : Int) + 1) ((b : Int) - 1) (swp d2 a p)) := Lib.hid (Pt.init HPV.out (by omega) (by omega) (by rw [← HDs.out]; omega) HP2.out)
    go_wp2
    go_region
    go_wp2
    have hp1 := Lib.hid (Pq.swap (Q := fun A => Pt (plt pv) D a b pv ((a : Int) + 1) ((b : Int) - 1) A) HS2.out hg2 HR2.out HX2.out HY2.out 1 rfl HQ2.out)
    clear HP2 hg2 HR2 HX2 HY2 HS2 hcx2 hcy2 fx2 fy2 s0 s1 s2 s3 hsame hne2 HQ2 HPV HDs
    obtain ⟨I0, hI0⟩ : ∃ I0 : Int, I0 = (a : Int) + 1 := ⟨_, rfl⟩
    obtain ⟨J0, hJ0⟩ : ∃ J0 : Int, J0 = (b : Int) - 1 := ⟨_, rfl⟩
    rw [← hI0, ← hJ0] at hp1
    rw [← hI0, ← hJ0]
    have k1 : (a : Int) + 1 ≤ I0 := by omega
    have k2 : I0 ≤ b := by omega
    have k3 : (a : Int) ≤ J0 := by omega
    have k4 : J0 < b := by omega
    clear hI0 hJ0
    go_loopw [10] (fun sv wq => ∃ I68 : Int, I0 ≤ I68 ∧ I68 ≤ (b : Int) ∧ sv = .int .i64 I68 ∧ Hid (Pq g n (fun A => Pt (plt pv) D a b pv (I68) (J0) A) w wq)) (fun sv _ => ((b : Int) - intOf sv).toNat)
    case atStart => exact ⟨I0, by omega, by omega, rfl, hp1⟩
    case round =>
      obtain ⟨I68, ha70, hb71, rfl, hp69⟩ := hrel
      by_cases hij : I68 ≤ J0
      · obtain ⟨d1, hs1, hp1, hr1, hg1⟩ := hp69.out
        have hv0 : 0 ≤ I68 := by omega
        have hv1 : I68 < (n : Int) := by omega
        have ba0 : (0 : Int) ≤ (a : Int) := by omega
        have ba1 : (a : Int) < (n : Int) := by omega
        obtain ⟨x, hx, hcx⟩ := hr1.get (show I68.toNat < n by omega)
        obtain ⟨z, hz, hcz⟩ := hr1.get (show a < n by omega)
        have hzp : z = pv := (bang hz).symm.trans hp1.piv
        have qg : decide (I68 ≤ J0) = true := by simpa using hij
        by_cases hxz : x < z
        · have q5 : decide (x < z) = true := by simpa using hxz
          have HPX : Hid (Pq g n (fun A => Pt (plt pv) D a b pv (I68 + 1) (J0) A) w wr) := Lib.hid (Pq.mk' hs1 (hp1.up (by omega) (bang hx) (show plt pv x = true from decide_eq_true (by omega))) hg1 hr1)
          clear hx hz hs1 hp1 hr1 hp69 hzp
          go_wp2
          go_quiet ((go_at_call 110; first | exact less_quiet _ _ | exact less_quiet2 _ _))
          go_wp2
          go_roundw
          case rel => exact ⟨I68 + 1, by omega, by omega, by go_num, HPX.out.drewN _⟩
          case measure => simp [intOf] <;> omega
        · have q5 : decide (x < z) = false := by simpa using hxz
          have q6 : z ≤ x := by omega
          have HPX : Hid (Pq g n (fun A => Pt (plt pv) D a b pv (I68) (J0) A ∧ plt pv A[(I68).toNat]! = false) w wr) := Lib.hid (Pq.mk' hs1 ⟨hp1, by rw [bang hx]; exact (show plt pv x = false from decide_eq_false (by omega))⟩ hg1 hr1)
          clear hx hz hs1 hp1 hr1 hp69 hzp
          go_wp2
          go_quiet ((go_at_call 110; first | exact less_quiet _ _ | exact less_quiet2 _ _))
          go_wp2
          have hp72 := Lib.hid (HPX.out.drewN nq)
          clear HPX hcx hcz q5 q6 qg hxz hg1
          generalize wr.drewN nq = wx at hp72 ⊢
          go_loopw [11] (fun sv wq => ∃ J74 : Int, (a : Int) ≤ J74 ∧ J74 ≤ J0 ∧ sv = .int .i64 J74 ∧ Hid (Pq g n (fun A => Pt (plt pv) D a b pv (I68) (J74) A ∧ plt pv A[(I68).toNat]! = false) w wq)) (fun sv _ => (intOf sv).toNat)
          case atStart => exact ⟨J0, by omega, by omega, rfl, hp72⟩
          case round =>
            obtain ⟨J74, ha76, hb77, rfl, hp75⟩ := hrel
            by_cases hij : I68 ≤ J74
            · obtain ⟨d1, hs1, hp1, hr1, hg1⟩ := hp75.out
              have hv0 : 0 ≤ J74 := by omega
              have hv1 : J74 < (n : Int) := by omega
              have ba0 : (0 : Int) ≤ (a : Int) := by omega
              have ba1 : (a : Int) < (n : Int) := by omega
              obtain ⟨x, hx, hcx⟩ := hr1.get (show J74.toNat < n by omega)
              obtain ⟨z, hz, hcz⟩ := hr1.get (show a < n by omega)
              have hzp : z = pv := (bang hz).symm.trans hp1.1.piv
              have qg : decide (I68 ≤ J74) = true := by simpa using hij
              by_cases hxz : x < z
              · have q5 : decide (x < z) = true := by simpa using hxz
                have HPX : Hid (Pq g n (fun A => Pt (plt pv) D a b pv (I68) (J74) A ∧ plt pv A[(I68).toNat]! = false ∧ plt pv A[(J74).toNat]! = true) w wr) := Lib.hid (Pq.mk' hs1 ⟨hp1.1, hp1.2, by rw [bang hx]; exact (show plt pv x = true from decide_eq_true (by omega))⟩ hg1 hr1)
                clear hx hz hs1 hp1 hr1 hp75 hzp
                go_wp2
                go_quiet ((go_at_call 110; first | exact less_quiet _ _ | exact less_quiet2 _ _))
                go_wp2
                have hp78 := Lib.hid (HPX.out.drewN nq)
                clear HPX hcx hcz q5 qg hxz hg1
                generalize wr.drewN nq = wx at hp78 ⊢
                have hgo : I68 ≤ J74 := hij
                obtain ⟨d2, hs2, hp2, hr2, hg2⟩ := hp78.out
                obtain ⟨x2, hx2, hcx2⟩ := hr2.get (show I68.toNat < n by omega)
                obtain ⟨y2, hy2, hcy2⟩ := hr2.get (show J74.toNat < n by omega)
                have fx2 := hr2.free I68.toNat (by omega)
                have fy2 := hr2.free J74.toNat (by omega)
                have s0 : (0 : Int) ≤ I68 := by omega
                have s1 : I68 < (n : Int) := by omega
                have s2 : (0 : Int) ≤ J74 := by omega
                have s3 : J74 < (n : Int) := by omega
                have HX2 := Lib.hid hx2
                have HY2 := Lib.hid hy2
                have HR2 := Lib.hid hr2
                have HP2 := Lib.hid hp2
                have HS2 := Lib.hid hs2
                clear hx2 hy2 hr2 hp2 hs2 hp78
                have hij2 : I68 < J74 := by
                  have h3 := HP2.out.2.1
                  have h4 := HP2.out.2.2
                  rcases Int.lt_or_le I68 J74 with h5 | h5
                  · exact h5
                  · exfalso
                    rw [show J74 = I68 by omega, h3] at h4
                    cases h4
                have hne2 : ¬ I68.toNat = J74.toNat := by omega
                have HQ2 : Hid (Pt (plt pv) D a b pv (I68 + 1) (J74 - 1) (swp d2 I68.toNat J74.toNat)) := Lib.hid (HP2.out.1.swap (by omega) hij2 (by omega) (by rw [HS2.out]; omega) HP2.out.2.1 HP2.out.2.2)
                go_wp2
                go_region
                go_wp2
                have hp80 := Lib.hid (Pq.swap (Q := fun A => Pt (plt pv) D a b pv (I68 + 1) (J74 - 1) A) HS2.out hg2 HR2.out HX2.out HY2.out 1 rfl HQ2.out)
                clear HP2 hg2 HR2 HX2 HY2 HS2 hcx2 hcy2 fx2 fy2 s0 s1 s2 s3 hne2 hij2 HQ2
                go_loopw [10, 11] (fun si sj wr => ∃ I J : Int, (a : Int) + 1 ≤ I ∧ I ≤ b ∧ (a : Int) ≤ J ∧ J < b ∧ si = .int .i64 I ∧ sj = .int .i64 J ∧ Hid (Pq g n (fun A => Pt (plt pv) D a b pv (I) (J) A) w wr)) (fun si sj _ => (intOf sj - intOf si + 2).toNat)
                case atStart => exact ⟨I68 + 1, J74 - 1, by omega, by omega, by omega, by omega, rfl, rfl, hp80⟩
                case round =>
                  obtain ⟨I, J, hI0, hI1, hJ0, hJ1, rfl, rfl, hp0⟩ := hrel
                  go_wp2
                  go_loopw [10] (fun sv wq => ∃ I81 : Int, I ≤ I81 ∧ I81 ≤ (b : Int) ∧ sv = .int .i64 I81 ∧ Hid (Pq g n (fun A => Pt (plt pv) D a b pv (I81) (J) A) w wq)) (fun sv _ => ((b : Int) - intOf sv).toNat)
                  case atStart => exact ⟨I, by omega, by omega, rfl, hp0⟩
                  case round =>
                    obtain ⟨I81, ha83, hb84, rfl, hp82⟩ := hrel
                    by_cases hij : I81 ≤ J
                    · obtain ⟨d1, hs1, hp1, hr1, hg1⟩ := hp82.out
                      have hv0 : 0 ≤ I81 := by omega
                      have hv1 : I81 < (n : Int) := by omega
                      have ba0 : (0 : Int) ≤ (a : Int) := by omega
                      have ba1 : (a : Int) < (n : Int) := by omega
                      obtain ⟨x, hx, hcx⟩ := hr1.get (show I81.toNat < n by omega)
                      obtain ⟨z, hz, hcz⟩ := hr1.get (show a < n by omega)
                      have hzp : z = pv := (bang hz).symm.trans hp1.piv
                      have qg : decide (I81 ≤ J) = true := by simpa using hij
                      by_cases hxz : x < z
                      · have q5 : decide (x < z) = true := by simpa using hxz
                        have HPX : Hid (Pq g n (fun A => Pt (plt pv) D a b pv (I81 + 1) (J) A) w wr) := Lib.hid (Pq.mk' hs1 (hp1.up (by omega) (bang hx) (show plt pv x = true from decide_eq_true (by omega))) hg1 hr1)
                        clear hx hz hs1 hp1 hr1 hp82 hzp
                        go_wp2
                        go_quiet ((go_at_call 110; first | exact less_quiet _ _ | exact less_quiet2 _ _))
                        go_wp2
                        go_roundw
                        case rel => exact ⟨I81 + 1, by omega, by omega, by go_num, HPX.out.drewN _⟩
                        case measure => simp [intOf] <;> omega
                      · have q5 : decide (x < z) = false := by simpa using hxz
                        have q6 : z ≤ x := by omega
                        have HPX : Hid (Pq g n (fun A => Pt (plt pv) D a b pv (I81) (J) A ∧ plt pv A[(I81).toNat]! = false) w wr) := Lib.hid (Pq.mk' hs1 ⟨hp1, by rw [bang hx]; exact (show plt pv x = false from decide_eq_false (by omega))⟩ hg1 hr1)
                        clear hx hz hs1 hp1 hr1 hp82 hzp
                        go_wp2
                        go_quiet ((go_at_call 110; first | exact less_quiet _ _ | exact less_quiet2 _ _))
                        go_wp2
                        have hp85 := Lib.hid (HPX.out.drewN nq)
                        clear HPX hcx hcz q5 q6 qg hxz hg1
                        generalize wr.drewN nq = wx at hp85 ⊢
                        go_loopw [11] (fun sv wq => ∃ J87 : Int, (a : Int) ≤ J87 ∧ J87 ≤ J ∧ sv = .int .i64 J87 ∧ Hid (Pq g n (fun A => Pt (plt pv) D a b pv (I81) (J87) A ∧ plt pv A[(I81).toNat]! = false) w wq)) (fun sv _ => (intOf sv).toNat)
                        case atStart => exact ⟨J, by omega, by omega, rfl, hp85⟩
                        case round =>
                          obtain ⟨J87, ha89, hb90, rfl, hp88⟩ := hrel
                          by_cases hij : I81 ≤ J87
                          · obtain ⟨d1, hs1, hp1, hr1, hg1⟩ := hp88.out
                            have hv0 : 0 ≤ J87 := by omega
                            have hv1 : J87 < (n : Int) := by omega
                            have ba0 : (0 : Int) ≤ (a : Int) := by omega
                            have ba1 : (a : Int) < (n : Int) := by omega
                            obtain ⟨x, hx, hcx⟩ := hr1.get (show J87.toNat < n by omega)
                            obtain ⟨z, hz, hcz⟩ := hr1.get (show a < n by omega)
                            have hzp : z = pv := (bang hz).symm.trans hp1.1.piv
                            have qg : decide (I81 ≤ J87) = true := by simpa using hij
                            by_cases hxz : x < z
                            · have q5 : decide (x < z) = true := by simpa using hxz
                              have HPX : Hid (Pq g n (fun A => Pt (plt pv) D a b pv (I81) (J87) A ∧ plt pv A[(I81).toNat]! = false ∧ plt pv A[(J87).toNat]! = true) w wr) := Lib.hid (Pq.mk' hs1 ⟨hp1.1, hp1.2, by rw [bang hx]; exact (show plt pv x = true from decide_eq_true (by omega))⟩ hg1 hr1)
                              clear hx hz hs1 hp1 hr1 hp88 hzp
                              go_wp2
                              go_quiet ((go_at_call 110; first | exact less_quiet _ _ | exact less_quiet2 _ _))
                              go_wp2
                              have hp91 := Lib.hid (HPX.out.drewN nq)
                              clear HPX hcx hcz q5 qg hxz hg1
                              generalize wr.drewN nq = wx at hp91 ⊢
                              have hgo : I81 ≤ J87 := hij
                              obtain ⟨d2, hs2, hp2, hr2, hg2⟩ := hp91.out
                              obtain ⟨x2, hx2, hcx2⟩ := hr2.get (show I81.toNat < n by omega)
                              obtain ⟨y2, hy2, hcy2⟩ := hr2.get (show J87.toNat < n by omega)
                              have fx2 := hr2.free I81.toNat (by omega)
                              have fy2 := hr2.free J87.toNat (by omega)
                              have s0 : (0 : Int) ≤ I81 := by omega
                              have s1 : I81 < (n : Int) := by omega
                              have s2 : (0 : Int) ≤ J87 := by omega
                              have s3 : J87 < (n : Int) := by omega
                              have HX2 := Lib.hid hx2
                              have HY2 := Lib.hid hy2
                              have HR2 := Lib.hid hr2
                              have HP2 := Lib.hid hp2
                              have HS2 := Lib.hid hs2
                              clear hx2 hy2 hr2 hp2 hs2 hp91
                              have hij2 : I81 < J87 := by
                                have h3 := HP2.out.2.1
                                have h4 := HP2.out.2.2
                                rcases Int.lt_or_le I81 J87 with h5 | h5
                                · exact h5
                                · exfalso
                                  rw [show J87 = I81 by omega, h3] at h4
                                  cases h4
                              have hne2 : ¬ I81.toNat = J87.toNat := by omega
                              have HQ2 : Hid (Pt (plt pv) D a b pv (I81 + 1) (J87 - 1) (swp d2 I81.toNat J87.toNat)) := Lib.hid (HP2.out.1.swap (by omega) hij2 (by omega) (by rw [HS2.out]; omega) HP2.out.2.1 HP2.out.2.2)
                              go_wp2
                              go_region
                              go_wp2
                              have hp93 := Lib.hid (Pq.swap (Q := fun A => Pt (plt pv) D a b pv (I81 + 1) (J87 - 1) A) HS2.out hg2 HR2.out HX2.out HY2.out 1 rfl HQ2.out)
                              clear HP2 hg2 HR2 HX2 HY2 HS2 hcx2 hcy2 fx2 fy2 s0 s1 s2 s3 hne2 hij2 HQ2
                              go_roundw
                              case rel => first | exact ⟨I81 + 1, J87 - 1, by omega, by omega, by omega, by omega, by go_num, by go_num, hp93.out⟩ | ((repeat apply Exists.intro); exact ⟨⟨I81 + 1, J87 - 1, by omega, by omega, by omega, by omega, by go_num, by go_num, hp93.out⟩, rfl⟩)
                              case measure => simp [intOf] <;> omega
                            · have q5 : decide (x < z) = false := by simpa using hxz
                              have q6 : z ≤ x := by omega
                              have HPX : Hid (Pq g n (fun A => Pt (plt pv) D a b pv (I81) (J87 - 1) A ∧ plt pv A[(I81).toNat]! = false) w wr) := Lib.hid (Pq.mk' hs1 ⟨hp1.1.down (by omega) (bang hx) (show plt pv x = false from decide_eq_false (by omega)), hp1.2⟩ hg1 hr1)
                              clear hx hz hs1 hp1 hr1 hp88 hzp
                              go_wp2
                              go_quiet ((go_at_call 110; first | exact less_quiet _ _ | exact less_quiet2 _ _))
                              go_wp2
                              go_roundw
                              case rel => exact ⟨J87 - 1, by omega, by omega, by go_num, HPX.out.drewN _⟩
                              case measure => simp [intOf] <;> omega
                          · have qg : decide (I81 ≤ J87) = false := by simpa using hij
                            have HPG : Hid (Pq g n (fun A => Pt (plt pv) D a b pv (I81) (J87) A) w wr) := Lib.hid (hp88.out.imp fun A _ hA => hA.1)
                            clear hp88
                            go_wp2
                            go_quiet (fail)
                            go_wp2
                            have hp92 := Lib.hid (HPG.out.drewN nq)
                            clear HPG qg
                            generalize wr.drewN nq = wx at hp92 ⊢
                            have hbrk : J87 < I81 := by omega
                            obtain ⟨d2, hs2, hp2, hr2, hg2⟩ := hp92.out
                            obtain ⟨x2, hx2, hcx2⟩ := hr2.get (show J87.toNat < n by omega)
                            obtain ⟨y2, hy2, hcy2⟩ := hr2.get (show a < n by omega)
                            have fx2 := hr2.free J87.toNat (by omega)
                            have fy2 := hr2.free a (by omega)
                            have s0 : (0 : Int) ≤ J87 := by omega
                            have s1 : J87 < (n : Int) := by omega
                            have s2 : (0 : Int) ≤ (a : Int) := by omega
                            have s3 : (a : Int) < (n : Int) := by omega
                            have HX2 := Lib.hid hx2
                            have HY2 := Lib.hid hy2
                            have HR2 := Lib.hid hr2
                            have HP2 := Lib.hid hp2
                            have HS2 := Lib.hid hs2
                            clear hx2 hy2 hr2 hp2 hs2 hp92
                            by_cases hsame : J87.toNat = a
                            · rw [hsame] at hcx2 fx2 HX2
                              have hxy2 : x2 = y2 := by have h1 := HX2.out; have h2 := HY2.out; rw [h2] at h1; injection h1 with h1; exact h1.symm
                              subst hxy2
                              have HQ2 : Hid (Split D a b pv J87.toNat (swp d2 J87.toNat a)) := Lib.hid (HP2.out.fin (by omega) (by omega) (by omega) (by rw [HS2.out]; omega))
                              rw [show swp d2 J87.toNat a = swp d2 a a by rw [hsame]] at HQ2
                              go_wp2
                              go_region
                              go_wp2
                              have hp94 := Lib.hid (Pq.swap (Q := fun A => Split D a b pv J87.toNat A) HS2.out hg2 HR2.out HX2.out HX2.out 1 rfl HQ2.out)
                              clear HP2 hg2 HR2 HX2 HY2 HS2 hcx2 hcy2 fx2 fy2 s0 s1 s2 s3 hsame HQ2
                              go_ret2
                              exact ⟨J87.toNat, false, by rw [show ((J87.toNat : Nat) : Int) = J87 by omega]; rfl, by omega, by omega, hp94.out⟩
                            · have hne2 : ¬ a = J87.toNat := fun e => hsame e.symm
                              have HQ2 : Hid (Split D a b pv J87.toNat (swp d2 J87.toNat a)) := Lib.hid (HP2.out.fin (by omega) (by omega) (by omega) (by rw [HS2.out]; omega))
                              go_wp2
                              go_region
                              go_wp2
                              have hp94 := Lib.hid (Pq.swap (Q := fun A => Split D a b pv J87.toNat A) HS2.out hg2 HR2.out HX2.out HY2.out 1 rfl HQ2.out)
                              clear HP2 hg2 HR2 HX2 HY2 HS2 hcx2 hcy2 fx2 fy2 s0 s1 s2 s3 hsame hne2 HQ2
                              go_ret2
                              exact ⟨J87.toNat, false, by rw [show ((J87.toNat : Nat) : Int) = J87 by omega]; rfl, by omega, by omega, hp94.out⟩
                    · have qg : decide (I81 ≤ J) = false := by simpa using hij
                      have HPG : Hid (Pq g n (fun A => Pt (plt pv) D a b pv (I81) (J) A) w wr) := hp82
                      clear hp82
                      go_wp2
                      go_quiet (fail)
                      go_wp2
                      have hp86 := Lib.hid (HPG.out.drewN nq)
                      clear HPG qg
                      generalize wr.drewN nq = wx at hp86 ⊢
                      go_loopw [11] (fun sv wq => ∃ J95 : Int, (a : Int) ≤ J95 ∧ J95 ≤ J ∧ sv = .int .i64 J95 ∧ Hid (Pq g n (fun A => Pt (plt pv) D a b pv (I81) (J95) A) w wq)) (fun sv _ => (intOf sv).toNat)
                      case atStart => exact ⟨J, by omega, by omega, rfl, hp86⟩
                      case round =>
                        obtain ⟨J95, ha97, hb98, rfl, hp96⟩ := hrel
                        by_cases hij : I81 ≤ J95
                        · exfalso; omega
                        · have qg : decide (I81 ≤ J95) = false := by simpa using hij
                          have HPG : Hid (Pq g n (fun A => Pt (plt pv) D a b pv (I81) (J95) A) w wr) := hp96
                          clear hp96
                          go_wp2
                          go_quiet (fail)
                          go_wp2
                          have hp100 := Lib.hid (HPG.out.drewN nq)
                          clear HPG qg
                          generalize wr.drewN nq = wx at hp100 ⊢
                          have hbrk : J95 < I81 := by omega
                          obtain ⟨d2, hs2, hp2, hr2, hg2⟩ := hp100.out
                          obtain ⟨x2, hx2, hcx2⟩ := hr2.get (show J95.toNat < n by omega)
                          obtain ⟨y2, hy2, hcy2⟩ := hr2.get (show a < n by omega)
                          have fx2 := hr2.free J95.toNat (by omega)
                          have fy2 := hr2.free a (by omega)
                          have s0 : (0 : Int) ≤ J95 := by omega
                          have s1 : J95 < (n : Int) := by omega
                          have s2 : (0 : Int) ≤ (a : Int) := by omega
                          have s3 : (a : Int) < (n : Int) := by omega
                          have HX2 := Lib.hid hx2
                          have HY2 := Lib.hid hy2
                          have HR2 := Lib.hid hr2
                          have HP2 := Lib.hid hp2
                          have HS2 := Lib.hid hs2
                          clear hx2 hy2 hr2 hp2 hs2 hp100
                          by_cases hsame : J95.toNat = a
                          · rw [hsame] at hcx2 fx2 HX2
                            have hxy2 : x2 = y2 := by have h1 := HX2.out; have h2 := HY2.out; rw [h2] at h1; injection h1 with h1; exact h1.symm
                            subst hxy2
                            have HQ2 : Hid (Split D a b pv J95.toNat (swp d2 J95.toNat a)) := Lib.hid (HP2.out.fin (by omega) (by omega) (by omega) (by rw [HS2.out]; omega))
                            rw [show swp d2 J95.toNat a = swp d2 a a by rw [hsame]] at HQ2
                            go_wp2
                            go_region
                            go_wp2
                            have hp102 := Lib.hid (Pq.swap (Q := fun A => Split D a b pv J95.toNat A) HS2.out hg2 HR2.out HX2.out HX2.out 1 rfl HQ2.out)
                            clear HP2 hg2 HR2 HX2 HY2 HS2 hcx2 hcy2 fx2 fy2 s0 s1 s2 s3 hsame HQ2
                            go_ret2
                            exact ⟨J95.toNat, false, by rw [show ((J95.toNat : Nat) : Int) = J95 by omega]; rfl, by omega, by omega, hp102.out⟩
                          · have hne2 : ¬ a = J95.toNat := fun e => hsame e.symm
                            have HQ2 : Hid (Split D a b pv J95.toNat (swp d2 J95.toNat a)) := Lib.hid (HP2.out.fin (by omega) (by omega) (by omega) (by rw [HS2.out]; omega))
                            go_wp2
                            go_region
                            go_wp2
                            have hp102 := Lib.hid (Pq.swap (Q := fun A => Split D a b pv J95.toNat A) HS2.out hg2 HR2.out HX2.out HY2.out 1 rfl HQ2.out)
                            clear HP2 hg2 HR2 HX2 HY2 HS2 hcx2 hcy2 fx2 fy2 s0 s1 s2 s3 hsame hne2 HQ2
                            go_ret2
                            exact ⟨J95.toNat, false, by rw [show ((J95.toNat : Nat) : Int) = J95 by omega]; rfl, by omega, by omega, hp102.out⟩
              · have q5 : decide (x < z) = false := by simpa using hxz
                have q6 : z ≤ x := by omega
                have HPX : Hid (Pq g n (fun A => Pt (plt pv) D a b pv (I68) (J74 - 1) A ∧ plt pv A[(I68).toNat]! = false) w wr) := Lib.hid (Pq.mk' hs1 ⟨hp1.1.down (by omega) (bang hx) (show plt pv x = false from decide_eq_false (by omega)), hp1.2⟩ hg1 hr1)
                clear hx hz hs1 hp1 hr1 hp75 hzp
                go_wp2
                go_quiet ((go_at_call 110; first | exact less_quiet _ _ | exact less_quiet2 _ _))
                go_wp2
                go_roundw
                case rel => exact ⟨J74 - 1, by omega, by omega, by go_num, HPX.out.drewN _⟩
                case measure => simp [intOf] <;> omega
            · have qg : decide (I68 ≤ J74) = false := by simpa using hij
              have HPG : Hid (Pq g n (fun A => Pt (plt pv) D a b pv (I68) (J74) A) w wr) := Lib.hid (hp75.out.imp fun A _ hA => hA.1)
              clear hp75
              go_wp2
              go_quiet (fail)
              go_wp2
              have hp79 := Lib.hid (HPG.out.drewN nq)
              clear HPG qg
              generalize wr.drewN nq = wx at hp79 ⊢
              have hbrk : J74 < I68 := by omega
              obtain ⟨d2, hs2, hp2, hr2, hg2⟩ := hp79.out
              obtain ⟨x2, hx2, hcx2⟩ := hr2.get (show J74.toNat < n by omega)
              obtain ⟨y2, hy2, hcy2⟩ := hr2.get (show a < n by omega)
              have fx2 := hr2.free J74.toNat (by omega)
              have fy2 := hr2.free a (by omega)
              have s0 : (0 : Int) ≤ J74 := by omega
              have s1 : J74 < (n : Int) := by omega
              have s2 : (0 : Int) ≤ (a : Int) := by omega
              have s3 : (a : Int) < (n : Int) := by omega
              have HX2 := Lib.hid hx2
              have HY2 := Lib.hid hy2
              have HR2 := Lib.hid hr2
              have HP2 := Lib.hid hp2
              have HS2 := Lib.hid hs2
              clear hx2 hy2 hr2 hp2 hs2 hp79
              by_cases hsame : J74.toNat = a
              · rw [hsame] at hcx2 fx2 HX2
                have hxy2 : x2 = y2 := by have h1 := HX2.out; have h2 := HY2.out; rw [h2] at h1; injection h1 with h1; exact h1.symm
                subst hxy2
                have HQ2 : Hid (Split D a b pv J74.toNat (swp d2 J74.toNat a)) := Lib.hid (HP2.out.fin (by omega) (by omega) (by omega) (by rw [HS2.out]; omega))
                rw [show swp d2 J74.toNat a = swp d2 a a by rw [hsame]] at HQ2
                go_wp2
                go_region
                go_wp2
                have hp103 := Lib.hid (Pq.swap (Q := fun A => Split D a b pv J74.toNat A) HS2.out hg2 HR2.out HX2.out HX2.out 1 rfl HQ2.out)
                clear HP2 hg2 HR2 HX2 HY2 HS2 hcx2 hcy2 fx2 fy2 s0 s1 s2 s3 hsame HQ2
                go_ret2
                exact ⟨J74.toNat, true, by rw [show ((J74.toNat : Nat) : Int) = J74 by omega]; rfl, by omega, by omega, hp103.out⟩
              · have hne2 : ¬ a = J74.toNat := fun e => hsame e.symm
                have HQ2 : Hid (Split D a b pv J74.toNat (swp d2 J74.toNat a)) := Lib.hid (HP2.out.fin (by omega) (by omega) (by omega) (by rw [HS2.out]; omega))
                go_wp2
                go_region
                go_wp2
                have hp103 := Lib.hid (Pq.swap (Q := fun A => Split D a b pv J74.toNat A) HS2.out hg2 HR2.out HX2.out HY2.out 1 rfl HQ2.out)
                clear HP2 hg2 HR2 HX2 HY2 HS2 hcx2 hcy2 fx2 fy2 s0 s1 s2 s3 hsame hne2 HQ2
                go_ret2
                exact ⟨J74.toNat, true, by rw [show ((J74.toNat : Nat) : Int) = J74 by omega]; rfl, by omega, by omega, hp103.out⟩
      · have qg : decide (I68 ≤ J0) = false := by simpa using hij
        have HPG : Hid (Pq g n (fun A => Pt (plt pv) D a b pv (I68) (J0) A) w wr) := hp69
        clear hp69
        go_wp2
        go_quiet (fail)
        go_wp2
        have hp73 := Lib.hid (HPG.out.drewN nq)
        clear HPG qg
        generalize wr.drewN nq = wx at hp73 ⊢
        go_loopw [11] (fun sv wq => ∃ J104 : Int, (a : Int) ≤ J104 ∧ J104 ≤ J0 ∧ sv = .int .i64 J104 ∧ Hid (Pq g n (fun A => Pt (plt pv) D a b pv (I68) (J104) A) w wq)) (fun sv _ => (intOf sv).toNat)
        case atStart => exact ⟨J0, by omega, by omega, rfl, hp73⟩
        case round =>
          obtain ⟨J104, ha106, hb107, rfl, hp105⟩ := hrel
          by_cases hij : I68 ≤ J104
          · exfalso; omega
          · have qg : decide (I68 ≤ J104) = false := by simpa using hij
            have HPG : Hid (Pq g n (fun A => Pt (plt pv) D a b pv (I68) (J104) A) w wr) := hp105
            clear hp105
            go_wp2
            go_quiet (fail)
            go_wp2
            have hp109 := Lib.hid (HPG.out.drewN nq)
            clear HPG qg
            generalize wr.drewN nq = wx at hp109 ⊢
            have hbrk : J104 < I68 := by omega
            obtain ⟨d2, hs2, hp2, hr2, hg2⟩ := hp109.out
            obtain ⟨x2, hx2, hcx2⟩ := hr2.get (show J104.toNat < n by omega)
            obtain ⟨y2, hy2, hcy2⟩ := hr2.get (show a < n by omega)
            have fx2 := hr2.free J104.toNat (by omega)
            have fy2 := hr2.free a (by omega)
            have s0 : (0 : Int) ≤ J104 := by omega
            have s1 : J104 < (n : Int) := by omega
            have s2 : (0 : Int) ≤ (a : Int) := by omega
            have s3 : (a : Int) < (n : Int) := by omega
            have HX2 := Lib.hid hx2
            have HY2 := Lib.hid hy2
            have HR2 := Lib.hid hr2
            have HP2 := Lib.hid hp2
            have HS2 := Lib.hid hs2
            clear hx2 hy2 hr2 hp2 hs2 hp109
            by_cases hsame : J104.toNat = a
            · rw [hsame] at hcx2 fx2 HX2
              have hxy2 : x2 = y2 := by have h1 := HX2.out; have h2 := HY2.out; rw [h2] at h1; injection h1 with h1; exact h1.symm
              subst hxy2
              have HQ2 : Hid (Split D a b pv J104.toNat (swp d2 J104.toNat a)) := Lib.hid (HP2.out.fin (by omega) (by omega) (by omega) (by rw [HS2.out]; omega))
              rw [show swp d2 J104.toNat a = swp d2 a a by rw [hsame]] at HQ2
              go_wp2
              go_region
              go_wp2
              have hp133 := Lib.hid (Pq.swap (Q := fun A => Split D a b pv J104.toNat A) HS2.out hg2 HR2.out HX2.out HX2.out 1 rfl HQ2.out)
              clear HP2 hg2 HR2 HX2 HY2 HS2 hcx2 hcy2 fx2 fy2 s0 s1 s2 s3 hsame HQ2
              go_ret2
              exact ⟨J104.toNat, true, by rw [show ((J104.toNat : Nat) : Int) = J104 by omega]; rfl, by omega, by omega, hp133.out⟩
            · have hne2 : ¬ a = J104.toNat := fun e => hsame e.symm
              have HQ2 : Hid (Split D a b pv J104.toNat (swp d2 J104.toNat a)) := Lib.hid (HP2.out.fin (by omega) (by omega) (by omega) (by rw [HS2.out]; omega))
              go_wp2
              go_region
              go_wp2
              have hp133 := Lib.hid (Pq.swap (Q := fun A => Split D a b pv J104.toNat A) HS2.out hg2 HR2.out HX2.out HY2.out 1 rfl HQ2.out)
              clear HP2 hg2 HR2 HX2 HY2 HS2 hcx2 hcy2 fx2 fy2 s0 s1 s2 s3 hsame hne2 HQ2
              go_ret2
              exact ⟨J104.toNat, true, by rw [show ((J104.toNat : Nat) : Int) = J104 by omega]; rfl, by omega, by omega, hp133.out⟩
end Go.Proofs.YtbdcdofjcljliaaGreatDoor.So
