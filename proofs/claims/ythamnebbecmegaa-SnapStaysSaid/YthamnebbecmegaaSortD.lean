/- The library's sort at uint64: the partitions. -/
import Derived.Test.YthamnebbecmegaaSortA
import Derived.Test.YthamnebbecmegaaSortC
namespace Go.Proofs.Ythamnebbecmegaa.So
open Go.ChangeShapes Go.WideShapes Go.ChangeAt Go.RowKit Rw
set_option linter.unusedVariables false

set_option maxHeartbeats 8000000 in
set_option maxRecDepth 100000 in
theorem partEq_any (g n c : Nat) (d : List Int) (a b p : Nat) (w : World) (h : Row w g n d) (ha : a < b) (hb : b ≤ n) (hpa : a ≤ p) (hpb : p < b) (hn : n ≤ 1152921504606846976) :
    Calls Try.prog 97 #[.slice (some ⟨g, 0, none⟩) n c, .int .i64 a, .int .i64 b, .int .i64 p] w (One (fun r => a < r ∧ r ≤ b) (Pm g n d w)) := by
  have hpS : Hid (Pm g n d w w) := Pm.refl h
  clear h
  go_enter Try.func97, Try.ntmps97
  obtain ⟨d2, hp2, hr2, hg2⟩ := hpS.out
  obtain ⟨x2, hx2, hcx2⟩ := hr2.get (show a < n by omega)
  obtain ⟨y2, hy2, hcy2⟩ := hr2.get (show p < n by omega)
  have fx2 := hr2.free a (by omega)
  have fy2 := hr2.free p (by omega)
  have s0 : (0 : Int) ≤ (a : Int) := by omega
  have s1 : (a : Int) < (n : Int) := by omega
  have s2 : (0 : Int) ≤ (p : Int) := by omega
  have s3 : (p : Int) < (n : Int) := by omega
  have HX2 := Lib.hid hx2
  have HY2 := Lib.hid hy2
  have HR2 := Lib.hid hr2
  have HP2 := Lib.hid hp2
  clear hx2 hy2 hr2 hp2 hpS
  by_cases hsame : p = a
  · rw [hsame] at hcy2 fy2 HY2
    have hxy2 : x2 = y2 := by have h1 := HX2.out; have h2 := HY2.out; rw [h2] at h1; injection h1 with h1; exact h1.symm
    subst hxy2
    have hsame2 := hsame.symm; subst hsame2
    go_wp2
    go_region
    go_wp2
    have hp21 := Lib.hid (Pm.trans HP2.out hg2 (HR2.out.swap HX2.out HX2.out 1 rfl))
    clear HP2 hg2 HR2 HX2 HY2 hcx2 hcy2 fx2 fy2 s0 s1 s2 s3
    go_loopw [9, 10] (fun si sj wr => ∃ I J : Int, (a : Int) + 1 ≤ I ∧ I ≤ b ∧ (a : Int) ≤ J ∧ J < b ∧ si = .int .i64 I ∧ sj = .int .i64 J ∧ Hid (Pm g n d w wr)) (fun si sj _ => (intOf sj - intOf si + 2).toNat)
    case atStart => exact ⟨(a : Int) + 1, (b : Int) - 1, by omega, by omega, by omega, by omega, rfl, rfl, hp21⟩
    case round =>
      obtain ⟨I, J, hI0, hI1, hJ0, hJ1, rfl, rfl, hp0⟩ := hrel
      go_wp2
      go_loopw [9] (fun sv wq => ∃ I1 : Int, I ≤ I1 ∧ I1 ≤ (b : Int) ∧ sv = .int .i64 I1 ∧ Hid (Pm g n d w wq)) (fun sv _ => ((b : Int) - intOf sv).toNat)
      case atStart => exact ⟨I, by omega, by omega, rfl, hp0⟩
      case round =>
        obtain ⟨I1, ha3, hb4, rfl, hp2⟩ := hrel
        by_cases hij : I1 ≤ J
        · obtain ⟨d1, hp1, hr1, hg1⟩ := hp2.out
          have hv0 : 0 ≤ I1 := by omega
          have hv1 : I1 < (n : Int) := by omega
          have ba0 : (0 : Int) ≤ (a : Int) := by omega
          have ba1 : (a : Int) < (n : Int) := by omega
          obtain ⟨x, hx, hcx⟩ := hr1.get (show I1.toNat < n by omega)
          obtain ⟨z, hz, hcz⟩ := hr1.get (show a < n by omega)
          have qg : decide (I1 ≤ J) = true := by simpa using hij
          have HPX := Lib.hid (Pm.trans hp1 hg1 (Pm.refl hr1))
          clear hx hz hr1 hp1 hp2
          by_cases hxz : z < x
          · have q5 : decide (z < x) = true := by simpa using hxz
            go_wp2
            go_quiet ((go_at_call 96; first | exact less_quiet _ _ | exact less_quiet2 _ _))
            go_wp2
            have hp5 := Lib.hid (HPX.out.drewN nq)
            clear HPX hcx hcz q5 qg hxz hg1
            generalize wr.drewN nq = wx at hp5 ⊢
            go_loopw [10] (fun sv wq => ∃ J7 : Int, (a : Int) ≤ J7 ∧ J7 ≤ J ∧ sv = .int .i64 J7 ∧ Hid (Pm g n d w wq)) (fun sv _ => (intOf sv).toNat)
            case atStart => exact ⟨J, by omega, by omega, rfl, hp5⟩
            case round =>
              obtain ⟨J7, ha9, hb10, rfl, hp8⟩ := hrel
              by_cases hij : I1 ≤ J7
              · obtain ⟨d1, hp1, hr1, hg1⟩ := hp8.out
                have hv0 : 0 ≤ J7 := by omega
                have hv1 : J7 < (n : Int) := by omega
                have ba0 : (0 : Int) ≤ (a : Int) := by omega
                have ba1 : (a : Int) < (n : Int) := by omega
                obtain ⟨x, hx, hcx⟩ := hr1.get (show J7.toNat < n by omega)
                obtain ⟨z, hz, hcz⟩ := hr1.get (show a < n by omega)
                have qg : decide (I1 ≤ J7) = true := by simpa using hij
                have HPX := Lib.hid (Pm.trans hp1 hg1 (Pm.refl hr1))
                clear hx hz hr1 hp1 hp8
                by_cases hxz : z < x
                · have q5 : decide (z < x) = true := by simpa using hxz
                  go_wp2
                  go_quiet ((go_at_call 96; first | exact less_quiet _ _ | exact less_quiet2 _ _))
                  go_wp2
                  go_roundw
                  case rel => exact ⟨J7 - 1, by omega, by omega, by go_num, HPX.out.drewN _⟩
                  case measure => simp [intOf] <;> omega
                · have q5 : decide (z < x) = false := by simpa using hxz
                  have q6 : x ≤ z := by omega
                  go_wp2
                  go_quiet ((go_at_call 96; first | exact less_quiet _ _ | exact less_quiet2 _ _))
                  go_wp2
                  have hp11 := Lib.hid (HPX.out.drewN nq)
                  clear HPX hcx hcz q5 q6 qg hxz hg1
                  generalize wr.drewN nq = wx at hp11 ⊢
                  have hgo : I1 ≤ J7 := hij
                  obtain ⟨d2, hp2, hr2, hg2⟩ := hp11.out
                  obtain ⟨x2, hx2, hcx2⟩ := hr2.get (show I1.toNat < n by omega)
                  obtain ⟨y2, hy2, hcy2⟩ := hr2.get (show J7.toNat < n by omega)
                  have fx2 := hr2.free I1.toNat (by omega)
                  have fy2 := hr2.free J7.toNat (by omega)
                  have s0 : (0 : Int) ≤ I1 := by omega
                  have s1 : I1 < (n : Int) := by omega
                  have s2 : (0 : Int) ≤ J7 := by omega
                  have s3 : J7 < (n : Int) := by omega
                  have HX2 := Lib.hid hx2
                  have HY2 := Lib.hid hy2
                  have HR2 := Lib.hid hr2
                  have HP2 := Lib.hid hp2
                  clear hx2 hy2 hr2 hp2 hp11
                  by_cases hsame : J7.toNat = I1.toNat
                  · rw [hsame] at hcy2 fy2 HY2
                    have hxy2 : x2 = y2 := by have h1 := HX2.out; have h2 := HY2.out; rw [h2] at h1; injection h1 with h1; exact h1.symm
                    subst hxy2
                    go_wp2
                    go_region
                    go_wp2
                    have hp13 := Lib.hid (Pm.trans HP2.out hg2 (HR2.out.swap HX2.out HX2.out 1 rfl))
                    clear HP2 hg2 HR2 HX2 HY2 hcx2 hcy2 fx2 fy2 s0 s1 s2 s3 hsame
                    go_roundw
                    case rel => first | exact ⟨I1 + 1, J7 - 1, by omega, by omega, by omega, by omega, by go_num, by go_num, hp13.out⟩ | ((repeat apply Exists.intro); exact ⟨⟨I1 + 1, J7 - 1, by omega, by omega, by omega, by omega, by go_num, by go_num, hp13.out⟩, rfl⟩)
                    case measure => simp [intOf] <;> omega
                  · have hne2 : ¬ I1.toNat = J7.toNat := fun e => hsame e.symm
                    go_wp2
                    go_region
                    go_wp2
                    have hp13 := Lib.hid (Pm.trans HP2.out hg2 (HR2.out.swap HX2.out HY2.out 1 rfl))
                    clear HP2 hg2 HR2 HX2 HY2 hcx2 hcy2 fx2 fy2 s0 s1 s2 s3 hsame hne2
                    go_roundw
                    case rel => first | exact ⟨I1 + 1, J7 - 1, by omega, by omega, by omega, by omega, by go_num, by go_num, hp13.out⟩ | ((repeat apply Exists.intro); exact ⟨⟨I1 + 1, J7 - 1, by omega, by omega, by omega, by omega, by go_num, by go_num, hp13.out⟩, rfl⟩)
                    case measure => simp [intOf] <;> omega
              · have qg : decide (I1 ≤ J7) = false := by simpa using hij
                go_wp2
                go_quiet (fail)
                go_wp2
                have hp12 := Lib.hid (hp8.out.drewN nq)
                clear hp8 qg
                generalize wr.drewN nq = wx at hp12 ⊢
                have hbrk : J7 < I1 := by omega
                go_wp2
                go_ret
                exact ⟨I1.toNat, by rw [show ((I1.toNat : Nat) : Int) = I1 by omega]; rfl, by omega, hp12.out⟩
          · have q5 : decide (z < x) = false := by simpa using hxz
            have q6 : x ≤ z := by omega
            go_wp2
            go_quiet ((go_at_call 96; first | exact less_quiet _ _ | exact less_quiet2 _ _))
            go_wp2
            go_roundw
            case rel => exact ⟨I1 + 1, by omega, by omega, by go_num, HPX.out.drewN _⟩
            case measure => simp [intOf] <;> omega
        · have qg : decide (I1 ≤ J) = false := by simpa using hij
          go_wp2
          go_quiet (fail)
          go_wp2
          have hp6 := Lib.hid (hp2.out.drewN nq)
          clear hp2 qg
          generalize wr.drewN nq = wx at hp6 ⊢
          go_loopw [10] (fun sv wq => ∃ J14 : Int, (a : Int) ≤ J14 ∧ J14 ≤ J ∧ sv = .int .i64 J14 ∧ Hid (Pm g n d w wq)) (fun sv _ => (intOf sv).toNat)
          case atStart => exact ⟨J, by omega, by omega, rfl, hp6⟩
          case round =>
            obtain ⟨J14, ha16, hb17, rfl, hp15⟩ := hrel
            by_cases hij : I1 ≤ J14
            · exfalso; omega
            · have qg : decide (I1 ≤ J14) = false := by simpa using hij
              go_wp2
              go_quiet (fail)
              go_wp2
              have hp19 := Lib.hid (hp15.out.drewN nq)
              clear hp15 qg
              generalize wr.drewN nq = wx at hp19 ⊢
              have hbrk : J14 < I1 := by omega
              go_wp2
              go_ret
              exact ⟨I1.toNat, by rw [show ((I1.toNat : Nat) : Int) = I1 by omega]; rfl, by omega, hp19.out⟩
  · have hne2 : ¬ a = p := fun e => hsame e.symm
    go_wp2
    go_region
    go_wp2
    have hp21 := Lib.hid (Pm.trans HP2.out hg2 (HR2.out.swap HX2.out HY2.out 1 rfl))
    clear HP2 hg2 HR2 HX2 HY2 hcx2 hcy2 fx2 fy2 s0 s1 s2 s3 hsame hne2
    go_loopw [9, 10] (fun si sj wr => ∃ I J : Int, (a : Int) + 1 ≤ I ∧ I ≤ b ∧ (a : Int) ≤ J ∧ J < b ∧ si = .int .i64 I ∧ sj = .int .i64 J ∧ Hid (Pm g n d w wr)) (fun si sj _ => (intOf sj - intOf si + 2).toNat)
    case atStart => exact ⟨(a : Int) + 1, (b : Int) - 1, by omega, by omega, by omega, by omega, rfl, rfl, hp21⟩
    case round =>
      obtain ⟨I, J, hI0, hI1, hJ0, hJ1, rfl, rfl, hp0⟩ := hrel
      go_wp2
      go_loopw [9] (fun sv wq => ∃ I1 : Int, I ≤ I1 ∧ I1 ≤ (b : Int) ∧ sv = .int .i64 I1 ∧ Hid (Pm g n d w wq)) (fun sv _ => ((b : Int) - intOf sv).toNat)
      case atStart => exact ⟨I, by omega, by omega, rfl, hp0⟩
      case round =>
        obtain ⟨I1, ha3, hb4, rfl, hp2⟩ := hrel
        by_cases hij : I1 ≤ J
        · obtain ⟨d1, hp1, hr1, hg1⟩ := hp2.out
          have hv0 : 0 ≤ I1 := by omega
          have hv1 : I1 < (n : Int) := by omega
          have ba0 : (0 : Int) ≤ (a : Int) := by omega
          have ba1 : (a : Int) < (n : Int) := by omega
          obtain ⟨x, hx, hcx⟩ := hr1.get (show I1.toNat < n by omega)
          obtain ⟨z, hz, hcz⟩ := hr1.get (show a < n by omega)
          have qg : decide (I1 ≤ J) = true := by simpa using hij
          have HPX := Lib.hid (Pm.trans hp1 hg1 (Pm.refl hr1))
          clear hx hz hr1 hp1 hp2
          by_cases hxz : z < x
          · have q5 : decide (z < x) = true := by simpa using hxz
            go_wp2
            go_quiet ((go_at_call 96; first | exact less_quiet _ _ | exact less_quiet2 _ _))
            go_wp2
            have hp5 := Lib.hid (HPX.out.drewN nq)
            clear HPX hcx hcz q5 qg hxz hg1
            generalize wr.drewN nq = wx at hp5 ⊢
            go_loopw [10] (fun sv wq => ∃ J7 : Int, (a : Int) ≤ J7 ∧ J7 ≤ J ∧ sv = .int .i64 J7 ∧ Hid (Pm g n d w wq)) (fun sv _ => (intOf sv).toNat)
            case atStart => exact ⟨J, by omega, by omega, rfl, hp5⟩
            case round =>
              obtain ⟨J7, ha9, hb10, rfl, hp8⟩ := hrel
              by_cases hij : I1 ≤ J7
              · obtain ⟨d1, hp1, hr1, hg1⟩ := hp8.out
                have hv0 : 0 ≤ J7 := by omega
                have hv1 : J7 < (n : Int) := by omega
                have ba0 : (0 : Int) ≤ (a : Int) := by omega
                have ba1 : (a : Int) < (n : Int) := by omega
                obtain ⟨x, hx, hcx⟩ := hr1.get (show J7.toNat < n by omega)
                obtain ⟨z, hz, hcz⟩ := hr1.get (show a < n by omega)
                have qg : decide (I1 ≤ J7) = true := by simpa using hij
                have HPX := Lib.hid (Pm.trans hp1 hg1 (Pm.refl hr1))
                clear hx hz hr1 hp1 hp8
                by_cases hxz : z < x
                · have q5 : decide (z < x) = true := by simpa using hxz
                  go_wp2
                  go_quiet ((go_at_call 96; first | exact less_quiet _ _ | exact less_quiet2 _ _))
                  go_wp2
                  go_roundw
                  case rel => exact ⟨J7 - 1, by omega, by omega, by go_num, HPX.out.drewN _⟩
                  case measure => simp [intOf] <;> omega
                · have q5 : decide (z < x) = false := by simpa using hxz
                  have q6 : x ≤ z := by omega
                  go_wp2
                  go_quiet ((go_at_call 96; first | exact less_quiet _ _ | exact less_quiet2 _ _))
                  go_wp2
                  have hp11 := Lib.hid (HPX.out.drewN nq)
                  clear HPX hcx hcz q5 q6 qg hxz hg1
                  generalize wr.drewN nq = wx at hp11 ⊢
                  have hgo : I1 ≤ J7 := hij
                  obtain ⟨d2, hp2, hr2, hg2⟩ := hp11.out
                  obtain ⟨x2, hx2, hcx2⟩ := hr2.get (show I1.toNat < n by omega)
                  obtain ⟨y2, hy2, hcy2⟩ := hr2.get (show J7.toNat < n by omega)
                  have fx2 := hr2.free I1.toNat (by omega)
                  have fy2 := hr2.free J7.toNat (by omega)
                  have s0 : (0 : Int) ≤ I1 := by omega
                  have s1 : I1 < (n : Int) := by omega
                  have s2 : (0 : Int) ≤ J7 := by omega
                  have s3 : J7 < (n : Int) := by omega
                  have HX2 := Lib.hid hx2
                  have HY2 := Lib.hid hy2
                  have HR2 := Lib.hid hr2
                  have HP2 := Lib.hid hp2
                  clear hx2 hy2 hr2 hp2 hp11
                  by_cases hsame : J7.toNat = I1.toNat
                  · rw [hsame] at hcy2 fy2 HY2
                    have hxy2 : x2 = y2 := by have h1 := HX2.out; have h2 := HY2.out; rw [h2] at h1; injection h1 with h1; exact h1.symm
                    subst hxy2
                    go_wp2
                    go_region
                    go_wp2
                    have hp13 := Lib.hid (Pm.trans HP2.out hg2 (HR2.out.swap HX2.out HX2.out 1 rfl))
                    clear HP2 hg2 HR2 HX2 HY2 hcx2 hcy2 fx2 fy2 s0 s1 s2 s3 hsame
                    go_roundw
                    case rel => first | exact ⟨I1 + 1, J7 - 1, by omega, by omega, by omega, by omega, by go_num, by go_num, hp13.out⟩ | ((repeat apply Exists.intro); exact ⟨⟨I1 + 1, J7 - 1, by omega, by omega, by omega, by omega, by go_num, by go_num, hp13.out⟩, rfl⟩)
                    case measure => simp [intOf] <;> omega
                  · have hne2 : ¬ I1.toNat = J7.toNat := fun e => hsame e.symm
                    go_wp2
                    go_region
                    go_wp2
                    have hp13 := Lib.hid (Pm.trans HP2.out hg2 (HR2.out.swap HX2.out HY2.out 1 rfl))
                    clear HP2 hg2 HR2 HX2 HY2 hcx2 hcy2 fx2 fy2 s0 s1 s2 s3 hsame hne2
                    go_roundw
                    case rel => first | exact ⟨I1 + 1, J7 - 1, by omega, by omega, by omega, by omega, by go_num, by go_num, hp13.out⟩ | ((repeat apply Exists.intro); exact ⟨⟨I1 + 1, J7 - 1, by omega, by omega, by omega, by omega, by go_num, by go_num, hp13.out⟩, rfl⟩)
                    case measure => simp [intOf] <;> omega
              · have qg : decide (I1 ≤ J7) = false := by simpa using hij
                go_wp2
                go_quiet (fail)
                go_wp2
                have hp12 := Lib.hid (hp8.out.drewN nq)
                clear hp8 qg
                generalize wr.drewN nq = wx at hp12 ⊢
                have hbrk : J7 < I1 := by omega
                go_wp2
                go_ret
                exact ⟨I1.toNat, by rw [show ((I1.toNat : Nat) : Int) = I1 by omega]; rfl, by omega, hp12.out⟩
          · have q5 : decide (z < x) = false := by simpa using hxz
            have q6 : x ≤ z := by omega
            go_wp2
            go_quiet ((go_at_call 96; first | exact less_quiet _ _ | exact less_quiet2 _ _))
            go_wp2
            go_roundw
            case rel => exact ⟨I1 + 1, by omega, by omega, by go_num, HPX.out.drewN _⟩
            case measure => simp [intOf] <;> omega
        · have qg : decide (I1 ≤ J) = false := by simpa using hij
          go_wp2
          go_quiet (fail)
          go_wp2
          have hp6 := Lib.hid (hp2.out.drewN nq)
          clear hp2 qg
          generalize wr.drewN nq = wx at hp6 ⊢
          go_loopw [10] (fun sv wq => ∃ J14 : Int, (a : Int) ≤ J14 ∧ J14 ≤ J ∧ sv = .int .i64 J14 ∧ Hid (Pm g n d w wq)) (fun sv _ => (intOf sv).toNat)
          case atStart => exact ⟨J, by omega, by omega, rfl, hp6⟩
          case round =>
            obtain ⟨J14, ha16, hb17, rfl, hp15⟩ := hrel
            by_cases hij : I1 ≤ J14
            · exfalso; omega
            · have qg : decide (I1 ≤ J14) = false := by simpa using hij
              go_wp2
              go_quiet (fail)
              go_wp2
              have hp19 := Lib.hid (hp15.out.drewN nq)
              clear hp15 qg
              generalize wr.drewN nq = wx at hp19 ⊢
              have hbrk : J14 < I1 := by omega
              go_wp2
              go_ret
              exact ⟨I1.toNat, by rw [show ((I1.toNat : Nat) : Int) = I1 by omega]; rfl, by omega, hp19.out⟩
end Go.Proofs.Ythamnebbecmegaa.So
