/- The library's sort at uint64: pdqsort and Sort. -/
import Derived.Test.YthamnebbecmegaaSortB
import Derived.Test.YthamnebbecmegaaSortD
import Derived.Test.YthamnebbecmegaaSortE
import Derived.Test.YthamnebbecmegaaSortF
import Derived.Test.YthamnebbecmegaaSortH
import Derived.Deep.DeepCutAuto
namespace Go.Proofs.Ythamnebbecmegaa.So
open Go.ChangeShapes Go.WideShapes Go.ChangeAt Go.RowKit Rw
set_option linter.unusedVariables false

set_option maxHeartbeats 8000000 in
set_option maxRecDepth 100000 in
theorem pdq_any (k : Nat) : ∀ (g n c : Nat) (d : List Int) (a b : Nat) (lim : Int) (w : World), b - a ≤ k → Row w g n d → a ≤ b → b ≤ n → n ≤ 200 → 0 < n → 0 ≤ lim → lim ≤ 9223372036854775807 →
    Calls Try.prog 64 #[.slice (some ⟨g, 0, none⟩) n c, .int .i64 a, .int .i64 b, .int .i64 lim] w fun e w' => e = .returned (.tuple #[]) ∧ Pm g n d w w' := by
  induction k using Nat.strongRecOn with
  | _ k ih =>
  intro g n c d a b lim w hk h hab hb hn hn0 hl0 hl1
  have HI := Lib.hid ih
  have HPS : Hid (Pm g n d w w) := Pm.refl h
  clear ih h
  go_enter Try.func64, Try.ntmps64
  go_wp2_with fail
  go_loopw [1, 2, 3, 8, 9] (fun sa sb sl s8 s9 wr => ∃ (A B : Nat) (L : Int) (wb wp : Bool), a ≤ A ∧ A ≤ B ∧ B ≤ b ∧ sa = .int .i64 A ∧ sb = .int .i64 B ∧ sl = .int .i64 L ∧ 0 ≤ L ∧ L ≤ 9223372036854775807 ∧ s8 = .bool wb ∧ s9 = .bool wp ∧ Hid (Pm g n d w wr)) (fun sa sb _ _ _ _ => (intOf sb - intOf sa).toNat)
  case atStart => exact ⟨a, b, lim, true, true, Nat.le_refl _, hab, Nat.le_refl _, rfl, rfl, rfl, hl0, hl1, rfl, rfl, HPS⟩
  case round =>
    clear HPS
    obtain ⟨A, B, L, wb, wp, hA, hAB, hB, rfl, rfl, rfl, hL0, hL1, rfl, rfl, hpm⟩ := hrel
    obtain ⟨q, hq⟩ : ∃ q : Nat, B = A + q := ⟨B - A, by omega⟩
    have e1 : (B : Int) - (A : Int) = (q : Int) := by omega
    have hq1 : B ≤ A + q := by omega
    have hq2 : A + q ≤ B := by omega
    clear hq
    by_cases hq12 : q ≤ 12
    · obtain ⟨d1, hp1, hr1, hg1⟩ := hpm.out
      have HR1 := Lib.hid hr1
      have HP1 := Lib.hid hp1
      clear hr1 hp1 hpm
      go_wp2_with fail
      refine (insertion_any g n c d1 A B _ HR1.out (by omega) (by omega) (by omega)).mono ?_
      rintro e w2 ⟨rfl, h2⟩
      have H2 := Lib.hid h2
      clear h2
      go_wp2_with fail
      refine bodyPost_ret (v := .tuple #[]) (by simp [results, Try.results64]) rfl ?_
      exact ⟨rfl, Pm.trans HP1.out hg1 H2.out⟩
    by_cases hL : L = 0
    · subst hL
      obtain ⟨d1, hp1, hr1, hg1⟩ := hpm.out
      have HR1 := Lib.hid hr1
      have HP1 := Lib.hid hp1
      clear hr1 hp1 hpm
      go_wp2_with fail
      refine (heap_any g n c d1 A B _ HR1.out (by omega) (by omega) (by omega)).mono ?_
      rintro e w2 ⟨rfl, h2⟩
      have H2 := Lib.hid h2
      clear h2
      go_wp2_with fail
      refine bodyPost_ret (v := .tuple #[]) (by simp [results, Try.results64]) rfl ?_
      exact ⟨rfl, Pm.trans HP1.out hg1 H2.out⟩
    have qL : (L == 0) = false := by simpa using hL
    have hLp : 1 ≤ L := by omega
    clear hL
    go_upto_if 35 with (fail)
    go_cut [3] from 19 to 133 (fun s3 wx => ∃ L2 : Int, s3 = .int .i64 L2 ∧ 0 ≤ L2 ∧ L2 ≤ 9223372036854775807 ∧ Hid (Pm g n d w wx))
    case first =>
      cases wb
      · obtain ⟨d1, hp1, hr1, hg1⟩ := hpm.out
        have HR1 := Lib.hid hr1
        have HP1 := Lib.hid hp1
        clear hr1 hp1 hpm
        go_wp2_with fail
        refine (break_any g n c d1 A B _ HR1.out (by omega) (by omega) hn).mono ?_
        rintro e w2 ⟨rfl, h2⟩
        have H2 := Lib.hid h2
        clear h2
        go_wp2_with fail
        go_meet
        exact ⟨L - 1, rfl, by omega, by omega, Pm.trans HP1.out hg1 H2.out⟩
      · go_wp2_with fail
        go_meet
        exact ⟨L, rfl, by omega, by omega, hpm⟩
    case rest =>
      clear hpm qL hLp hL0 hL1
      obtain ⟨L2, rfl, hL2, hL3, hpm⟩ := hcut
      obtain ⟨d1, hp1, hr1, hg1⟩ := hpm.out
      have HR1 := Lib.hid hr1
      have HP1 := Lib.hid hp1
      clear hr1 hp1 hpm
      go_wp2_with fail
      refine (pivot_any g n c d1 A B _ HR1.out (by omega) (by omega) (by omega)).mono ?_
      rintro e w2 ⟨p, t, rfl, hp0, hp1, ht, h2⟩
      have hpm2 := Lib.hid (Pm.trans HP1.out hg1 h2)
      clear h2 HR1 HP1 hg1
      go_upto_if 50 with (fail)
      go_cut [11, 12] from 19 to 133 (fun s11 s12 wx => ∃ (p2 : Nat) (t2 : Int), s11 = .int .i64 p2 ∧ s12 = .int .i64 t2 ∧ A ≤ p2 ∧ p2 < B ∧ (t2 = 0 ∨ t2 = 1) ∧ Hid (Pm g n d w wx))
      case first =>
        rcases ht with rfl | rfl | rfl
        · go_wp2_with fail
          go_meet
          exact ⟨p, 0, rfl, rfl, hp0, hp1, by omega, hpm2⟩
        · go_wp2_with fail
          go_meet
          exact ⟨p, 1, rfl, rfl, hp0, hp1, by omega, hpm2⟩
        · obtain ⟨d2, hd2, hr2, hg2⟩ := hpm2.out
          have HR2 := Lib.hid hr2
          have HD2 := Lib.hid hd2
          clear hr2 hd2 hpm2
          go_wp2_with fail
          refine (reverse_any g n c d2 A B _ HR2.out (by omega) (by omega) (by omega)).mono ?_
          rintro e w3 ⟨rfl, h3⟩
          have H3 := Lib.hid h3
          clear h3
          go_wp2_with fail
          go_meet
          exact ⟨B - 1 - (p - A), 1, by rw [show ((B - 1 - (p - A) : Nat) : Int) = (B : Int) - 1 - ((p : Int) - (A : Int)) by omega], rfl, by omega, by omega, by omega, Pm.trans HD2.out hg2 H3.out⟩
      case rest =>
        clear hpm2 hp0 hp1 ht
        obtain ⟨p2, t2, rfl, rfl, hp0, hp1, ht, hpm⟩ := hcut
        go_upto_region 15 with (fail)
        go_cut [68] from 19 to 133 (fun s68 wx => ∃ bb : Bool, s68 = .bool bb ∧ Hid (Pm g n d w wx))
        case first =>
          cases wb <;> cases wp <;> rcases ht with rfl | rfl
          all_goals
            go_wp2_with fail
            go_meet
            exact ⟨_, rfl, hpm⟩
        case rest =>
          clear hpm ht
          obtain ⟨bb, rfl, hpm⟩ := hcut
          cases bb
          · have htok : True := trivial
            go_upto_region 17 with (fail)
            go_cut [87] from 19 to 133 (fun s87 wx => ∃ bb : Bool, s87 = .bool bb ∧ Hid (Pm g n d w wx))
            case first =>
              by_cases hA0 : A = 0
              · have q1 : decide ((0 : Int) < (A : Int)) = false := by simp; omega
                have q2 : decide (0 < A) = false := by simp; omega
                go_wp2_with fail
                go_quiet (fail)
                go_wp2_with fail
                go_meet
                exact ⟨false, rfl, hpm.out.drewN _⟩
              · obtain ⟨d3, hd3, hr3, hg3⟩ := hpm.out
                obtain ⟨m, hm⟩ := Int.eq_ofNat_of_zero_le (show 0 ≤ (A : Int) - 1 by omega)
                obtain ⟨x, hx, hcx⟩ := hr3.get (show m < n by omega)
                obtain ⟨y, hy, hcy⟩ := hr3.get (show p2 < n by omega)
                have w1 : IntKind.i64.wrap ((A : Int) - 1) = (m : Int) := by rw [hm]; exact IntWalk.i64_in _ (by omega)
                have v2 : (0 : Int) ≤ (m : Int) := by omega
                have v3 : (m : Int) < (n : Int) := by omega
                have v4 : (0 : Int) ≤ (p2 : Int) := by omega
                have v5 : (p2 : Int) < (n : Int) := by omega
                have q1 : decide ((0 : Int) < (A : Int)) = true := by simp; omega
                have q2 : decide (0 < A) = true := by simp; omega
                clear hx hy hr3 hd3 hg3 hm hA0
                go_wp2_with fail
                go_quiet ((go_at_call 96; first | exact less_quiet _ _ | exact less_quiet2 _ _))
                go_wp2_with fail
                go_meet
                exact ⟨_, rfl, hpm.out.drewN _⟩
            case rest =>
              clear hpm
              obtain ⟨bb, rfl, hpm⟩ := hcut
              obtain ⟨d4, hd4, hr4, hg4⟩ := hpm.out
              have HR4 := Lib.hid hr4
              have HD4 := Lib.hid hd4
              clear hr4 hd4 hpm
              cases bb
              · go_wp2_with fail
                refine (part_any g n c d4 A B p2 _ HR4.out (by omega) (by omega) hp0 hp1 (by omega)).mono ?_
                rintro e w5 ⟨r, t5, rfl, hr0, hr1, h5⟩
                have hpm5 := Lib.hid (Pm.trans HD4.out hg4 h5)
                clear h5 HR4 HD4 hg4
                obtain ⟨d5, hd5, hr5, hg5⟩ := hpm5.out
                have HR5 := Lib.hid hr5
                have HD5 := Lib.hid hd5
                clear hr5 hd5 hpm5
                by_cases hlr : r - A < B - r
                · have hlr' : (r : Int) - (A : Int) < (B : Int) - (r : Int) := by omega
                  go_wp2_with fail
                  refine (HI.out (r - A) (by omega) g n c d5 A r L2 _ (Nat.le_refl _) HR5.out (by omega) (by omega) hn hn0 hL2 hL3).mono ?_
                  rintro e w6 ⟨rfl, h6⟩
                  have hpm6 := Lib.hid (Pm.trans HD5.out hg5 h6)
                  clear h6 HR5 HD5 hg5
                  go_wp2_with fail
                  go_roundw
                  case rel => first | exact ⟨r + 1, B, L2, _, _, by omega, by omega, by omega, by first | rfl | go_num, by first | rfl | go_num, rfl, hL2, hL3, rfl, rfl, hpm6⟩ | ((repeat apply Exists.intro); exact ⟨⟨r + 1, B, L2, _, _, by omega, by omega, by omega, by first | rfl | go_num, by first | rfl | go_num, rfl, hL2, hL3, rfl, rfl, hpm6⟩, rfl⟩)
                  case measure => simp [intOf] <;> omega
                · have hlr' : (B : Int) - (r : Int) ≤ (r : Int) - (A : Int) := by omega
                  go_wp2_with fail
                  rw [show (r : Int) + 1 = ((r + 1 : Nat) : Int) by omega]
                  refine (HI.out (B - (r + 1)) (by omega) g n c d5 (r + 1) B L2 _ (Nat.le_refl _) HR5.out (by omega) (by omega) hn hn0 hL2 hL3).mono ?_
                  rintro e w6 ⟨rfl, h6⟩
                  have hpm6 := Lib.hid (Pm.trans HD5.out hg5 h6)
                  clear h6 HR5 HD5 hg5
                  go_wp2_with fail
                  go_roundw
                  case rel => first | exact ⟨A, r, L2, _, _, by omega, by omega, by omega, by first | rfl | go_num, by first | rfl | go_num, rfl, hL2, hL3, rfl, rfl, hpm6⟩ | ((repeat apply Exists.intro); exact ⟨⟨A, r, L2, _, _, by omega, by omega, by omega, by first | rfl | go_num, by first | rfl | go_num, rfl, hL2, hL3, rfl, rfl, hpm6⟩, rfl⟩)
                  case measure => simp [intOf] <;> omega
              · go_wp2_with fail
                refine (partEq_any g n c d4 A B p2 _ HR4.out (by omega) (by omega) hp0 hp1 (by omega)).mono ?_
                rintro e w5 ⟨r, rfl, hr0, h5⟩
                have hpm5 := Lib.hid (Pm.trans HD4.out hg4 h5)
                clear h5 HR4 HD4 hg4
                go_wp2_with fail
                go_roundw
                case rel => first | exact ⟨r, B, L2, _, _, by omega, by omega, by omega, by first | rfl | go_num, by first | rfl | go_num, rfl, hL2, hL3, rfl, rfl, hpm5⟩ | ((repeat apply Exists.intro); exact ⟨⟨r, B, L2, _, _, by omega, by omega, by omega, by first | rfl | go_num, by first | rfl | go_num, rfl, hL2, hL3, rfl, rfl, hpm5⟩, rfl⟩)
                case measure => simp [intOf] <;> omega
          · obtain ⟨d3, hd3, hr3, hg3⟩ := hpm.out
            have HR3 := Lib.hid hr3
            have HD3 := Lib.hid hd3
            clear hr3 hd3 hpm
            go_wp2_with fail
            refine (partial_any g n c d3 A B _ HR3.out (by omega) (by omega) (by omega)).mono ?_
            rintro e w3 ⟨t3, rfl, h3⟩
            have hpm := Lib.hid (Pm.trans HD3.out hg3 h3)
            clear h3 HR3 HD3 hg3
            cases t3
            · have htok : True := trivial
              go_upto_region 17 with (fail)
              go_cut [87] from 19 to 133 (fun s87 wx => ∃ bb : Bool, s87 = .bool bb ∧ Hid (Pm g n d w wx))
              case first =>
                by_cases hA0 : A = 0
                · have q1 : decide ((0 : Int) < (A : Int)) = false := by simp; omega
                  have q2 : decide (0 < A) = false := by simp; omega
                  go_wp2_with fail
                  go_quiet (fail)
                  go_wp2_with fail
                  go_meet
                  exact ⟨false, rfl, hpm.out.drewN _⟩
                · obtain ⟨d3, hd3, hr3, hg3⟩ := hpm.out
                  obtain ⟨m, hm⟩ := Int.eq_ofNat_of_zero_le (show 0 ≤ (A : Int) - 1 by omega)
                  obtain ⟨x, hx, hcx⟩ := hr3.get (show m < n by omega)
                  obtain ⟨y, hy, hcy⟩ := hr3.get (show p2 < n by omega)
                  have w1 : IntKind.i64.wrap ((A : Int) - 1) = (m : Int) := by rw [hm]; exact IntWalk.i64_in _ (by omega)
                  have v2 : (0 : Int) ≤ (m : Int) := by omega
                  have v3 : (m : Int) < (n : Int) := by omega
                  have v4 : (0 : Int) ≤ (p2 : Int) := by omega
                  have v5 : (p2 : Int) < (n : Int) := by omega
                  have q1 : decide ((0 : Int) < (A : Int)) = true := by simp; omega
                  have q2 : decide (0 < A) = true := by simp; omega
                  clear hx hy hr3 hd3 hg3 hm hA0
                  go_wp2_with fail
                  go_quiet ((go_at_call 96; first | exact less_quiet _ _ | exact less_quiet2 _ _))
                  go_wp2_with fail
                  go_meet
                  exact ⟨_, rfl, hpm.out.drewN _⟩
              case rest =>
                clear hpm
                obtain ⟨bb, rfl, hpm⟩ := hcut
                obtain ⟨d4, hd4, hr4, hg4⟩ := hpm.out
                have HR4 := Lib.hid hr4
                have HD4 := Lib.hid hd4
                clear hr4 hd4 hpm
                cases bb
                · go_wp2_with fail
                  refine (part_any g n c d4 A B p2 _ HR4.out (by omega) (by omega) hp0 hp1 (by omega)).mono ?_
                  rintro e w5 ⟨r, t5, rfl, hr0, hr1, h5⟩
                  have hpm5 := Lib.hid (Pm.trans HD4.out hg4 h5)
                  clear h5 HR4 HD4 hg4
                  obtain ⟨d5, hd5, hr5, hg5⟩ := hpm5.out
                  have HR5 := Lib.hid hr5
                  have HD5 := Lib.hid hd5
                  clear hr5 hd5 hpm5
                  by_cases hlr : r - A < B - r
                  · have hlr' : (r : Int) - (A : Int) < (B : Int) - (r : Int) := by omega
                    go_wp2_with fail
                    refine (HI.out (r - A) (by omega) g n c d5 A r L2 _ (Nat.le_refl _) HR5.out (by omega) (by omega) hn hn0 hL2 hL3).mono ?_
                    rintro e w6 ⟨rfl, h6⟩
                    have hpm6 := Lib.hid (Pm.trans HD5.out hg5 h6)
                    clear h6 HR5 HD5 hg5
                    go_wp2_with fail
                    go_roundw
                    case rel => first | exact ⟨r + 1, B, L2, _, _, by omega, by omega, by omega, by first | rfl | go_num, by first | rfl | go_num, rfl, hL2, hL3, rfl, rfl, hpm6⟩ | ((repeat apply Exists.intro); exact ⟨⟨r + 1, B, L2, _, _, by omega, by omega, by omega, by first | rfl | go_num, by first | rfl | go_num, rfl, hL2, hL3, rfl, rfl, hpm6⟩, rfl⟩)
                    case measure => simp [intOf] <;> omega
                  · have hlr' : (B : Int) - (r : Int) ≤ (r : Int) - (A : Int) := by omega
                    go_wp2_with fail
                    rw [show (r : Int) + 1 = ((r + 1 : Nat) : Int) by omega]
                    refine (HI.out (B - (r + 1)) (by omega) g n c d5 (r + 1) B L2 _ (Nat.le_refl _) HR5.out (by omega) (by omega) hn hn0 hL2 hL3).mono ?_
                    rintro e w6 ⟨rfl, h6⟩
                    have hpm6 := Lib.hid (Pm.trans HD5.out hg5 h6)
                    clear h6 HR5 HD5 hg5
                    go_wp2_with fail
                    go_roundw
                    case rel => first | exact ⟨A, r, L2, _, _, by omega, by omega, by omega, by first | rfl | go_num, by first | rfl | go_num, rfl, hL2, hL3, rfl, rfl, hpm6⟩ | ((repeat apply Exists.intro); exact ⟨⟨A, r, L2, _, _, by omega, by omega, by omega, by first | rfl | go_num, by first | rfl | go_num, rfl, hL2, hL3, rfl, rfl, hpm6⟩, rfl⟩)
                    case measure => simp [intOf] <;> omega
                · go_wp2_with fail
                  refine (partEq_any g n c d4 A B p2 _ HR4.out (by omega) (by omega) hp0 hp1 (by omega)).mono ?_
                  rintro e w5 ⟨r, rfl, hr0, h5⟩
                  have hpm5 := Lib.hid (Pm.trans HD4.out hg4 h5)
                  clear h5 HR4 HD4 hg4
                  go_wp2_with fail
                  go_roundw
                  case rel => first | exact ⟨r, B, L2, _, _, by omega, by omega, by omega, by first | rfl | go_num, by first | rfl | go_num, rfl, hL2, hL3, rfl, rfl, hpm5⟩ | ((repeat apply Exists.intro); exact ⟨⟨r, B, L2, _, _, by omega, by omega, by omega, by first | rfl | go_num, by first | rfl | go_num, rfl, hL2, hL3, rfl, rfl, hpm5⟩, rfl⟩)
                  case measure => simp [intOf] <;> omega
            · go_wp2_with fail
              refine bodyPost_ret (v := .tuple #[]) (by simp [results, Try.results64]) rfl ?_
              exact ⟨rfl, hpm.out⟩
end Go.Proofs.Ythamnebbecmegaa.So
