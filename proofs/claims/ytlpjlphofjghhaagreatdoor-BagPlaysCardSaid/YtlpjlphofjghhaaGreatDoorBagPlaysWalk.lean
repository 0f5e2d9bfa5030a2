/- The walk of hackneylaw15.BagPlays. -/
import Derived.Test.YtlpjlphofjghhaaGreatDoorBagPlaysKit
import Derived.Deep.CutRange
import Derived.Deep.CutBlock
namespace Go.Proofs.YtlpjlphofjghhaaGreatDoor.Ba
open Go Go.ChangeShapes Go.WideShapes Go.ChangeAt Go.RowKit Go.Deep Go.Maps Rw Hi Mt
set_option linter.unusedVariables false

set_option maxRecDepth 100000 in
theorem plays_long (A : Option Addr) (n c : Nat) (W : World) (hT : Tb.Tabs W) (hc : n ≤ 9223372036854775807) (hn : 80 < n) :
    Calls Tryz.prog 3 #[.slice A n c] W fun e w' => e = .returned (.bool true) ∧ Below W.heap.size W w' := by
  have HT := Lib.hid hT
  have q1 : decide ((80 : Int) < (n : Int)) = true := decide_eq_true (by omega)
  have q1' : decide (80 < n) = true := decide_eq_true (by omega)
  clear hT
  go_enter Tryz.func3, Tryz.ntmps3
  go_wp2_with fail
  refine (awake15_any _ HT.out).mono ?_
  rintro e w1 ⟨rfl, b1⟩
  have B1 := Lib.hid b1
  clear b1
  go_wp2_with fail
  go_ret
  exact ⟨rfl, B1.out⟩
set_option maxRecDepth 100000 in
set_option maxHeartbeats 40000000 in
theorem plays_any (A0 : Option Addr) (n c0 : Nat) (xs : List Ax) (W : World) (hT : Tb.Tabs W) (hr : Rs encA 5 W W.heap.size A0 n c0 xs) (hok : ∀ x ∈ xs, x.ok) (hn : n ≤ 80) :
    Calls Tryz.prog 3 #[.slice A0 n c0] W fun e w' => e = .returned (.bool true) ∧ Below W.heap.size W w' := by
  have HT := Lib.hid hT
  have HR := Lib.hid hr
  have HOK := Lib.hid hok
  have q1 : decide ((80 : Int) < (n : Int)) = false := decide_eq_false (by omega)
  have q1' : decide (80 < n) = false := decide_eq_false (by omega)
  clear hT hr hok
  go_enter Tryz.func3, Tryz.ntmps3
  go_wp2_with fail
  refine (awake15_any _ HT.out).mono ?_
  rintro e w1 ⟨rfl, b1⟩
  have B1 := Lib.hid b1
  clear b1
  go_wp2_with fail
  refine (bnew_any w1).mono ?_
  rintro e w2 ⟨rfl, h2, b2⟩
  have hs1 := B1.out.size
  have hs2 := b2.size
  have hba : Below w2.heap.size w2 (w2.alloc (.cells #[.slice none 0 0, .slice none 0 0] 29)) := (Below.refl _ _).alloc (Nat.le_refl _) _
  have S0 : Hid (By W (w1.heap.size + 1) w1.heap.size w2.heap.size w2.heap.size (w2.alloc (.cells #[.slice none 0 0, .slice none 0 0] 29)) ⟨none, 0, 0, none, 0, 0⟩ ⟨none, 0, 0, none, 0, 0⟩ [] [] [] []) := Lib.hid
    ⟨⟨fun g => w1.heap.size ≤ g ∧ g < w2.heap.size, fun _ => False, fun g hg => by omega, fun g hg => by
        rcases hg with hg | hg
        · refine ⟨by omega, by omega, by simp; omega⟩
        · exact hg.elim, (h2.mono (E := fun g => w1.heap.size ≤ g ∧ g < w2.heap.size) (T := fun _ => False) (fun g hg hc => ⟨hc, hg⟩) (fun _ _ h => h) (fun _ _ h => h)).later hba, Dq.nil_⟩,
      ⟨⟨by go_simp, by go_simp⟩, by go_simp, by go_simp⟩, (B1.out.trans (b2.mono hs1)).trans (hba.mono (Nat.le_trans hs1 hs2)), by omega, fun e => absurd rfl e⟩
  obtain ⟨p, hp⟩ : ∃ p, w1.heap.size + 1 = p := ⟨_, rfl⟩
  obtain ⟨a, ha⟩ : ∃ a, w1.heap.size = a := ⟨_, rfl⟩
  rw [hp, ha] at S0
  rw [hp]
  clear b2 h2 hp ha hs1 hs2 hba B1 q1 q1'
  go_upto_region 7 with (fail)
  generalize (w2.alloc (.cells #[.slice none 0 0, .slice none 0 0] 29)) = W2 at *
  generalize w2.heap.size = r at *
  go_wp2_with fail
  go_loopw [3, 32] (fun s3 i wr => ∃ (k p a : Nat) (d : Db) (D : List (Int × Ex)) (S : List Int), k ≤ n ∧ i = .int .i64 k ∧ s3 = ptr p ∧ Hid (By W p a r r wr d d D S D S) ∧ Hid (D.length ≤ k ∧ S.length ≤ k ∧ fnd D 0 = none)) (fun _ i _ => n - (intOf i).toNat)
  case atStart => exact ⟨0, p, a, _, [], [], Nat.zero_le _, rfl, rfl, S0, Lib.hid ⟨Nat.le_refl _, Nat.le_refl _, rfl⟩⟩
  case round =>
    clear S0
    obtain ⟨k, p, a, d, D, S, hk, rfl, rfl, HP, HL⟩ := hrel
    by_cases hkn : k < n
    · obtain ⟨b, o, y, rfl, hb, hy, c1, c2, c3, c4, c5⟩ := actA_at HR.out hkn
      have HY := Lib.hid (HOK.out y (List.mem_of_getElem? hy))
      have d0 := (HP.out.bel.cell (p := ⟨b, o + k * 5, none⟩) hb).trans c1
      have d1 := (HP.out.bel.cell (p := ⟨b, o + k * 5 + 1, none⟩) hb).trans c2
      have d2 := (HP.out.bel.cell (p := ⟨b, o + k * 5 + 2, none⟩) hb).trans c3
      have d3 := (HP.out.bel.cell (p := ⟨b, o + k * 5 + 3, none⟩) hb).trans c4
      have d4 := (HP.out.bel.cell (p := ⟨b, o + k * 5 + 4, none⟩) hb).trans c5
      have hkc : k < c0 := by have := HR.out.cap; omega
      clear c1 c2 c3 c4 c5 hb hy
      have HP1 := Lib.hid (HP.out.box y)
      have HB1 := Lib.hid (Bq.new wr y)
      clear HP
      go_upto_region 10 with (fail)
      obtain ⟨wz, hwz⟩ : ∃ wz, wr.alloc (.cells #[.int .u8 y.do_, .int .u64 y.id, .int .u64 y.old, .int .u64 y.now, .int .i64 y.st] 32) = wz := ⟨_, rfl⟩
      obtain ⟨q, hq⟩ : ∃ q, wr.heap.size = q := ⟨_, rfl⟩
      rw [hwz, hq] at HP1 HB1
      rw [hwz, hq]
      clear hwz hq d0 d1 d2 d3 d4
      obtain ⟨z0, z1, z2, z3, z4⟩ := HB1.out
      have hd := HY.out.d
      have hd8 : (y.do_).tmod 8 = y.do_ % 8 := Int.tmod_eq_emod_of_nonneg hd.1
      have HD8 := Lib.hid hd8
      have HUI := Lib.hid HY.out.i
      have HUO := Lib.hid HY.out.o
      have HUN := Lib.hid HY.out.n
      have HUS := Lib.hid HY.out.s
      clear hd8
      go_upto_if 38 with (fail)
      go_cut [3, 7, 8, 9, 10] from 36 to 62 (fun s3 s7 s8 s9 s10 wx => ∃ (p' a' : Nat), s3 = ptr p' ∧ Hid (By W p' a' r q wx d d D S D S) ∧ Hid (Bq wx q y))
      case first =>
        by_cases h128 : 128 ≤ y.do_
        · as_aux_lemma =>
            have t128 : decide ((128 : Int) ≤ y.do_) = true := decide_eq_true h128
            rw [t128]
            clear h128 t128
            obtain ⟨C, R, hC, hX, hbx, hdq⟩ := HP1.out.bag
            have HC := Lib.hid hC
            have HX := Lib.hid hX
            have HBX := Lib.hid hbx
            have HDQ := Lib.hid hdq
            clear hC hX hbx hdq
            go_wp2_with fail
            refine (bclone_any wz p a D S HBX.out (by have := HL.out; omega)).mono ?_
            rintro e w3 ⟨p2, a2, rfl, hn2, b3⟩
            obtain ⟨C2, hC2⟩ : ∃ C2, (fun g => wz.heap.size ≤ g ∧ g < w3.heap.size) = C2 := ⟨_, rfl⟩
            obtain ⟨R2, hR2⟩ : ∃ R2, (fun g => R g ∧ g < wz.heap.size) = R2 := ⟨_, rfl⟩
            have hz3 := HP1.out.clone HC.out HX.out HBX.out HDQ.out b3 hn2
            rw [hC2, hR2] at hz3
            have Z3 := Lib.hid hz3
            have HB3 := Lib.hid (HB1.out.later b3)
            clear hz3 hC2 hR2 hn2 b3 HP1 HB1 z0 z1 z2 z3 z4
            go_upto_region 13 with (fail)
            go_loopw [41] (fun i wx => ∃ (j : Nat) (D0 : List (Int × Ex)), j ≤ 4 ∧ i = .int .i64 j ∧ Hid (Bz W p a p2 a2 r q wx d d D0 S D S D S C R C2 R2) ∧ Hid (Bq wx q y)) (fun i _ => 4 - (intOf i).toNat)
            case atStart => exact ⟨0, D, by omega, rfl, Z3, HB3⟩
            case round =>
              clear Z3 HB3
              obtain ⟨j, D0, hj, rfl, ZJ, HBJ⟩ := hrel
              obtain ⟨z0, z1, z2, z3, z4⟩ := HBJ.out
              by_cases hj4 : j < 4
              · have hbu := bW_u64 wr p a S ZJ.out.old y.id
                obtain ⟨V, hV⟩ : ∃ V, bW D0 y.id = V := ⟨_, rfl⟩
                have hl := load_any wr p a D0 S y.id ZJ.out.old HUI.out
                rw [hV] at hl hbu
                have HL0 := Lib.hid hl
                have HBU := Lib.hid hbu
                clear hl hbu hV
                go_wp2_with fail
                refine HL0.out.mono ?_
                rintro e w4 ⟨rfl, rfl⟩
                go_wp2_with fail
                refine (swap_any wr p a D0 S y.id ZJ.out.old HUI.out V j 1 HBU.out ⟨by omega, by omega⟩).mono ?_
                rintro e w5 ⟨rfl, h5, f5⟩
                have Z5 := Lib.hid (ZJ.out.turn h5 f5)
                have HB5 := Lib.hid (HBJ.out.fz f5 (fun e => (ZJ.out.c1 q e).2.2.1 rfl))
                clear h5 f5 ZJ HBJ z0 z1 z2 z3 z4 HL0 HBU
                go_wp2_with fail
                go_roundw
                case rel => exact ⟨j + 1, _, by omega, by go_num, Z5, HB5⟩
                case measure => simp [intOf]; omega
              · go_wp2_with fail
                refine (publish_any wr p a D0 S y.id ZJ.out.old HUI.out (by have := HL.out; omega)).mono ?_
                rintro e w5 ⟨rfl, h5, f5⟩
                have P5 := Lib.hid (ZJ.out.done f5)
                have HB5 := Lib.hid (HBJ.out.fz f5 (fun e => (ZJ.out.c1 q e).2.2.1 rfl))
                clear h5 f5 ZJ HBJ z0 z1 z2 z3 z4
                go_wp2_with fail
                go_meet
                case rel => exact ⟨p2, a2, rfl, P5, HB5⟩
        · have t128 : decide ((128 : Int) ≤ y.do_) = false := decide_eq_false h128
          rw [t128]
          clear h128 t128
          go_wp2_with fail
          go_meet
          case rel => exact ⟨p, a, rfl, HP1, HB1⟩
      case rest =>
        obtain ⟨p, a, rfl, HP2, HB2⟩ := hcut
        clear HP1 HB1 z0 z1 z2 z3 z4
        generalize wc = w4 at *
        obtain ⟨z0, z1, z2, z3, z4⟩ := HB2.out
        obtain ⟨C, R, hC, hX, hbx, hdq⟩ := HP2.out.bag
        have HC := Lib.hid hC
        have HX := Lib.hid hX
        have HBX := Lib.hid hbx
        have HDQ := Lib.hid hdq
        have HRI : Hid (Ris D) := Lib.hid hbx.ri
        have HWU : Hid (∀ q ∈ D, U64 q.2.word) := Lib.hid (fun q hq => (hbx.ui q hq).2.1)
        have HKK : Hid (∀ g, w4.heap.size ≤ g → ¬ C g) := Lib.hid (fun g hg hc => by have := (hX g (.inl hc)).2.2; omega)
        clear hC hX hbx hdq
        go_upto_block 4 with (fail)
        go_cut [11, 12, 13, 14, 15, 16, 17, 18, 19] from 66 to 178 (fun s11 s12 s13 s14 s15 s16 s17 s18 s19 wx => ∃ (d' : Db) (D' : List (Int × Ex)) (S' : List Int) (ev : Int), s11 = .int .i64 ev ∧ s12 = .int .i64 ev ∧ Hid (By W p a r q wx d' d' D' S' D' S') ∧ Hid (Bq wx q y) ∧ Hid (D'.length ≤ k + 1 ∧ S'.length ≤ k + 1 ∧ fnd D' 0 = none))
        case first =>
          by_cases h2 : y.do_ % 8 = 2
          · as_aux_lemma =>
              have m2 : (y.do_ % 8 == 2) = true := by rw [h2]; rfl
              have m2t : ((y.do_).tmod 8 == 2) = true := by rw [HD8.out]; exact m2
              have m3 : (y.do_ % 8 == 3) = false := by rw [h2]; rfl
              have m3t : ((y.do_).tmod 8 == 3) = false := by rw [HD8.out]; exact m3
              have m4 : (y.do_ % 8 == 4) = false := by rw [h2]; rfl
              have m4t : ((y.do_).tmod 8 == 4) = false := by rw [HD8.out]; exact m4
              have m5 : (y.do_ % 8 == 5) = false := by rw [h2]; rfl
              have m5t : ((y.do_).tmod 8 == 5) = false := by rw [HD8.out]; exact m5
              have m6 : (y.do_ % 8 == 6) = false := by rw [h2]; rfl
              have m6t : ((y.do_).tmod 8 == 6) = false := by rw [HD8.out]; exact m6
              have m7 : (y.do_ % 8 == 7) = false := by rw [h2]; rfl
              have m7t : ((y.do_).tmod 8 == 7) = false := by rw [HD8.out]; exact m7
              clear h2
              have HQR : Hid (q ≠ r) := Lib.hid (by
                have h1 := HB2.out.z0
                have h2 := HP2.out.vd.1.1
                intro e
                rw [e] at h1
                rw [h1] at h2
                cases h2)
              have hbu := bW_u64 w4 p a S HBX.out y.id
              obtain ⟨V, hV⟩ : ∃ V, bW D y.id = V := ⟨_, rfl⟩
              have hl := load_any w4 p a D S y.id HBX.out HUI.out
              rw [hV] at hl hbu
              have HL0 := Lib.hid hl
              have HBU := Lib.hid hbu
              clear hl hbu hV
              go_wp2_with fail
              refine HL0.out.mono ?_
              rintro e w4' ⟨rfl, rfl⟩
              clear HL0
              go_wp2_with fail
              refine (swap_any w4 p a D S y.id HBX.out HUI.out V y.st y.now HBU.out HUN.out).mono ?_
              rintro e w5 ⟨rfl, h5, f5⟩
              have HP5 := Lib.hid (HP2.out.turn HC.out HX.out HDQ.out h5 f5 (fun g hg => .inl hg) (fun g hg => .inl hg))
              have HB5 := Lib.hid (HB2.out.fz f5 (fun e => (HX.out q (.inl e)).2.1 rfl))
              clear h5 f5 z0 z1 z2 z3 z4
              obtain ⟨z0, z1, z2, z3, z4⟩ := HB5.out
              obtain ⟨C5, R5, hC5, hX5, hbx5, hdq5⟩ := HP5.out.bag
              have HC5 := Lib.hid hC5
              have HX5 := Lib.hid hX5
              have HBX5 := Lib.hid hbx5
              have HDQ5 := Lib.hid hdq5
              have HKK5 : Hid (∀ g, w5.heap.size ≤ g → ¬ C5 g) := Lib.hid (fun g hg hc => by have := (hX5 g (.inl hc)).2.2; omega)
              clear hC5 hX5 hbx5 hdq5
              obtain ⟨⟨v0, v1⟩, g0, g1⟩ := HP5.out.vd
              obtain ⟨X, hX⟩ : ∃ X, bV D y.id V y.st = X := ⟨_, rfl⟩
              obtain ⟨Y, hY⟩ : ∃ Y, bK D y.id V y.st = Y := ⟨_, rfl⟩
              have hsw := rswap15_any (K := fun g => ¬ C5 g) d.A d.A2 d.n d.c d.n2 d.c2 D S w5 y.id V y.st y.now HDQ5.out HKK5.out HRI.out.nd (by have := HDQ5.out.l.len; have := HL.out; omega) HWU.out HBU.out HUS.out
              rw [hX, hY] at hsw
              rw [hX, hY]
              have HSW := Lib.hid hsw
              clear hX hY hsw
              go_wp2_with fail
              refine (HSW.out).mono ?_
              rintro e w6 ⟨A6, c6, rfl, hd6, b6⟩
              have HP6 := Lib.hid (HP5.out.doc (f := ⟨A6, d.n, c6, d.A2, d.n2, d.c2⟩) HC5.out HX5.out HBX5.out hd6 b6)
              have HB6 := Lib.hid (HB5.out.later b6)
              clear hd6 b6 z0 z1 z2 z3 z4 v0 v1 g0 g1
              obtain ⟨z0, z1, z2, z3, z4⟩ := HB6.out
              obtain ⟨⟨v0, v1⟩, g0, g1⟩ := HP6.out.vd
              have hba : Below w6.heap.size w6 (w6.alloc (.cells #[.slice A6 d.n c6, .slice d.A2 d.n2 d.c2] 29)) := (Below.refl _ _).alloc (Nat.le_refl _) _
              have HP7 := Lib.hid (HP6.out.later hba)
              have HB7 := Lib.hid (HB6.out.later hba)
              have VX7 : Hid (Vb (w6.alloc (.cells #[.slice A6 d.n c6, .slice d.A2 d.n2 d.c2] 29)) w6.heap.size (.slice A6 d.n c6) (.slice d.A2 d.n2 d.c2)) := Lib.hid ⟨⟨by go_simp, by go_simp⟩, by go_simp, by go_simp⟩
              clear hba HP6 HB6 z0 z1 z2 z3 z4 v0 v1 g0 g1 HSW
              go_upto_region 33 with (fail)
              generalize (w6.alloc (.cells #[.slice A6 d.n c6, .slice d.A2 d.n2 d.c2] 29)) = w7 at *
              generalize w6.heap.size = x7 at *
              obtain ⟨⟨y0, y1⟩, j0, j1⟩ := VX7.out
              obtain ⟨⟨v0, v1⟩, g0, g1⟩ := HP7.out.vd
              obtain ⟨z0, z1, z2, z3, z4⟩ := HB7.out
              go_wp2_with fail
              go_meet
              case rel => exact ⟨⟨A6, d.n, c6, d.A2, d.n2, d.c2⟩, up D y.id (exS V y.st y.now), S, 0, rfl, rfl, Lib.hid HP7.out.put, Lib.hid (HB7.out.put (d := ⟨A6, d.n, c6, d.A2, d.n2, d.c2⟩) HQR.out), Lib.hid ⟨by rw [up_length]; have := HL.out; omega, by have := HL.out; omega, fnd_up_no HL.out.2.2 _ _⟩⟩
          by_cases h3 : y.do_ % 8 = 3
          · as_aux_lemma =>
              have m2 : (y.do_ % 8 == 2) = false := by rw [h3]; rfl
              have m2t : ((y.do_).tmod 8 == 2) = false := by rw [HD8.out]; exact m2
              have m3 : (y.do_ % 8 == 3) = true := by rw [h3]; rfl
              have m3t : ((y.do_).tmod 8 == 3) = true := by rw [HD8.out]; exact m3
              have m4 : (y.do_ % 8 == 4) = false := by rw [h3]; rfl
              have m4t : ((y.do_).tmod 8 == 4) = false := by rw [HD8.out]; exact m4
              have m5 : (y.do_ % 8 == 5) = false := by rw [h3]; rfl
              have m5t : ((y.do_).tmod 8 == 5) = false := by rw [HD8.out]; exact m5
              have m6 : (y.do_ % 8 == 6) = false := by rw [h3]; rfl
              have m6t : ((y.do_).tmod 8 == 6) = false := by rw [HD8.out]; exact m6
              have m7 : (y.do_ % 8 == 7) = false := by rw [h3]; rfl
              have m7t : ((y.do_).tmod 8 == 7) = false := by rw [HD8.out]; exact m7
              clear h3
              have HQR : Hid (q ≠ r) := Lib.hid (by
                have h1 := HB2.out.z0
                have h2 := HP2.out.vd.1.1
                intro e
                rw [e] at h1
                rw [h1] at h2
                cases h2)
              have hbu := bW_u64 w4 p a S HBX.out y.id
              obtain ⟨V, hV⟩ : ∃ V, bW D y.id = V := ⟨_, rfl⟩
              have hl := load_any w4 p a D S y.id HBX.out HUI.out
              rw [hV] at hl hbu
              have HL0 := Lib.hid hl
              have HBU := Lib.hid hbu
              clear hl hbu hV
              go_wp2_with fail
              refine HL0.out.mono ?_
              rintro e w4' ⟨rfl, rfl⟩
              clear HL0
              go_wp2_with fail
              refine (swap_any w4 p a D S y.id HBX.out HUI.out V y.st y.now HBU.out HUN.out).mono ?_
              rintro e w5 ⟨rfl, h5, f5⟩
              have HP5 := Lib.hid (HP2.out.turn HC.out HX.out HDQ.out h5 f5 (fun g hg => .inl hg) (fun g hg => .inl hg))
              have HB5 := Lib.hid (HB2.out.fz f5 (fun e => (HX.out q (.inl e)).2.1 rfl))
              clear h5 f5 z0 z1 z2 z3 z4
              obtain ⟨z0, z1, z2, z3, z4⟩ := HB5.out
              obtain ⟨C5, R5, hC5, hX5, hbx5, hdq5⟩ := HP5.out.bag
              have HC5 := Lib.hid hC5
              have HX5 := Lib.hid hX5
              have HBX5 := Lib.hid hbx5
              have HDQ5 := Lib.hid hdq5
              have HKK5 : Hid (∀ g, w5.heap.size ≤ g → ¬ C5 g) := Lib.hid (fun g hg hc => by have := (hX5 g (.inl hc)).2.2; omega)
              clear hC5 hX5 hbx5 hdq5
              obtain ⟨⟨v0, v1⟩, g0, g1⟩ := HP5.out.vd
              obtain ⟨X, hX⟩ : ∃ X, bV D y.id V y.st = X := ⟨_, rfl⟩
              obtain ⟨Y, hY⟩ : ∃ Y, bK D y.id V y.st = Y := ⟨_, rfl⟩
              have hsw := rswap15_any (K := fun g => ¬ C5 g) d.A d.A2 d.n d.c d.n2 d.c2 D S w5 y.id V y.st y.now HDQ5.out HKK5.out HRI.out.nd (by have := HDQ5.out.l.len; have := HL.out; omega) HWU.out HBU.out HUS.out
              rw [hX, hY] at hsw
              rw [hX, hY]
              have HSW := Lib.hid hsw
              clear hX hY hsw
              go_wp2_with fail
              refine (HSW.out).mono ?_
              rintro e w6 ⟨A6, c6, rfl, hd6, b6⟩
              have HP6 := Lib.hid (HP5.out.doc (f := ⟨A6, d.n, c6, d.A2, d.n2, d.c2⟩) HC5.out HX5.out HBX5.out hd6 b6)
              have HB6 := Lib.hid (HB5.out.later b6)
              clear hd6 b6 z0 z1 z2 z3 z4 v0 v1 g0 g1
              obtain ⟨z0, z1, z2, z3, z4⟩ := HB6.out
              obtain ⟨⟨v0, v1⟩, g0, g1⟩ := HP6.out.vd
              have hba : Below w6.heap.size w6 (w6.alloc (.cells #[.slice A6 d.n c6, .slice d.A2 d.n2 d.c2] 29)) := (Below.refl _ _).alloc (Nat.le_refl _) _
              have HP7 := Lib.hid (HP6.out.later hba)
              have HB7 := Lib.hid (HB6.out.later hba)
              have VX7 : Hid (Vb (w6.alloc (.cells #[.slice A6 d.n c6, .slice d.A2 d.n2 d.c2] 29)) w6.heap.size (.slice A6 d.n c6) (.slice d.A2 d.n2 d.c2)) := Lib.hid ⟨⟨by go_simp, by go_simp⟩, by go_simp, by go_simp⟩
              clear hba HP6 HB6 z0 z1 z2 z3 z4 v0 v1 g0 g1 HSW
              go_upto_region 33 with (fail)
              generalize (w6.alloc (.cells #[.slice A6 d.n c6, .slice d.A2 d.n2 d.c2] 29)) = w7 at *
              generalize w6.heap.size = x7 at *
              obtain ⟨⟨y0, y1⟩, j0, j1⟩ := VX7.out
              obtain ⟨⟨v0, v1⟩, g0, g1⟩ := HP7.out.vd
              obtain ⟨z0, z1, z2, z3, z4⟩ := HB7.out
              go_wp2_with fail
              go_meet
              case rel => exact ⟨⟨A6, d.n, c6, d.A2, d.n2, d.c2⟩, up D y.id (exS V y.st y.now), S, 0, rfl, rfl, Lib.hid HP7.out.put, Lib.hid (HB7.out.put (d := ⟨A6, d.n, c6, d.A2, d.n2, d.c2⟩) HQR.out), Lib.hid ⟨by rw [up_length]; have := HL.out; omega, by have := HL.out; omega, fnd_up_no HL.out.2.2 _ _⟩⟩
          by_cases h4 : y.do_ % 8 = 4
          · as_aux_lemma =>
              have m2 : (y.do_ % 8 == 2) = false := by rw [h4]; rfl
              have m2t : ((y.do_).tmod 8 == 2) = false := by rw [HD8.out]; exact m2
              have m3 : (y.do_ % 8 == 3) = false := by rw [h4]; rfl
              have m3t : ((y.do_).tmod 8 == 3) = false := by rw [HD8.out]; exact m3
              have m4 : (y.do_ % 8 == 4) = true := by rw [h4]; rfl
              have m4t : ((y.do_).tmod 8 == 4) = true := by rw [HD8.out]; exact m4
              have m5 : (y.do_ % 8 == 5) = false := by rw [h4]; rfl
              have m5t : ((y.do_).tmod 8 == 5) = false := by rw [HD8.out]; exact m5
              have m6 : (y.do_ % 8 == 6) = false := by rw [h4]; rfl
              have m6t : ((y.do_).tmod 8 == 6) = false := by rw [HD8.out]; exact m6
              have m7 : (y.do_ % 8 == 7) = false := by rw [h4]; rfl
              have m7t : ((y.do_).tmod 8 == 7) = false := by rw [HD8.out]; exact m7
              clear h4
              have HQR : Hid (q ≠ r) := Lib.hid (by
                have h1 := HB2.out.z0
                have h2 := HP2.out.vd.1.1
                intro e
                rw [e] at h1
                rw [h1] at h2
                cases h2)
              have hbu := bW_u64 w4 p a S HBX.out y.id
              obtain ⟨V, hV⟩ : ∃ V, bW D y.id = V := ⟨_, rfl⟩
              have hl := load_any w4 p a D S y.id HBX.out HUI.out
              rw [hV] at hl hbu
              have HL0 := Lib.hid hl
              have HBU := Lib.hid hbu
              clear hl hbu hV
              go_wp2_with fail
              refine HL0.out.mono ?_
              rintro e w4' ⟨rfl, rfl⟩
              clear HL0
              go_wp2_with fail
              refine (swap_any w4 p a D S y.id HBX.out HUI.out y.old y.st y.now HUO.out HUN.out).mono ?_
              rintro e w5 ⟨rfl, h5, f5⟩
              have HP5 := Lib.hid (HP2.out.turn HC.out HX.out HDQ.out h5 f5 (fun g hg => .inl hg) (fun g hg => .inl hg))
              have HB5 := Lib.hid (HB2.out.fz f5 (fun e => (HX.out q (.inl e)).2.1 rfl))
              clear h5 f5 z0 z1 z2 z3 z4
              obtain ⟨z0, z1, z2, z3, z4⟩ := HB5.out
              obtain ⟨C5, R5, hC5, hX5, hbx5, hdq5⟩ := HP5.out.bag
              have HC5 := Lib.hid hC5
              have HX5 := Lib.hid hX5
              have HBX5 := Lib.hid hbx5
              have HDQ5 := Lib.hid hdq5
              have HKK5 : Hid (∀ g, w5.heap.size ≤ g → ¬ C5 g) := Lib.hid (fun g hg hc => by have := (hX5 g (.inl hc)).2.2; omega)
              clear hC5 hX5 hbx5 hdq5
              obtain ⟨⟨v0, v1⟩, g0, g1⟩ := HP5.out.vd
              obtain ⟨X, hX⟩ : ∃ X, bV D y.id y.old y.st = X := ⟨_, rfl⟩
              obtain ⟨Y, hY⟩ : ∃ Y, bK D y.id y.old y.st = Y := ⟨_, rfl⟩
              have hsw := rswap15_any (K := fun g => ¬ C5 g) d.A d.A2 d.n d.c d.n2 d.c2 D S w5 y.id y.old y.st y.now HDQ5.out HKK5.out HRI.out.nd (by have := HDQ5.out.l.len; have := HL.out; omega) HWU.out HUO.out HUS.out
              rw [hX, hY] at hsw
              rw [hX, hY]
              have HSW := Lib.hid hsw
              clear hX hY hsw
              go_wp2_with fail
              refine (HSW.out).mono ?_
              rintro e w6 ⟨A6, c6, rfl, hd6, b6⟩
              have HP6 := Lib.hid (HP5.out.doc (f := ⟨A6, d.n, c6, d.A2, d.n2, d.c2⟩) HC5.out HX5.out HBX5.out hd6 b6)
              have HB6 := Lib.hid (HB5.out.later b6)
              clear hd6 b6 z0 z1 z2 z3 z4 v0 v1 g0 g1
              obtain ⟨z0, z1, z2, z3, z4⟩ := HB6.out
              obtain ⟨⟨v0, v1⟩, g0, g1⟩ := HP6.out.vd
              have hba : Below w6.heap.size w6 (w6.alloc (.cells #[.slice A6 d.n c6, .slice d.A2 d.n2 d.c2] 29)) := (Below.refl _ _).alloc (Nat.le_refl _) _
              have HP7 := Lib.hid (HP6.out.later hba)
              have HB7 := Lib.hid (HB6.out.later hba)
              have VX7 : Hid (Vb (w6.alloc (.cells #[.slice A6 d.n c6, .slice d.A2 d.n2 d.c2] 29)) w6.heap.size (.slice A6 d.n c6) (.slice d.A2 d.n2 d.c2)) := Lib.hid ⟨⟨by go_simp, by go_simp⟩, by go_simp, by go_simp⟩
              clear hba HP6 HB6 z0 z1 z2 z3 z4 v0 v1 g0 g1 HSW
              go_upto_region 33 with (fail)
              generalize (w6.alloc (.cells #[.slice A6 d.n c6, .slice d.A2 d.n2 d.c2] 29)) = w7 at *
              generalize w6.heap.size = x7 at *
              obtain ⟨⟨y0, y1⟩, j0, j1⟩ := VX7.out
              obtain ⟨⟨v0, v1⟩, g0, g1⟩ := HP7.out.vd
              obtain ⟨z0, z1, z2, z3, z4⟩ := HB7.out
              go_wp2_with fail
              go_meet
              case rel => exact ⟨⟨A6, d.n, c6, d.A2, d.n2, d.c2⟩, up D y.id (exS y.old y.st y.now), S, 0, rfl, rfl, Lib.hid HP7.out.put, Lib.hid (HB7.out.put (d := ⟨A6, d.n, c6, d.A2, d.n2, d.c2⟩) HQR.out), Lib.hid ⟨by rw [up_length]; have := HL.out; omega, by have := HL.out; omega, fnd_up_no HL.out.2.2 _ _⟩⟩
          by_cases h5 : y.do_ % 8 = 5
          · as_aux_lemma =>
              have m2 : (y.do_ % 8 == 2) = false := by rw [h5]; rfl
              have m2t : ((y.do_).tmod 8 == 2) = false := by rw [HD8.out]; exact m2
              have m3 : (y.do_ % 8 == 3) = false := by rw [h5]; rfl
              have m3t : ((y.do_).tmod 8 == 3) = false := by rw [HD8.out]; exact m3
              have m4 : (y.do_ % 8 == 4) = false := by rw [h5]; rfl
              have m4t : ((y.do_).tmod 8 == 4) = false := by rw [HD8.out]; exact m4
              have m5 : (y.do_ % 8 == 5) = true := by rw [h5]; rfl
              have m5t : ((y.do_).tmod 8 == 5) = true := by rw [HD8.out]; exact m5
              have m6 : (y.do_ % 8 == 6) = false := by rw [h5]; rfl
              have m6t : ((y.do_).tmod 8 == 6) = false := by rw [HD8.out]; exact m6
              have m7 : (y.do_ % 8 == 7) = false := by rw [h5]; rfl
              have m7t : ((y.do_).tmod 8 == 7) = false := by rw [HD8.out]; exact m7
              clear h5
              have HQR : Hid (q ≠ r) := Lib.hid (by
                have h1 := HB2.out.z0
                have h2 := HP2.out.vd.1.1
                intro e
                rw [e] at h1
                rw [h1] at h2
                cases h2)
              go_wp2_with fail
              refine (proved_any w4 p a D S y.id HBX.out HUI.out y.now HUN.out).mono ?_
              rintro e w5 ⟨rfl, h5, f5⟩
              have HP5 := Lib.hid (HP2.out.turn HC.out HX.out HDQ.out h5 f5 (fun g hg => .inl hg) (fun g hg => .inl hg))
              have HB5 := Lib.hid (HB2.out.fz f5 (fun e => (HX.out q (.inl e)).2.1 rfl))
              clear h5 f5 z0 z1 z2 z3 z4
              obtain ⟨z0, z1, z2, z3, z4⟩ := HB5.out
              obtain ⟨C5, R5, hC5, hX5, hbx5, hdq5⟩ := HP5.out.bag
              have HC5 := Lib.hid hC5
              have HX5 := Lib.hid hX5
              have HBX5 := Lib.hid hbx5
              have HDQ5 := Lib.hid hdq5
              have HKK5 : Hid (∀ g, w5.heap.size ≤ g → ¬ C5 g) := Lib.hid (fun g hg hc => by have := (hX5 g (.inl hc)).2.2; omega)
              clear hC5 hX5 hbx5 hdq5
              obtain ⟨⟨v0, v1⟩, g0, g1⟩ := HP5.out.vd
              go_wp2_with fail
              refine (rproved_any (K := fun g => ¬ C5 g) d.A d.A2 d.n d.c d.n2 d.c2 D S w5 y.id y.now HDQ5.out HKK5.out HRI.out.nd (by have := HDQ5.out.l.len; have := HL.out; omega)).mono ?_
              rintro e w6 ⟨A6, c6, rfl, hd6, b6⟩
              have HP6 := Lib.hid (HP5.out.doc (f := ⟨A6, d.n, c6, d.A2, d.n2, d.c2⟩) HC5.out HX5.out HBX5.out hd6 b6)
              have HB6 := Lib.hid (HB5.out.later b6)
              clear hd6 b6 z0 z1 z2 z3 z4 v0 v1 g0 g1
              obtain ⟨z0, z1, z2, z3, z4⟩ := HB6.out
              obtain ⟨⟨v0, v1⟩, g0, g1⟩ := HP6.out.vd
              go_wp2_with fail
              go_meet
              case rel => exact ⟨⟨A6, d.n, c6, d.A2, d.n2, d.c2⟩, up D y.id (exP y.now), S, kn D y.id, rfl, rfl, Lib.hid HP6.out.put, Lib.hid (HB6.out.put (d := ⟨A6, d.n, c6, d.A2, d.n2, d.c2⟩) HQR.out), Lib.hid ⟨by rw [up_length]; have := HL.out; omega, by have := HL.out; omega, fnd_up_no HL.out.2.2 _ _⟩⟩
          by_cases h6 : y.do_ % 8 = 6
          · as_aux_lemma =>
              have m2 : (y.do_ % 8 == 2) = false := by rw [h6]; rfl
              have m2t : ((y.do_).tmod 8 == 2) = false := by rw [HD8.out]; exact m2
              have m3 : (y.do_ % 8 == 3) = false := by rw [h6]; rfl
              have m3t : ((y.do_).tmod 8 == 3) = false := by rw [HD8.out]; exact m3
              have m4 : (y.do_ % 8 == 4) = false := by rw [h6]; rfl
              have m4t : ((y.do_).tmod 8 == 4) = false := by rw [HD8.out]; exact m4
              have m5 : (y.do_ % 8 == 5) = false := by rw [h6]; rfl
              have m5t : ((y.do_).tmod 8 == 5) = false := by rw [HD8.out]; exact m5
              have m6 : (y.do_ % 8 == 6) = true := by rw [h6]; rfl
              have m6t : ((y.do_).tmod 8 == 6) = true := by rw [HD8.out]; exact m6
              have m7 : (y.do_ % 8 == 7) = false := by rw [h6]; rfl
              have m7t : ((y.do_).tmod 8 == 7) = false := by rw [HD8.out]; exact m7
              clear h6
              have HQR : Hid (q ≠ r) := Lib.hid (by
                have h1 := HB2.out.z0
                have h2 := HP2.out.vd.1.1
                intro e
                rw [e] at h1
                rw [h1] at h2
                cases h2)
              go_wp2_with fail
              refine (publish_any w4 p a D S y.id HBX.out HUI.out (by have := HL.out; omega)).mono ?_
              rintro e w5 ⟨rfl, h5, f5⟩
              have HP5 := Lib.hid (HP2.out.turn HC.out HX.out HDQ.out h5 f5 cut_sub ext_sub)
              have HB5 := Lib.hid (HB2.out.fz f5 (fun e => (HX.out q (.inl e)).2.1 rfl))
              clear h5 f5 z0 z1 z2 z3 z4
              obtain ⟨z0, z1, z2, z3, z4⟩ := HB5.out
              obtain ⟨C5, R5, hC5, hX5, hbx5, hdq5⟩ := HP5.out.bag
              have HC5 := Lib.hid hC5
              have HX5 := Lib.hid hX5
              have HBX5 := Lib.hid hbx5
              have HDQ5 := Lib.hid hdq5
              have HKK5 : Hid (∀ g, w5.heap.size ≤ g → ¬ C5 g) := Lib.hid (fun g hg hc => by have := (hX5 g (.inl hc)).2.2; omega)
              clear hC5 hX5 hbx5 hdq5
              obtain ⟨⟨v0, v1⟩, g0, g1⟩ := HP5.out.vd
              go_wp2_with fail
              refine (rpublish_any (K := fun g => ¬ C5 g) d.A d.A2 d.n d.c d.n2 d.c2 D S w5 y.id HDQ5.out HKK5.out (by have := HDQ5.out.l.len; have := HL.out; omega) (by have := HDQ5.out.s.len; have := HL.out; omega)).mono ?_
              rintro e w6 ⟨A6, n6, c6, rfl, hd6, b6⟩
              have HP6 := Lib.hid (HP5.out.doc (f := ⟨d.A, d.n, d.c, A6, n6, c6⟩) HC5.out HX5.out HBX5.out hd6 b6)
              have HB6 := Lib.hid (HB5.out.later b6)
              clear hd6 b6 z0 z1 z2 z3 z4 v0 v1 g0 g1
              obtain ⟨z0, z1, z2, z3, z4⟩ := HB6.out
              obtain ⟨⟨v0, v1⟩, g0, g1⟩ := HP6.out.vd
              go_wp2_with fail
              go_meet
              case rel => exact ⟨⟨d.A, d.n, d.c, A6, n6, c6⟩, D, (if (fnd D y.id).isSome then Sn.sWith S y.id else S), kn D y.id, rfl, rfl, Lib.hid HP6.out.put, Lib.hid (HB6.out.put (d := ⟨d.A, d.n, d.c, A6, n6, c6⟩) HQR.out), Lib.hid ⟨by have := HL.out; omega, by have := HL.out; have := Sn.sWith_len S y.id; split <;> omega, HL.out.2.2⟩⟩
          by_cases h7 : y.do_ % 8 = 7
          · as_aux_lemma =>
              have m2 : (y.do_ % 8 == 2) = false := by rw [h7]; rfl
              have m2t : ((y.do_).tmod 8 == 2) = false := by rw [HD8.out]; exact m2
              have m3 : (y.do_ % 8 == 3) = false := by rw [h7]; rfl
              have m3t : ((y.do_).tmod 8 == 3) = false := by rw [HD8.out]; exact m3
              have m4 : (y.do_ % 8 == 4) = false := by rw [h7]; rfl
              have m4t : ((y.do_).tmod 8 == 4) = false := by rw [HD8.out]; exact m4
              have m5 : (y.do_ % 8 == 5) = false := by rw [h7]; rfl
              have m5t : ((y.do_).tmod 8 == 5) = false := by rw [HD8.out]; exact m5
              have m6 : (y.do_ % 8 == 6) = false := by rw [h7]; rfl
              have m6t : ((y.do_).tmod 8 == 6) = false := by rw [HD8.out]; exact m6
              have m7 : (y.do_ % 8 == 7) = true := by rw [h7]; rfl
              have m7t : ((y.do_).tmod 8 == 7) = true := by rw [HD8.out]; exact m7
              clear h7
              have HQR : Hid (q ≠ r) := Lib.hid (by
                have h1 := HB2.out.z0
                have h2 := HP2.out.vd.1.1
                intro e
                rw [e] at h1
                rw [h1] at h2
                cases h2)
              go_wp2_with fail
              refine (unlist_any w4 p a D S y.id HBX.out HUI.out (by have := HL.out; omega)).mono ?_
              rintro e w5 ⟨rfl, h5, f5⟩
              have HP5 := Lib.hid (HP2.out.turn HC.out HX.out HDQ.out h5 f5 cut_sub ext_sub)
              have HB5 := Lib.hid (HB2.out.fz f5 (fun e => (HX.out q (.inl e)).2.1 rfl))
              clear h5 f5 z0 z1 z2 z3 z4
              obtain ⟨z0, z1, z2, z3, z4⟩ := HB5.out
              obtain ⟨C5, R5, hC5, hX5, hbx5, hdq5⟩ := HP5.out.bag
              have HC5 := Lib.hid hC5
              have HX5 := Lib.hid hX5
              have HBX5 := Lib.hid hbx5
              have HDQ5 := Lib.hid hdq5
              have HKK5 : Hid (∀ g, w5.heap.size ≤ g → ¬ C5 g) := Lib.hid (fun g hg hc => by have := (hX5 g (.inl hc)).2.2; omega)
              clear hC5 hX5 hbx5 hdq5
              obtain ⟨⟨v0, v1⟩, g0, g1⟩ := HP5.out.vd
              go_wp2_with fail
              refine (runlist_any (K := fun g => ¬ C5 g) d.A d.A2 d.n d.c d.n2 d.c2 D S w5 y.id HDQ5.out HKK5.out (by have := HDQ5.out.l.len; have := HL.out; omega) (by have := HDQ5.out.s.len; have := HL.out; omega)).mono ?_
              rintro e w6 ⟨A6, n6, c6, rfl, hd6, b6⟩
              have HP6 := Lib.hid (HP5.out.doc (f := ⟨d.A, d.n, d.c, A6, n6, c6⟩) HC5.out HX5.out HBX5.out hd6 b6)
              have HB6 := Lib.hid (HB5.out.later b6)
              clear hd6 b6 z0 z1 z2 z3 z4 v0 v1 g0 g1
              obtain ⟨z0, z1, z2, z3, z4⟩ := HB6.out
              obtain ⟨⟨v0, v1⟩, g0, g1⟩ := HP6.out.vd
              go_wp2_with fail
              go_meet
              case rel => exact ⟨⟨d.A, d.n, d.c, A6, n6, c6⟩, D, (if (fnd D y.id).isSome then Sn.sWithout S y.id else S), kn D y.id, rfl, rfl, Lib.hid HP6.out.put, Lib.hid (HB6.out.put (d := ⟨d.A, d.n, d.c, A6, n6, c6⟩) HQR.out), Lib.hid ⟨by have := HL.out; omega, by have := HL.out; have := Sn.sWithout_len S y.id; split <;> omega, HL.out.2.2⟩⟩
          as_aux_lemma =>
            have m2 : (y.do_ % 8 == 2) = false := beq_eq_false_iff_ne.2 h2
            have m2t : ((y.do_).tmod 8 == 2) = false := by rw [HD8.out]; exact m2
            have m3 : (y.do_ % 8 == 3) = false := beq_eq_false_iff_ne.2 h3
            have m3t : ((y.do_).tmod 8 == 3) = false := by rw [HD8.out]; exact m3
            have m4 : (y.do_ % 8 == 4) = false := beq_eq_false_iff_ne.2 h4
            have m4t : ((y.do_).tmod 8 == 4) = false := by rw [HD8.out]; exact m4
            have m5 : (y.do_ % 8 == 5) = false := beq_eq_false_iff_ne.2 h5
            have m5t : ((y.do_).tmod 8 == 5) = false := by rw [HD8.out]; exact m5
            have m6 : (y.do_ % 8 == 6) = false := beq_eq_false_iff_ne.2 h6
            have m6t : ((y.do_).tmod 8 == 6) = false := by rw [HD8.out]; exact m6
            have m7 : (y.do_ % 8 == 7) = false := beq_eq_false_iff_ne.2 h7
            have m7t : ((y.do_).tmod 8 == 7) = false := by rw [HD8.out]; exact m7
            clear h2 h3 h4 h5 h6 h7
            have HQR : Hid (q ≠ r) := Lib.hid (by
              have h1 := HB2.out.z0
              have h2 := HP2.out.vd.1.1
              intro e
              rw [e] at h1
              rw [h1] at h2
              cases h2)
            go_wp2_with fail
            refine (enter_any w4 p a D S y.id HBX.out HUI.out y.st y.now HUN.out (by have := HL.out; omega)).mono ?_
            rintro e w5 ⟨rfl, h5, f5⟩
            have HP5 := Lib.hid (HP2.out.turn HC.out HX.out HDQ.out h5 f5 ext_sub cut_sub)
            have HB5 := Lib.hid (HB2.out.fz f5 (fun e => (HX.out q (.inl e)).2.1 rfl))
            clear h5 f5 z0 z1 z2 z3 z4
            obtain ⟨z0, z1, z2, z3, z4⟩ := HB5.out
            obtain ⟨C5, R5, hC5, hX5, hbx5, hdq5⟩ := HP5.out.bag
            have HC5 := Lib.hid hC5
            have HX5 := Lib.hid hX5
            have HBX5 := Lib.hid hbx5
            have HDQ5 := Lib.hid hdq5
            have HKK5 : Hid (∀ g, w5.heap.size ≤ g → ¬ C5 g) := Lib.hid (fun g hg hc => by have := (hX5 g (.inl hc)).2.2; omega)
            clear hC5 hX5 hbx5 hdq5
            obtain ⟨⟨v0, v1⟩, g0, g1⟩ := HP5.out.vd
            go_wp2_with fail
            refine (renter_any (K := fun g => ¬ C5 g) d.A d.A2 d.n d.c d.n2 d.c2 D S w5 y.id y.st y.now HDQ5.out HKK5.out HRI.out HUI.out HUS.out HUN.out (by have := HDQ5.out.l.len; have := HL.out; omega)).mono ?_
            rintro e w6 ⟨A6, n6, c6, rfl, hd6, b6⟩
            have HP6 := Lib.hid (HP5.out.doc (f := ⟨A6, n6, c6, d.A2, d.n2, d.c2⟩) HC5.out HX5.out HBX5.out hd6 b6)
            have HB6 := Lib.hid (HB5.out.later b6)
            clear hd6 b6 z0 z1 z2 z3 z4 v0 v1 g0 g1
            obtain ⟨z0, z1, z2, z3, z4⟩ := HB6.out
            obtain ⟨⟨v0, v1⟩, g0, g1⟩ := HP6.out.vd
            go_wp2_with fail
            go_meet
            case rel => exact ⟨⟨A6, n6, c6, d.A2, d.n2, d.c2⟩, (if eE D y.id y.st = 0 then ins D y.id (⟨Wd.wOf y.st 0, y.now, y.now, y.now⟩ : Ex) else D), S, eE D y.id y.st, rfl, rfl, Lib.hid HP6.out.put, Lib.hid (HB6.out.put (d := ⟨A6, n6, c6, d.A2, d.n2, d.c2⟩) HQR.out), Lib.hid ⟨ent_len HRI.out y.id y.st _ (by have := HL.out; omega), by have := HL.out; omega, fnd_ent_no HL.out.2.2 HRI.out _ _ _⟩⟩
        case rest =>
          clear HP2 HB2 HBX HDQ z0 z1 z2 z3 z4 HKK HRI HWU HC HX
          obtain ⟨d', D', S', ev, rfl, rfl, HP5, HB5, HL5⟩ := hcut
          generalize wc = w9 at *
          obtain ⟨⟨v0, v1⟩, g0, g1⟩ := HP5.out.vd
          obtain ⟨C, R, hC, hX, hbx, hdq⟩ := HP5.out.bag
          have HT5 := Lib.hid (told15_any d'.A d'.A2 d'.n d'.c d'.n2 d'.c2 p a D' S' w9 hbx hdq (by have := hdq.l.len; have := HL5.out; omega) (by have := hdq.s.len; have := HL5.out; omega))
          clear hC hX hbx hdq
          go_wp2_with fail
          refine HT5.out.mono ?_
          rintro e w10 ⟨rfl, b10⟩
          have PZ := Lib.hid (HP5.out.later b10).drop
          clear b10 HP5 HB5 HT5 v0 v1 g0 g1
          go_wp2_with fail
          go_roundw
          case rel => exact ⟨k + 1, p, a, d', D', S', by omega, by go_num, rfl, PZ, HL5⟩
          case measure => simp [intOf]; omega
    · obtain ⟨C, R, hC, hX, hbx, hdq⟩ := HP.out.bag
      have hbe : bE D 0 = .agg #[.int .u64 0, .int .u64 0, .int .u64 0, .int .u64 0, .int .u64 0] := by unfold bE; rw [HL.out.2.2]
      have hbw : bW D 0 = 0 := by unfold bW; rw [HL.out.2.2]; rfl
      have his : (fnd D 0).isSome = false := by rw [HL.out.2.2]; rfl
      have HE := entry_any wr p a D S 0 hbx ⟨by omega, by omega⟩
      rw [hbe, his] at HE
      have HE := Lib.hid HE
      have HBX := Lib.hid hbx
      have HBW := Lib.hid hbw
      have HIS := Lib.hid his
      have HB := Lib.hid HP.out.bel
      clear hC hX hbx hdq hbe hbw his HP
      go_wp2_with fail
      refine HE.out.mono ?_
      rintro e w3 ⟨rfl, b3⟩
      have HB3 := Lib.hid (HB.out.trans (b3.mono HB.out.size))
      have HBX3 := Lib.hid (HBX.out.later b3)
      clear b3 HE HBX
      go_wp2_with fail
      refine with_fact (fun W' => Below w3.heap.size w3 W') ?_ ?_
      · repeat' (first | exact Below.refl _ _ | apply Below.setCell | apply Below.alloc)
        all_goals (first | exact Nat.le_refl _ | (simp; done) | (simp; omega))
      intro b4
      have HB4 := Lib.hid (HB3.out.trans (b4.mono HB3.out.size))
      have hl := load_any _ p a D S 0 (HBX3.out.later b4) ⟨by omega, by omega⟩
      rw [HBW.out, HIS.out] at hl
      refine hl.mono ?_
      rintro e w5 ⟨rfl, rfl⟩
      clear hl b4
      go_wp2_with fail
      go_ret
      exact ⟨rfl, HB4.out⟩
end Go.Proofs.YtlpjlphofjghhaaGreatDoor.Ba
