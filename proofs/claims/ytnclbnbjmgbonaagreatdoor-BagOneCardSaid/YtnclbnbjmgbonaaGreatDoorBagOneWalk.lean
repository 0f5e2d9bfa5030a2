/- BagOne: the walk. -/
import Derived.Test.YtnclbnbjmgbonaaGreatDoorBagG
import Derived.Deep.CutRange
import Derived.Deep.CutBlock
namespace Go.Proofs.YtnclbnbjmgbonaaGreatDoor.Ba
open Go Go.ChangeShapes Go.WideShapes Go.ChangeAt Go.RowKit Go.Deep Go.Maps Rw Hi Mt
set_option linter.unusedVariables false

set_option maxRecDepth 100000 in
theorem one_long (A : Option Addr) (n c : Nat) (W : World) (hT : Tb.Tabs W) (hc : n ≤ 9223372036854775807) (hn : 80 < n) :
    Calls Tryz.prog 4 #[.slice A n c] W fun e w' => e = .returned (.bool true) ∧ Below W.heap.size W w' := by
  have HT := Lib.hid hT
  have q1 : decide ((80 : Int) < (n : Int)) = true := decide_eq_true (by omega)
  clear hT
  go_enter Tryz.func4, Tryz.ntmps4
  go_wp2_with fail
  refine (awake15_any _ HT.out).mono ?_
  rintro e w1 ⟨rfl, b1⟩
  have B1 := Lib.hid b1
  clear b1
  go_wp2_with fail
  go_ret
  exact ⟨rfl, B1.out⟩
set_option maxRecDepth 100000 in
set_option maxHeartbeats 4000000 in
theorem one_any (A : Option Addr) (n c : Nat) (xs : List Ax) (W : World) (hT : Tb.Tabs W) (hr : Rs encA 5 W W.heap.size A n c xs) (hok : ∀ x ∈ xs, x.ok) (hn : n ≤ 80) :
    Calls Tryz.prog 4 #[.slice A n c] W fun e w' => e = .returned (.bool true) ∧ Below W.heap.size W w' := by
  have HT := Lib.hid hT
  have HR := Lib.hid hr
  have HOK := Lib.hid hok
  have q1 : decide ((80 : Int) < (n : Int)) = false := decide_eq_false (by omega)
  have hmm := @run_makeMap Tryz.prog
  clear hT hr hok
  go_enter Tryz.func4, Tryz.ntmps4
  go_wp2_with fail
  refine (awake15_any _ HT.out).mono ?_
  rintro e w1 ⟨rfl, b1⟩
  have B1 := Lib.hid b1
  clear b1
  go_wp2_with fail
  refine (bnew_any w1).mono ?_
  rintro e w2 ⟨rfl, h2, b2⟩
  have B2 := Lib.hid (B1.out.trans (b2.mono B1.out.size))
  have H2 := Lib.hid h2
  obtain ⟨p, hp⟩ : ∃ p, w1.heap.size + 1 = p := ⟨_, rfl⟩
  obtain ⟨a, ha⟩ : ∃ a, w1.heap.size = a := ⟨_, rfl⟩
  have hs1 := B1.out.size
  have hs2 := b2.size
  have hfr : ∀ g, fresh w1 g → w2.heap.size ≠ g → W.heap.size ≤ g ∧ g ≠ w2.heap.size := fun g hg hn => ⟨Nat.le_trans hs1 hg, fun e => hn e.symm⟩
  have h20 : On W p a w2.heap.size w2.heap.size (w2.alloc (.map #[] 0)) [] [] [] 0 := by
    rw [hp, ha] at h2
    have hb2 : Below w2.heap.size w2 (w2.alloc (.map #[] 0)) := (Below.refl _ _).alloc (Nat.le_refl _) _
    refine ⟨⟨fun g => fresh w1 g ∧ g < w2.heap.size, fun _ => False, fun g hg => ⟨Nat.le_trans hs1 hg.1, by omega, by omega, by simp; omega⟩, (h2.mono (E := fun g => fresh w1 g ∧ g < w2.heap.size) (T := fun _ => False) (fun g hg hc => ⟨hc, hg⟩) (fun _ _ h => h) (fun _ _ h => h)).later hb2⟩, Mo.made w2 Tryz.prog 30 eW, fun z hz => (by cases hz), B2.out.trans (hb2.mono B2.out.size), B2.out.size, Nat.le_refl _, Nat.le_refl _, Nat.le_refl _⟩
  have H20 := Lib.hid h20
  rw [hp]
  clear b2 h2 hp ha hfr h20 H2
  go_wp2_with fail
  obtain ⟨m, hm⟩ : ∃ m, w2.heap.size = m := ⟨_, rfl⟩
  obtain ⟨w3, hw3⟩ : ∃ w3, w2.alloc (.map #[] 0) = w3 := ⟨_, rfl⟩
  rw [hm] at H20
  rw [hw3] at H20
  rw [hm, hw3]
  clear hm hw3 hs1 hs2 hmm B2
  go_loopw [32] (fun i wr => ∃ (k : Nat) (D : List (Int × Ex)) (S : List Int) (G : List (Int × Int)), i = .int .i64 k ∧ k ≤ n ∧ Hid (On W p a m m wr D S G k)) (fun i _ => n - (intOf i).toNat)
  case atStart => exact ⟨0, [], [], [], rfl, Nat.zero_le _, H20⟩
  case round =>
    clear H20
    obtain ⟨k, D, S, G, rfl, hk, HO⟩ := hrel
    by_cases hkn : k < n
    · obtain ⟨b, o, y, rfl, hb, hy, c0, c1, c2, c3, c4⟩ := actA_at HR.out hkn
      have HY := Lib.hid (HOK.out y (List.mem_of_getElem? hy))
      have d0 := (HO.out.bel.cell (p := ⟨b, o + k * 5, none⟩) hb).trans c0
      have d1 := (HO.out.bel.cell (p := ⟨b, o + k * 5 + 1, none⟩) hb).trans c1
      have d2 := (HO.out.bel.cell (p := ⟨b, o + k * 5 + 2, none⟩) hb).trans c2
      have d3 := (HO.out.bel.cell (p := ⟨b, o + k * 5 + 3, none⟩) hb).trans c3
      have d4 := (HO.out.bel.cell (p := ⟨b, o + k * 5 + 4, none⟩) hb).trans c4
      have hkc : k < c := by have := HR.out.cap; omega
      clear c0 c1 c2 c3 c4 hb hy
      have HO1 := Lib.hid (HO.out.box y)
      have hgk := HO.out.gl
      have HB1 := Lib.hid (Bq.new wr y)
      clear HO
      go_upto_region 10 with (fail)
      obtain ⟨wz, hwz⟩ : ∃ wz, wr.alloc (.cells #[.int .u8 y.do_, .int .u64 y.id, .int .u64 y.old, .int .u64 y.now, .int .i64 y.st] 32) = wz := ⟨_, rfl⟩
      obtain ⟨q, hq⟩ : ∃ q, wr.heap.size = q := ⟨_, rfl⟩
      rw [hwz, hq] at HO1 HB1
      rw [hwz, hq]
      clear hwz hq d0 d1 d2 d3 d4
      obtain ⟨z0, z1, z2, z3, z4⟩ := HB1.out
      have hd := HY.out.d
      have hd8 : (y.do_).tmod 8 = y.do_ % 8 := Int.tmod_eq_emod_of_nonneg hd.1
      have HUI := Lib.hid HY.out.i
      have HUO := Lib.hid HY.out.o
      have HUN := Lib.hid HY.out.n
      go_upto_if 39 with (fail)
      go_cut [] from 36 to 47 (fun wx => ∃ D' : List (Int × Ex), Hid (On W p a m q wx D' S G (k + 1)) ∧ Hid (Bq wx q y) ∧ S.length ≤ 2 * k)
      case first =>
        cases qd : decide (y.do_ % 8 < 2) with
        | true =>
          have qd' : decide ((y.do_).tmod 8 < 2) = true := by rw [hd8]; exact qd
          obtain ⟨C, R, hC, hb⟩ := HO1.out.bag
          have HC := Lib.hid hC
          have HBG := Lib.hid hb
          clear hC hb
          go_wp2_with fail
          refine (enter_any wz p a D S y.id HBG.out HUI.out y.st y.now HUN.out (by have := HO1.out.dl; omega)).mono ?_
          rintro e w5 ⟨rfl, h5, f5⟩
          have hl : (if eE D y.id y.st = 0 then ins D y.id (⟨Wd.wOf y.st 0, y.now, y.now, y.now⟩ : Ex) else D).length ≤ k + 1 := by
            have := HO1.out.dl
            split
            · next he =>
              have hf : fnd D y.id = none := by
                unfold eE at he
                split at he
                · cases he
                · split at he
                  · cases he
                  · next h9 => simpa using h9
              rw [ins_len HBG.out.ri (fnd_no hf)]; omega
            · omega
          have HO5 := Lib.hid (HO1.out.turn (Lw.lt_heap HB1.out.z0) HC.out h5 f5 ext_sub (HO1.out.gone.enter HBG.out.ri y.id y.st _) hl (by have := HO1.out.sl; omega) (by omega))
          have HB5 := Lib.hid (HB1.out.turn (fun e => (HC.out q e).2.2.1 rfl) f5)
          clear h5 f5 hl
          go_wp2_with fail
          go_meet
          case rel => exact ⟨_, HO5, HB5, HO1.out.sl⟩
        | false =>
          have qd' : decide ((y.do_).tmod 8 < 2) = false := by rw [hd8]; exact qd
          go_wp2_with fail
          go_meet
          case rel => exact ⟨D, Lib.hid ⟨HO1.out.bag, HO1.out.map, HO1.out.gone, HO1.out.bel, HO1.out.ml, by have := HO1.out.dl; omega, by have := HO1.out.sl; omega, by have := HO1.out.gl; omega⟩, HB1, HO1.out.sl⟩
      case rest =>
        obtain ⟨D2, HO2, HB2, hsk⟩ := hcut
        generalize wc = w4 at *
        clear HO1 HB1 z0 z1 z2 z3 z4
        obtain ⟨z0, z1, z2, z3, z4⟩ := HB2.out
        go_upto_if 51 with (fail)
        go_cut [7, 8] from 48 to 68 (fun s7 s8 wx => ∃ S' : List Int, Hid (On W p a m q wx D2 S' G (k + 1)) ∧ Hid (Bq wx q y))
        case first =>
          cases qd : decide (5 < y.do_ % 8) with
          | true =>
            have qd' : decide (5 < (y.do_).tmod 8) = true := by rw [hd8]; exact qd
            obtain ⟨C, R, hC, hb⟩ := HO2.out.bag
            have HC := Lib.hid hC
            have HBG := Lib.hid hb
            clear hC hb
            go_wp2_with fail
            refine (blistR_any w4 p a D2 S HBG.out).mono ?_
            rintro e w5 ⟨A1, n1, c1, rfl, hrd, hro, b5⟩
            have HRD := Lib.hid (hrd.later b5)
            have HRO := Lib.hid hro
            have HBG5 := Lib.hid (HBG.out.later b5)
            have HO5 := Lib.hid (HO2.out.later b5)
            have HB5 := Lib.hid (HB2.out.later b5)
            have HO5w := Lib.hid b5
            clear hrd hro b5
            obtain ⟨C5, hC5⟩ : ∃ C5, cut w5 C = C5 := ⟨_, rfl⟩
            obtain ⟨R5, hR5⟩ : ∃ R5, ext w5 R = R5 := ⟨_, rfl⟩
            have hbg5 := HBG5.out.cutC
            rw [hC5, hR5] at hbg5
            have HC5 : Hid (∀ g, C5 g → g < w5.heap.size ∧ C g) := Lib.hid (fun g hg => by rw [← hC5] at hg; exact hg)
            have HRO5 : Hid (0 < n1 → ∀ b o, A1 = some ⟨b, o, none⟩ → R5 b) := Lib.hid (fun hn b o e => by
              obtain ⟨b', o', e', hb', _⟩ := HRD.out.at_ hn
              rw [e] at e'; injection e' with e'; injection e' with e1 _
              rw [← hR5]; exact .inl ⟨by omega, HRO.out hn b o e⟩)
            have HBC := Lib.hid hbg5
            have HND := Lib.hid hbg5.nd
            have HUS := Lib.hid hbg5.us
            have hsl : S.length ≤ 2 * k + 2 := by have := HO5.out.sl; omega
            clear hC5 hR5 hbg5 HBG5
            go_wp2_with fail
            refine with_fact (fun W' => Below w5.heap.size w5 W' ∧ W'.cell? ⟨w5.heap.size, 0, none⟩ = some (.slice A1 n1 c1) ∧ w5.heap.size < W'.heap.size) ⟨?_, ?_, ?_⟩ ?_
            · repeat' (first | exact Below.refl _ _ | apply Below.setCell | apply Below.alloc)
              all_goals (first | exact Nat.le_refl _ | (simp; done) | (simp; omega))
            · go_simp
            · simp
            rintro ⟨b6, k6, s6⟩
            refine (Sn.all_any (.agg #[.slice A1 n1 c1]) S _ ⟨⟨A1, n1, c1, rfl, HRD.out.later b6⟩, HND.out, HUS.out⟩ (by omega)).mono ?_
            rintro e w6 ⟨A2, c2, rfl, hown, b7⟩
            have B6 := Lib.hid (b6.trans (b7.mono b6.size))
            have k7 := (b7.cell (p := ⟨w5.heap.size, 0, none⟩) s6).trans k6
            have s7 : w5.heap.size < w6.heap.size := Nat.lt_of_lt_of_le s6 b7.size
            have hag : ∀ b o, 0 < S.length → A2 = some ⟨b, o, none⟩ → w5.heap.size ≤ b := fun b o hl e => by
              subst e; have := (hown.lt b rfl).1; omega
            have HAG := Lib.hid hag
            have HALL := Lib.hid (Rd.own_rd hown)
            have HRD6 := Lib.hid (HRD.out.later B6.out)
            have HBC6 := Lib.hid (HBC.out.later B6.out)
            have HB6 := Lib.hid (HB5.out.later B6.out)
            clear hown b6 b7 k6 s6 hag HRD HBC
            obtain ⟨z0, z1, z2, z3, z4⟩ := HB6.out
            go_wp2_with fail
            refine (publish_any w6 p a D2 S y.id HBC6.out HUI.out (by omega)).mono ?_
            rintro e w7 ⟨rfl, h7, f7⟩
            have hS7 : (if (fnd D2 y.id).isSome then Sn.sWith S y.id else S).length ≤ 2 * k + 1 := by
              have h1 := Sn.sWith_len S y.id
              split <;> omega
            obtain ⟨S7, hS7e⟩ : ∃ S7, (if (fnd D2 y.id).isSome then Sn.sWith S y.id else S) = S7 := ⟨_, rfl⟩
            rw [hS7e] at h7 hS7
            have H7 := Lib.hid h7
            have HB7 := Lib.hid (HB6.out.turn (fun e => (HC.out q (HC5.out q e).2).2.2.1 rfl) f7)
            have F7 := Lib.hid f7
            have hnc : ¬ C5 w5.heap.size := fun h => by have := (HC5.out _ h).1; omega
            have k8 := (f7.cell (p := ⟨w5.heap.size, 0, none⟩) s7 hnc).trans k7
            have s8 : w5.heap.size < w7.heap.size := Nat.lt_of_lt_of_le s7 f7.size
            clear h7 f7 k7 z0 z1 z2 z3 z4
            obtain ⟨z0, z1, z2, z3, z4⟩ := HB7.out
            go_wp2_with fail
            refine (unlist_any w7 p a D2 S7 y.old H7.out HUO.out (by omega)).mono ?_
            rintro e w8 ⟨rfl, h8, f8⟩
            have hS8 : (if (fnd D2 y.old).isSome then Sn.sWithout S7 y.old else S7).length ≤ 2 * k + 1 := by
              have h1 := Sn.sWithout_len S7 y.old
              split <;> omega
            obtain ⟨S8, hS8e⟩ : ∃ S8, (if (fnd D2 y.old).isSome then Sn.sWithout S7 y.old else S7) = S8 := ⟨_, rfl⟩
            rw [hS8e] at h8 hS8
            have f8' : Fz C5 w7 w8 := f8.mono (fun g _ hg => hg.2)
            have H8 := Lib.hid h8
            have HB8 := Lib.hid (HB7.out.turn (fun e => (HC.out q (HC5.out q e).2).2.2.1 rfl) f8')
            have F8 := Lib.hid (F7.out.trans f8')
            have k9 := (f8'.cell (p := ⟨w5.heap.size, 0, none⟩) s8 hnc).trans k8
            have s9 : w5.heap.size < w8.heap.size := Nat.lt_of_lt_of_le s8 f8.size
            have HRD8 := Lib.hid (rd_ro HRD6.out HRO5.out F8.out (fun g _ => HBC6.out.cr g))
            have HALL8 : Hid (Rd (Value.int .u64) w8 w8.heap.size A2 S.length c2 S) := Lib.hid (rd_blk HALL.out F8.out.size fun hn b o e => by
              obtain ⟨b', o', e', hb', _⟩ := HALL.out.at_ hn
              rw [e] at e'; injection e' with e'; injection e' with e1 _
              exact F8.out.block b (by omega) (fun hc => by have := (HC5.out b hc).1; have := HAG.out b o hn e; omega))
            clear h8 f8 f8' k8 hS7e hS8e
            go_wp2_with fail
            refine (Sn.all_any (.agg #[.slice A1 n1 c1]) S w8 ⟨⟨A1, n1, c1, rfl, HRD8.out⟩, HND.out, HUS.out⟩ (by omega)).mono ?_
            rintro e w9 ⟨A3, c3, rfl, hown9, b9⟩
            have HALL9 := Lib.hid (HALL8.out.later b9)
            have HOWN9 := Lib.hid (Rd.own_rd hown9)
            have B9 := Lib.hid b9
            clear hown9 b9
            go_wp2_with fail
            refine (Sl.equal_any A3 A2 S.length c3 S.length c2 S S _ _ w9 HOWN9.out HALL9.out).mono ?_
            rintro e w10 ⟨rfl, qq, rfl⟩
            have ed : decide (S = S) = true := by simp
            rw [ed]
            go_wp2_with fail
            have hf : Fz C w4 (w9.drewN qq) := ((Fz.of_below HO5w.out).trans ((Fz.of_below B6.out).trans (F8.out.mono (fun g _ hg => (HC5.out g hg).2)))).trans (Fz.of_below (Rw.below_drewN B9.out qq))
            have hb10 : Below w8.heap.size w8 (w9.drewN qq) := Rw.below_drewN B9.out qq
            go_meet
            case rel => exact ⟨S8, Lib.hid (HO2.out.turn (Lw.lt_heap HB2.out.z0) HC.out (H8.out.later hb10) hf (fun g hg => .inl (HC5.out g hg.2.2).2) HO2.out.gone HO2.out.dl (by omega) (Nat.le_refl _)), Lib.hid (HB8.out.later hb10)⟩
          | false =>
            have qd' : decide (5 < (y.do_).tmod 8) = false := by rw [hd8]; exact qd
            go_wp2_with fail
            go_meet
            case rel => exact ⟨S, HO2, HB2⟩
        case rest =>
          obtain ⟨S2, HO3, HB3⟩ := hcut
          clear HO2 HB2 z0 z1 z2 z3 z4 hsk
          generalize wc = w11 at *
          obtain ⟨z0, z1, z2, z3, z4⟩ := HB3.out
          obtain ⟨C, R, hC, hb⟩ := HO3.out.bag
          have HC := Lib.hid hC
          have HBG := Lib.hid hb
          have hQ := Lw.lt_heap HB3.out.z0
          have hbu := bW_u64 w11 p a S2 hb y.id
          have HBU := Lib.hid hbu
          have hb1 := bK_first D2 y.id y.st
          have hb2 := bK_second D2 y.id y.st y.now
          obtain ⟨V, hV⟩ : ∃ V, bW D2 y.id = V := ⟨_, rfl⟩
          obtain ⟨iS, hiS⟩ : ∃ b, (fnd D2 y.id).isSome = b := ⟨_, rfl⟩
          have hl := load_any w11 p a D2 S2 y.id hb HUI.out
          rw [hV, hiS] at hl
          rw [hV] at HBU hb2
          rw [hV, hiS] at hb1
          have HL := Lib.hid hl
          have HB1' := Lib.hid hb1
          have HB2' := Lib.hid hb2
          clear hC hb hl hb1 hb2 hV hbu hiS
          go_wp2_with fail
          refine HL.out.mono ?_
          rintro e w12 ⟨rfl, rfl⟩
          go_wp2_with fail
          refine (swap_any w11 p a D2 S2 y.id HBG.out HUI.out V y.st y.now HBU.out HUN.out).mono ?_
          rintro e w12 ⟨rfl, h12, f12⟩
          rw [HB1'.out]
          obtain ⟨V1, hV1⟩ : ∃ V1, bV D2 y.id V y.st = V1 := ⟨_, rfl⟩
          rw [hV1]
          have H12 := Lib.hid h12
          have F12 := Lib.hid f12
          have HB12 := Lib.hid (HB3.out.turn (fun e => (HC.out q e).2.2.1 rfl) f12)
          clear h12 f12 hV1 z0 z1 z2 z3 z4
          obtain ⟨z0, z1, z2, z3, z4⟩ := HB12.out
          go_wp2_with fail
          refine (swap_any w12 p a (up D2 y.id (exS V y.st y.now)) S2 y.id H12.out HUI.out V y.st y.now HBU.out HUN.out).mono ?_
          rintro e w13 ⟨rfl, h13, f13⟩
          rw [HB2'.out]
          obtain ⟨V2, hV2⟩ : ∃ V2, bV (up D2 y.id (exS V y.st y.now)) y.id V y.st = V2 := ⟨_, rfl⟩
          rw [hV2]
          have HB13 := Lib.hid (HB12.out.turn (fun e => (HC.out q e).2.2.1 rfl) f13)
          have HO13 := Lib.hid (HO3.out.turn hQ HC.out h13 (F12.out.trans f13) (fun g hg => .inl hg) ((HO3.out.gone.swap y.id V y.st y.now).swap y.id V y.st y.now) (by rw [up_length, up_length]; exact HO3.out.dl) HO3.out.sl (Nat.le_refl _))
          obtain ⟨D4, hD4⟩ : ∃ D4, up (up D2 y.id (exS V y.st y.now)) y.id (exS V y.st y.now) = D4 := ⟨_, rfl⟩
          rw [hD4] at HO13
          clear h13 f13 hV2 z0 z1 z2 z3 z4 HL H12 F12 HBG hD4
          obtain ⟨z0, z1, z2, z3, z4⟩ := HB13.out
          have hU := HBU.out
          go_upto_if 112 with (fail)
          go_cut [112] from 100 to 112 (fun s112 wx => s112 = .bool false ∧ Hid (On W p a m q wx D4 S2 G (k + 1)) ∧ Hid (Bq wx q y))
          case first =>
            have hc4 : ∀ x : After w13, x.1.cell? ⟨q, 4, none⟩ = some (.int .i64 y.st) := fun x => x.cell z4
            cases iS with
            | false =>
              go_wp2_with fail
              refine region_after (by kernel_rfl) (by kernel_rfl) ?_
              repeat (go_big_quiet_step (fail))
              refine wpQuiet_nil ?_
              rintro W2 ⟨⟨_, hb2⟩, rfl⟩
              have HO14 := Lib.hid (HO13.out.later hb2)
              have HB14 := Lib.hid (HB13.out.later hb2)
              clear hb2
              go_wp2_with fail
              go_meet
              case rel => exact ⟨by simp, HO14, HB14⟩
            | true =>
              go_wp2_with fail
              refine region_after (by kernel_rfl) (by kernel_rfl) ?_
              repeat (go_big_quiet_step (first
                | (go_at_call 30; exact After.same (Wd.state_any _ _ hU.1 hU.2))
                | (go_at_call 29; exact After.same (Wd.may_any _ _ _))))
              refine wpQuiet_nil ?_
              rintro W2 ⟨⟨_, hb2⟩, rfl⟩
              have HO14 := Lib.hid (HO13.out.later hb2)
              have HB14 := Lib.hid (HB13.out.later hb2)
              clear hb2
              go_wp2_with fail
              go_meet
              case rel => exact ⟨by simp, HO14, HB14⟩
          case rest =>
            obtain ⟨rfl, HO4, HB4⟩ := hcut
            clear HO13 HB13 z0 z1 z2 z3 z4 hU HB1' HB2' HBU HO3 HB3 HB12
            generalize wc = w14 at *
            obtain ⟨z0, z1, z2, z3, z4⟩ := HB4.out
            obtain ⟨C4, R4, hC4, hb4⟩ := HO4.out.bag
            have hbu := bW_u64 w14 p a S2 hb4 y.id
            have hl := load_any w14 p a D4 S2 y.id hb4 HUI.out
            obtain ⟨V4, hV4⟩ : ∃ V, bW D4 y.id = V := ⟨_, rfl⟩
            obtain ⟨i4, hi4⟩ : ∃ b, (fnd D4 y.id).isSome = b := ⟨_, rfl⟩
            rw [hV4, hi4] at hl
            rw [hV4] at hbu
            have HL := Lib.hid hl
            have HV4 := Lib.hid hV4
            have HI4 := Lib.hid hi4
            have hbu0 := hbu.1
            have hbu1 := hbu.2
            clear hC4 hb4 hl hV4 hi4 hbu
            go_wp2_with fail
            refine HL.out.mono ?_
            rintro e w15 ⟨rfl, rfl⟩
            go_upto_region 25 with (fail)
            go_cut [125] from 120 to 125 (fun s125 wx => s125 = .bool (i4 && (V4 % 4 == 3)) ∧ w14 = wx)
            case first =>
              cases i4 with
              | false =>
                go_wp2_with fail
                go_meet
                case rel => exact ⟨by simp, rfl⟩
              | true =>
                go_wp2_with fail
                refine (Wd.state_any V4 w14 hbu0 hbu1).mono ?_
                rintro e w15 ⟨rfl, rfl⟩
                go_wp2_with fail
                go_meet
                case rel => exact ⟨by simp, rfl⟩
            case rest =>
            obtain ⟨rfl, rfl⟩ := hcut
            obtain ⟨gone, hgone⟩ : ∃ b, (i4 && (V4 % 4 == 3)) = b := ⟨_, rfl⟩
            rw [hgone]
            have HGN := Lib.hid hgone
            clear hgone
            go_upto_if 125 with (fail)
            go_cut [17, 18] from 126 to 138 (fun s17 s18 wx => ∃ G' : List (Int × Int), Hid (On W p a m q wx D4 S2 G' (k + 1)) ∧ Hid (Bq wx q y))
            case first =>
              cases gone with
              | false =>
                go_wp2_with fail
                go_meet
                case rel => exact ⟨G, HO4, HB4⟩
              | true =>
                obtain ⟨hi4t, h3⟩ : i4 = true ∧ V4 % 4 = 3 := by have := HGN.out; simpa using this
                cases hg : (fnd G y.id).isSome with
                | true =>
                  have HG := Lib.hid hg
                  clear hg hi4t h3
                  go_wp2_with (at_lookup; refine lookW _ rfl _ _ rfl m G rfl HO4.out.map y.id HUI.out rfl _ _ rfl HG.out ?_)
                  go_meet
                  case rel => exact ⟨G, HO4, HB4⟩
                | false =>
                  have HG := Lib.hid hg
                  have H3 := Lib.hid h3
                  have hgl : G.length < 4611686018427387904 := by omega
                  have hx : ∃ x, fnd D4 y.id = some x ∧ x.word = V4 := by
                    have h1 := HI4.out
                    have h2 := HV4.out
                    rw [hi4t] at h1
                    cases hf : fnd D4 y.id with
                    | none => rw [hf] at h1; cases h1
                    | some x => exact ⟨x, rfl, by rw [← h2]; unfold bW; rw [hf]; rfl⟩
                  have HX := Lib.hid hx
                  clear hg hx h3 hi4t
                  go_wp2_with (first
                    | (at_lookup; refine lookW _ rfl _ _ rfl m G rfl HO4.out.map y.id HUI.out rfl _ _ rfl HG.out ?_)
                    | (at_mapUpdate; refine put1 _ rfl _ _ _ 53 rfl 30 33 Tryz.underlying30 Tryz.underlying53 m G rfl HO4.out.map hgl y.id HUI.out rfl V4 rfl ?_; intro w16 hM16 hg16))
                  have hG16 : Gone D4 ((y.id, V4) :: wo G y.id) := by
                    obtain ⟨x, hx1, hx2⟩ := HX.out
                    rw [← hx2]
                    exact HO4.out.gone.more HUI.out hx1 (by rw [hx2]; exact H3.out)
                  have hgl' : ((y.id, V4) :: wo G y.id).length ≤ k + 1 := by
                    have := wo_le G y.id
                    simp; omega
                  go_meet
                  case rel => exact ⟨_, Lib.hid (HO4.out.mapped hg16 hM16 hG16 hgl'), Lib.hid (HB4.out.side hg16 (fun o v => HO4.out.map.no_cell o v))⟩
            case rest =>
              obtain ⟨G2, HO5, HB5⟩ := hcut
              clear HO4 HB4 z0 z1 z2 z3 z4 HL HV4 HI4 hbu0 hbu1
              generalize wc = w17 at *
              go_wp2_with (at_range; refine range1 _ rfl _ 53 rfl 30 33 Tryz.underlying30 Tryz.underlying53 m G2 rfl HO5.out.map ?_; intro w18 hrg0 hg0 hs0)
              go_frame
              obtain ⟨C, R, hC, hb⟩ := HO5.out.bag
              have hb18 : Below w17.heap.size w17 w18 := (Below.refl _ _).grown hg0 (Nat.le_refl _) (fun g hg => by cases hg)
              have HBL : Hid (Below W.heap.size W w18) := Lib.hid (HO5.out.bel.trans (hb18.mono HO5.out.bel.size))
              have HBG := Lib.hid (hb.later hb18)
              have HC := Lib.hid hC
              obtain ⟨r, hr⟩ : ∃ r, w17.heap.size = r := ⟨_, rfl⟩
              have hrw : W.heap.size ≤ r := by rw [← hr]; exact HO5.out.bel.size
              have HCr : Hid (∀ g, C g → g < r) := Lib.hid (fun g hg => by rw [← hr]; exact (hC g hg).2.2.2)
              rw [hr] at hrg0 ⊢
              have HGO := Lib.hid HO5.out.gone
              have HDL := Lib.hid HO5.out.dl
              have HSL := Lib.hid HO5.out.sl
              have HGL := Lib.hid HO5.out.gl
              have HML := Lib.hid HO5.out.ml
              clear hg0 hb18 hC hb hs0 hr
              go_loopw [] (fun wx => ∃ left : List (Int × Int), Rg Tryz.prog 30 eW wx m r G2 left ∧ Hid (Below W.heap.size W wx) ∧ Hid (Bx C R wx p a D4 S2)) (fun wx => wx.rangeLeft m r)
              case atStart => exact ⟨G2, hrg0, HBL, HBG⟩
              case round =>
                clear hrg0 HBL HBG
                obtain ⟨left, hrg, HBL, HBG⟩ := hrel
                go_wp2_with (at_next; refine nextW _ rfl _ rfl m r G2 left rfl hrg ?_ ?_)
                · intro hl0
                  have HM := Lib.hid hrg.mo
                  have hrl := hrg.lt.1
                  clear hrg
                  go_wp2_with fail
                  go_roundw
                  case rel =>
                    refine ⟨k + 1, D4, S2, G2, by go_num, by omega, Lib.hid ⟨⟨C, R, fun g hg => ⟨(HC.out g hg).1, (HC.out g hg).2.1, (HC.out g hg).2.1, ?_⟩, HBG.out⟩, HM.out, HGO.out, HBL.out, HML.out, HDL.out, HSL.out, HGL.out⟩⟩
                    have := HCr.out g hg
                    omega
                  case measure => simp [intOf]; omega
                · intro y1 x1 w19 hmem hy0 hy1 hrg1 hlt1 hg1 hs1 hen
                  have hnc := fun o v => rg_no_cell hrg o v
                  have HB19 := Lib.hid (HBG.out.side hg1 hnc (fun e => by have := HCr.out r e; omega))
                  have HBL19 := Lib.hid (HBL.out.grown hg1 HBL.out.size (fun j hj => by injection hj with hj; omega))
                  have HWG := Lib.hid (bW_gone HGO.out (hrg.sub _ hmem))
                  have HLT := Lib.hid hlt1
                  have HY1 : Hid (U64 y1) := Lib.hid ⟨hy0, hy1⟩
                  clear hrg hg1 hnc hmem hlt1 HBG HBL
                  go_wp2_with fail
                  refine (load_any w19 p a D4 S2 y1 HB19.out HY1.out).mono ?_
                  rintro e w20 ⟨rfl, rfl⟩
                  rw [HWG.out]
                  go_wp2_with fail
                  go_roundw
                  case rel => exact ⟨_, hrg1, HBL19, HB19⟩
                  case measure => exact HLT.out
    · have hkn' : ¬ (k : Int) < (n : Int) := by omega
      go_wp2_with fail
      go_ret
      exact ⟨rfl, HO.out.bel⟩
end Go.Proofs.YtnclbnbjmgbonaaGreatDoor.Ba
