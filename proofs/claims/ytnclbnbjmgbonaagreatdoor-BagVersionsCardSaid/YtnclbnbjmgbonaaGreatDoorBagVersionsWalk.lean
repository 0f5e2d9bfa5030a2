/- BagVersions: the walk. -/
import Derived.Test.YtnclbnbjmgbonaaGreatDoorBagOpen
import Derived.Test.YtnclbnbjmgbonaaGreatDoorAwake15
namespace Go.Proofs.YtnclbnbjmgbonaaGreatDoor.Ba
open Go Go.ChangeShapes Go.WideShapes Go.ChangeAt Go.RowKit Go.Maps Rw Hi Mt
set_option linter.unusedVariables false

theorem take_mem {xs : List Ax} {k : Nat} {x : Ax} (h : xs[k]? = some x) (hok : ∀ x ∈ xs, x.ok) : x.ok := hok x (List.mem_of_getElem? h)
set_option maxRecDepth 100000 in
theorem versions_long (A : Option Addr) (n c : Nat) (id : Int) (W : World) (hT : Tb.Tabs W) (hc : n ≤ 9223372036854775807) (hn : 80 < n) :
    Calls Tryz.prog 6 #[.slice A n c, .int .u64 id] W fun e w' => e = .returned (.bool true) ∧ Below W.heap.size W w' := by
  have HT := Lib.hid hT
  have q1 : decide ((80 : Int) < (n : Int)) = true := decide_eq_true (by omega)
  clear hT
  go_enter Tryz.func6, Tryz.ntmps6
  go_wp2_with fail
  refine (awake15_any _ HT.out).mono ?_
  rintro e w1 ⟨rfl, b1⟩
  have B1 := Lib.hid b1
  clear b1
  go_wp2_with fail
  refine (bnew_any w1).mono ?_
  rintro e w2 ⟨rfl, h2, b2⟩
  have B2 := Lib.hid (B1.out.trans (b2.mono B1.out.size))
  clear b2 h2
  go_wp2_with fail
  go_ret
  exact ⟨rfl, B2.out⟩
set_option maxRecDepth 100000 in
theorem versions_zero (A : Option Addr) (n c : Nat) (W : World) (hT : Tb.Tabs W) (hn : n ≤ 80) :
    Calls Tryz.prog 6 #[.slice A n c, .int .u64 0] W fun e w' => e = .returned (.bool true) ∧ Below W.heap.size W w' := by
  have HT := Lib.hid hT
  have q1 : decide ((80 : Int) < (n : Int)) = false := decide_eq_false (by omega)
  clear hT
  go_enter Tryz.func6, Tryz.ntmps6
  go_wp2_with fail
  refine (awake15_any _ HT.out).mono ?_
  rintro e w1 ⟨rfl, b1⟩
  have B1 := Lib.hid b1
  clear b1
  go_wp2_with fail
  refine (bnew_any w1).mono ?_
  rintro e w2 ⟨rfl, h2, b2⟩
  have B2 := Lib.hid (B1.out.trans (b2.mono B1.out.size))
  clear b2 h2
  go_wp2_with fail
  go_ret
  exact ⟨rfl, B2.out⟩
theorem swap_version (x : Ex) (o t : Int) (m : Nat) (hm : m ≤ 80) (h : x.word / 4 = m) : Wd.wSwap x.word o t / 4 = if Wd.wSwapOk x.word o t then (m : Int) + 1 else m := by
  unfold Wd.wSwap Wd.wSwapOk
  by_cases h1 : x.word = o
  · subst h1
    cases h2 : Wd.wMay (x.word % 4) t with
    | true =>
      rw [if_pos ⟨rfl, rfl⟩, Wd.wTo_yes h2, Wd.wOf_version, h]
      simp
      omega
    | false => simp [h]
  · simp [h1, h]
set_option maxRecDepth 100000 in
set_option maxHeartbeats 4000000 in
theorem versions_any (A : Option Addr) (n c : Nat) (xs : List Ax) (id : Int) (W : World) (hT : Tb.Tabs W) (hid : U64 id) (hne : id ≠ 0) (hr : Rs encA 5 W W.heap.size A n c xs) (hok : ∀ x ∈ xs, x.ok) (hn : n ≤ 80) :
    Calls Tryz.prog 6 #[.slice A n c, .int .u64 id] W fun e w' => e = .returned (.bool true) ∧ Below W.heap.size W w' := by
  have HT := Lib.hid hT
  have HR := Lib.hid hr
  have HOK := Lib.hid hok
  have HI := Lib.hid hid
  have q1 : decide ((80 : Int) < (n : Int)) = false := decide_eq_false (by omega)
  have q2 : (id == 0) = false := by simpa using hne
  have HNE := Lib.hid hne
  clear hT hr hok hid hne
  go_enter Tryz.func6, Tryz.ntmps6
  go_wp2_with fail
  refine (awake15_any _ HT.out).mono ?_
  rintro e w1 ⟨rfl, b1⟩
  have B1 := Lib.hid b1
  clear b1
  go_wp2_with fail
  refine (bnew_any w1).mono ?_
  rintro e w2 ⟨rfl, h2, b2⟩
  have B2 := Lib.hid (B1.out.trans (b2.mono B1.out.size))
  have H2 := Lib.hid h2
  obtain ⟨p, hp⟩ : ∃ p, w1.heap.size + 1 = p := ⟨_, rfl⟩
  obtain ⟨a, ha⟩ : ∃ a, w1.heap.size = a := ⟨_, rfl⟩
  rw [hp, ha] at H2
  rw [hp]
  clear b2 h2 hp ha
  go_wp2_with fail
  refine (enter_any w2 p a _ _ id H2.out HI.out 0 0 (by decide) (by decide)).mono ?_
  rintro e w3 ⟨rfl, h3, z3⟩
  have e1 : eE ([] : List (Int × Ex)) id 0 = 0 := by unfold eE; rw [if_neg (by have := HNE.out; omega)]; rfl
  have e2 : ins ([] : List (Int × Ex)) id ⟨Wd.wOf 0 0, 0, 0, 0⟩ = [(id, ⟨0, 0, 0, 0⟩)] := rfl
  rw [e1, if_pos rfl, e2] at h3
  rw [e1]
  have H3 := Lib.hid h3
  have B3 := Lib.hid (B2.out.trans (z3.below B2.out.size (fun k h => Nat.le_trans B1.out.size h)))
  have hC3 : ∀ g, ext w2 (fresh w1) g → W.heap.size ≤ g := fun g hg => by
    rcases hg with hg | hg
    · exact Nat.le_trans B1.out.size hg.2
    · exact Nat.le_trans B2.out.size hg
  clear h3 z3 e1 e2 H2
  go_wp2_with fail
  go_loopw [6, 7, 41] (fun s6 s7 i wr => ∃ (k m : Nat) (x : Ex), i = .int .i64 k ∧ k ≤ n ∧ m ≤ k ∧ s6 = .int .u64 m ∧ s7 = .int .u64 x.since ∧ Hid (x.born = 0) ∧ Hid (x.word / 4 = m) ∧ Hid (∃ C R : Nat → Prop, (∀ g, C g → W.heap.size ≤ g) ∧ Bx C R wr p a [(id, x)] []) ∧ Hid (Below W.heap.size W wr)) (fun _ _ i _ => n - (intOf i).toNat)
  case atStart => exact ⟨0, 0, ⟨0, 0, 0, 0⟩, rfl, Nat.zero_le _, Nat.le_refl _, rfl, rfl, Lib.hid rfl, Lib.hid rfl, Lib.hid ⟨_, _, fun g hg => hC3 g hg, H3.out⟩, B3⟩
  case round =>
    obtain ⟨k, m, x, rfl, hk, hm, rfl, rfl, hb0, hv, H4, B4⟩ := hrel
    by_cases hkn : k < n
    · obtain ⟨b, o, y, rfl, hb, hy, c0, c1, c2, c3, c4⟩ := actA_at HR.out hkn
      have hyo := take_mem hy HOK.out
      obtain ⟨yd, yi, yo, yn, ys⟩ := y
      obtain ⟨hd, hi, ho, hnw, hs⟩ := hyo
      simp only at c0 c1 c2 c3 c4 hd hi ho hnw hs
      have d0 := (B4.out.cell (p := ⟨b, o + k * 5, none⟩) hb).trans c0
      have d1 := (B4.out.cell (p := ⟨b, o + k * 5 + 1, none⟩) hb).trans c1
      have d2 := (B4.out.cell (p := ⟨b, o + k * 5 + 2, none⟩) hb).trans c2
      have d3 := (B4.out.cell (p := ⟨b, o + k * 5 + 3, none⟩) hb).trans c3
      have d4 := (B4.out.cell (p := ⟨b, o + k * 5 + 4, none⟩) hb).trans c4
      have hkc : k < c := by have := HR.out.cap; omega
      have hf : fnd [(id, x)] id = some x := by simp [fnd]
      obtain ⟨C0, R0, hC0, h4⟩ := H4.out
      replace H4 := Lib.hid h4
      have HC0 := Lib.hid hC0
      clear h4 hC0
      have HU := Lib.hid (H4.out.ui (id, x) (List.mem_singleton.2 rfl))
      have hbw : bW [(id, x)] id = x.word := by unfold bW; rw [hf]; rfl
      have his : (fnd [(id, x)] id).isSome = true := by rw [hf]; rfl
      have HOO := Lib.hid ho
      have HNW := Lib.hid hnw
      have HF := Lib.hid hf
      have HBW := Lib.hid hbw
      have HIS := Lib.hid his
      have HDD := Lib.hid hd
      have B5 := Lib.hid (B4.out.alloc B4.out.size (.cells #[.int .u8 yd, .int .u64 yi, .int .u64 yo, .int .u64 yn, .int .i64 ys] 32))
      have H5 := Lib.hid ((H4.out.mono (E := fun g => C0 g ∧ g ≠ wr.heap.size) (T := R0) (fun g hg hc => ⟨hc, by omega⟩) (fun g _ h => h) (fun g hg => H4.out.cr g hg.1)).later ((Below.refl _ _).alloc (Nat.le_refl _) (.cells #[.int .u8 yd, .int .u64 yi, .int .u64 yo, .int .u64 yn, .int .i64 ys] 32)))
      have hl : W.heap.size ≤ wr.heap.size := B4.out.size
      clear c0 c1 c2 c3 c4 hb hy hi ho hnw hs hf hbw his hd H4 B4
      go_upto_region 10 with (fail)
      have z0 : (wr.alloc (.cells #[.int .u8 yd, .int .u64 yi, .int .u64 yo, .int .u64 yn, .int .i64 ys] 32)).cell? ⟨wr.heap.size, 0, none⟩ = some (.int .u8 yd) := by go_simp
      have z2 : (wr.alloc (.cells #[.int .u8 yd, .int .u64 yi, .int .u64 yo, .int .u64 yn, .int .i64 ys] 32)).cell? ⟨wr.heap.size, 2, none⟩ = some (.int .u64 yo) := by go_simp
      have z3 : (wr.alloc (.cells #[.int .u8 yd, .int .u64 yi, .int .u64 yo, .int .u64 yn, .int .i64 ys] 32)).cell? ⟨wr.heap.size, 3, none⟩ = some (.int .u64 yn) := by go_simp
      have z4 : (wr.alloc (.cells #[.int .u8 yd, .int .u64 yi, .int .u64 yo, .int .u64 yn, .int .i64 ys] 32)).cell? ⟨wr.heap.size, 4, none⟩ = some (.int .i64 ys) := by go_simp
      have hqz : wr.heap.size < (wr.alloc (.cells #[.int .u8 yd, .int .u64 yi, .int .u64 yo, .int .u64 yn, .int .i64 ys] 32)).heap.size := by simp
      obtain ⟨wz, hwz⟩ : ∃ wz, (wr.alloc (.cells #[.int .u8 yd, .int .u64 yi, .int .u64 yo, .int .u64 yn, .int .i64 ys] 32)) = wz := ⟨_, rfl⟩
      rw [hwz] at B5 H5 z0 z2 z3 z4 hqz ⊢
      obtain ⟨q, hq⟩ : ∃ q, wr.heap.size = q := ⟨_, rfl⟩
      rw [hq] at z0 z2 z3 z4 hl H5 hqz ⊢
      clear hwz hq d0 d1 d2 d3 d4
      have KZ : ∀ w7, Fz (fun g => C0 g ∧ g ≠ q) wz w7 → w7.cell? ⟨q, 3, none⟩ = some (.int .u64 yn) ∧ w7.cell? ⟨q, 4, none⟩ = some (.int .i64 ys) := fun w7 z7 =>
        ⟨(z7.cell (p := ⟨q, 3, none⟩) hqz (fun e => e.2 rfl)).trans z3, (z7.cell (p := ⟨q, 4, none⟩) hqz (fun e => e.2 rfl)).trans z4⟩
      cases qd : (yd.tmod 3 == 0) with
      | true =>
        have qd' : (yd % 3 == 0) = true := by rw [← Int.tmod_eq_emod_of_nonneg HDD.out.1]; exact qd
        go_wp2_with fail
        refine (load_any wz p a _ _ id H5.out HI.out).mono ?_
        rintro e w6 ⟨rfl, rfl⟩
        rw [HBW.out, HIS.out]
        go_wp2_with fail
        refine (swap_any wz p a _ _ id H5.out HI.out yo ys yn HOO.out HNW.out).mono ?_
        rintro e w7 ⟨rfl, h7, z7⟩
        have hbv : bV [(id, x)] id yo ys = Wd.wSwap x.word yo ys := by unfold bV; rw [HF.out]
        have hbk : bK [(id, x)] id yo ys = Wd.wSwapOk x.word yo ys := by unfold bK; rw [HF.out]
        rw [hbv, hbk]
        clear hbv hbk
        cases hk2 : Wd.wSwapOk x.word yo ys with
        | true =>
          by_cases h0 : ys = 0
          · have q0 : (ys == 0) = true := by simpa using h0
            obtain ⟨x', hx'⟩ : ∃ x', exS yo ys yn x = x' := ⟨_, rfl⟩
            have hD : up [(id, x)] id (exS yo ys yn) = [(id, x')] := by rw [← hx']; simp [up]
            rw [hD] at h7
            have HB0 : Hid (x'.born = 0) := Lib.hid (by rw [← hx']; exact hb0.out)
            have HV7 : Hid (x'.word / 4 = ((m + 1 : Nat) : Int)) := Lib.hid (by
              have h9 := swap_version x yo ys m (by omega) hv.out
              rw [hk2] at h9
              rw [← hx']
              simpa [exS] using h9)
            have HS7 : Hid (x'.since = yn) := Lib.hid (by rw [← hx']; exact if_pos ⟨hk2, h0⟩)
            have hf7 : fnd [(id, x')] id = some x' := by simp [fnd]
            have HBE : Hid (bE [(id, x')] id = .agg #[.int .u64 id, .int .u64 x'.word, .int .u64 0, .int .u64 (yn), .int .u64 x'.proved]) := Lib.hid (by unfold bE; rw [hf7]; simp only; rw [HB0.out, HS7.out])
            have HIS7 : Hid ((fnd [(id, x')] id).isSome = true) := Lib.hid (by rw [hf7]; rfl)
            have H7 := Lib.hid h7
            have HU7 := Lib.hid (h7.ui (id, x') (List.mem_singleton.2 rfl)).2.1
            have HB7 := Lib.hid (B5.out.trans (z7.below B5.out.size (fun g hg => HC0.out g hg.1)))
            have hm1 : IntKind.u64.wrap ((m : Int) + 1) = (m : Int) + 1 := by rw [IntKind.wrap_u64]; omega
            clear hx' hD h7 hf7
            obtain ⟨z3, z4⟩ : w7.cell? ⟨q, 3, none⟩ = some (.int .u64 yn) ∧ w7.cell? ⟨q, 4, none⟩ = some (.int .i64 ys) := KZ _ z7
            go_wp2_with fail
            refine (entry_any w7 p a _ _ id H7.out HI.out).mono ?_
            rintro e w8 ⟨rfl, h8⟩
            rw [HBE.out, HIS7.out]
            have HB8 := Lib.hid (HB7.out.trans (h8.mono HB7.out.size))
            have H8 := Lib.hid (H7.out.later h8)
            have h8s := HB8.out.size
            clear h8 z4 z3
            go_wp2_with fail
            refine (Wd.version_any _ _ HU7.out.1 HU7.out.2).mono ?_
            rintro e w9 ⟨rfl, rfl⟩
            rw [HV7.out]
            go_wp2_with fail
            go_roundw
            case rel =>
              refine ⟨k + 1, m + 1, x', by go_num, by omega, by omega, by go_num, by rw [HS7.out], HB0, HV7, ?_, ?_⟩
              · refine Lib.hid ⟨_, _, fun g hg => HC0.out g hg.1, H8.out.later ?_⟩
                repeat' (first | exact Below.refl _ _ | apply Below.setCell | apply Below.alloc)
                all_goals (first | exact Nat.le_refl _ | (simp; done) | (simp; omega))
              · refine Lib.hid (HB8.out.trans (Below.mono ?_ HB8.out.size))
                repeat' (first | exact Below.refl _ _ | apply Below.setCell | apply Below.alloc)
                all_goals (first | exact Nat.le_refl _ | (simp; done) | (simp; omega))
            case measure => simp [intOf]; omega

          · have q0 : (ys == 0) = false := by simpa using h0
            obtain ⟨x', hx'⟩ : ∃ x', exS yo ys yn x = x' := ⟨_, rfl⟩
            have hD : up [(id, x)] id (exS yo ys yn) = [(id, x')] := by rw [← hx']; simp [up]
            rw [hD] at h7
            have HB0 : Hid (x'.born = 0) := Lib.hid (by rw [← hx']; exact hb0.out)
            have HV7 : Hid (x'.word / 4 = ((m + 1 : Nat) : Int)) := Lib.hid (by
              have h9 := swap_version x yo ys m (by omega) hv.out
              rw [hk2] at h9
              rw [← hx']
              simpa [exS] using h9)
            have HS7 : Hid (x'.since = x.since) := Lib.hid (by rw [← hx']; exact if_neg (fun e => h0 e.2))
            have hf7 : fnd [(id, x')] id = some x' := by simp [fnd]
            have HBE : Hid (bE [(id, x')] id = .agg #[.int .u64 id, .int .u64 x'.word, .int .u64 0, .int .u64 (x.since), .int .u64 x'.proved]) := Lib.hid (by unfold bE; rw [hf7]; simp only; rw [HB0.out, HS7.out])
            have HIS7 : Hid ((fnd [(id, x')] id).isSome = true) := Lib.hid (by rw [hf7]; rfl)
            have H7 := Lib.hid h7
            have HU7 := Lib.hid (h7.ui (id, x') (List.mem_singleton.2 rfl)).2.1
            have HB7 := Lib.hid (B5.out.trans (z7.below B5.out.size (fun g hg => HC0.out g hg.1)))
            have hm1 : IntKind.u64.wrap ((m : Int) + 1) = (m : Int) + 1 := by rw [IntKind.wrap_u64]; omega
            clear hx' hD h7 hf7
            obtain ⟨z3, z4⟩ : w7.cell? ⟨q, 3, none⟩ = some (.int .u64 yn) ∧ w7.cell? ⟨q, 4, none⟩ = some (.int .i64 ys) := KZ _ z7
            go_wp2_with fail
            refine (entry_any w7 p a _ _ id H7.out HI.out).mono ?_
            rintro e w8 ⟨rfl, h8⟩
            rw [HBE.out, HIS7.out]
            have HB8 := Lib.hid (HB7.out.trans (h8.mono HB7.out.size))
            have H8 := Lib.hid (H7.out.later h8)
            have h8s := HB8.out.size
            clear h8 z4 z3
            go_wp2_with fail
            refine (Wd.version_any _ _ HU7.out.1 HU7.out.2).mono ?_
            rintro e w9 ⟨rfl, rfl⟩
            rw [HV7.out]
            go_wp2_with fail
            go_roundw
            case rel =>
              refine ⟨k + 1, m + 1, x', by go_num, by omega, by omega, by go_num, by rw [HS7.out], HB0, HV7, ?_, ?_⟩
              · refine Lib.hid ⟨_, _, fun g hg => HC0.out g hg.1, H8.out.later ?_⟩
                repeat' (first | exact Below.refl _ _ | apply Below.setCell | apply Below.alloc)
                all_goals (first | exact Nat.le_refl _ | (simp; done) | (simp; omega))
              · refine Lib.hid (HB8.out.trans (Below.mono ?_ HB8.out.size))
                repeat' (first | exact Below.refl _ _ | apply Below.setCell | apply Below.alloc)
                all_goals (first | exact Nat.le_refl _ | (simp; done) | (simp; omega))
            case measure => simp [intOf]; omega

        | false =>
          obtain ⟨x', hx'⟩ : ∃ x', exS yo ys yn x = x' := ⟨_, rfl⟩
          have hD : up [(id, x)] id (exS yo ys yn) = [(id, x')] := by rw [← hx']; simp [up]
          rw [hD] at h7
          have HB0 : Hid (x'.born = 0) := Lib.hid (by rw [← hx']; exact hb0.out)
          have HV7 : Hid (x'.word / 4 = ((m : Nat) : Int)) := Lib.hid (by
            have h9 := swap_version x yo ys m (by omega) hv.out
            rw [hk2] at h9
            rw [← hx']
            simpa [exS] using h9)
          have HS7 : Hid (x'.since = x.since) := Lib.hid (by rw [← hx']; exact if_neg (fun e => by rw [hk2] at e; cases e.1))
          have hf7 : fnd [(id, x')] id = some x' := by simp [fnd]
          have HBE : Hid (bE [(id, x')] id = .agg #[.int .u64 id, .int .u64 x'.word, .int .u64 0, .int .u64 (x.since), .int .u64 x'.proved]) := Lib.hid (by unfold bE; rw [hf7]; simp only; rw [HB0.out, HS7.out])
          have HIS7 : Hid ((fnd [(id, x')] id).isSome = true) := Lib.hid (by rw [hf7]; rfl)
          have H7 := Lib.hid h7
          have HU7 := Lib.hid (h7.ui (id, x') (List.mem_singleton.2 rfl)).2.1
          have HB7 := Lib.hid (B5.out.trans (z7.below B5.out.size (fun g hg => HC0.out g hg.1)))
          have hm1 : IntKind.u64.wrap ((m : Int) + 1) = (m : Int) + 1 := by rw [IntKind.wrap_u64]; omega
          clear hx' hD h7 hf7
          obtain ⟨z3, z4⟩ : w7.cell? ⟨q, 3, none⟩ = some (.int .u64 yn) ∧ w7.cell? ⟨q, 4, none⟩ = some (.int .i64 ys) := KZ _ z7
          go_wp2_with fail
          refine (entry_any w7 p a _ _ id H7.out HI.out).mono ?_
          rintro e w8 ⟨rfl, h8⟩
          rw [HBE.out, HIS7.out]
          have HB8 := Lib.hid (HB7.out.trans (h8.mono HB7.out.size))
          have H8 := Lib.hid (H7.out.later h8)
          have h8s := HB8.out.size
          clear h8 z4 z3
          go_wp2_with fail
          refine (Wd.version_any _ _ HU7.out.1 HU7.out.2).mono ?_
          rintro e w9 ⟨rfl, rfl⟩
          rw [HV7.out]
          go_wp2_with fail
          go_roundw
          case rel =>
            refine ⟨k + 1, m, x', by go_num, by omega, by omega, by go_num, by rw [HS7.out], HB0, HV7, ?_, ?_⟩
            · refine Lib.hid ⟨_, _, fun g hg => HC0.out g hg.1, H8.out.later ?_⟩
              repeat' (first | exact Below.refl _ _ | apply Below.setCell | apply Below.alloc)
              all_goals (first | exact Nat.le_refl _ | (simp; done) | (simp; omega))
            · refine Lib.hid (HB8.out.trans (Below.mono ?_ HB8.out.size))
              repeat' (first | exact Below.refl _ _ | apply Below.setCell | apply Below.alloc)
              all_goals (first | exact Nat.le_refl _ | (simp; done) | (simp; omega))
          case measure => simp [intOf]; omega
      | false =>
        have qd' : (yd % 3 == 0) = false := by rw [← Int.tmod_eq_emod_of_nonneg HDD.out.1]; exact qd
        go_wp2_with fail
        refine (load_any wz p a _ _ id H5.out HI.out).mono ?_
        rintro e w6 ⟨rfl, rfl⟩
        rw [HBW.out, HIS.out]
        go_wp2_with fail
        refine (swap_any wz p a _ _ id H5.out HI.out x.word ys yn HU.out.2.1 HNW.out).mono ?_
        rintro e w7 ⟨rfl, h7, z7⟩
        have hbv : bV [(id, x)] id x.word ys = Wd.wSwap x.word x.word ys := by unfold bV; rw [HF.out]
        have hbk : bK [(id, x)] id x.word ys = Wd.wSwapOk x.word x.word ys := by unfold bK; rw [HF.out]
        rw [hbv, hbk]
        clear hbv hbk
        cases hk2 : Wd.wSwapOk x.word x.word ys with
        | true =>
          by_cases h0 : ys = 0
          · have q0 : (ys == 0) = true := by simpa using h0
            obtain ⟨x', hx'⟩ : ∃ x', exS x.word ys yn x = x' := ⟨_, rfl⟩
            have hD : up [(id, x)] id (exS x.word ys yn) = [(id, x')] := by rw [← hx']; simp [up]
            rw [hD] at h7
            have HB0 : Hid (x'.born = 0) := Lib.hid (by rw [← hx']; exact hb0.out)
            have HV7 : Hid (x'.word / 4 = ((m + 1 : Nat) : Int)) := Lib.hid (by
              have h9 := swap_version x x.word ys m (by omega) hv.out
              rw [hk2] at h9
              rw [← hx']
              simpa [exS] using h9)
            have HS7 : Hid (x'.since = yn) := Lib.hid (by rw [← hx']; exact if_pos ⟨hk2, h0⟩)
            have hf7 : fnd [(id, x')] id = some x' := by simp [fnd]
            have HBE : Hid (bE [(id, x')] id = .agg #[.int .u64 id, .int .u64 x'.word, .int .u64 0, .int .u64 (yn), .int .u64 x'.proved]) := Lib.hid (by unfold bE; rw [hf7]; simp only; rw [HB0.out, HS7.out])
            have HIS7 : Hid ((fnd [(id, x')] id).isSome = true) := Lib.hid (by rw [hf7]; rfl)
            have H7 := Lib.hid h7
            have HU7 := Lib.hid (h7.ui (id, x') (List.mem_singleton.2 rfl)).2.1
            have HB7 := Lib.hid (B5.out.trans (z7.below B5.out.size (fun g hg => HC0.out g hg.1)))
            have hm1 : IntKind.u64.wrap ((m : Int) + 1) = (m : Int) + 1 := by rw [IntKind.wrap_u64]; omega
            clear hx' hD h7 hf7
            obtain ⟨z3, z4⟩ : w7.cell? ⟨q, 3, none⟩ = some (.int .u64 yn) ∧ w7.cell? ⟨q, 4, none⟩ = some (.int .i64 ys) := KZ _ z7
            go_wp2_with fail
            refine (entry_any w7 p a _ _ id H7.out HI.out).mono ?_
            rintro e w8 ⟨rfl, h8⟩
            rw [HBE.out, HIS7.out]
            have HB8 := Lib.hid (HB7.out.trans (h8.mono HB7.out.size))
            have H8 := Lib.hid (H7.out.later h8)
            have h8s := HB8.out.size
            clear h8 z4 z3
            go_wp2_with fail
            refine (Wd.version_any _ _ HU7.out.1 HU7.out.2).mono ?_
            rintro e w9 ⟨rfl, rfl⟩
            rw [HV7.out]
            go_wp2_with fail
            go_roundw
            case rel =>
              refine ⟨k + 1, m + 1, x', by go_num, by omega, by omega, by go_num, by rw [HS7.out], HB0, HV7, ?_, ?_⟩
              · refine Lib.hid ⟨_, _, fun g hg => HC0.out g hg.1, H8.out.later ?_⟩
                repeat' (first | exact Below.refl _ _ | apply Below.setCell | apply Below.alloc)
                all_goals (first | exact Nat.le_refl _ | (simp; done) | (simp; omega))
              · refine Lib.hid (HB8.out.trans (Below.mono ?_ HB8.out.size))
                repeat' (first | exact Below.refl _ _ | apply Below.setCell | apply Below.alloc)
                all_goals (first | exact Nat.le_refl _ | (simp; done) | (simp; omega))
            case measure => simp [intOf]; omega

          · have q0 : (ys == 0) = false := by simpa using h0
            obtain ⟨x', hx'⟩ : ∃ x', exS x.word ys yn x = x' := ⟨_, rfl⟩
            have hD : up [(id, x)] id (exS x.word ys yn) = [(id, x')] := by rw [← hx']; simp [up]
            rw [hD] at h7
            have HB0 : Hid (x'.born = 0) := Lib.hid (by rw [← hx']; exact hb0.out)
            have HV7 : Hid (x'.word / 4 = ((m + 1 : Nat) : Int)) := Lib.hid (by
              have h9 := swap_version x x.word ys m (by omega) hv.out
              rw [hk2] at h9
              rw [← hx']
              simpa [exS] using h9)
            have HS7 : Hid (x'.since = x.since) := Lib.hid (by rw [← hx']; exact if_neg (fun e => h0 e.2))
            have hf7 : fnd [(id, x')] id = some x' := by simp [fnd]
            have HBE : Hid (bE [(id, x')] id = .agg #[.int .u64 id, .int .u64 x'.word, .int .u64 0, .int .u64 (x.since), .int .u64 x'.proved]) := Lib.hid (by unfold bE; rw [hf7]; simp only; rw [HB0.out, HS7.out])
            have HIS7 : Hid ((fnd [(id, x')] id).isSome = true) := Lib.hid (by rw [hf7]; rfl)
            have H7 := Lib.hid h7
            have HU7 := Lib.hid (h7.ui (id, x') (List.mem_singleton.2 rfl)).2.1
            have HB7 := Lib.hid (B5.out.trans (z7.below B5.out.size (fun g hg => HC0.out g hg.1)))
            have hm1 : IntKind.u64.wrap ((m : Int) + 1) = (m : Int) + 1 := by rw [IntKind.wrap_u64]; omega
            clear hx' hD h7 hf7
            obtain ⟨z3, z4⟩ : w7.cell? ⟨q, 3, none⟩ = some (.int .u64 yn) ∧ w7.cell? ⟨q, 4, none⟩ = some (.int .i64 ys) := KZ _ z7
            go_wp2_with fail
            refine (entry_any w7 p a _ _ id H7.out HI.out).mono ?_
            rintro e w8 ⟨rfl, h8⟩
            rw [HBE.out, HIS7.out]
            have HB8 := Lib.hid (HB7.out.trans (h8.mono HB7.out.size))
            have H8 := Lib.hid (H7.out.later h8)
            have h8s := HB8.out.size
            clear h8 z4 z3
            go_wp2_with fail
            refine (Wd.version_any _ _ HU7.out.1 HU7.out.2).mono ?_
            rintro e w9 ⟨rfl, rfl⟩
            rw [HV7.out]
            go_wp2_with fail
            go_roundw
            case rel =>
              refine ⟨k + 1, m + 1, x', by go_num, by omega, by omega, by go_num, by rw [HS7.out], HB0, HV7, ?_, ?_⟩
              · refine Lib.hid ⟨_, _, fun g hg => HC0.out g hg.1, H8.out.later ?_⟩
                repeat' (first | exact Below.refl _ _ | apply Below.setCell | apply Below.alloc)
                all_goals (first | exact Nat.le_refl _ | (simp; done) | (simp; omega))
              · refine Lib.hid (HB8.out.trans (Below.mono ?_ HB8.out.size))
                repeat' (first | exact Below.refl _ _ | apply Below.setCell | apply Below.alloc)
                all_goals (first | exact Nat.le_refl _ | (simp; done) | (simp; omega))
            case measure => simp [intOf]; omega

        | false =>
          obtain ⟨x', hx'⟩ : ∃ x', exS x.word ys yn x = x' := ⟨_, rfl⟩
          have hD : up [(id, x)] id (exS x.word ys yn) = [(id, x')] := by rw [← hx']; simp [up]
          rw [hD] at h7
          have HB0 : Hid (x'.born = 0) := Lib.hid (by rw [← hx']; exact hb0.out)
          have HV7 : Hid (x'.word / 4 = ((m : Nat) : Int)) := Lib.hid (by
            have h9 := swap_version x x.word ys m (by omega) hv.out
            rw [hk2] at h9
            rw [← hx']
            simpa [exS] using h9)
          have HS7 : Hid (x'.since = x.since) := Lib.hid (by rw [← hx']; exact if_neg (fun e => by rw [hk2] at e; cases e.1))
          have hf7 : fnd [(id, x')] id = some x' := by simp [fnd]
          have HBE : Hid (bE [(id, x')] id = .agg #[.int .u64 id, .int .u64 x'.word, .int .u64 0, .int .u64 (x.since), .int .u64 x'.proved]) := Lib.hid (by unfold bE; rw [hf7]; simp only; rw [HB0.out, HS7.out])
          have HIS7 : Hid ((fnd [(id, x')] id).isSome = true) := Lib.hid (by rw [hf7]; rfl)
          have H7 := Lib.hid h7
          have HU7 := Lib.hid (h7.ui (id, x') (List.mem_singleton.2 rfl)).2.1
          have HB7 := Lib.hid (B5.out.trans (z7.below B5.out.size (fun g hg => HC0.out g hg.1)))
          have hm1 : IntKind.u64.wrap ((m : Int) + 1) = (m : Int) + 1 := by rw [IntKind.wrap_u64]; omega
          clear hx' hD h7 hf7
          obtain ⟨z3, z4⟩ : w7.cell? ⟨q, 3, none⟩ = some (.int .u64 yn) ∧ w7.cell? ⟨q, 4, none⟩ = some (.int .i64 ys) := KZ _ z7
          go_wp2_with fail
          refine (entry_any w7 p a _ _ id H7.out HI.out).mono ?_
          rintro e w8 ⟨rfl, h8⟩
          rw [HBE.out, HIS7.out]
          have HB8 := Lib.hid (HB7.out.trans (h8.mono HB7.out.size))
          have H8 := Lib.hid (H7.out.later h8)
          have h8s := HB8.out.size
          clear h8 z4 z3
          go_wp2_with fail
          refine (Wd.version_any _ _ HU7.out.1 HU7.out.2).mono ?_
          rintro e w9 ⟨rfl, rfl⟩
          rw [HV7.out]
          go_wp2_with fail
          go_roundw
          case rel =>
            refine ⟨k + 1, m, x', by go_num, by omega, by omega, by go_num, by rw [HS7.out], HB0, HV7, ?_, ?_⟩
            · refine Lib.hid ⟨_, _, fun g hg => HC0.out g hg.1, H8.out.later ?_⟩
              repeat' (first | exact Below.refl _ _ | apply Below.setCell | apply Below.alloc)
              all_goals (first | exact Nat.le_refl _ | (simp; done) | (simp; omega))
            · refine Lib.hid (HB8.out.trans (Below.mono ?_ HB8.out.size))
              repeat' (first | exact Below.refl _ _ | apply Below.setCell | apply Below.alloc)
              all_goals (first | exact Nat.le_refl _ | (simp; done) | (simp; omega))
          case measure => simp [intOf]; omega
    · have hkn' : ¬ (k : Int) < (n : Int) := by omega
      go_wp2_with fail
      go_ret
      exact ⟨rfl, B4.out⟩
end Go.Proofs.YtnclbnbjmgbonaaGreatDoor.Ba
