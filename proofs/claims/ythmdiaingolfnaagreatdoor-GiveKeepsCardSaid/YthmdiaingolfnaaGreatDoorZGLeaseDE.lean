/- A part of the claim: the texts LeaseRefE LeaseRefD. -/
import Derived.Test.YthmdiaingolfnaaGreatDoorZGLeaseRef
import Derived.Test.YthmdiaingolfnaaGreatDoorZGLease
import Derived.Deep.CutRange
import Derived.Deep.CutBlock
namespace Go.Proofs.YthmdiaingolfnaaGreatDoor.Le
open Go.ChangeShapes Go.WideShapes Go.ChangeAt Go.RowKit Go.Deep Go.Maps Rw Hi Mt Ck
set_option linter.unusedVariables false
theorem take_lt {D : List (Int × Ls)} {id : Int} {k : Nat} {a : Int × Ls} (h : ∀ a ∈ D.take k, a.1 < id) (hk : D[k]? = some a) (hlt : a.1 < id) : ∀ a ∈ D.take (k + 1), a.1 < id := by
  obtain ⟨hl, rfl⟩ := List.getElem?_eq_some_iff.1 hk
  intro b hb
  rw [List.take_succ_eq_append_getElem hl] at hb
  rcases List.mem_append.1 hb with hb | hb
  · exact h b hb
  · rw [List.mem_singleton.1 hb]; exact hlt
section
variable (leak : Int) (A A2 A3 : Option Addr) (n c n2 c2 n3 c3 : Nat) (D : List (Int × Ls)) (M : List Int) (T : List (Int × Int)) (w : World)
set_option maxRecDepth 100000 in
set_option maxHeartbeats 2000000 in
theorem rbegin_any {K : Nat → Prop} (id th now : Int) (h : DkK K w ⟨A, n, c, A2, n2, c2, A3, n3, c3⟩ D M T) (hKK : ∀ g, w.heap.size ≤ g → K g) (hs : Sd D) (tms : Wl.Tms T) (hid : U64 id) (hnow : U64 now) (hlk : U64 leak) (hn : n ≤ 1000) (hn2 : n2 ≤ 1000) (hn3 : n3 ≤ 1000) :
    Calls Tryz.prog 86 #[.agg #[.int .u64 leak, .slice A n c, .slice A2 n2 c2, .slice A3 n3 c3], .int .u64 id, .int .i64 th, .int .u64 now] w fun e w' => ∃ (d : Da) (D' : List (Int × Ls)), e = .returned (.tuple #[d.val leak, .int .i64 (bE D id th)]) ∧ (bL D id th now).Perm D' ∧ Sd D' ∧
      DkK K w' d D' M (bT leak D T id th now) ∧ Below w.heap.size w w' := by
  obtain ⟨i0, hi, hz0, hz1, hz2⟩ := info_parts info_lease
  obtain ⟨hb1, hvf, hvr, hsz⟩ := boxes leak A A2 A3 n c n2 c2 n3 c3 w
  have HD := Lib.hid h
  have HKK := Lib.hid hKK
  clear hKK
  have HB1 := Lib.hid hb1
  have HVF := Lib.hid hvf
  have HVR := Lib.hid hvr
  have HSZ := Lib.hid hsz
  have HSD := Lib.hid hs
  have HTMS := Lib.hid tms
  have HDL : Hid (D.length = n) := Lib.hid h.l.len
  have HTL : Hid (T.length = n3) := Lib.hid h.t.len
  clear h hb1 hvf hvr hsz hs tms
  by_cases h1 : th < 0 ∨ 8 ≤ th
  · have e : bE D id th = 2 := by unfold bE; rw [if_pos h1]
    have eL : bL D id th now = D := by unfold bL; rw [e, if_neg (by decide)]
    have eT : bT leak D T id th now = T := by unfold bT; rw [e, if_neg (fun h => absurd h.1 (by decide))]
    rw [e, eL, eT]
    clear e eL eT
    go_enter Tryz.func86, Tryz.ntmps86
    go_upto_region 1 with (fail)
    generalize ((w.alloc (.cells #[.int .u64 leak, .slice A n c, .slice A2 n2 c2, .slice A3 n3 c3] 62)).alloc (.cells #[.int .u64 0, .slice none 0 0, .slice none 0 0, .slice none 0 0] 62)) = W1 at *
    obtain ⟨⟨f0, f1, f2, f3⟩, g0, g1, g2, g3⟩ := HVF.out
    obtain ⟨⟨r0, r1, r2, r3⟩, z0, z1, z2, z3⟩ := HVR.out
    have hs1 : w.heap.size + 2 ≤ W1.heap.size := by have := HSZ.out; omega
    by_cases h0 : th < 0
    · have q1 : decide (th < 0) = true := decide_eq_true h0
      clear h1 h0
      go_wp2_with fail
      have hfin : Below w.heap.size w ((((W1.setCell ⟨w.heap.size + 1, 0, none⟩ (.int .u64 leak)).setCell ⟨w.heap.size + 1, 1, none⟩ (.slice A n c)).setCell ⟨w.heap.size + 1, 2, none⟩ (.slice A2 n2 c2)).setCell ⟨w.heap.size + 1, 3, none⟩ (.slice A3 n3 c3)) := by
        repeat' (first | exact HB1.out | apply Below.setCell | apply below_drewN | apply Below.drew | apply Below.alloc)
        all_goals (first | (simp; done) | (simp; omega))
      refine bodyPost_ret (v := .tuple #[.agg #[.int .u64 leak, .slice A n c, .slice A2 n2 c2, .slice A3 n3 c3], .int .i64 2]) (by simp [results, Tryz.results86, go_sem, r0, r1, r2, r3]) rfl ⟨⟨A, n, c, A2, n2, c2, A3, n3, c3⟩, D, rfl, List.Perm.refl _, HSD.out, HD.out.later hfin, hfin⟩
    · have q1 : decide (th < 0) = false := decide_eq_false h0
      have q2 : decide (7 < th) = true := decide_eq_true (by omega)
      clear h1 h0
      go_wp2_with fail
      have hfin : Below w.heap.size w ((((W1.setCell ⟨w.heap.size + 1, 0, none⟩ (.int .u64 leak)).setCell ⟨w.heap.size + 1, 1, none⟩ (.slice A n c)).setCell ⟨w.heap.size + 1, 2, none⟩ (.slice A2 n2 c2)).setCell ⟨w.heap.size + 1, 3, none⟩ (.slice A3 n3 c3)) := by
        repeat' (first | exact HB1.out | apply Below.setCell | apply below_drewN | apply Below.drew | apply Below.alloc)
        all_goals (first | (simp; done) | (simp; omega))
      refine bodyPost_ret (v := .tuple #[.agg #[.int .u64 leak, .slice A n c, .slice A2 n2 c2, .slice A3 n3 c3], .int .i64 2]) (by simp [results, Tryz.results86, go_sem, r0, r1, r2, r3]) rfl ⟨⟨A, n, c, A2, n2, c2, A3, n3, c3⟩, D, rfl, List.Perm.refl _, HSD.out, HD.out.later hfin, hfin⟩
  have q1 : decide (th < 0) = false := decide_eq_false (by omega)
  have q2 : decide (7 < th) = false := decide_eq_false (by omega)
  rcases fx_cases D id with ⟨hfn, hfx⟩ | ⟨k, y, hk, hne, hfx, hfn⟩
  rotate_left
  · have e : bE D id th = 10 := by unfold bE; rw [if_neg h1, if_pos (by rw [hfn]; rfl)]
    have eL : bL D id th now = D := by unfold bL; rw [e, if_neg (by decide)]
    have eT : bT leak D T id th now = T := by unfold bT; rw [e, if_neg (fun h => absurd h.1 (by decide))]
    rw [e, eL, eT]
    clear e eL eT
    go_enter Tryz.func86, Tryz.ntmps86
    go_upto_region 1 with (fail)
    generalize ((w.alloc (.cells #[.int .u64 leak, .slice A n c, .slice A2 n2 c2, .slice A3 n3 c3] 62)).alloc (.cells #[.int .u64 0, .slice none 0 0, .slice none 0 0, .slice none 0 0] 62)) = W1 at *
    obtain ⟨⟨f0, f1, f2, f3⟩, g0, g1, g2, g3⟩ := HVF.out
    obtain ⟨⟨r0, r1, r2, r3⟩, z0, z1, z2, z3⟩ := HVR.out
    have hs1 : w.heap.size + 2 ≤ W1.heap.size := by have := HSZ.out; omega
    have HF := Lib.hid (rfind_any leak A A2 A3 n c n2 c2 n3 c3 w.heap.size D W1 id (HD.out.l.below HB1.out) (by omega) (by omega))
    have q3 : decide ((0 : Int) ≤ (k : Int)) = true := decide_eq_true (by omega)
    rw [hfx] at HF
    clear h1 hk hne hfx hfn
    go_wp2_with fail
    refine HF.out.mono ?_
    rintro e w2 ⟨rfl, hb2⟩
    have HBW := Lib.hid (HB1.out.trans (hb2.mono HB1.out.size))
    obtain ⟨⟨f0, f1, f2, f3⟩, g0, g1, g2, g3⟩ := HVF.out.below hb2 (by omega)
    obtain ⟨⟨r0, r1, r2, r3⟩, z0, z1, z2, z3⟩ := HVR.out.below hb2 (by omega)
    have hs2 : w.heap.size + 2 ≤ w2.heap.size := by have := hb2.size; omega
    clear hb2 HVF HVR HB1 HF
    go_wp2_with fail
    have hfin : Below w.heap.size w ((((w2.setCell ⟨w.heap.size + 1, 0, none⟩ (.int .u64 leak)).setCell ⟨w.heap.size + 1, 1, none⟩ (.slice A n c)).setCell ⟨w.heap.size + 1, 2, none⟩ (.slice A2 n2 c2)).setCell ⟨w.heap.size + 1, 3, none⟩ (.slice A3 n3 c3)) := by
      repeat' (first | exact HBW.out | apply Below.setCell | apply below_drewN | apply Below.drew | apply Below.alloc)
      all_goals (first | (simp; done) | (simp; omega))
    refine bodyPost_ret (v := .tuple #[.agg #[.int .u64 leak, .slice A n c, .slice A2 n2 c2, .slice A3 n3 c3], .int .i64 10]) (by simp [results, Tryz.results86, go_sem, r0, r1, r2, r3]) rfl ⟨⟨A, n, c, A2, n2, c2, A3, n3, c3⟩, D, rfl, List.Perm.refl _, HSD.out, HD.out.later hfin, hfin⟩
  have e0 : bE D id th = 0 := by unfold bE; rw [if_neg h1, if_neg (by rw [hfn]; decide)]
  have eL : bL D id th now = (id, ⟨th, now, false⟩) :: D := by unfold bL; rw [if_pos e0]
  have HE0 := Lib.hid e0
  have HNO : Hid (∀ a ∈ D, a.1 ≠ id) := Lib.hid (fun a ha e => by
    have := mem_key.2 ⟨a.2, (show (id, a.2) ∈ D by rw [← e]; exact ha)⟩
    have h9 := fnd_is (l := D) (k := id)
    rw [hfn, decide_eq_true this] at h9; cases h9)
  rw [e0, eL]
  go_enter Tryz.func86, Tryz.ntmps86
  go_upto_region 1 with (fail)
  generalize ((w.alloc (.cells #[.int .u64 leak, .slice A n c, .slice A2 n2 c2, .slice A3 n3 c3] 62)).alloc (.cells #[.int .u64 0, .slice none 0 0, .slice none 0 0, .slice none 0 0] 62)) = W1 at *
  obtain ⟨⟨f0, f1, f2, f3⟩, g0, g1, g2, g3⟩ := HVF.out
  obtain ⟨⟨r0, r1, r2, r3⟩, z0, z1, z2, z3⟩ := HVR.out
  have hs1 : w.heap.size + 2 ≤ W1.heap.size := by have := HSZ.out; omega
  have HF := Lib.hid (rfind_any leak A A2 A3 n c n2 c2 n3 c3 w.heap.size D W1 id (HD.out.l.below HB1.out) (by omega) (by omega))
  have q3 : decide ((0 : Int) ≤ -1) = false := rfl
  have q4 : decide ((1024 : Int) ≤ (n : Int)) = false := decide_eq_false (by omega)
  have q4' : decide (1024 ≤ n) = false := decide_eq_false (by omega)
  rw [hfx] at HF
  clear h1 hfx hfn e0 eL
  go_wp2_with fail
  refine HF.out.mono ?_
  rintro e w2 ⟨rfl, hb2⟩
  have HBW := Lib.hid (HB1.out.trans (hb2.mono HB1.out.size))
  have VF := Lib.hid (HVF.out.below hb2 (by omega))
  have VR := Lib.hid (HVR.out.below hb2 (by omega))
  obtain ⟨⟨f0, f1, f2, f3⟩, g0, g1, g2, g3⟩ := VF.out
  have hs2 : w.heap.size + 2 ≤ w2.heap.size := by have := hb2.size; omega
  clear hb2 HVF HVR HB1 HF hs1 r0 r1 r2 r3 z0 z1 z2 z3
  go_upto_block 0 with fail
  go_cut [10] from 13 to 100 (fun s10 wx => ∃ k : Nat, k ≤ n ∧ s10 = .int .i64 k ∧ Hid (∀ a ∈ D.take k, a.1 < id) ∧ Hid (∀ a ∈ D.drop k, id < a.1) ∧ w2 = wx)
  case first =>
    go_wp2_with fail
    go_loopw [10] (fun i wr => ∃ k : Nat, k ≤ n ∧ i = .int .i64 k ∧ Hid (∀ a ∈ D.take k, a.1 < id) ∧ w2 = wr) (fun i _ => n - (intOf i).toNat)
    case atStart => exact ⟨0, Nat.zero_le _, rfl, Lib.hid (fun a ha => by simp at ha), rfl⟩
    case round =>
      obtain ⟨k, hk, rfl, hlo, rfl⟩ := hrel
      by_cases hlt : k < n
      · obtain ⟨b, o, x, t, s, f, rfl, hb, ha, c0, c1, c2', c3'⟩ := four_at HD.out.l hlt
        have d0 := (HBW.out.cell (p := ⟨b, o + k * 4, none⟩) (by simp only; omega)).trans c0
        have HAA := Lib.hid ha
        have hkc : k < c := by have := HD.out.l.cap; have : n ≤ c := this; omega
        clear c0 c1 c2' c3' ha
        by_cases hx : x < id
        · have e1 : decide (x < id) = true := decide_eq_true hx
          have HLO2 := Lib.hid (take_lt hlo.out HAA.out hx)
          clear hx
          go_wp2_with fail
          go_roundw
          case rel => exact ⟨k + 1, by omega, by go_num, HLO2, by trivial⟩
          case measure => simp [intOf]; omega
        · have e1 : decide (x < id) = false := decide_eq_false hx
          have HHI : Hid (∀ a ∈ D.drop k, id < a.1) := Lib.hid (HSD.out.rest (fun a ha => by
            have h9 := HAA.out.symm.trans ha
            injection h9 with h9
            subst h9
            have := HNO.out _ (List.mem_of_getElem? HAA.out)
            have h8 : x ≠ id := this
            show id < x
            omega))
          clear hx
          go_wp2_with fail
          go_meet
          case rel => exact ⟨k, hk, rfl, hlo, HHI, rfl⟩
      · have HHI : Hid (∀ a ∈ D.drop k, id < a.1) := Lib.hid (fun a ha => by
          rw [List.drop_of_length_le (by have := HDL.out; omega)] at ha; cases ha)
        go_wp2_with fail
        go_meet
        case rel => exact ⟨k, hk, rfl, hlo, HHI, rfl⟩
  case rest =>
    obtain ⟨k, hk, rfl, HLO, HHI, rfl⟩ := hcut
    obtain ⟨XL, hXL⟩ : ∃ X, D.take k ++ (id, (⟨th, now, false⟩ : Ls)) :: D.drop k = X := ⟨_, rfl⟩
    have HSD2 : Hid (Sd XL) := Lib.hid (by rw [← hXL]; exact HSD.out.put _ HLO.out HHI.out)
    have HPM : Hid (((id, (⟨th, now, false⟩ : Ls)) :: D).Perm XL) := Lib.hid (by rw [← hXL]; exact put_perm D k _)
    have HE1 : Hid (flat enc4 (D.take k) ++ flat enc4 [(id, (⟨th, now, false⟩ : Ls))] = flat enc4 (D.take k ++ [(id, (⟨th, now, false⟩ : Ls))])) := Lib.hid (flat_append _ _).symm
    have HE2 : Hid (flat enc4 (D.take k ++ [(id, (⟨th, now, false⟩ : Ls))]) ++ flat enc4 (D.drop k) = flat enc4 XL) := Lib.hid (by rw [← flat_append, ← hXL, List.append_assoc]; rfl)
    have HXL : Hid (XL.length = n + 1) := Lib.hid (by have h1 := HPM.out.length_eq; have h2 := HDL.out; simp at h1; omega)
    have HEN : Hid (k + 1 + (n - k) = n + 1) := Lib.hid (by omega)
    clear hXL HLO HHI
    go_upto_region 11 with (fail)
    go_cut [11] from 47 to 52 (fun s11 wx => ∃ (A5 : Option Addr) (c5 : Nat), s11 = .slice A5 k c5 ∧ Hid (wx.ownsRow (w.heap.size + 2) 210 4 (.slice A5 k c5) k (flat enc4 (D.take k))) ∧ Hid (Below (w.heap.size + 2) w2 wx) ∧ w2.heap.size ≤ wx.heap.size)
    case first =>
      rcases HD.out.fl with ⟨hA, hc⟩ | ⟨b, o, hA⟩
      · have hA : A = none := hA
        have hc : c = 0 := hc
        subst hA hc
        obtain rfl : n = 0 := by have : n ≤ 0 := HD.out.l.cap; omega
        obtain rfl : k = 0 := by omega
        have RF : Hid (Rl w2 w2.heap.size none 0 0 (D.take 0)) := Lib.hid (by rw [List.take_zero]; exact Rs.nil_)
        go_wp2_with (
          at_builtin
          refine append_rs enc4_len rfl _ _ 59 rfl (w.heap.size + 2) 210 i0 _ 32 Tryz.underlying59 hi hz0 hz1 hz2 rfl (by decide) (.slice none 0 0) 0 [] rfl (World.ownsRow_nil _ _ _ _) _ none 0 0 (D.take 0) rfl RF.out enc4_one 0 (Nat.zero_add _) (flat enc4 (D.take 0)) rfl (by unfold maxLen; omega) (by omega) (by omega) ?_
          intro A5 c5 w5 ho5 hg5 hat5
          have B5 := Lib.hid ((Below.refl (w.heap.size + 2) w2).grown hg5 (by omega) (fun j hj => by cases hj))
          have HO5 := Lib.hid ho5
          have hs5 : w2.heap.size ≤ w5.heap.size := hg5.size
          clear ho5 hg5 hat5)
        go_meet
        case rel => exact ⟨A5, c5, rfl, HO5, B5, hs5⟩
      · have hA : A = some ⟨b, o, none⟩ := hA
        subst hA
        have RF : Hid (Rl w2 w2.heap.size (some ⟨b, o, none⟩) k c (D.take k)) := Lib.hid ((HD.out.later HBW.out).l.front (i := k) hk)
        have hnc : n ≤ c := HD.out.l.cap
        have hkc : k ≤ c := by omega
        go_wp2_with (
          at_builtin
          refine append_rs enc4_len rfl _ _ 59 rfl (w.heap.size + 2) 210 i0 _ 32 Tryz.underlying59 hi hz0 hz1 hz2 rfl (by decide) (.slice none 0 0) 0 [] rfl (World.ownsRow_nil _ _ _ _) _ (some ⟨b, o, none⟩) k c (D.take k) rfl RF.out enc4_one k (Nat.zero_add _) (flat enc4 (D.take k)) rfl (by unfold maxLen; omega) (by omega) (by omega) ?_
          intro A5 c5 w5 ho5 hg5 hat5
          have B5 := Lib.hid ((Below.refl (w.heap.size + 2) w2).grown hg5 (by omega) (fun j hj => by cases hj))
          have HO5 := Lib.hid ho5
          have hs5 : w2.heap.size ≤ w5.heap.size := hg5.size
          clear ho5 hg5 hat5)
        go_meet
        case rel => exact ⟨A5, c5, rfl, HO5, B5, hs5⟩
    case rest =>
      obtain ⟨A5, c5, rfl, HO5, B5, hs5⟩ := hcut
      generalize wc = w5 at *
      have HRS := Lib.hid (rs_one enc4_len w5 (id, (⟨th, now, false⟩ : Ls)) 210 (cs := #[.int .u64 id, .int .i64 th, .int .u64 now, .bool false]) rfl)
      have HO5a := Lib.hid (HO5.out.alloc (.cells #[.int .u64 id, .int .i64 th, .int .u64 now, .bool false] 210))
      have B5a := Lib.hid (B5.out.alloc (by omega) (.cells #[.int .u64 id, .int .i64 th, .int .u64 now, .bool false] 210))
      clear HO5 B5 f0 f1 f2 f3 g0 g1 g2 g3
      go_wp2_with (
        at_builtin
        refine append_rs enc4_len rfl _ _ 59 rfl (w.heap.size + 2) 210 i0 _ 32 Tryz.underlying59 hi hz0 hz1 hz2 rfl (by decide) (.slice A5 k c5) k (flat enc4 (D.take k)) rfl HO5a.out _ _ 1 1 [(id, (⟨th, now, false⟩ : Ls))] rfl HRS.out enc4_one (k + 1) rfl (flat enc4 (D.take k ++ [(id, (⟨th, now, false⟩ : Ls))])) HE1.out (by unfold maxLen; omega) (by omega) (by simp; omega) ?_
        intro A6 c6 w6 ho6 hg6 hat6
        refine Hid.out ?_)
      refine Lib.hid ?_
      have B6 := Lib.hid (B5a.out.grown hg6 (by simp; omega) (fun j hj => (HO5a.out.lt j hj).1))
      have hs6 : w.heap.size + 2 ≤ w6.heap.size := by have := hg6.size; simp at this; omega
      have HO6 := Lib.hid ho6
      have VF6 := Lib.hid (VF.out.below B6.out (by omega))
      have VR6 := Lib.hid (VR.out.below B6.out (by omega))
      have HB6 := Lib.hid (HBW.out.trans (B6.out.mono (by omega)))
      obtain ⟨⟨f0, f1, f2, f3⟩, g0, g1, g2, g3⟩ := VF6.out
      clear ho6 hg6 hat6 HRS HO5a B5a VF VR B6
      go_upto_region 13 with (fail)
      go_cut [] from 60 to 66 (fun wx => ∃ (A7 : Option Addr) (c7 : Nat), Hid (V4 wx w.heap.size (.int .u64 leak) (.slice A7 (n + 1) c7) (.slice A2 n2 c2) (.slice A3 n3 c3)) ∧ Hid (V4 wx (w.heap.size + 1) (.int .u64 0) (.slice none 0 0) (.slice none 0 0) (.slice none 0 0)) ∧ Hid (wx.ownsRow (w.heap.size + 2) 210 4 (.slice A7 (n + 1) c7) (n + 1) (flat enc4 XL)) ∧ Hid (Below w.heap.size w wx) ∧ w.heap.size + 2 ≤ wx.heap.size)
      case first =>
        rcases HD.out.fl with ⟨hA, hc⟩ | ⟨b, o, hA⟩
        · have hA : A = none := hA
          have hc : c = 0 := hc
          subst hA hc
          obtain rfl : n = 0 := by have : n ≤ 0 := HD.out.l.cap; omega
          obtain rfl : k = 0 := by omega
          have RB : Hid (Rl w6 w6.heap.size none 0 0 (D.drop 0)) := Lib.hid (by rw [List.drop_of_length_le (by have := HDL.out; omega)]; exact Rs.nil_)
          go_wp2_with (
            at_builtin
            refine append_rs enc4_len rfl _ _ 59 rfl (w.heap.size + 2) 210 i0 _ 32 Tryz.underlying59 hi hz0 hz1 hz2 rfl (by decide) (.slice A6 (0 + 1) c6) (0 + 1) (flat enc4 (D.take 0 ++ [(id, (⟨th, now, false⟩ : Ls))])) rfl HO6.out _ none 0 0 (D.drop 0) rfl RB.out enc4_one (0 + 1) HEN.out (flat enc4 XL) HE2.out (by unfold maxLen; omega) (by omega) (by omega) ?_
            intro A7 c7 w7 ho7 hg7 hat7
            have b67 : Below (w.heap.size + 2) w6 w7 := (Below.refl _ _).grown hg7 (by omega) (fun j hj => (HO6.out.lt j hj).1)
            have HO7 := Lib.hid ho7
            have HB7 := Lib.hid (HB6.out.trans (b67.mono (by omega)))
            obtain ⟨⟨f0, f1, f2, f3⟩, g0, g1, g2, g3⟩ := VF6.out.below b67 (by omega)
            have VR7 := Lib.hid (VR6.out.below b67 (by omega))
            have hs7 : w.heap.size + 2 ≤ w7.heap.size := by have := b67.size; omega
            clear b67 ho7 hg7 hat7)
          go_meet
          case rel =>
            refine ⟨A7, c7, ?_, ?_, ?_, ?_, by simp; omega⟩
            · exact Lib.hid ⟨⟨by go_simp, by go_simp, by go_simp, by go_simp⟩, by go_simp, by go_simp, by go_simp, by go_simp⟩
            · refine Lib.hid ?_
              obtain ⟨⟨r0, r1, r2, r3⟩, z0, z1, z2, z3⟩ := VR7.out
              exact ⟨⟨by go_simp, by go_simp, by go_simp, by go_simp⟩, by go_simp, by go_simp, by go_simp, by go_simp⟩
            · refine Lib.hid (Hi.own_same HO7.out (fun g' hg' => ?_))
              have hg := (HO7.out.lt g' hg').1
              rw [heap_setCell_other _ _ g' _ (fun e => by have e : g' = w.heap.size := e; omega)]
            · exact Lib.hid (HB7.out.setCell (Nat.le_refl _) _)
        · have hA : A = some ⟨b, o, none⟩ := hA
          subst hA
          have hnc : n ≤ c := HD.out.l.cap
          have hkc : k ≤ c := by omega
          have htop : c ≤ 9223372036854775807 := HD.out.l.top
          obtain ⟨A4, hA4⟩ : ∃ A4 : Option Addr, (if c = k then some (⟨b, o, none⟩ : Addr) else some ⟨b, o + k * 4, none⟩) = A4 := ⟨_, rfl⟩
          have hRl : Rl w w.heap.size (some ⟨b, o, none⟩) n c D := HD.out.l
          have RB0 : Rl w w.heap.size A4 (n - k) (c - k) (D.drop k) := hRl.back (i := k) hk rfl (fun hlt => by rw [← hA4, if_neg (by omega)])
          have RB := Lib.hid (RB0.later HB6.out)
          clear hRl RB0
          go_wp2_with (
            at_builtin
            refine append_rs enc4_len rfl _ _ 59 rfl (w.heap.size + 2) 210 i0 _ 32 Tryz.underlying59 hi hz0 hz1 hz2 rfl (by decide) (.slice A6 (k + 1) c6) (k + 1) (flat enc4 (D.take k ++ [(id, (⟨th, now, false⟩ : Ls))])) rfl HO6.out _ A4 (n - k) (c - k) (D.drop k) rfl RB.out enc4_one (n + 1) HEN.out (flat enc4 XL) HE2.out (by unfold maxLen; omega) (by omega) (by omega) ?_
            intro A7 c7 w7 ho7 hg7 hat7
            have b67 : Below (w.heap.size + 2) w6 w7 := (Below.refl _ _).grown hg7 (by omega) (fun j hj => (HO6.out.lt j hj).1)
            have HO7 := Lib.hid ho7
            have HB7 := Lib.hid (HB6.out.trans (b67.mono (by omega)))
            obtain ⟨⟨f0, f1, f2, f3⟩, g0, g1, g2, g3⟩ := VF6.out.below b67 (by omega)
            have VR7 := Lib.hid (VR6.out.below b67 (by omega))
            have hs7 : w.heap.size + 2 ≤ w7.heap.size := by have := b67.size; omega
            clear b67 ho7 hg7 hat7)
          go_meet
          case rel =>
            refine ⟨A7, c7, ?_, ?_, ?_, ?_, by simp; omega⟩
            · exact Lib.hid ⟨⟨by go_simp, by go_simp, by go_simp, by go_simp⟩, by go_simp, by go_simp, by go_simp, by go_simp⟩
            · refine Lib.hid ?_
              obtain ⟨⟨r0, r1, r2, r3⟩, z0, z1, z2, z3⟩ := VR7.out
              exact ⟨⟨by go_simp, by go_simp, by go_simp, by go_simp⟩, by go_simp, by go_simp, by go_simp, by go_simp⟩
            · refine Lib.hid (Hi.own_same HO7.out (fun g' hg' => ?_))
              have hg := (HO7.out.lt g' hg').1
              rw [heap_setCell_other _ _ g' _ (fun e => by have e : g' = w.heap.size := e; omega)]
            · exact Lib.hid (HB7.out.setCell (Nat.le_refl _) _)
      case rest =>
        obtain ⟨A7, c7, VF7, VR7, HO7, HB7, hs7⟩ := hcut
        clear VF6 VR6 HO6 HB6 f0 f1 f2 f3 g0 g1 g2 g3
        generalize wc = w7 at *
        obtain ⟨⟨f0, f1, f2, f3⟩, g0, g1, g2, g3⟩ := VF7.out
        by_cases h0 : leak = 0
        · have q5 : decide (0 < leak) = false := decide_eq_false (by omega)
          have eT : bT leak D T id th now = T := by unfold bT; rw [if_neg (fun h => h.2 h0)]
          have HET := Lib.hid eT
          obtain ⟨⟨r0, r1, r2, r3⟩, z0, z1, z2, z3⟩ := VR7.out
          clear h0 eT
          go_wp2_with fail
          have hfin : Below w.heap.size w ((((w7.setCell ⟨w.heap.size + 1, 0, none⟩ (.int .u64 leak)).setCell ⟨w.heap.size + 1, 1, none⟩ (.slice A7 (n + 1) c7)).setCell ⟨w.heap.size + 1, 2, none⟩ (.slice A2 n2 c2)).setCell ⟨w.heap.size + 1, 3, none⟩ (.slice A3 n3 c3)) := by
            repeat' (first | exact HB7.out | apply Below.setCell | apply below_drewN | apply Below.drew | apply Below.alloc)
            all_goals (first | (simp; done) | (simp; omega))
          have hset : ((((w7.setCell ⟨w.heap.size + 1, 0, none⟩ (.int .u64 leak)).setCell ⟨w.heap.size + 1, 1, none⟩ (.slice A7 (n + 1) c7)).setCell ⟨w.heap.size + 1, 2, none⟩ (.slice A2 n2 c2)).setCell ⟨w.heap.size + 1, 3, none⟩ (.slice A3 n3 c3)).ownsRow (w.heap.size + 2) 210 4 (.slice A7 (n + 1) c7) (n + 1) (flat enc4 XL) := by
            refine Hi.own_same HO7.out (fun g' hg' => ?_)
            have hg := (HO7.out.lt g' hg').1
            rw [heap_setCell_other _ _ g' _ (fun e => by have e : g' = w.heap.size + 1 := e; omega), heap_setCell_other _ _ g' _ (fun e => by have e : g' = w.heap.size + 1 := e; omega), heap_setCell_other _ _ g' _ (fun e => by have e : g' = w.heap.size + 1 := e; omega), heap_setCell_other _ _ g' _ (fun e => by have e : g' = w.heap.size + 1 := e; omega)]
          have hdk := HD.out.later hfin
          refine bodyPost_ret (v := .tuple #[.agg #[.int .u64 leak, .slice A7 (n + 1) c7, .slice A2 n2 c2, .slice A3 n3 c3], .int .i64 0]) (by simp [results, Tryz.results86, go_sem, r0, r1, r2, r3]) rfl ⟨⟨A7, n + 1, c7, A2, n2, c2, A3, n3, c3⟩, XL, rfl, HPM.out, HSD2.out, by rw [HET.out]; exact ⟨Rs.own_rs enc4_len HXL.out hset, hdk.m, hdk.t, hdk.fm, Wl.own_fm hset, Kn.own hset (fun g hg => HKK.out g (by omega)), hdk.km, hdk.kt⟩, hfin⟩
        · have q5 : decide (0 < leak) = true := decide_eq_true (by omega)
          have HNF : Hid (¬ 1024 ≤ (Wl.wo T id).length) := Lib.hid (by have := Wl.wo_len T id; have := HTL.out; omega)
          have HTR := Lib.hid (HD.out.t.below HB7.out)
          have eT : bT leak D T id th now = Wl.ins (id, Wl.cut (cAdd now leak)) (Wl.wo T id) := by
            unfold bT; rw [if_pos ⟨HE0.out, h0⟩]; unfold Wl.arm; rw [if_neg (by unfold Wl.full; rw [decide_eq_false HNF.out]; decide)]
          have HET := Lib.hid eT
          clear h0 eT
          by_cases a1 : now ≤ 1152921504606846976
          · have q6 : decide (now ≤ 1152921504606846976) = true := decide_eq_true a1
            by_cases a2 : leak ≤ 1152921504606846976
            · have q7 : decide (leak ≤ 1152921504606846976) = true := decide_eq_true a2
              have hwr : IntKind.u64.wrap (now + leak) = now + leak := by rw [IntKind.wrap_u64]; omega
              by_cases a3 : now + leak ≤ 1152921504606846976
              · have q8 : decide (now + leak ≤ 1152921504606846976) = true := decide_eq_true a3
                have ec : cAdd now leak = now + leak := by unfold cAdd; rw [if_pos a3]
                rw [ec] at HET
                clear ec
                go_wp2_with fail
                refine (Wl.tarm_room A3 n3 c3 w.heap.size T id (now + leak) w7 HTR.out (by omega) (by omega) HTMS.out ⟨by omega, by omega⟩ HNF.out).mono ?_
                rintro e w9 ⟨A9, c9, rfl, ho9, hb9⟩
                obtain ⟨q, hq⟩ : ∃ q, (Wl.wo T id).length = q := ⟨_, rfl⟩
                rw [hq] at ho9 ⊢
                have HO9 := Lib.hid ho9
                have HQ := Lib.hid hq
                have HB9 := Lib.hid (HB7.out.trans (hb9.mono (by omega)))
                have HO79 : Hid (w9.ownsRow (w.heap.size + 2) 210 4 (.slice A7 (n + 1) c7) (n + 1) (flat enc4 XL)) := Lib.hid (Hi.own_same HO7.out (fun g' hg' => hb9.block g' (HO7.out.lt g' hg').2))
                obtain ⟨⟨f0, f1, f2, f3⟩, g0, g1, g2, g3⟩ := VF7.out.below hb9 (by omega)
                obtain ⟨⟨r0, r1, r2, r3⟩, z0, z1, z2, z3⟩ := VR7.out.below hb9 (by omega)
                have hs9 : w7.heap.size ≤ w9.heap.size := hb9.size
                clear hb9 ho9 hq
                go_wp2_with fail
                have hfin : Below w.heap.size w (((((w9.setCell ⟨w.heap.size, 3, none⟩ (.slice A9 (q + 1) c9)).setCell ⟨w.heap.size + 1, 0, none⟩ (.int .u64 leak)).setCell ⟨w.heap.size + 1, 1, none⟩ (.slice A7 (n + 1) c7)).setCell ⟨w.heap.size + 1, 2, none⟩ (.slice A2 n2 c2)).setCell ⟨w.heap.size + 1, 3, none⟩ (.slice A9 (q + 1) c9)) := by
                  repeat' (first | exact HB9.out | apply Below.setCell | apply below_drewN | apply Below.drew | apply Below.alloc)
                  all_goals (first | (simp; done) | (simp; omega))
                have hset : (((((w9.setCell ⟨w.heap.size, 3, none⟩ (.slice A9 (q + 1) c9)).setCell ⟨w.heap.size + 1, 0, none⟩ (.int .u64 leak)).setCell ⟨w.heap.size + 1, 1, none⟩ (.slice A7 (n + 1) c7)).setCell ⟨w.heap.size + 1, 2, none⟩ (.slice A2 n2 c2)).setCell ⟨w.heap.size + 1, 3, none⟩ (.slice A9 (q + 1) c9)).ownsRow (w.heap.size + 2) 210 4 (.slice A7 (n + 1) c7) (n + 1) (flat enc4 XL) := by
                  refine Hi.own_same HO79.out (fun g' hg' => ?_)
                  have hg := (HO79.out.lt g' hg').1
                  rw [heap_setCell_other _ _ g' _ (fun e => by have e : g' = w.heap.size + 1 := e; omega), heap_setCell_other _ _ g' _ (fun e => by have e : g' = w.heap.size + 1 := e; omega), heap_setCell_other _ _ g' _ (fun e => by have e : g' = w.heap.size + 1 := e; omega), heap_setCell_other _ _ g' _ (fun e => by have e : g' = w.heap.size + 1 := e; omega), heap_setCell_other _ _ g' _ (fun e => by have e : g' = w.heap.size := e; omega)]
                have hset2 : (((((w9.setCell ⟨w.heap.size, 3, none⟩ (.slice A9 (q + 1) c9)).setCell ⟨w.heap.size + 1, 0, none⟩ (.int .u64 leak)).setCell ⟨w.heap.size + 1, 1, none⟩ (.slice A7 (n + 1) c7)).setCell ⟨w.heap.size + 1, 2, none⟩ (.slice A2 n2 c2)).setCell ⟨w.heap.size + 1, 3, none⟩ (.slice A9 (q + 1) c9)).ownsRow w7.heap.size 239 2 (.slice A9 (q + 1) c9) (q + 1) (flat Wl.enc2 (Wl.ins (id, Wl.cut (now + leak)) (Wl.wo T id))) := by
                  refine Hi.own_same HO9.out (fun g' hg' => ?_)
                  have hg := (HO9.out.lt g' hg').1
                  rw [heap_setCell_other _ _ g' _ (fun e => by have e : g' = w.heap.size + 1 := e; omega), heap_setCell_other _ _ g' _ (fun e => by have e : g' = w.heap.size + 1 := e; omega), heap_setCell_other _ _ g' _ (fun e => by have e : g' = w.heap.size + 1 := e; omega), heap_setCell_other _ _ g' _ (fun e => by have e : g' = w.heap.size + 1 := e; omega), heap_setCell_other _ _ g' _ (fun e => by have e : g' = w.heap.size := e; omega)]
                have hdk := HD.out.later hfin
                refine bodyPost_ret (v := .tuple #[.agg #[.int .u64 leak, .slice A7 (n + 1) c7, .slice A2 n2 c2, .slice A9 (q + 1) c9], .int .i64 0]) (by simp [results, Tryz.results86, go_sem, r0, r1, r2, r3]) rfl ⟨⟨A7, n + 1, c7, A2, n2, c2, A9, q + 1, c9⟩, XL, rfl, HPM.out, HSD2.out, by rw [HET.out]; exact ⟨Rs.own_rs enc4_len HXL.out hset, hdk.m, Rs.own_rs Wl.enc2_len (by rw [Wl.ins_len, HQ.out]) hset2, Wl.own_fm hset2, Wl.own_fm hset, Kn.own hset (fun g hg => HKK.out g (by omega)), hdk.km, Kn.own hset2 (fun g hg => HKK.out g (by omega))⟩, hfin⟩
              · have q8 : decide (now + leak ≤ 1152921504606846976) = false := decide_eq_false a3
                have ec : cAdd now leak = 1152921504606846976 := by unfold cAdd; rw [if_neg a3]
                rw [ec] at HET
                clear ec
                go_wp2_with fail
                refine (Wl.tarm_room A3 n3 c3 w.heap.size T id 1152921504606846976 w7 HTR.out (by omega) (by omega) HTMS.out ⟨by omega, by omega⟩ HNF.out).mono ?_
                rintro e w9 ⟨A9, c9, rfl, ho9, hb9⟩
                obtain ⟨q, hq⟩ : ∃ q, (Wl.wo T id).length = q := ⟨_, rfl⟩
                rw [hq] at ho9 ⊢
                have HO9 := Lib.hid ho9
                have HQ := Lib.hid hq
                have HB9 := Lib.hid (HB7.out.trans (hb9.mono (by omega)))
                have HO79 : Hid (w9.ownsRow (w.heap.size + 2) 210 4 (.slice A7 (n + 1) c7) (n + 1) (flat enc4 XL)) := Lib.hid (Hi.own_same HO7.out (fun g' hg' => hb9.block g' (HO7.out.lt g' hg').2))
                obtain ⟨⟨f0, f1, f2, f3⟩, g0, g1, g2, g3⟩ := VF7.out.below hb9 (by omega)
                obtain ⟨⟨r0, r1, r2, r3⟩, z0, z1, z2, z3⟩ := VR7.out.below hb9 (by omega)
                have hs9 : w7.heap.size ≤ w9.heap.size := hb9.size
                clear hb9 ho9 hq
                go_wp2_with fail
                have hfin : Below w.heap.size w (((((w9.setCell ⟨w.heap.size, 3, none⟩ (.slice A9 (q + 1) c9)).setCell ⟨w.heap.size + 1, 0, none⟩ (.int .u64 leak)).setCell ⟨w.heap.size + 1, 1, none⟩ (.slice A7 (n + 1) c7)).setCell ⟨w.heap.size + 1, 2, none⟩ (.slice A2 n2 c2)).setCell ⟨w.heap.size + 1, 3, none⟩ (.slice A9 (q + 1) c9)) := by
                  repeat' (first | exact HB9.out | apply Below.setCell | apply below_drewN | apply Below.drew | apply Below.alloc)
                  all_goals (first | (simp; done) | (simp; omega))
                have hset : (((((w9.setCell ⟨w.heap.size, 3, none⟩ (.slice A9 (q + 1) c9)).setCell ⟨w.heap.size + 1, 0, none⟩ (.int .u64 leak)).setCell ⟨w.heap.size + 1, 1, none⟩ (.slice A7 (n + 1) c7)).setCell ⟨w.heap.size + 1, 2, none⟩ (.slice A2 n2 c2)).setCell ⟨w.heap.size + 1, 3, none⟩ (.slice A9 (q + 1) c9)).ownsRow (w.heap.size + 2) 210 4 (.slice A7 (n + 1) c7) (n + 1) (flat enc4 XL) := by
                  refine Hi.own_same HO79.out (fun g' hg' => ?_)
                  have hg := (HO79.out.lt g' hg').1
                  rw [heap_setCell_other _ _ g' _ (fun e => by have e : g' = w.heap.size + 1 := e; omega), heap_setCell_other _ _ g' _ (fun e => by have e : g' = w.heap.size + 1 := e; omega), heap_setCell_other _ _ g' _ (fun e => by have e : g' = w.heap.size + 1 := e; omega), heap_setCell_other _ _ g' _ (fun e => by have e : g' = w.heap.size + 1 := e; omega), heap_setCell_other _ _ g' _ (fun e => by have e : g' = w.heap.size := e; omega)]
                have hset2 : (((((w9.setCell ⟨w.heap.size, 3, none⟩ (.slice A9 (q + 1) c9)).setCell ⟨w.heap.size + 1, 0, none⟩ (.int .u64 leak)).setCell ⟨w.heap.size + 1, 1, none⟩ (.slice A7 (n + 1) c7)).setCell ⟨w.heap.size + 1, 2, none⟩ (.slice A2 n2 c2)).setCell ⟨w.heap.size + 1, 3, none⟩ (.slice A9 (q + 1) c9)).ownsRow w7.heap.size 239 2 (.slice A9 (q + 1) c9) (q + 1) (flat Wl.enc2 (Wl.ins (id, Wl.cut 1152921504606846976) (Wl.wo T id))) := by
                  refine Hi.own_same HO9.out (fun g' hg' => ?_)
                  have hg := (HO9.out.lt g' hg').1
                  rw [heap_setCell_other _ _ g' _ (fun e => by have e : g' = w.heap.size + 1 := e; omega), heap_setCell_other _ _ g' _ (fun e => by have e : g' = w.heap.size + 1 := e; omega), heap_setCell_other _ _ g' _ (fun e => by have e : g' = w.heap.size + 1 := e; omega), heap_setCell_other _ _ g' _ (fun e => by have e : g' = w.heap.size + 1 := e; omega), heap_setCell_other _ _ g' _ (fun e => by have e : g' = w.heap.size := e; omega)]
                have hdk := HD.out.later hfin
                refine bodyPost_ret (v := .tuple #[.agg #[.int .u64 leak, .slice A7 (n + 1) c7, .slice A2 n2 c2, .slice A9 (q + 1) c9], .int .i64 0]) (by simp [results, Tryz.results86, go_sem, r0, r1, r2, r3]) rfl ⟨⟨A7, n + 1, c7, A2, n2, c2, A9, q + 1, c9⟩, XL, rfl, HPM.out, HSD2.out, by rw [HET.out]; exact ⟨Rs.own_rs enc4_len HXL.out hset, hdk.m, Rs.own_rs Wl.enc2_len (by rw [Wl.ins_len, HQ.out]) hset2, Wl.own_fm hset2, Wl.own_fm hset, Kn.own hset (fun g hg => HKK.out g (by omega)), hdk.km, Kn.own hset2 (fun g hg => HKK.out g (by omega))⟩, hfin⟩
            · have q7 : decide (leak ≤ 1152921504606846976) = false := decide_eq_false a2
              have ec : cAdd now leak = 1152921504606846976 := by unfold cAdd; rw [if_neg (by omega)]
              rw [ec] at HET
              clear ec
              go_wp2_with fail
              refine (Wl.tarm_room A3 n3 c3 w.heap.size T id 1152921504606846976 w7 HTR.out (by omega) (by omega) HTMS.out ⟨by omega, by omega⟩ HNF.out).mono ?_
              rintro e w9 ⟨A9, c9, rfl, ho9, hb9⟩
              obtain ⟨q, hq⟩ : ∃ q, (Wl.wo T id).length = q := ⟨_, rfl⟩
              rw [hq] at ho9 ⊢
              have HO9 := Lib.hid ho9
              have HQ := Lib.hid hq
              have HB9 := Lib.hid (HB7.out.trans (hb9.mono (by omega)))
              have HO79 : Hid (w9.ownsRow (w.heap.size + 2) 210 4 (.slice A7 (n + 1) c7) (n + 1) (flat enc4 XL)) := Lib.hid (Hi.own_same HO7.out (fun g' hg' => hb9.block g' (HO7.out.lt g' hg').2))
              obtain ⟨⟨f0, f1, f2, f3⟩, g0, g1, g2, g3⟩ := VF7.out.below hb9 (by omega)
              obtain ⟨⟨r0, r1, r2, r3⟩, z0, z1, z2, z3⟩ := VR7.out.below hb9 (by omega)
              have hs9 : w7.heap.size ≤ w9.heap.size := hb9.size
              clear hb9 ho9 hq
              go_wp2_with fail
              have hfin : Below w.heap.size w (((((w9.setCell ⟨w.heap.size, 3, none⟩ (.slice A9 (q + 1) c9)).setCell ⟨w.heap.size + 1, 0, none⟩ (.int .u64 leak)).setCell ⟨w.heap.size + 1, 1, none⟩ (.slice A7 (n + 1) c7)).setCell ⟨w.heap.size + 1, 2, none⟩ (.slice A2 n2 c2)).setCell ⟨w.heap.size + 1, 3, none⟩ (.slice A9 (q + 1) c9)) := by
                repeat' (first | exact HB9.out | apply Below.setCell | apply below_drewN | apply Below.drew | apply Below.alloc)
                all_goals (first | (simp; done) | (simp; omega))
              have hset : (((((w9.setCell ⟨w.heap.size, 3, none⟩ (.slice A9 (q + 1) c9)).setCell ⟨w.heap.size + 1, 0, none⟩ (.int .u64 leak)).setCell ⟨w.heap.size + 1, 1, none⟩ (.slice A7 (n + 1) c7)).setCell ⟨w.heap.size + 1, 2, none⟩ (.slice A2 n2 c2)).setCell ⟨w.heap.size + 1, 3, none⟩ (.slice A9 (q + 1) c9)).ownsRow (w.heap.size + 2) 210 4 (.slice A7 (n + 1) c7) (n + 1) (flat enc4 XL) := by
                refine Hi.own_same HO79.out (fun g' hg' => ?_)
                have hg := (HO79.out.lt g' hg').1
                rw [heap_setCell_other _ _ g' _ (fun e => by have e : g' = w.heap.size + 1 := e; omega), heap_setCell_other _ _ g' _ (fun e => by have e : g' = w.heap.size + 1 := e; omega), heap_setCell_other _ _ g' _ (fun e => by have e : g' = w.heap.size + 1 := e; omega), heap_setCell_other _ _ g' _ (fun e => by have e : g' = w.heap.size + 1 := e; omega), heap_setCell_other _ _ g' _ (fun e => by have e : g' = w.heap.size := e; omega)]
              have hset2 : (((((w9.setCell ⟨w.heap.size, 3, none⟩ (.slice A9 (q + 1) c9)).setCell ⟨w.heap.size + 1, 0, none⟩ (.int .u64 leak)).setCell ⟨w.heap.size + 1, 1, none⟩ (.slice A7 (n + 1) c7)).setCell ⟨w.heap.size + 1, 2, none⟩ (.slice A2 n2 c2)).setCell ⟨w.heap.size + 1, 3, none⟩ (.slice A9 (q + 1) c9)).ownsRow w7.heap.size 239 2 (.slice A9 (q + 1) c9) (q + 1) (flat Wl.enc2 (Wl.ins (id, Wl.cut 1152921504606846976) (Wl.wo T id))) := by
                refine Hi.own_same HO9.out (fun g' hg' => ?_)
                have hg := (HO9.out.lt g' hg').1
                rw [heap_setCell_other _ _ g' _ (fun e => by have e : g' = w.heap.size + 1 := e; omega), heap_setCell_other _ _ g' _ (fun e => by have e : g' = w.heap.size + 1 := e; omega), heap_setCell_other _ _ g' _ (fun e => by have e : g' = w.heap.size + 1 := e; omega), heap_setCell_other _ _ g' _ (fun e => by have e : g' = w.heap.size + 1 := e; omega), heap_setCell_other _ _ g' _ (fun e => by have e : g' = w.heap.size := e; omega)]
              have hdk := HD.out.later hfin
              refine bodyPost_ret (v := .tuple #[.agg #[.int .u64 leak, .slice A7 (n + 1) c7, .slice A2 n2 c2, .slice A9 (q + 1) c9], .int .i64 0]) (by simp [results, Tryz.results86, go_sem, r0, r1, r2, r3]) rfl ⟨⟨A7, n + 1, c7, A2, n2, c2, A9, q + 1, c9⟩, XL, rfl, HPM.out, HSD2.out, by rw [HET.out]; exact ⟨Rs.own_rs enc4_len HXL.out hset, hdk.m, Rs.own_rs Wl.enc2_len (by rw [Wl.ins_len, HQ.out]) hset2, Wl.own_fm hset2, Wl.own_fm hset, Kn.own hset (fun g hg => HKK.out g (by omega)), hdk.km, Kn.own hset2 (fun g hg => HKK.out g (by omega))⟩, hfin⟩
          · have q6 : decide (now ≤ 1152921504606846976) = false := decide_eq_false a1
            have ec : cAdd now leak = 1152921504606846976 := by unfold cAdd; rw [if_neg (by omega)]
            rw [ec] at HET
            clear ec
            go_wp2_with fail
            refine (Wl.tarm_room A3 n3 c3 w.heap.size T id 1152921504606846976 w7 HTR.out (by omega) (by omega) HTMS.out ⟨by omega, by omega⟩ HNF.out).mono ?_
            rintro e w9 ⟨A9, c9, rfl, ho9, hb9⟩
            obtain ⟨q, hq⟩ : ∃ q, (Wl.wo T id).length = q := ⟨_, rfl⟩
            rw [hq] at ho9 ⊢
            have HO9 := Lib.hid ho9
            have HQ := Lib.hid hq
            have HB9 := Lib.hid (HB7.out.trans (hb9.mono (by omega)))
            have HO79 : Hid (w9.ownsRow (w.heap.size + 2) 210 4 (.slice A7 (n + 1) c7) (n + 1) (flat enc4 XL)) := Lib.hid (Hi.own_same HO7.out (fun g' hg' => hb9.block g' (HO7.out.lt g' hg').2))
            obtain ⟨⟨f0, f1, f2, f3⟩, g0, g1, g2, g3⟩ := VF7.out.below hb9 (by omega)
            obtain ⟨⟨r0, r1, r2, r3⟩, z0, z1, z2, z3⟩ := VR7.out.below hb9 (by omega)
            have hs9 : w7.heap.size ≤ w9.heap.size := hb9.size
            clear hb9 ho9 hq
            go_wp2_with fail
            have hfin : Below w.heap.size w (((((w9.setCell ⟨w.heap.size, 3, none⟩ (.slice A9 (q + 1) c9)).setCell ⟨w.heap.size + 1, 0, none⟩ (.int .u64 leak)).setCell ⟨w.heap.size + 1, 1, none⟩ (.slice A7 (n + 1) c7)).setCell ⟨w.heap.size + 1, 2, none⟩ (.slice A2 n2 c2)).setCell ⟨w.heap.size + 1, 3, none⟩ (.slice A9 (q + 1) c9)) := by
              repeat' (first | exact HB9.out | apply Below.setCell | apply below_drewN | apply Below.drew | apply Below.alloc)
              all_goals (first | (simp; done) | (simp; omega))
            have hset : (((((w9.setCell ⟨w.heap.size, 3, none⟩ (.slice A9 (q + 1) c9)).setCell ⟨w.heap.size + 1, 0, none⟩ (.int .u64 leak)).setCell ⟨w.heap.size + 1, 1, none⟩ (.slice A7 (n + 1) c7)).setCell ⟨w.heap.size + 1, 2, none⟩ (.slice A2 n2 c2)).setCell ⟨w.heap.size + 1, 3, none⟩ (.slice A9 (q + 1) c9)).ownsRow (w.heap.size + 2) 210 4 (.slice A7 (n + 1) c7) (n + 1) (flat enc4 XL) := by
              refine Hi.own_same HO79.out (fun g' hg' => ?_)
              have hg := (HO79.out.lt g' hg').1
              rw [heap_setCell_other _ _ g' _ (fun e => by have e : g' = w.heap.size + 1 := e; omega), heap_setCell_other _ _ g' _ (fun e => by have e : g' = w.heap.size + 1 := e; omega), heap_setCell_other _ _ g' _ (fun e => by have e : g' = w.heap.size + 1 := e; omega), heap_setCell_other _ _ g' _ (fun e => by have e : g' = w.heap.size + 1 := e; omega), heap_setCell_other _ _ g' _ (fun e => by have e : g' = w.heap.size := e; omega)]
            have hset2 : (((((w9.setCell ⟨w.heap.size, 3, none⟩ (.slice A9 (q + 1) c9)).setCell ⟨w.heap.size + 1, 0, none⟩ (.int .u64 leak)).setCell ⟨w.heap.size + 1, 1, none⟩ (.slice A7 (n + 1) c7)).setCell ⟨w.heap.size + 1, 2, none⟩ (.slice A2 n2 c2)).setCell ⟨w.heap.size + 1, 3, none⟩ (.slice A9 (q + 1) c9)).ownsRow w7.heap.size 239 2 (.slice A9 (q + 1) c9) (q + 1) (flat Wl.enc2 (Wl.ins (id, Wl.cut 1152921504606846976) (Wl.wo T id))) := by
              refine Hi.own_same HO9.out (fun g' hg' => ?_)
              have hg := (HO9.out.lt g' hg').1
              rw [heap_setCell_other _ _ g' _ (fun e => by have e : g' = w.heap.size + 1 := e; omega), heap_setCell_other _ _ g' _ (fun e => by have e : g' = w.heap.size + 1 := e; omega), heap_setCell_other _ _ g' _ (fun e => by have e : g' = w.heap.size + 1 := e; omega), heap_setCell_other _ _ g' _ (fun e => by have e : g' = w.heap.size + 1 := e; omega), heap_setCell_other _ _ g' _ (fun e => by have e : g' = w.heap.size := e; omega)]
            have hdk := HD.out.later hfin
            refine bodyPost_ret (v := .tuple #[.agg #[.int .u64 leak, .slice A7 (n + 1) c7, .slice A2 n2 c2, .slice A9 (q + 1) c9], .int .i64 0]) (by simp [results, Tryz.results86, go_sem, r0, r1, r2, r3]) rfl ⟨⟨A7, n + 1, c7, A2, n2, c2, A9, q + 1, c9⟩, XL, rfl, HPM.out, HSD2.out, by rw [HET.out]; exact ⟨Rs.own_rs enc4_len HXL.out hset, hdk.m, Rs.own_rs Wl.enc2_len (by rw [Wl.ins_len, HQ.out]) hset2, Wl.own_fm hset2, Wl.own_fm hset, Kn.own hset (fun g hg => HKK.out g (by omega)), hdk.km, Kn.own hset2 (fun g hg => HKK.out g (by omega))⟩, hfin⟩
end
end Go.Proofs.YthmdiaingolfnaaGreatDoor.Le
namespace Go.Proofs.YthmdiaingolfnaaGreatDoor.Le
open Go.ChangeShapes Go.WideShapes Go.ChangeAt Go.RowKit Go.Deep Go.Maps Rw Hi Mt
set_option linter.unusedVariables false
section
variable (leak : Int) (A A2 A3 : Option Addr) (n c n2 c2 n3 c3 : Nat) (D : List (Int × Ls)) (M : List Int) (T : List (Int × Int)) (w : World)
set_option maxRecDepth 100000 in
set_option maxHeartbeats 1000000 in
theorem rmark_any {K : Nat → Prop} (id th : Int) (h : DkK K w ⟨A, n, c, A2, n2, c2, A3, n3, c3⟩ D M T) (hKK : ∀ g, w.heap.size ≤ g → K g) (hnd : Nd D) (hn : n ≤ 1000) (hn2 : n2 ≤ 1000) (hn3 : n3 ≤ 1000) :
    Calls Tryz.prog 101 #[.agg #[.int .u64 leak, .slice A n c, .slice A2 n2 c2, .slice A3 n3 c3], .int .u64 id, .int .i64 th] w fun e w' => ∃ d : Da, e = .returned (.tuple #[d.val leak, .int .i64 (wr D id th)]) ∧ DkK K w' d D (if holds D id th = true then M.filter (· != id) ++ [id] else M) T ∧ Below w.heap.size w w' := by
  obtain ⟨hb1, hvf, hvr, hsz⟩ := boxes leak A A2 A3 n c n2 c2 n3 c3 w
  have HD := Lib.hid h
  have HKK := Lib.hid hKK
  clear hKK
  have HB1 := Lib.hid hb1
  have HVF := Lib.hid hvf
  have HVR := Lib.hid hvr
  have HSZ := Lib.hid hsz
  have HH := Lib.hid (rholds_any leak A A2 A3 n c n2 c2 n3 c3 D ((w.alloc (.cells #[.int .u64 leak, .slice A n c, .slice A2 n2 c2, .slice A3 n3 c3] 62)).alloc (.cells #[.int .u64 0, .slice none 0 0, .slice none 0 0, .slice none 0 0] 62)) id th (h.l.later hb1) (by omega))
  have HDL : Hid (D.length = n) := Lib.hid h.l.len
  have HML : Hid (M.length = n2) := Lib.hid h.m.len
  have HTL : Hid (T.length = n3) := Lib.hid h.t.len
  clear h hb1 hvf hvr hsz
  obtain ⟨i0, hi, hz0, hz1, hz2⟩ := info_parts info_u64'
  unfold wr
  by_cases hh : holds D id th = true
  · rw [if_pos hh, if_pos hh]
    obtain ⟨k, y, hk, hne, hfx⟩ : ∃ (k : Nat) (y : Ls), D[k]? = some (id, y) ∧ (∀ a ∈ D.take k, a.1 ≠ id) ∧ hx D id th = k := by
      rcases fx_cases D id with ⟨h1, h2⟩ | ⟨k, y, h1, h2, h3, h4⟩
      · unfold holds at hh; rw [h1] at hh; cases hh
      · exact ⟨k, y, h1, h2, by unfold hx; rw [if_pos hh, h3]⟩
    rw [hfx] at HH
    have hkn : k < n := by have := (List.getElem?_eq_some_iff.1 hk).1; have := HDL.out; omega
    have hk0 : decide ((k : Int) < 0) = false := decide_eq_false (by omega)
    clear hk hne hfx hh
    go_enter Tryz.func101, Tryz.ntmps101
    go_wp2_with fail
    refine HH.out.mono ?_
    rintro e w3 ⟨rfl, hb3⟩
    have HBW := Lib.hid (HB1.out.trans (hb3.mono HB1.out.size))
    have VF := Lib.hid (HVF.out.below hb3 (by have := HSZ.out; omega))
    have VR := Lib.hid (HVR.out.below hb3 (by have := HSZ.out; omega))
    obtain ⟨⟨f0, f1, f2, f3⟩, g0, g1, g2, g3⟩ := VF.out
    have hs3 : w.heap.size + 2 ≤ w3.heap.size := by have := hb3.size; have := HSZ.out; omega
    clear hb3 HVF HVR HB1 HH
    go_wp2_with fail
    refine (rforget_any leak A A2 A3 n c n2 c2 n3 c3 D M T w3 id (HD.out.later HBW.out) (fun g hg => HKK.out g (by omega)) (by omega)).mono ?_
    rintro e w4 ⟨A5, c5, rfl, dk4, ho4, hb4⟩
    obtain ⟨Q, hQ⟩ : ∃ Q, M.filter (· != id) = Q := ⟨_, rfl⟩
    have hQl : Q.length ≤ 1000 := by rw [← hQ]; have := List.length_filter_le (· != id) M; have := HML.out; omega
    rw [hQ] at dk4 ho4 ⊢
    obtain ⟨q, hq⟩ : ∃ q, Q.length = q := ⟨_, rfl⟩
    rw [hq] at dk4 ho4 hQl ⊢
    have HBW4 := Lib.hid (HBW.out.trans (hb4.mono (by omega)))
    obtain ⟨⟨f0, f1, f2, f3⟩, g0, g1, g2, g3⟩ := VF.out.below hb4 (by omega)
    have VR4 := Lib.hid (VR.out.below hb4 (by omega))
    have hs4 : w3.heap.size ≤ w4.heap.size := hb4.size
    have HO4 := Lib.hid ho4
    have HQQ := Lib.hid hQ
    have HQ2 := Lib.hid hq
    clear hb4 dk4 ho4 hQ hq VF VR
    go_upto_region 4 with (fail)
    have hfr : Below w3.heap.size ((((w4.setCell ⟨w.heap.size, 0, none⟩ (.int .u64 leak)).setCell ⟨w.heap.size, 1, none⟩ (.slice A n c)).setCell ⟨w.heap.size, 2, none⟩ (.slice A5 q c5)).setCell ⟨w.heap.size, 3, none⟩ (.slice A3 n3 c3)) ((((w4.setCell ⟨w.heap.size, 0, none⟩ (.int .u64 leak)).setCell ⟨w.heap.size, 1, none⟩ (.slice A n c)).setCell ⟨w.heap.size, 2, none⟩ (.slice A5 q c5)).setCell ⟨w.heap.size, 3, none⟩ (.slice A3 n3 c3)) := Below.refl _ _
    have HO5 : Hid (((((w4.setCell ⟨w.heap.size, 0, none⟩ (.int .u64 leak)).setCell ⟨w.heap.size, 1, none⟩ (.slice A n c)).setCell ⟨w.heap.size, 2, none⟩ (.slice A5 q c5)).setCell ⟨w.heap.size, 3, none⟩ (.slice A3 n3 c3)).ownsRow w3.heap.size 22 1 (.slice A5 q c5) q (Q.map (Value.int .u64))) := Lib.hid (by
      refine Hi.own_same HO4.out (fun g' hg' => ?_)
      have hg := (HO4.out.lt g' hg').1
      rw [heap_setCell_other _ _ g' _ (fun e => by have e : g' = w.heap.size := e; omega), heap_setCell_other _ _ g' _ (fun e => by have e : g' = w.heap.size := e; omega), heap_setCell_other _ _ g' _ (fun e => by have e : g' = w.heap.size := e; omega), heap_setCell_other _ _ g' _ (fun e => by have e : g' = w.heap.size := e; omega)])
    have HB5 : Hid (Below w.heap.size w ((((w4.setCell ⟨w.heap.size, 0, none⟩ (.int .u64 leak)).setCell ⟨w.heap.size, 1, none⟩ (.slice A n c)).setCell ⟨w.heap.size, 2, none⟩ (.slice A5 q c5)).setCell ⟨w.heap.size, 3, none⟩ (.slice A3 n3 c3))) := Lib.hid (by
      repeat' (first | exact HBW4.out | apply Below.setCell | apply below_drewN | apply Below.drew | apply Below.alloc)
      all_goals (first | (simp; done) | (simp; omega)))
    have x0 : ((((w4.setCell ⟨w.heap.size, 0, none⟩ (.int .u64 leak)).setCell ⟨w.heap.size, 1, none⟩ (.slice A n c)).setCell ⟨w.heap.size, 2, none⟩ (.slice A5 q c5)).setCell ⟨w.heap.size, 3, none⟩ (.slice A3 n3 c3)).cell? ⟨w.heap.size, 0, none⟩ = some (.int .u64 leak) := by go_simp
    have x1 : ((((w4.setCell ⟨w.heap.size, 0, none⟩ (.int .u64 leak)).setCell ⟨w.heap.size, 1, none⟩ (.slice A n c)).setCell ⟨w.heap.size, 2, none⟩ (.slice A5 q c5)).setCell ⟨w.heap.size, 3, none⟩ (.slice A3 n3 c3)).cell? ⟨w.heap.size, 1, none⟩ = some (.slice A n c) := by go_simp
    have x2 : ((((w4.setCell ⟨w.heap.size, 0, none⟩ (.int .u64 leak)).setCell ⟨w.heap.size, 1, none⟩ (.slice A n c)).setCell ⟨w.heap.size, 2, none⟩ (.slice A5 q c5)).setCell ⟨w.heap.size, 3, none⟩ (.slice A3 n3 c3)).cell? ⟨w.heap.size, 2, none⟩ = some (.slice A5 q c5) := by go_simp
    have x3 : ((((w4.setCell ⟨w.heap.size, 0, none⟩ (.int .u64 leak)).setCell ⟨w.heap.size, 1, none⟩ (.slice A n c)).setCell ⟨w.heap.size, 2, none⟩ (.slice A5 q c5)).setCell ⟨w.heap.size, 3, none⟩ (.slice A3 n3 c3)).cell? ⟨w.heap.size, 3, none⟩ = some (.slice A3 n3 c3) := by go_simp
    have y0 : ((((w4.setCell ⟨w.heap.size, 0, none⟩ (.int .u64 leak)).setCell ⟨w.heap.size, 1, none⟩ (.slice A n c)).setCell ⟨w.heap.size, 2, none⟩ (.slice A5 q c5)).setCell ⟨w.heap.size, 3, none⟩ (.slice A3 n3 c3)).frozen? ⟨w.heap.size, 0, none⟩ = false := by go_simp
    have y1 : ((((w4.setCell ⟨w.heap.size, 0, none⟩ (.int .u64 leak)).setCell ⟨w.heap.size, 1, none⟩ (.slice A n c)).setCell ⟨w.heap.size, 2, none⟩ (.slice A5 q c5)).setCell ⟨w.heap.size, 3, none⟩ (.slice A3 n3 c3)).frozen? ⟨w.heap.size, 1, none⟩ = false := by go_simp
    have y2 : ((((w4.setCell ⟨w.heap.size, 0, none⟩ (.int .u64 leak)).setCell ⟨w.heap.size, 1, none⟩ (.slice A n c)).setCell ⟨w.heap.size, 2, none⟩ (.slice A5 q c5)).setCell ⟨w.heap.size, 3, none⟩ (.slice A3 n3 c3)).frozen? ⟨w.heap.size, 2, none⟩ = false := by go_simp
    have y3 : ((((w4.setCell ⟨w.heap.size, 0, none⟩ (.int .u64 leak)).setCell ⟨w.heap.size, 1, none⟩ (.slice A n c)).setCell ⟨w.heap.size, 2, none⟩ (.slice A5 q c5)).setCell ⟨w.heap.size, 3, none⟩ (.slice A3 n3 c3)).frozen? ⟨w.heap.size, 3, none⟩ = false := by go_simp
    have V5 : Hid (V4 ((((w4.setCell ⟨w.heap.size, 0, none⟩ (.int .u64 leak)).setCell ⟨w.heap.size, 1, none⟩ (.slice A n c)).setCell ⟨w.heap.size, 2, none⟩ (.slice A5 q c5)).setCell ⟨w.heap.size, 3, none⟩ (.slice A3 n3 c3)) w.heap.size (.int .u64 leak) (.slice A n c) (.slice A5 q c5) (.slice A3 n3 c3)) := Lib.hid ⟨⟨x0, x1, x2, x3⟩, y0, y1, y2, y3⟩
    have VR5 : Hid (V4 ((((w4.setCell ⟨w.heap.size, 0, none⟩ (.int .u64 leak)).setCell ⟨w.heap.size, 1, none⟩ (.slice A n c)).setCell ⟨w.heap.size, 2, none⟩ (.slice A5 q c5)).setCell ⟨w.heap.size, 3, none⟩ (.slice A3 n3 c3)) (w.heap.size + 1) (.int .u64 0) (.slice none 0 0) (.slice none 0 0) (.slice none 0 0)) := Lib.hid (by
      obtain ⟨⟨r0, r1, r2, r3⟩, z0, z1, z2, z3⟩ := VR4.out
      exact ⟨⟨by go_simp, by go_simp, by go_simp, by go_simp⟩, by go_simp, by go_simp, by go_simp, by go_simp⟩)
    have hs5 : ((((w4.setCell ⟨w.heap.size, 0, none⟩ (.int .u64 leak)).setCell ⟨w.heap.size, 1, none⟩ (.slice A n c)).setCell ⟨w.heap.size, 2, none⟩ (.slice A5 q c5)).setCell ⟨w.heap.size, 3, none⟩ (.slice A3 n3 c3)).heap.size = w4.heap.size := by simp
    clear f0 f1 f2 f3 g0 g1 g2 g3 hfr VR4 HO4 HBW4 x0 x1 x3 y0 y1 y2 y3 x2
    generalize ((((w4.setCell ⟨w.heap.size, 0, none⟩ (.int .u64 leak)).setCell ⟨w.heap.size, 1, none⟩ (.slice A n c)).setCell ⟨w.heap.size, 2, none⟩ (.slice A5 q c5)).setCell ⟨w.heap.size, 3, none⟩ (.slice A3 n3 c3)) = w5 at *
    have hs5' : w4.heap.size ≤ w5.heap.size := by omega
    clear hs5
    obtain ⟨⟨x0, x1, x2, x3⟩, y0, y1, y2, y3⟩ := V5.out
    have HRD := Lib.hid (rd_one (enc := Value.int .u64) w5 id 22)
    have HO6 := Lib.hid (HO5.out.alloc (.cells #[.int .u64 id] 22))
    have HB6 := Lib.hid ((Below.refl w3.heap.size w5).alloc (by omega) (.cells #[.int .u64 id] 22))
    have HMP : Hid (Q.map (Value.int .u64) ++ [id].map (Value.int .u64) = (Q ++ [id]).map (Value.int .u64)) := Lib.hid (by simp)
    go_wp2_with (
      at_builtin
      refine append_rd _ rfl _ _ 54 rfl w3.heap.size 22 i0 (.int .u64 0) 8 Tryz.underlying54 hi hz0 hz1 hz2 rfl _ q _ rfl HO6.out _ _ 1 1 [id] rfl HRD.out (fun _ => rfl) (q + 1) rfl _ HMP.out (by unfold maxLen; omega) (by omega) (by simp; omega) ?_
      intro A7 c7 w7 ho7 hg7 hat7
      have b57 : Below w3.heap.size w5 w7 := HB6.out.grown hg7 (by simp; omega) (fun j hj => (HO6.out.lt j hj).1)
      have HO7 := Lib.hid ho7
      have HBW7 := Lib.hid (HB5.out.trans (b57.mono (by omega)))
      obtain ⟨⟨f0, f1, f2, f3⟩, g0, g1, g2, g3⟩ := V5.out.below b57 (by omega)
      obtain ⟨⟨r0, r1, r2, r3⟩, z0, z1, z2, z3⟩ := VR5.out.below b57 (by omega)
      have hs7 : w3.heap.size ≤ w7.heap.size := by have := b57.size; omega
      clear b57 ho7 hg7 hat7 x0 x1 x2 x3 y0 y1 y2 y3 V5 VR5 HO5 HO6 HRD)
    have hfin : Below w.heap.size w (((((w7.setCell ⟨w.heap.size, 2, none⟩ (.slice A7 (q + 1) c7)).setCell ⟨w.heap.size + 1, 0, none⟩ (.int .u64 leak)).setCell ⟨w.heap.size + 1, 1, none⟩ (.slice A n c)).setCell ⟨w.heap.size + 1, 2, none⟩ (.slice A7 (q + 1) c7)).setCell ⟨w.heap.size + 1, 3, none⟩ (.slice A3 n3 c3)) := by
      repeat' (first | exact HBW7.out | apply Below.setCell | apply below_drewN | apply Below.drew | apply Below.alloc)
      all_goals (first | (simp; done) | (simp; omega))
    have hset : (((((w7.setCell ⟨w.heap.size, 2, none⟩ (.slice A7 (q + 1) c7)).setCell ⟨w.heap.size + 1, 0, none⟩ (.int .u64 leak)).setCell ⟨w.heap.size + 1, 1, none⟩ (.slice A n c)).setCell ⟨w.heap.size + 1, 2, none⟩ (.slice A7 (q + 1) c7)).setCell ⟨w.heap.size + 1, 3, none⟩ (.slice A3 n3 c3)).ownsRow w3.heap.size 22 1 (.slice A7 (q + 1) c7) (q + 1) ((Q ++ [id]).map (Value.int .u64)) := by
      refine Hi.own_same HO7.out (fun g' hg' => ?_)
      have hg := (HO7.out.lt g' hg').1
      rw [heap_setCell_other _ _ g' _ (fun e => by have e : g' = w.heap.size + 1 := e; omega), heap_setCell_other _ _ g' _ (fun e => by have e : g' = w.heap.size + 1 := e; omega), heap_setCell_other _ _ g' _ (fun e => by have e : g' = w.heap.size + 1 := e; omega), heap_setCell_other _ _ g' _ (fun e => by have e : g' = w.heap.size + 1 := e; omega), heap_setCell_other _ _ g' _ (fun e => by have e : g' = w.heap.size := e; omega)]
    have hdk := HD.out.later hfin
    refine bodyPost_ret (v := .tuple #[.agg #[.int .u64 leak, .slice A n c, .slice A7 (q + 1) c7, .slice A3 n3 c3], .int .i64 0]) (by simp [results, Tryz.results101, go_sem, r0, r1, r2, r3]) rfl ⟨⟨A, n, c, A7, q + 1, c7, A3, n3, c3⟩, rfl, ⟨hdk.l, by rw [HQQ.out]; exact Rd.own_rd hset, hdk.t, hdk.fm, hdk.fl, hdk.kl, Kn.own hset (fun g hg => HKK.out g (by omega)), hdk.kt⟩, hfin⟩
  · rw [if_neg hh, if_neg hh]
    have hh : holds D id th = false := by simpa using hh
    have e5 : hx D id th = -1 := by unfold hx; rw [if_neg (by rw [hh]; decide)]
    rw [e5] at HH
    clear e5 hh
    go_enter Tryz.func101, Tryz.ntmps101
    go_wp2_with fail
    refine HH.out.mono ?_
    rintro e w3 ⟨rfl, hb3⟩
    have HBW := Lib.hid (HB1.out.trans (hb3.mono HB1.out.size))
    obtain ⟨⟨f0, f1, f2, f3⟩, g0, g1, g2, g3⟩ := HVF.out.below hb3 (by have := HSZ.out; omega)
    obtain ⟨⟨r0, r1, r2, r3⟩, z0, z1, z2, z3⟩ := HVR.out.below hb3 (by have := HSZ.out; omega)
    have hs3 : w.heap.size + 2 ≤ w3.heap.size := by have := hb3.size; have := HSZ.out; omega
    clear hb3 HVF HVR HB1 HH
    go_wp2_with fail
    have hfin : Below w.heap.size w ((((w3.setCell ⟨w.heap.size + 1, 0, none⟩ (.int .u64 leak)).setCell ⟨w.heap.size + 1, 1, none⟩ (.slice A n c)).setCell ⟨w.heap.size + 1, 2, none⟩ (.slice A2 n2 c2)).setCell ⟨w.heap.size + 1, 3, none⟩ (.slice A3 n3 c3)) := by
      repeat' (first | exact HBW.out | apply Below.setCell | apply below_drewN | apply Below.drew | apply Below.alloc)
      all_goals (first | (simp; done) | (simp; omega))
    refine bodyPost_ret (v := .tuple #[.agg #[.int .u64 leak, .slice A n c, .slice A2 n2 c2, .slice A3 n3 c3], .int .i64 5]) (by simp [results, Tryz.results101, go_sem, r0, r1, r2, r3]) rfl ⟨⟨A, n, c, A2, n2, c2, A3, n3, c3⟩, rfl, HD.out.later hfin, hfin⟩
end
end Go.Proofs.YthmdiaingolfnaaGreatDoor.Le
