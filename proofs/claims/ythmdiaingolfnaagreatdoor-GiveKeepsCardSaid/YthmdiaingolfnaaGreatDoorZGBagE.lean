/- A part of the claim: the texts BagRefE BagPlaysKit. -/
import Derived.Test.YthmdiaingolfnaaGreatDoorZGBagRef
import Derived.Test.YthmdiaingolfnaaGreatDoorZGBagG
import Derived.Test.YthmdiaingolfnaaGreatDoorZGAw
import Derived.Test.YthmdiaingolfnaaGreatDoorZGSort
import Derived.Test.YthmdiaingolfnaaGreatDoorZBase1
import Derived.Test.YthmdiaingolfnaaGreatDoorZGBag
import Derived.Deep.CutRange
import Derived.Deep.CutBlock
import Derived.RangeFuncSeq
namespace Go.Proofs.YthmdiaingolfnaaGreatDoor.Ba
open Go.ChangeShapes Go.WideShapes Go.ChangeAt Go.RowKit Go.Deep Go.Maps Rw Hi Mt
set_option linter.unusedVariables false
section
variable {β : Type} {D : List (Int × β)} {id : Int} {k : Nat}
theorem ris_rest (h : Ris D) (hk : ∀ a, D[k]? = some a → id < a.1) : ∀ a ∈ D.drop k, id < a.1 := by
  intro a ha
  obtain ⟨j, hj, rfl⟩ := List.mem_iff_getElem.1 ha
  rw [List.getElem_drop]
  rw [List.length_drop] at hj
  have h0 := hk _ (List.getElem?_eq_getElem (show k < D.length by omega))
  rcases Nat.eq_zero_or_pos j with e | e
  · subst e; exact h0
  · have := List.pairwise_iff_getElem.1 h k (k + j) (by omega) (by omega) (by omega)
    exact Int.lt_trans h0 this
theorem take_below {a : Int × β} (h : ∀ a ∈ D.take k, a.1 < id) (hk : D[k]? = some a) (hlt : a.1 < id) : ∀ a ∈ D.take (k + 1), a.1 < id := by
  obtain ⟨hl, rfl⟩ := List.getElem?_eq_some_iff.1 hk
  intro b hb
  rw [List.take_succ_eq_append_getElem hl] at hb
  rcases List.mem_append.1 hb with hb | hb
  · exact h b hb
  · rw [List.mem_singleton.1 hb]; exact hlt
theorem ins_at (x : β) (hlo : ∀ a ∈ D.take k, a.1 < id) (hhi : ∀ a ∈ D.drop k, id < a.1) : D.take k ++ (id, x) :: D.drop k = ins D id x := by
  have e1 : D.filter (fun q => decide (q.1 < id)) = D.take k := by
    conv => lhs; rw [← List.take_append_drop k D, List.filter_append]
    rw [List.filter_eq_self.2 (fun a ha => by simpa using hlo a ha), List.filter_eq_nil_iff.2 (fun a ha => by have := hhi a ha; simp; omega), List.append_nil]
  have e2 : D.filter (fun q => decide (id < q.1)) = D.drop k := by
    conv => lhs; rw [← List.take_append_drop k D, List.filter_append]
    rw [List.filter_eq_nil_iff.2 (fun a ha => by have := hlo a ha; simp; omega), List.filter_eq_self.2 (fun a ha => by simpa using hhi a ha), List.nil_append]
  show _ = D.filter (fun q => decide (q.1 < id)) ++ (id, x) :: D.filter (fun q => decide (id < q.1))
  rw [e1, e2]
end
section
variable {K : Nat → Prop} (A A2 : Option Addr) (n c n2 c2 : Nat) (D : List (Int × Ex)) (S : List Int) (w : World)
set_option maxRecDepth 100000 in
set_option maxHeartbeats 2000000 in
theorem renter_any (id st now : Int) (h : Dq K w ⟨A, n, c, A2, n2, c2⟩ D S) (hKK : ∀ g, w.heap.size ≤ g → K g) (hs : Ris D) (hid : U64 id) (hst : -9223372036854775808 ≤ st ∧ st ≤ 9223372036854775807) (hnow : U64 now) (hn : n ≤ 1000) :
    Calls Tryz.prog 50 #[.agg #[.slice A n c, .slice A2 n2 c2], .int .u64 id, .int .i64 st, .int .u64 now] w fun e w' => ∃ A' n' c', e = .returned (.tuple #[.agg #[.slice A' n' c', .slice A2 n2 c2], .int .i64 (eE D id st)]) ∧
      Dq K w' ⟨A', n', c', A2, n2, c2⟩ (if eE D id st = 0 then ins D id ⟨Wd.wOf st 0, now, now, now⟩ else D) S ∧ Below w.heap.size w w' := by
  obtain ⟨i0, hi, hz0, hz1, hz2⟩ := info_parts info_entry
  obtain ⟨hb1, hvf, hvr, hsz⟩ := two_boxes A A2 n c n2 c2 w
  have HD := Lib.hid h
  have HKK := Lib.hid hKK
  clear hKK
  have HSD := Lib.hid hs
  have HDL : Hid (D.length = n) := Lib.hid h.l.len
  clear h hs
  by_cases h1 : id = 0 ∨ st < 0 ∨ 3 < st
  · have e : eE D id st = 2 := by unfold eE; rw [if_pos h1]
    rw [e, if_neg (by decide)]
    clear e
    go_enter Tryz.func50, Tryz.ntmps50
    go_upto_region 1 with (fail)
    obtain ⟨W1, hW1⟩ : ∃ W1, ((w.alloc (.cells #[.slice A n c, .slice A2 n2 c2] 56)).alloc (.cells #[.slice none 0 0, .slice none 0 0] 56)) = W1 := ⟨_, rfl⟩
    rw [hW1] at hb1 hvf hvr hsz ⊢
    have HB1 := Lib.hid hb1
    have HVF := Lib.hid hvf
    have HVR := Lib.hid hvr
    obtain ⟨⟨f0, f1⟩, g0, g1⟩ := hvf
    obtain ⟨⟨r0, r1⟩, z0, z1⟩ := hvr
    clear hW1 hb1
    by_cases hz : id = 0
    · have q0 : (id == 0) = true := by simpa using hz
      clear h1 hz
      go_wp2_with fail
      have hfin : Below w.heap.size w ((W1.setCell ⟨w.heap.size + 1, 0, none⟩ (.slice A n c)).setCell ⟨w.heap.size + 1, 1, none⟩ (.slice A2 n2 c2)) :=
        ((HB1.out).setCell (p := ⟨w.heap.size + 1, 0, none⟩) (by show w.heap.size ≤ w.heap.size + 1; omega) _).setCell (p := ⟨w.heap.size + 1, 1, none⟩) (by show w.heap.size ≤ w.heap.size + 1; omega) _
      exact bodyPost_ret (v := .tuple #[.agg #[.slice A n c, .slice A2 n2 c2], .int .i64 2]) (by simp [results, Tryz.results50, go_sem, r0, r1]) rfl ⟨_, _, _, rfl, HD.out.later hfin, hfin⟩
    · have q0 : (id == 0) = false := by simpa using hz
      by_cases h0 : st < 0
      · have q1 : decide (st < 0) = true := decide_eq_true h0
        clear h1 h0 hz
        go_wp2_with fail
        have hfin : Below w.heap.size w ((W1.setCell ⟨w.heap.size + 1, 0, none⟩ (.slice A n c)).setCell ⟨w.heap.size + 1, 1, none⟩ (.slice A2 n2 c2)) :=
          ((HB1.out).setCell (p := ⟨w.heap.size + 1, 0, none⟩) (by show w.heap.size ≤ w.heap.size + 1; omega) _).setCell (p := ⟨w.heap.size + 1, 1, none⟩) (by show w.heap.size ≤ w.heap.size + 1; omega) _
        exact bodyPost_ret (v := .tuple #[.agg #[.slice A n c, .slice A2 n2 c2], .int .i64 2]) (by simp [results, Tryz.results50, go_sem, r0, r1]) rfl ⟨_, _, _, rfl, HD.out.later hfin, hfin⟩
      · have q1 : decide (st < 0) = false := decide_eq_false h0
        have q2 : decide (3 < st) = true := decide_eq_true (by omega)
        clear h1 h0 hz
        go_wp2_with fail
        have hfin : Below w.heap.size w ((W1.setCell ⟨w.heap.size + 1, 0, none⟩ (.slice A n c)).setCell ⟨w.heap.size + 1, 1, none⟩ (.slice A2 n2 c2)) :=
          ((HB1.out).setCell (p := ⟨w.heap.size + 1, 0, none⟩) (by show w.heap.size ≤ w.heap.size + 1; omega) _).setCell (p := ⟨w.heap.size + 1, 1, none⟩) (by show w.heap.size ≤ w.heap.size + 1; omega) _
        exact bodyPost_ret (v := .tuple #[.agg #[.slice A n c, .slice A2 n2 c2], .int .i64 2]) (by simp [results, Tryz.results50, go_sem, r0, r1]) rfl ⟨_, _, _, rfl, HD.out.later hfin, hfin⟩
  have q0 : (id == 0) = false := by have : id ≠ 0 := by omega
                                    simpa using this
  have q1 : decide (st < 0) = false := decide_eq_false (by omega)
  have q2 : decide (3 < st) = false := decide_eq_false (by omega)
  rcases fx_cases D id with ⟨hfn, hfx⟩ | ⟨k, y, hk, hne, hfx, hfn⟩
  rotate_left
  · have e : eE D id st = 10 := by unfold eE; rw [if_neg h1, hfn]; rfl
    rw [e, if_neg (by decide)]
    clear e
    have q3 : decide ((0 : Int) ≤ (k : Int)) = true := decide_eq_true (by omega)
    clear h1 hk hne hfn
    go_enter Tryz.func50, Tryz.ntmps50
    go_upto_region 1 with (fail)
    obtain ⟨W1, hW1⟩ : ∃ W1, ((w.alloc (.cells #[.slice A n c, .slice A2 n2 c2] 56)).alloc (.cells #[.slice none 0 0, .slice none 0 0] 56)) = W1 := ⟨_, rfl⟩
    rw [hW1] at hb1 hvf hvr hsz ⊢
    have HB1 := Lib.hid hb1
    have HVF := Lib.hid hvf
    have HVR := Lib.hid hvr
    obtain ⟨⟨f0, f1⟩, g0, g1⟩ := hvf
    obtain ⟨⟨r0, r1⟩, z0, z1⟩ := hvr
    clear hW1 hb1
    have HF := Lib.hid (rfind_any A A2 n c n2 c2 W1.heap.size D W1 id (HD.out.later HB1.out).l (Nat.le_refl _) (by omega))
    rw [hfx] at HF
    clear hfx
    go_wp2_with fail
    refine HF.out.mono ?_
    rintro e w2 ⟨rfl, hb2⟩
    have HBW := Lib.hid (HB1.out.trans (hb2.mono HB1.out.size))
    have VF := Lib.hid (HVF.out.below hb2 (by omega))
    have VR := Lib.hid (HVR.out.below hb2 (by omega))
    have hs2 : w.heap.size + 2 ≤ w2.heap.size := by have := hb2.size; omega
    clear hb2 HVF HVR HB1 HF hsz f0 f1 g0 g1 r0 r1 z0 z1
    obtain ⟨⟨f0, f1⟩, g0, g1⟩ := VF.out
    obtain ⟨⟨r0, r1⟩, z0, z1⟩ := VR.out
    go_wp2_with fail
    have hfin : Below w.heap.size w ((w2.setCell ⟨w.heap.size + 1, 0, none⟩ (.slice A n c)).setCell ⟨w.heap.size + 1, 1, none⟩ (.slice A2 n2 c2)) :=
      ((HBW.out).setCell (p := ⟨w.heap.size + 1, 0, none⟩) (by show w.heap.size ≤ w.heap.size + 1; omega) _).setCell (p := ⟨w.heap.size + 1, 1, none⟩) (by show w.heap.size ≤ w.heap.size + 1; omega) _
    exact bodyPost_ret (v := .tuple #[.agg #[.slice A n c, .slice A2 n2 c2], .int .i64 10]) (by simp [results, Tryz.results50, go_sem, r0, r1]) rfl ⟨_, _, _, rfl, HD.out.later hfin, hfin⟩
  have e0 : eE D id st = 0 := by unfold eE; rw [if_neg h1, hfn]; rfl
  have HNO : Hid (∀ a ∈ D, a.1 ≠ id) := Lib.hid (fun a ha e => fnd_no hfn (List.mem_map.2 ⟨a, ha, e⟩))
  rw [e0, if_pos rfl]
  have q3 : decide ((0 : Int) ≤ -1) = false := rfl
  clear h1 hfn e0
  go_enter Tryz.func50, Tryz.ntmps50
  go_upto_region 1 with (fail)
  obtain ⟨W1, hW1⟩ : ∃ W1, ((w.alloc (.cells #[.slice A n c, .slice A2 n2 c2] 56)).alloc (.cells #[.slice none 0 0, .slice none 0 0] 56)) = W1 := ⟨_, rfl⟩
  rw [hW1] at hb1 hvf hvr hsz ⊢
  have HB1 := Lib.hid hb1
  have HVF := Lib.hid hvf
  have HVR := Lib.hid hvr
  obtain ⟨⟨f0, f1⟩, g0, g1⟩ := hvf
  obtain ⟨⟨r0, r1⟩, z0, z1⟩ := hvr
  clear hW1 hb1
  have HF := Lib.hid (rfind_any A A2 n c n2 c2 W1.heap.size D W1 id (HD.out.later HB1.out).l (Nat.le_refl _) (by omega))
  rw [hfx] at HF
  clear hfx
  go_wp2_with fail
  refine HF.out.mono ?_
  rintro e w2 ⟨rfl, hb2⟩
  have HBW := Lib.hid (HB1.out.trans (hb2.mono HB1.out.size))
  have VF := Lib.hid (HVF.out.below hb2 (by omega))
  have VR := Lib.hid (HVR.out.below hb2 (by omega))
  have hs2 : w.heap.size + 2 ≤ w2.heap.size := by have := hb2.size; omega
  clear hb2 HVF HVR HB1 HF hsz f0 f1 g0 g1 r0 r1 z0 z1
  obtain ⟨⟨f0, f1⟩, g0, g1⟩ := VF.out
  go_upto_block 0 with fail
  go_cut [10] from 28 to 44 (fun s10 wx => ∃ k : Nat, k ≤ n ∧ s10 = .int .i64 k ∧ Hid (∀ a ∈ D.take k, a.1 < id) ∧ Hid (∀ a ∈ D.drop k, id < a.1) ∧ w2 = wx)
  case first =>
    go_wp2_with fail
    go_loopw [10] (fun i wr => ∃ k : Nat, k ≤ n ∧ i = .int .i64 k ∧ Hid (∀ a ∈ D.take k, a.1 < id) ∧ w2 = wr) (fun i _ => n - (intOf i).toNat)
    case atStart => exact ⟨0, Nat.zero_le _, rfl, Lib.hid (fun a ha => by simp at ha), rfl⟩
    case round =>
      obtain ⟨k, hk, rfl, hlo, rfl⟩ := hrel
      by_cases hlt : k < n
      · obtain ⟨b, o, x, wd, bo, si, pr, rfl, hb, ha, c0, c1, c2', c3', c4'⟩ := five_at HD.out.l hlt
        have d0 := (HBW.out.cell (p := ⟨b, o + k * 5, none⟩) (by simp only; omega)).trans c0
        have HAA := Lib.hid ha
        have hkc : k < c := by have := HD.out.l.cap; have : n ≤ c := this; omega
        clear c0 c1 c2' c3' c4' ha
        by_cases hx : x < id
        · have e1 : decide (x < id) = true := decide_eq_true hx
          have HLO2 := Lib.hid (take_below hlo.out HAA.out hx)
          clear hx
          go_wp2_with fail
          go_roundw
          case rel => exact ⟨k + 1, by omega, by go_num, HLO2, by trivial⟩
          case measure => simp [intOf]; omega
        · have e1 : decide (x < id) = false := decide_eq_false hx
          have HHI : Hid (∀ a ∈ D.drop k, id < a.1) := Lib.hid (ris_rest HSD.out (fun a ha => by
            have h9 := HAA.out.symm.trans ha
            injection h9 with h9
            subst h9
            have := HNO.out _ (List.mem_of_getElem? HAA.out)
            have h8 : x ≠ id := this
            show id < x
            omega))
          clear hx
          go_wp2_with fail
          go_meet
          case rel => exact ⟨k, hk, rfl, hlo, HHI, rfl⟩
      · have HHI : Hid (∀ a ∈ D.drop k, id < a.1) := Lib.hid (fun a ha => by
          rw [List.drop_of_length_le (by have := HDL.out; omega)] at ha; cases ha)
        go_wp2_with fail
        go_meet
        case rel => exact ⟨k, hk, rfl, hlo, HHI, rfl⟩
  case rest =>
    obtain ⟨k, hk, rfl, HLO, HHI, rfl⟩ := hcut
    obtain ⟨XL, hXL⟩ : ∃ X, D.take k ++ (id, (⟨Wd.wOf st 0, now, now, now⟩ : Ex)) :: D.drop k = X := ⟨_, rfl⟩
    have HXI : Hid (XL = ins D id ⟨Wd.wOf st 0, now, now, now⟩) := Lib.hid (by rw [← hXL]; exact ins_at _ HLO.out HHI.out)
    have HE1 : Hid (flat enc5 (D.take k) ++ flat enc5 [(id, (⟨Wd.wOf st 0, now, now, now⟩ : Ex))] = flat enc5 (D.take k ++ [(id, (⟨Wd.wOf st 0, now, now, now⟩ : Ex))])) := Lib.hid (flat_append _ _).symm
    have HE2 : Hid (flat enc5 (D.take k ++ [(id, (⟨Wd.wOf st 0, now, now, now⟩ : Ex))]) ++ flat enc5 (D.drop k) = flat enc5 XL) := Lib.hid (by rw [← flat_append, ← hXL, List.append_assoc]; rfl)
    have HXL : Hid (XL.length = n + 1) := Lib.hid (by rw [← hXL]; have h2 := HDL.out; simp; omega)
    have HEN : Hid (k + 1 + (n - k) = n + 1) := Lib.hid (by omega)
    clear hXL HLO HHI
    go_upto_region 9 with (fail)
    go_cut [11] from 45 to 50 (fun s11 wx => ∃ (A5 : Option Addr) (c5 : Nat), s11 = .slice A5 k c5 ∧ Hid (wx.ownsRow (w.heap.size + 2) 179 5 (.slice A5 k c5) k (flat enc5 (D.take k))) ∧ Hid (Below (w.heap.size + 2) w2 wx) ∧ w2.heap.size ≤ wx.heap.size)
    case first =>
      rcases HD.out.fl with ⟨hA, hc⟩ | ⟨b, o, hA⟩
      · have hA : A = none := hA
        have hc : c = 0 := hc
        subst hA hc
        obtain rfl : n = 0 := by have : n ≤ 0 := HD.out.l.cap; omega
        obtain rfl : k = 0 := by omega
        have RF : Hid (Rb w2 w2.heap.size none 0 0 (D.take 0)) := Lib.hid (by rw [List.take_zero]; exact Rs.nil_)
        go_wp2_with (
          at_builtin
          refine append_rs enc5_len rfl _ _ 53 rfl (w.heap.size + 2) 179 i0 _ 40 Tryz.underlying53 hi hz0 hz1 hz2 rfl (by decide) (.slice none 0 0) 0 [] rfl (World.ownsRow_nil _ _ _ _) _ none 0 0 (D.take 0) rfl RF.out enc5_one 0 (Nat.zero_add _) (flat enc5 (D.take 0)) rfl (by unfold maxLen; omega) (by omega) (by omega) ?_
          intro A5 c5 w5 ho5 hg5 hat5
          have B5 := Lib.hid ((Below.refl (w.heap.size + 2) w2).grown hg5 (by omega) (fun j hj => by cases hj))
          have HO5 := Lib.hid ho5
          have hs5 : w2.heap.size ≤ w5.heap.size := hg5.size
          clear ho5 hg5 hat5)
        go_meet
        case rel => exact ⟨A5, c5, rfl, HO5, B5, hs5⟩
      · have hA : A = some ⟨b, o, none⟩ := hA
        subst hA
        have RF : Hid (Rb w2 w2.heap.size (some ⟨b, o, none⟩) k c (D.take k)) := Lib.hid ((HD.out.later HBW.out).l.front (i := k) hk)
        have hnc : n ≤ c := HD.out.l.cap
        have hkc : k ≤ c := by omega
        go_wp2_with (
          at_builtin
          refine append_rs enc5_len rfl _ _ 53 rfl (w.heap.size + 2) 179 i0 _ 40 Tryz.underlying53 hi hz0 hz1 hz2 rfl (by decide) (.slice none 0 0) 0 [] rfl (World.ownsRow_nil _ _ _ _) _ (some ⟨b, o, none⟩) k c (D.take k) rfl RF.out enc5_one k (Nat.zero_add _) (flat enc5 (D.take k)) rfl (by unfold maxLen; omega) (by omega) (by omega) ?_
          intro A5 c5 w5 ho5 hg5 hat5
          have B5 := Lib.hid ((Below.refl (w.heap.size + 2) w2).grown hg5 (by omega) (fun j hj => by cases hj))
          have HO5 := Lib.hid ho5
          have hs5 : w2.heap.size ≤ w5.heap.size := hg5.size
          clear ho5 hg5 hat5)
        go_meet
        case rel => exact ⟨A5, c5, rfl, HO5, B5, hs5⟩
    case rest =>
      obtain ⟨A5, c5, rfl, HO5, B5, hs5⟩ := hcut
      generalize wc = w5 at *
      have HRS := Lib.hid (rs_one enc5_len w5 (id, (⟨Wd.wOf st 0, now, now, now⟩ : Ex)) 179 (cs := #[.int .u64 id, .int .u64 (Wd.wOf st 0), .int .u64 now, .int .u64 now, .int .u64 now]) rfl)
      have HO5a := Lib.hid (HO5.out.alloc (.cells #[.int .u64 id, .int .u64 (Wd.wOf st 0), .int .u64 now, .int .u64 now, .int .u64 now] 179))
      have B5a := Lib.hid (B5.out.alloc (by omega) (.cells #[.int .u64 id, .int .u64 (Wd.wOf st 0), .int .u64 now, .int .u64 now, .int .u64 now] 179))
      have HOF := Lib.hid (Wd.rof_any st 0 w5 (by decide) (by decide) hst.1 hst.2)
      clear HO5 B5 f0 f1 g0 g1
      go_wp2_with fail
      refine HOF.out.mono ?_
      rintro e w5' ⟨rfl, rfl⟩
      go_wp2_with (
        at_builtin
        refine append_rs enc5_len rfl _ _ 53 rfl (w.heap.size + 2) 179 i0 _ 40 Tryz.underlying53 hi hz0 hz1 hz2 rfl (by decide) (.slice A5 k c5) k (flat enc5 (D.take k)) rfl HO5a.out _ _ 1 1 [(id, (⟨Wd.wOf st 0, now, now, now⟩ : Ex))] rfl HRS.out enc5_one (k + 1) rfl (flat enc5 (D.take k ++ [(id, (⟨Wd.wOf st 0, now, now, now⟩ : Ex))])) HE1.out (by unfold maxLen; omega) (by omega) (by simp; omega) ?_
        intro A6 c6 w6 ho6 hg6 hat6
        refine Hid.out ?_)
      refine Lib.hid ?_
      have B6 := Lib.hid (B5a.out.grown hg6 (by simp; omega) (fun j hj => (HO5a.out.lt j hj).1))
      have hs6 : w.heap.size + 2 ≤ w6.heap.size := by have := hg6.size; simp at this; omega
      have HO6 := Lib.hid ho6
      have VF6 := Lib.hid (VF.out.below B6.out (by omega))
      have VR6 := Lib.hid (VR.out.below B6.out (by omega))
      have HB6 := Lib.hid (HBW.out.trans (B6.out.mono (by omega)))
      obtain ⟨⟨f0, f1⟩, g0, g1⟩ := VF6.out
      clear ho6 hg6 hat6 HRS HO5a B5a VF VR B6 HOF
      go_upto_region 11 with (fail)
      go_cut [] from 61 to 67 (fun wx => ∃ (A7 : Option Addr) (c7 : Nat), Hid (Vb wx w.heap.size (.slice A7 (n + 1) c7) (.slice A2 n2 c2)) ∧ Hid (Vb wx (w.heap.size + 1) (.slice none 0 0) (.slice none 0 0)) ∧ Hid (wx.ownsRow (w.heap.size + 2) 179 5 (.slice A7 (n + 1) c7) (n + 1) (flat enc5 XL)) ∧ Hid (Below w.heap.size w wx) ∧ w.heap.size + 2 ≤ wx.heap.size)
      case first =>
        rcases HD.out.fl with ⟨hA, hc⟩ | ⟨b, o, hA⟩
        · have hA : A = none := hA
          have hc : c = 0 := hc
          subst hA hc
          obtain rfl : n = 0 := by have : n ≤ 0 := HD.out.l.cap; omega
          obtain rfl : k = 0 := by omega
          have RB : Hid (Rb w6 w6.heap.size none 0 0 (D.drop 0)) := Lib.hid (by rw [List.drop_of_length_le (by have := HDL.out; omega)]; exact Rs.nil_)
          go_wp2_with (
            at_builtin
            refine append_rs enc5_len rfl _ _ 53 rfl (w.heap.size + 2) 179 i0 _ 40 Tryz.underlying53 hi hz0 hz1 hz2 rfl (by decide) (.slice A6 (0 + 1) c6) (0 + 1) (flat enc5 (D.take 0 ++ [(id, (⟨Wd.wOf st 0, now, now, now⟩ : Ex))])) rfl HO6.out _ none 0 0 (D.drop 0) rfl RB.out enc5_one (0 + 1) HEN.out (flat enc5 XL) HE2.out (by unfold maxLen; omega) (by omega) (by omega) ?_
            intro A7 c7 w7 ho7 hg7 hat7
            have b67 : Below (w.heap.size + 2) w6 w7 := (Below.refl _ _).grown hg7 (by omega) (fun j hj => (HO6.out.lt j hj).1)
            have HO7 := Lib.hid ho7
            have HB7 := Lib.hid (HB6.out.trans (b67.mono (by omega)))
            obtain ⟨⟨f0, f1⟩, g0, g1⟩ := VF6.out.below b67 (by omega)
            have VR7 := Lib.hid (VR6.out.below b67 (by omega))
            have hs7 : w.heap.size + 2 ≤ w7.heap.size := by have := b67.size; omega
            clear b67 ho7 hg7 hat7)
          go_meet
          case rel =>
            refine ⟨A7, c7, ?_, ?_, ?_, ?_, by simp; omega⟩
            · exact Lib.hid ⟨⟨by go_simp, by go_simp⟩, by go_simp, by go_simp⟩
            · refine Lib.hid ?_
              obtain ⟨⟨r0, r1⟩, z0, z1⟩ := VR7.out
              exact ⟨⟨by go_simp, by go_simp⟩, by go_simp, by go_simp⟩
            · refine Lib.hid (Hi.own_same HO7.out (fun g' hg' => ?_))
              have hg := (HO7.out.lt g' hg').1
              rw [heap_setCell_other _ _ g' _ (fun e => by have e : g' = w.heap.size := e; omega)]
            · exact Lib.hid (HB7.out.setCell (Nat.le_refl _) _)
        · have hA : A = some ⟨b, o, none⟩ := hA
          subst hA
          have hnc : n ≤ c := HD.out.l.cap
          have hkc : k ≤ c := by omega
          have htop : c ≤ 9223372036854775807 := HD.out.l.top
          obtain ⟨A4, hA4⟩ : ∃ A4 : Option Addr, (if c = k then some (⟨b, o, none⟩ : Addr) else some ⟨b, o + k * 5, none⟩) = A4 := ⟨_, rfl⟩
          have hRl : Rb w w.heap.size (some ⟨b, o, none⟩) n c D := HD.out.l
          have RB0 : Rb w w.heap.size A4 (n - k) (c - k) (D.drop k) := hRl.back (i := k) hk rfl (fun hlt => by rw [← hA4, if_neg (by omega)])
          have RB := Lib.hid (RB0.later HB6.out)
          clear hRl RB0
          go_wp2_with (
            at_builtin
            refine append_rs enc5_len rfl _ _ 53 rfl (w.heap.size + 2) 179 i0 _ 40 Tryz.underlying53 hi hz0 hz1 hz2 rfl (by decide) (.slice A6 (k + 1) c6) (k + 1) (flat enc5 (D.take k ++ [(id, (⟨Wd.wOf st 0, now, now, now⟩ : Ex))])) rfl HO6.out _ A4 (n - k) (c - k) (D.drop k) rfl RB.out enc5_one (n + 1) HEN.out (flat enc5 XL) HE2.out (by unfold maxLen; omega) (by omega) (by omega) ?_
            intro A7 c7 w7 ho7 hg7 hat7
            have b67 : Below (w.heap.size + 2) w6 w7 := (Below.refl _ _).grown hg7 (by omega) (fun j hj => (HO6.out.lt j hj).1)
            have HO7 := Lib.hid ho7
            have HB7 := Lib.hid (HB6.out.trans (b67.mono (by omega)))
            obtain ⟨⟨f0, f1⟩, g0, g1⟩ := VF6.out.below b67 (by omega)
            have VR7 := Lib.hid (VR6.out.below b67 (by omega))
            have hs7 : w.heap.size + 2 ≤ w7.heap.size := by have := b67.size; omega
            clear b67 ho7 hg7 hat7)
          go_meet
          case rel =>
            refine ⟨A7, c7, ?_, ?_, ?_, ?_, by simp; omega⟩
            · exact Lib.hid ⟨⟨by go_simp, by go_simp⟩, by go_simp, by go_simp⟩
            · refine Lib.hid ?_
              obtain ⟨⟨r0, r1⟩, z0, z1⟩ := VR7.out
              exact ⟨⟨by go_simp, by go_simp⟩, by go_simp, by go_simp⟩
            · refine Lib.hid (Hi.own_same HO7.out (fun g' hg' => ?_))
              have hg := (HO7.out.lt g' hg').1
              rw [heap_setCell_other _ _ g' _ (fun e => by have e : g' = w.heap.size := e; omega)]
            · exact Lib.hid (HB7.out.setCell (Nat.le_refl _) _)
      case rest =>
        obtain ⟨A7, c7, VF7, VR7, HO7, HB7, hs7⟩ := hcut
        clear VF6 VR6 HO6 HB6 f0 f1 g0 g1
        generalize wc = w7 at *
        obtain ⟨⟨f0, f1⟩, g0, g1⟩ := VF7.out
        obtain ⟨⟨r0, r1⟩, z0, z1⟩ := VR7.out
        go_wp2_with fail
        have hfin : Below w.heap.size w ((w7.setCell ⟨w.heap.size + 1, 0, none⟩ (.slice A7 (n + 1) c7)).setCell ⟨w.heap.size + 1, 1, none⟩ (.slice A2 n2 c2)) :=
          ((HB7.out).setCell (p := ⟨w.heap.size + 1, 0, none⟩) (by show w.heap.size ≤ w.heap.size + 1; omega) _).setCell (p := ⟨w.heap.size + 1, 1, none⟩) (by show w.heap.size ≤ w.heap.size + 1; omega) _
        have hset : ((w7.setCell ⟨w.heap.size + 1, 0, none⟩ (.slice A7 (n + 1) c7)).setCell ⟨w.heap.size + 1, 1, none⟩ (.slice A2 n2 c2)).ownsRow (w.heap.size + 2) 179 5 (.slice A7 (n + 1) c7) (n + 1) (flat enc5 XL) := by
          refine Hi.own_same HO7.out (fun g' hg' => ?_)
          have hg := (HO7.out.lt g' hg').1
          rw [heap_setCell_other _ _ g' _ (fun e => by have e : g' = w.heap.size + 1 := e; omega), heap_setCell_other _ _ g' _ (fun e => by have e : g' = w.heap.size + 1 := e; omega)]
        have hdk := HD.out.later hfin
        exact bodyPost_ret (v := .tuple #[.agg #[.slice A7 (n + 1) c7, .slice A2 n2 c2], .int .i64 0]) (by simp [results, Tryz.results50, go_sem, r0, r1]) rfl ⟨_, _, _, rfl, (by rw [← HXI.out]; exact ⟨Rs.own_rs enc5_len HXL.out hset, hdk.s, own_flt hset, Kn.own hset (fun g hg => HKK.out g (by omega)), hdk.ks⟩), hfin⟩
end
end Go.Proofs.YthmdiaingolfnaaGreatDoor.Ba
namespace Go.Proofs.YthmdiaingolfnaaGreatDoor.Ba
open Go.ChangeShapes Go.WideShapes Go.ChangeAt Go.RowKit Go.Maps Rw Hi Mt
set_option linter.unusedVariables false
theorem rs_blk {α : Type} {enc : α → List Value} {sz : Nat} {w w' : World} {A : Option Addr} {n c : Nat} {xs : List α} {B B' : Nat} (h : Rs enc sz w B A n c xs) (hs : B ≤ B') (hk : 0 < n → ∀ b o, A = some ⟨b, o, none⟩ → w'.heap[b]? = w.heap[b]?) : Rs enc sz w' B' A n c xs :=
  ⟨h.len, h.cap, h.top, fun hn => by
    obtain ⟨b, o, e, hb, hc⟩ := h.at_ hn
    exact ⟨b, o, e, by omega, fun j x hx i u hi hu => (World.cell?_of_block (hk hn b o e)).trans (hc j x hx i u hi hu)⟩⟩
section
variable {K L E : Nat → Prop} {w w' : World} {d : Db} {D : List (Int × Ex)} {S : List Int}
theorem Dq.mono (h : Dq K w d D S) (hk : ∀ g, g < w.heap.size → K g → L g) : Dq L w d D S :=
  ⟨h.l, h.s, h.fl, fun hn a e => by
    obtain ⟨b, o, e', hb, _⟩ := h.l.at_ hn
    have hK := h.kl hn a e
    rw [e'] at e; injection e with e; subst e
    exact hk _ hb hK, fun hn a e => by
    obtain ⟨b, o, e', hb, _⟩ := h.s.at_ hn
    have hK := h.ks hn a e
    rw [e'] at e; injection e with e; subst e
    exact hk _ hb hK⟩
theorem Dq.fz (h : Dq K w d D S) (hz : Fz E w w') (hE : ∀ g, g < w.heap.size → K g → ¬ E g) : Dq K w' d D S :=
  ⟨rs_blk h.l hz.size fun hn b o e => hz.block b (by obtain ⟨b', o', e', hb, _⟩ := h.l.at_ hn; rw [e'] at e; injection e with e; injection e with e1; omega)
      (hE b (by obtain ⟨b', o', e', hb, _⟩ := h.l.at_ hn; rw [e'] at e; injection e with e; injection e with e1; omega) (h.kl hn _ e)),
    rd_blk h.s hz.size fun hn b o e => hz.block b (by obtain ⟨b', o', e', hb, _⟩ := h.s.at_ hn; rw [e'] at e; injection e with e; injection e with e1; omega)
      (hE b (by obtain ⟨b', o', e', hb, _⟩ := h.s.at_ hn; rw [e'] at e; injection e with e; injection e with e1; omega) (h.ks hn _ e)), h.fl, h.kl, h.ks⟩
theorem Dq.nil_ : Dq K w ⟨none, 0, 0, none, 0, 0⟩ [] [] := ⟨Rs.nil_, Rd.nil_, .inl ⟨rfl, rfl⟩, Kn.nil_, Kn.nil_⟩
end
def put2 (w : World) (r : Nat) (d : Db) : World := (w.setCell ⟨r, 0, none⟩ (.slice d.A d.n d.c)).setCell ⟨r, 1, none⟩ (.slice d.A2 d.n2 d.c2)
theorem Vb.blk {w w' : World} {g : Nat} {a b : Value} (h : Vb w g a b) (hb : w'.heap[g]? = w.heap[g]?) : Vb w' g a b := by
  obtain ⟨⟨h0, h1⟩, f0, f1⟩ := h
  exact ⟨⟨(World.cell?_of_block (a := ⟨g, 0, none⟩) hb).trans h0, (World.cell?_of_block (a := ⟨g, 1, none⟩) hb).trans h1⟩, (World.frozen?_of_block (a := ⟨g, 0, none⟩) hb).trans f0, (World.frozen?_of_block (a := ⟨g, 1, none⟩) hb).trans f1⟩
theorem Vb.lt {w : World} {g : Nat} {a b : Value} (h : Vb w g a b) : g < w.heap.size := Lw.lt_heap h.1.1
section
variable {W w w' : World} {p a r q : Nat} {e d : Db} {D D' D2 : List (Int × Ex)} {S S' S2 : List Int} {y : Ax} {C R C' R' : Nat → Prop}
end
section
variable {W w w' : World} {p a p2 a2 r q : Nat} {e d : Db} {D0 D D' D1 : List (Int × Ex)} {S0 S S' S1 : List Int} {C R C2 R2 : Nat → Prop}
end
end Go.Proofs.YthmdiaingolfnaaGreatDoor.Ba
