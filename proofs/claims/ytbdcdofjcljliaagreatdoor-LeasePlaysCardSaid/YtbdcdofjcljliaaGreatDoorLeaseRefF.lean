/- The document's book (layer 14): Leaks. -/
import Derived.Test.YtbdcdofjcljliaaGreatDoorLeaseRefB
import Derived.Test.YtbdcdofjcljliaaGreatDoorLeaseDoc
import Derived.Test.YtbdcdofjcljliaaGreatDoorBase5
import Derived.Deep.CutRange
import Derived.Deep.CutBlock
namespace Go.Proofs.YtbdcdofjcljliaaGreatDoor.Le
open Go.ChangeShapes Go.WideShapes Go.ChangeAt Go.RowKit Go.Deep Go.Maps Rw Hi Mt
set_option linter.unusedVariables false

/-- One more flagged, in the row's cells. -/
theorem flat_fld {D : List (Int × Ls)} (h : Nd D) {ids : List Int} {j : Nat} {id : Int} {y : Ls} (hj : D[j]? = some (id, y)) :
    (flat enc4 (fld D ids)).set (j * 4 + 3) (.bool true) = flat enc4 (fld D (ids ++ [id])) := by
  obtain ⟨z, h1, h2⟩ := fld_snoc h (ids := ids) hj
  rw [h2]
  exact flat_set enc4_len _ j 3 _ _ _ h1 (by omega) rfl
section
variable (leak : Int) (A A2 A3 : Option Addr) (n c n2 c2 n3 c3 : Nat) (D : List (Int × Ls)) (M : List Int) (T : List (Int × Int)) (w : World)
set_option maxRecDepth 100000 in
set_option maxHeartbeats 2000000 in
theorem rleaks_any (now : Int) (h : Dk w ⟨A, n, c, A2, n2, c2, A3, n3, c3⟩ D M T) (hs : Sd D) (tk : Tk D T) (tms : Wl.Tms T) (hn : n ≤ 1000) (hn2 : n2 ≤ 1000) (hn3 : n3 ≤ 1000) :
    Calls Tryz.prog 15 #[.agg #[.int .u64 leak, .slice A n c, .slice A2 n2 c2, .slice A3 n3 c3], .int .u64 now] w fun e w' => ∃ (d : Da) (A6 : Option Addr) (c6 : Nat), e = .returned (.tuple #[d.val leak, .slice A6 (Wl.due T now).length c6]) ∧ Dk w' d (fld D ((Wl.due T now).map Prod.fst)) M (Wl.left T now) ∧
      Rd (Value.int .u64) w' w'.heap.size A6 (Wl.due T now).length c6 ((Wl.due T now).map Prod.fst) ∧ Below w.heap.size w w' := by
  obtain ⟨i0, hi, hz0, hz1, hz2⟩ := info_parts info_lease
  obtain ⟨hb1, hvf, hvr, hsz⟩ := boxes leak A A2 A3 n c n2 c2 n3 c3 w
  have HD := Lib.hid h
  have HB1 := Lib.hid hb1
  have HVF := Lib.hid hvf
  have HVR := Lib.hid hvr
  have HSZ := Lib.hid hsz
  have HND := Lib.hid hs.nd
  have HTK := Lib.hid tk
  have HTMS := Lib.hid tms
  have HDL : Hid (D.length = n) := Lib.hid h.l.len
  have HTL : Hid (T.length = n3) := Lib.hid h.t.len
  clear h hb1 hvf hvr hsz hs tk tms
  obtain ⟨ids, hids⟩ : ∃ ids, (Wl.due T now).map Prod.fst = ids := ⟨_, rfl⟩
  obtain ⟨m, hm⟩ : ∃ m, (Wl.due T now).length = m := ⟨_, rfl⟩
  have HIN : Hid (∀ y ∈ ids, y ∈ D.map Prod.fst) := Lib.hid (by rw [← hids]; exact HTK.out.due now)
  have HIL : Hid (ids.length = m) := Lib.hid (by rw [← hids, List.length_map, hm])
  have hm9 : m ≤ 1000 := by have := Wl.due_left_len T now; have := HTL.out; omega
  have HIDS := Lib.hid hids
  rw [hids, hm]
  clear hids hm
  go_enter Tryz.func15, Tryz.ntmps15
  go_upto_region 1 with (fail)
  generalize ((w.alloc (.cells #[.int .u64 leak, .slice A n c, .slice A2 n2 c2, .slice A3 n3 c3] 31)).alloc (.cells #[.int .u64 0, .slice none 0 0, .slice none 0 0, .slice none 0 0] 31)) = W1 at *
  obtain ⟨⟨f0, f1, f2, f3⟩, g0, g1, g2, g3⟩ := HVF.out
  have HT1 := Lib.hid (HD.out.t.below HB1.out)
  go_wp2_with fail
  refine (Wl.tdue_any A3 n3 c3 w.heap.size T now W1 HT1.out HD.out.fm HB1.out.size (by omega) HTMS.out).mono ?_
  rintro e w2 ⟨A5, n5, c5, A6, n6, c6, rfl, ht2, hfm2, ho6, hb2⟩
  rw [HIDS.out] at ho6
  obtain rfl : n6 = m := by have := ho6.1; simp at this; have := HIL.out; omega
  have hs2 : w.heap.size + 2 ≤ w2.heap.size := by have := hb2.size; have := HSZ.out; omega
  have VF2 := Lib.hid (HVF.out.below hb2 (by have := HSZ.out; omega))
  have VR2 := Lib.hid (HVR.out.below hb2 (by have := HSZ.out; omega))
  obtain ⟨⟨f0, f1, f2, f3⟩, g0, g1, g2, g3⟩ := VF2.out
  have HBW2 := Lib.hid (HB1.out.trans (hb2.mono HB1.out.size))
  have HT2 := Lib.hid ht2
  have HFM2 := Lib.hid hfm2
  have HO6 := Lib.hid ho6
  clear HT1 HVF HVR HB1 ht2 hfm2 ho6 hb2
  go_upto_region 3 with (fail)
  have V3 : Hid (V4 (w2.setCell ⟨w.heap.size, 3, none⟩ (.slice A5 n5 c5)) w.heap.size (.int .u64 leak) (.slice A n c) (.slice A2 n2 c2) (.slice A5 n5 c5)) := Lib.hid ⟨⟨by go_simp, by go_simp, by go_simp, by go_simp⟩, by go_simp, by go_simp, by go_simp, by go_simp⟩
  have VR3 : Hid (V4 (w2.setCell ⟨w.heap.size, 3, none⟩ (.slice A5 n5 c5)) (w.heap.size + 1) (.int .u64 0) (.slice none 0 0) (.slice none 0 0) (.slice none 0 0)) := Lib.hid (by
    obtain ⟨⟨r0, r1, r2, r3⟩, z0, z1, z2, z3⟩ := VR2.out
    exact ⟨⟨by go_simp, by go_simp, by go_simp, by go_simp⟩, by go_simp, by go_simp, by go_simp, by go_simp⟩)
  have HT3 : Hid (Wl.Tr (w2.setCell ⟨w.heap.size, 3, none⟩ (.slice A5 n5 c5)) w.heap.size A5 n5 c5 (Wl.left T now)) := Lib.hid (Rs.setCell HT2.out (Nat.le_refl _) _)
  have HBW3 : Hid (Below w.heap.size w (w2.setCell ⟨w.heap.size, 3, none⟩ (.slice A5 n5 c5))) := Lib.hid (HBW2.out.setCell (Nat.le_refl _) _)
  have hs3 : (w2.setCell ⟨w.heap.size, 3, none⟩ (.slice A5 n5 c5)).heap.size = w2.heap.size := by simp
  have HO63 : Hid ((w2.setCell ⟨w.heap.size, 3, none⟩ (.slice A5 n5 c5)).ownsRow W1.heap.size 22 1 (.slice A6 n6 c6) n6 (ids.map (Value.int .u64))) := Lib.hid (by
    refine Hi.own_same HO6.out (fun g' hg' => ?_)
    have hg := (HO6.out.lt g' hg').1
    have := HSZ.out
    rw [heap_setCell_other _ _ g' _ (fun e => by have e : g' = w.heap.size := e; omega)])
  clear VF2 VR2 HT2 HBW2 HO6 f0 f1 f2 f3 g0 g1 g2 g3
  generalize (w2.setCell ⟨w.heap.size, 3, none⟩ (.slice A5 n5 c5)) = w3 at *
  obtain ⟨⟨f0, f1, f2, f3⟩, g0, g1, g2, g3⟩ := V3.out
  have RD3 := Lib.hid (HD.out.later HBW3.out).l
  have hs9 : w.heap.size + 2 ≤ w3.heap.size := by omega
  clear hs2 hs3
  go_wp2_with (
    at_builtin
    refine append_rs enc4_len rfl _ _ 27 rfl w3.heap.size 69 i0 _ 32 Tryz.underlying27 hi hz0 hz1 hz2 rfl (by decide) (.slice none 0 0) 0 [] rfl (World.ownsRow_nil _ _ _ _) _ A n c D rfl RD3.out enc4_one n (Nat.zero_add _) (flat enc4 D) rfl (by unfold maxLen; omega) (by omega) (by omega) ?_
    intro A7 c7 w5 ho7 hg7 hat7
    refine Hid.out ?_)
  refine Lib.hid ?_
  have B35 := Lib.hid ((Below.refl w3.heap.size w3).grown hg7 (Nat.le_refl _) (fun j hj => by cases hj))
  have HO7 := Lib.hid ho7
  clear ho7 hg7 hat7 f0 f1 f2 f3 g0 g1 g2 g3 RD3
  go_wp2_with fail
  go_loopw [10, 26] (fun x9 i wr => ∃ k : Nat, k ≤ n6 ∧ i = .int .i64 k ∧ Hid (wr.ownsRow w3.heap.size 69 4 (.slice A7 n c7) n (flat enc4 (fld D (ids.take k)))) ∧ Hid (Below w3.heap.size w3 wr)) (fun _ i _ => n6 - (intOf i).toNat)
  case atStart => exact ⟨0, Nat.zero_le _, rfl, Lib.hid (by rw [List.take_zero, fld_nil]; exact HO7.out), B35⟩
  case round =>
    clear HO7 B35
    obtain ⟨k, hk, rfl, HROW, HBR⟩ := hrel
    have HBS := Lib.hid HBR.out.size
    have HBWR := Lib.hid (HBW3.out.trans (HBR.out.mono HBW3.out.size))
    obtain ⟨⟨f0, f1, f2, f3⟩, g0, g1, g2, g3⟩ := V3.out.below HBR.out (by omega)
    by_cases hlt : k < n6
    · obtain ⟨b6, o6, y, hA6, hb6, hy, hcy⟩ := (Rd.own_rd HO63.out).get hlt
      subst hA6
      have d0 := (HBR.out.cell (p := ⟨b6, o6 + k, none⟩) hb6).trans hcy
      have HTK1 : Hid (ids.take (k + 1) = ids.take k ++ [y]) := Lib.hid (by
        obtain ⟨hl, e⟩ := List.getElem?_eq_some_iff.1 hy
        rw [List.take_succ_eq_append_getElem hl, e])
      obtain ⟨j, z, hj, hne, hfx, -⟩ : ∃ (j : Nat) (z : Ls), D[j]? = some (y, z) ∧ (∀ a ∈ D.take j, a.1 ≠ y) ∧ fx D y = j ∧ fnd D y = some z := by
        rcases fx_cases D y with ⟨h1, -⟩ | h1
        · obtain ⟨z, hz⟩ := mem_key.1 (HIN.out y (List.mem_of_getElem? hy))
          rw [fnd_mem HND.out hz] at h1; cases h1
        · exact h1
      have hjn : j < n := by have := (List.getElem?_eq_some_iff.1 hj).1; have := HDL.out; omega
      have HJ := Lib.hid hj
      have HFX := Lib.hid hfx
      obtain ⟨g7, cap7, hA7⟩ : ∃ g cap, (Value.slice A7 n c7) = .slice (some ⟨g, 0, none⟩) n cap := by
        rcases HROW.out.2 with ⟨h1, h2⟩ | ⟨g, cap, cur, h1, _⟩
        · omega
        · exact ⟨g, cap, h1⟩
      injection hA7 with hA7 _ hc7
      subst hA7 hc7
      have q0 : (0 : Int) ≤ (j : Int) := by omega
      have q1 : (j : Int) < (n : Int) := by omega
      have RDR := Lib.hid (HD.out.later HBWR.out).l
      clear hcy hy hj hne hfx
      go_wp2_with fail
      refine (rfind_any leak A A2 A5 n c n2 c2 n5 c5 wr.heap.size D wr y RDR.out (Nat.le_refl _) (by omega)).mono ?_
      rw [HFX.out]
      rintro e w9 ⟨rfl, hb9⟩
      have HO9 := Lib.hid (HROW.out.kept (w' := w9) ⟨hb9.os, hb9.tape, hb9.output, hb9.size, fun q hq _ => hb9.block q hq⟩ (row := none) (.inr (by simp [Value.ownBlock])))
      have HB9 := Lib.hid (HBR.out.trans (hb9.mono HBR.out.size))
      have x0 : w9.cell? ⟨g7, j * 4 + 3, none⟩ = (flat enc4 (fld D (ids.take k)))[j * 4 + 3]? := HO9.out.cellAt _ (by omega)
      have x1 : w9.frozen? ⟨g7, j * 4 + 3, none⟩ = false := HO9.out.frozenAt _
      obtain ⟨u, hu⟩ : ∃ u, (flat enc4 (fld D (ids.take k)))[j * 4 + 3]? = some u := ⟨_, List.getElem?_eq_getElem (by rw [flat_len enc4_len, fld_len, HDL.out]; omega)⟩
      rw [hu] at x0
      have HST : Hid ((w9.setCell ⟨g7, j * 4 + 3, none⟩ (.bool true)).ownsRow w3.heap.size 69 4 (.slice (some ⟨g7, 0, none⟩) n c7) n (flat enc4 (fld D (ids.take (k + 1))))) := Lib.hid (by
        have := (HO9.out.stored (j * 4 + 3) (.bool true)).1
        rw [flat_fld HND.out HJ.out, ← HTK1.out] at this
        exact this)
      have HBF : Hid (Below w3.heap.size w3 (w9.setCell ⟨g7, j * 4 + 3, none⟩ (.bool true))) := Lib.hid (HB9.out.setCell (HROW.out.lt g7 rfl).1 _)
      clear hb9 hu HO9 HB9 f0 f1 f2 f3 g0 g1 g2 g3
      go_wp2_with fail
      go_roundw
      case rel =>
        exact ⟨k + 1, by omega, by go_num, HST, HBF⟩
      case measure => simp [intOf]; omega
    · have HROW2 : Hid (wr.ownsRow w3.heap.size 69 4 (.slice A7 n c7) n (flat enc4 (fld D ids))) := Lib.hid (by
        have h9 := HROW.out
        rw [List.take_of_length_le (by have := HIL.out; omega)] at h9
        exact h9)
      obtain ⟨⟨r0, r1, r2, r3⟩, z0, z1, z2, z3⟩ := VR3.out.below HBR.out (by omega)
      have HBR2 := Lib.hid (HBR.out.mono (show w.heap.size ≤ w3.heap.size by omega))
      go_wp2_with fail
      have hfr : Below w.heap.size w3 (((((wr.setCell ⟨w.heap.size, 1, none⟩ (.slice A7 n c7)).setCell ⟨w.heap.size + 1, 0, none⟩ (.int .u64 leak)).setCell ⟨w.heap.size + 1, 1, none⟩ (.slice A7 n c7)).setCell ⟨w.heap.size + 1, 2, none⟩ (.slice A2 n2 c2)).setCell ⟨w.heap.size + 1, 3, none⟩ (.slice A5 n5 c5)) := by
        repeat' (first | exact HBR2.out | apply Below.setCell | apply below_drewN | apply Below.drew | apply Below.alloc)
        all_goals (first | (simp; done) | (simp; omega))
      have hfin := HBW3.out.trans hfr
      have hset : (((((wr.setCell ⟨w.heap.size, 1, none⟩ (.slice A7 n c7)).setCell ⟨w.heap.size + 1, 0, none⟩ (.int .u64 leak)).setCell ⟨w.heap.size + 1, 1, none⟩ (.slice A7 n c7)).setCell ⟨w.heap.size + 1, 2, none⟩ (.slice A2 n2 c2)).setCell ⟨w.heap.size + 1, 3, none⟩ (.slice A5 n5 c5)).ownsRow w3.heap.size 69 4 (.slice A7 n c7) n (flat enc4 (fld D ids)) := by
        refine Hi.own_same HROW2.out (fun g' hg' => ?_)
        have hg := (HROW2.out.lt g' hg').1
        rw [heap_setCell_other _ _ g' _ (fun e => by have e : g' = w.heap.size + 1 := e; omega), heap_setCell_other _ _ g' _ (fun e => by have e : g' = w.heap.size + 1 := e; omega), heap_setCell_other _ _ g' _ (fun e => by have e : g' = w.heap.size + 1 := e; omega), heap_setCell_other _ _ g' _ (fun e => by have e : g' = w.heap.size + 1 := e; omega), heap_setCell_other _ _ g' _ (fun e => by have e : g' = w.heap.size := e; omega)]
      have hids : (((((wr.setCell ⟨w.heap.size, 1, none⟩ (.slice A7 n c7)).setCell ⟨w.heap.size + 1, 0, none⟩ (.int .u64 leak)).setCell ⟨w.heap.size + 1, 1, none⟩ (.slice A7 n c7)).setCell ⟨w.heap.size + 1, 2, none⟩ (.slice A2 n2 c2)).setCell ⟨w.heap.size + 1, 3, none⟩ (.slice A5 n5 c5)).ownsRow W1.heap.size 22 1 (.slice A6 n6 c6) n6 (ids.map (Value.int .u64)) := by
        refine Hi.own_same HO63.out (fun g' hg' => ?_)
        have hg := HO63.out.lt g' hg'
        have := HSZ.out
        rw [heap_setCell_other _ _ g' _ (fun e => by have e : g' = w.heap.size + 1 := e; omega), heap_setCell_other _ _ g' _ (fun e => by have e : g' = w.heap.size + 1 := e; omega), heap_setCell_other _ _ g' _ (fun e => by have e : g' = w.heap.size + 1 := e; omega), heap_setCell_other _ _ g' _ (fun e => by have e : g' = w.heap.size + 1 := e; omega), heap_setCell_other _ _ g' _ (fun e => by have e : g' = w.heap.size := e; omega)]
        exact HBR.out.block g' hg.2
      have hdk := HD.out.later hfin
      have htm := (HT3.out.below hfr).more (B' := (((((wr.setCell ⟨w.heap.size, 1, none⟩ (.slice A7 n c7)).setCell ⟨w.heap.size + 1, 0, none⟩ (.int .u64 leak)).setCell ⟨w.heap.size + 1, 1, none⟩ (.slice A7 n c7)).setCell ⟨w.heap.size + 1, 2, none⟩ (.slice A2 n2 c2)).setCell ⟨w.heap.size + 1, 3, none⟩ (.slice A5 n5 c5)).heap.size) hfin.size
      refine bodyPost_ret (v := .tuple #[.agg #[.int .u64 leak, .slice A7 n c7, .slice A2 n2 c2, .slice A5 n5 c5], .slice A6 n6 c6]) (by simp [results, Tryz.results15, go_sem, r0, r1, r2, r3]) rfl ⟨⟨A7, n, c7, A2, n2, c2, A5, n5, c5⟩, A6, c6, rfl, ⟨Rs.own_rs enc4_len (by rw [fld_len]; exact HDL.out) hset, hdk.m, htm, HFM2.out, Wl.own_fm hset⟩, Rd.own_rd hids, hfin⟩
end
end Go.Proofs.YtbdcdofjcljliaaGreatDoor.Le
