/- Layer 9: what waits, as a map. -/
import Derived.Test.YtmnjdmcocifogaaGreatDoorHistAdd
import Derived.Maps.RangeWalk
import Derived.Maps.Ext
import Derived.Maps.OwnOps
namespace Go.Proofs.YtmnjdmcocifogaaGreatDoor.Hi
open Go.ChangeShapes Go.WideShapes Go.ChangeAt Go.RowKit Go.Maps Rw Tx
set_option linter.unusedVariables false

/-- A map that tells what waits. -/
structure Tc (D : DataW Unit) (l : List Ev) : Prop where
  is : IsMap D
  at_ : ∀ t, D.atKey (.int .i64 t) (.lit (.int .i64 0)) = .lit (.int .i64 (cnt l t))
theorem Tc.nil : Tc (.map []) [] := ⟨isMap_empty, fun _ => rfl⟩
theorem cnt_one (l : List Ev) (e : Ev) (t : Int) : cnt (l ++ [e]) t = cnt l t + dl t e := by rw [cnt_append]; simp [cnt]
theorem Tc.put {D : DataW Unit} {l : List Ev} (h : Tc D l) (e : Ev) (c : Int) (hc : c = cnt l e.thread + dl e.thread e) : Tc (D.put (.int .i64 e.thread) (.lit (.int .i64 c))) (l ++ [e]) := by
  refine ⟨h.is.put _ _, fun t => ?_⟩
  rw [cnt_one]
  by_cases ht : t = e.thread
  · subst ht
    rw [atKey_put_same (k := .int .i64 e.thread) h.is trivial, hc]
  · rw [atKey_put_other (fun e2 => ht (by injection e2)), h.at_, show dl t e = 0 by simp [dl, Ne.symm ht], Int.add_zero]
theorem Tc.skip {D : DataW Unit} {l : List Ev} (h : Tc D l) (e : Ev) (hd : ∀ t, dl t e = 0) : Tc D (l ++ [e]) :=
  ⟨h.is, fun t => by rw [h.at_, cnt_one, hd, Int.add_zero]⟩
theorem lawI : Keyed Tryz.prog 3 := int_keyed Tryz.underlying3
theorem zeroI (w : World) : (zeroValue 3).run Tryz.prog w = .ok (.int .i64 0) w := by kernel_rfl
theorem wfI {k : Int} (h : I64 k) : (Lit.int .i64 k).wf = true := by
  have h1 := h.1
  have h2 := h.2
  exact Go.WalkArith.wf_i64 (by omega)
theorem keyI {k : Int} (h : I64 k) : keyOf Tryz.prog 3 (.int .i64 k) = some (.int .i64 k) := keyOf_int_mk Tryz.underlying3 (wfI h)
theorem litI {a b : Int} (h : (DataW.lit (.int .i64 a) : DataW Unit) = .lit (.int .i64 b)) : a = b := by
  injection h with h; injection h
theorem take_one {l : List Ev} {k : Nat} {e : Ev} (h : l[k]? = some e) : l.take (k + 1) = l.take k ++ [e] := by rw [List.take_add_one, h]; rfl

set_option maxRecDepth 100000 in
set_option maxHeartbeats 4000000 in
theorem waits_any (A : Option Addr) (n c B : Nat) (l : List Ev) (w : World) (h : Rs encE 6 w B A n c l) (hB : B ≤ w.heap.size) (hn : n ≤ 1000) (hok : ∀ e ∈ l, e.ok) :
    Calls Tryz.prog 40 #[.slice A n c] w fun e w' => ∃ q D, e = .returned (.map (some w.heap.size)) ∧ w'.ownsMap Tryz.prog 3 (plainElem Tryz.prog 3) w.heap.size q D ∧ Tc D l ∧ q ≤ n ∧ Below w.heap.size w w' ∧ w.heap.size < w'.heap.size := by
  have hmm := @run_makeMap Tryz.prog
  have HR := Lib.hid h
  have HLEN := Lib.hid h.len
  have HOK := Lib.hid hok
  clear h hok
  go_enter Tryz.func40, Tryz.ntmps40
  go_wp2_with fail
  have hmade : (w.alloc (.map #[] 0)).ownsMap Tryz.prog 3 (plainElem Tryz.prog 3) w.heap.size 0 (.map [] : DataW Unit) := World.ownsMap_made w _ _ _
  have HMADE := Lib.hid hmade
  clear hmade
  go_loopw [9] (fun i wr => ∃ (k q : Nat) (D : DataW Unit), k ≤ n ∧ q ≤ k ∧ i = .int .i64 k ∧ wr.ownsMap Tryz.prog 3 (plainElem Tryz.prog 3) w.heap.size q D ∧ Hid (Tc D (l.take k)) ∧ Below w.heap.size w wr ∧ w.heap.size < wr.heap.size) (fun i _ => n - (intOf i).toNat)
  case atStart => exact ⟨0, 0, .map [], Nat.zero_le _, Nat.le_refl _, rfl, HMADE.out, Lib.hid (by rw [List.take_zero]; exact Tc.nil), (Below.refl _ _).alloc (Nat.le_refl _) _, by simp⟩
  case round =>
    obtain ⟨k, q, D, hk, hqk, rfl, hown, HT, hbr, hlt0⟩ := hrel
    by_cases hlt : k < n
    · obtain ⟨b, o, a, rfl, hb, ha, hc0, hc1, hc2, hc3, hc4, hc5⟩ := rs_six HR.out hlt
      have d0 := (hbr.cell (p := ⟨b, o + k * 6, none⟩) (by simp only; omega)).trans hc0
      have d1 := (hbr.cell (p := ⟨b, o + k * 6 + 1, none⟩) (by simp only; omega)).trans hc1
      have d2 := (hbr.cell (p := ⟨b, o + k * 6 + 2, none⟩) (by simp only; omega)).trans hc2
      have d3 := (hbr.cell (p := ⟨b, o + k * 6 + 3, none⟩) (by simp only; omega)).trans hc3
      have d4 := (hbr.cell (p := ⟨b, o + k * 6 + 4, none⟩) (by simp only; omega)).trans hc4
      have d5 := (hbr.cell (p := ⟨b, o + k * 6 + 5, none⟩) (by simp only; omega)).trans hc5
      have hbs := hbr.size
      have HB2 := Lib.hid (hbr.alloc hbs (.cells #[.int .u64 a.step, .int .i64 a.thread, .int .i64 a.kind, .int .i64 a.op, .int .u64 a.id, .int .i64 a.err] 26))
      have HO := Lib.hid (hown.alloc (.cells #[.int .u64 a.step, .int .i64 a.thread, .int .i64 a.kind, .int .i64 a.op, .int .u64 a.id, .int .i64 a.err] 26))
      have hcl := cnt_le a.thread (l.take k)
      rw [List.length_take_of_le (by have := HLEN.out; omega)] at hcl
      have HIT := Lib.hid (HT.out.at_ a.thread)
      have hth : I64 a.thread := (HOK.out a (List.mem_of_getElem? ha)).thread
      have HTH := Lib.hid hth
      have HTK := Lib.hid (take_one ha)
      generalize hq2 : cnt (l.take k) a.thread = z at *
      have HZ := Lib.hid hq2
      clear ha hbr hc0 hc1 hc2 hc3 hc4 hc5 hown hth hq2
      by_cases h0 : a.kind = 0
      · have e2 : (a.kind == 0) = true := by simpa using h0
        have HV := Lib.hid (show dl a.thread a = 1 by simp [dl, h0])
        clear h0
        go_wp2_with (first
          | (at_lookup
             refine wpList_lookup_own_int _ rfl _ _ 80 rfl 3 3 .i64 lawI Tryz.underlying80 Tryz.underlying3 (zeroI _) w.heap.size q D rfl HO.out _ _ rfl (keyI HTH.out) ?_
             intro zz hat hwc
             obtain rfl := litI (HIT.out.symm.trans hat)
             clear hat hwc)
          | (at_mapUpdate
             refine wpList_mapUpdate_own _ rfl _ _ _ 80 rfl 3 3 lawI Tryz.underlying80 (plainElem Tryz.prog 3) w.heap.size q D rfl HO.out (by unfold maxLen; omega) _ _ _ rfl rfl (keyI HTH.out) (.lit (.int .i64 (z + 1))) [] (plainElem_int Tryz.underlying3 (wfI (by unfold I64; omega))) ?_
             intro w4 ho4 hg4
             have HO4 := Lib.hid ho4
             have HB4 := Lib.hid (HB2.out.grown hg4 (by simp; omega) (fun j hj => by cases hj; exact Nat.le_refl _))
             have hs4 : w.heap.size < w4.heap.size := by have := hg4.size; simp at this; omega
             clear ho4 hg4))
        go_roundw
        case rel => exact ⟨k + 1, q + 1, _, by omega, by omega, by go_num, HO4.out, Lib.hid (by rw [HTK.out]; exact HT.out.put a _ (by first | (rw [HZ.out, HV.out]; done) | (rw [HZ.out, HV.out]; omega))), HB4.out, hs4⟩
        case measure => simp [intOf]; omega
      · have e2 : (a.kind == 0) = false := by simpa using h0
        by_cases h2 : a.kind = 2
        · have e3 : (a.kind == 2) = true := by simpa using h2
          have HV := Lib.hid (show dl a.thread a = -1 by simp [dl, h2])
          clear h0 h2
          go_wp2_with (first
            | (at_lookup
               refine wpList_lookup_own_int _ rfl _ _ 80 rfl 3 3 .i64 lawI Tryz.underlying80 Tryz.underlying3 (zeroI _) w.heap.size q D rfl HO.out _ _ rfl (keyI HTH.out) ?_
               intro zz hat hwc
               obtain rfl := litI (HIT.out.symm.trans hat)
               clear hat hwc)
            | (at_mapUpdate
               refine wpList_mapUpdate_own _ rfl _ _ _ 80 rfl 3 3 lawI Tryz.underlying80 (plainElem Tryz.prog 3) w.heap.size q D rfl HO.out (by unfold maxLen; omega) _ _ _ rfl rfl (keyI HTH.out) (.lit (.int .i64 (z - 1))) [] (plainElem_int Tryz.underlying3 (wfI (by unfold I64; omega))) ?_
               intro w4 ho4 hg4
               have HO4 := Lib.hid ho4
               have HB4 := Lib.hid (HB2.out.grown hg4 (by simp; omega) (fun j hj => by cases hj; exact Nat.le_refl _))
               have hs4 : w.heap.size < w4.heap.size := by have := hg4.size; simp at this; omega
               clear ho4 hg4))
          go_roundw
          case rel => exact ⟨k + 1, q + 1, _, by omega, by omega, by go_num, HO4.out, Lib.hid (by rw [HTK.out]; exact HT.out.put a _ (by first | (rw [HZ.out, HV.out]; done) | (rw [HZ.out, HV.out]; omega))), HB4.out, hs4⟩
          case measure => simp [intOf]; omega
        · have e3 : (a.kind == 2) = false := by simpa using h2
          have HV := Lib.hid (show ∀ t, dl t a = 0 by (intro t; simp [dl, h0, h2]))
          clear h0 h2
          go_wp2_with fail
          go_roundw
          case rel => exact ⟨k + 1, q, _, by omega, by omega, by go_num, HO.out, Lib.hid (by rw [HTK.out]; exact HT.out.skip a HV.out), HB2.out, by simp; omega⟩
          case measure => simp [intOf]; omega
    · obtain rfl : k = n := by omega
      have ht : l.take k = l := List.take_of_length_le (by have := HLEN.out; omega)
      have HT2 := HT.out
      rw [ht] at HT2
      have HTT := Lib.hid HT2
      have HO := Lib.hid hown
      clear ht HT HT2 hown
      go_wp2_with fail
      go_ret
      exact ⟨q, D, rfl, HO.out, HTT.out, hqk, hbr, hlt0⟩
end Go.Proofs.YtmnjdmcocifogaaGreatDoor.Hi
