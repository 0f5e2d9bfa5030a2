/- The document's book (layer 14): Mark. -/
import Derived.Test.YtbdcdofjcljliaaGreatDoorLeaseRefB
import Derived.Deep.CutRange
import Derived.Deep.CutBlock
namespace Go.Proofs.YtbdcdofjcljliaaGreatDoor.Le
open Go.ChangeShapes Go.WideShapes Go.ChangeAt Go.RowKit Go.Deep Go.Maps Rw Hi Mt
set_option linter.unusedVariables false

section
variable (leak : Int) (A A2 A3 : Option Addr) (n c n2 c2 n3 c3 : Nat) (D : List (Int × Ls)) (M : List Int) (T : List (Int × Int)) (w : World)
set_option maxRecDepth 100000 in
set_option maxHeartbeats 1000000 in
theorem rmark_any (id th : Int) (h : Dk w ⟨A, n, c, A2, n2, c2, A3, n3, c3⟩ D M T) (hnd : Nd D) (hn : n ≤ 1000) (hn2 : n2 ≤ 1000) (hn3 : n3 ≤ 1000) :
    Calls Tryz.prog 12 #[.agg #[.int .u64 leak, .slice A n c, .slice A2 n2 c2, .slice A3 n3 c3], .int .u64 id, .int .i64 th] w fun e w' => ∃ d : Da, e = .returned (.tuple #[d.val leak, .int .i64 (wr D id th)]) ∧ Dk w' d D (if holds D id th = true then M.filter (· != id) ++ [id] else M) T ∧ Below w.heap.size w w' := by
  obtain ⟨hb1, hvf, hvr, hsz⟩ := boxes leak A A2 A3 n c n2 c2 n3 c3 w
  have HD := Lib.hid h
  have HB1 := Lib.hid hb1
  have HVF := Lib.hid hvf
  have HVR := Lib.hid hvr
  have HSZ := Lib.hid hsz
  have HH := Lib.hid (rholds_any leak A A2 A3 n c n2 c2 n3 c3 D ((w.alloc (.cells #[.int .u64 leak, .slice A n c, .slice A2 n2 c2, .slice A3 n3 c3] 31)).alloc (.cells #[.int .u64 0, .slice none 0 0, .slice none 0 0, .slice none 0 0] 31)) id th (h.l.later hb1) (by omega))
  have HDL : Hid (D.length = n) := Lib.hid h.l.len
  have HML : Hid (M.length = n2) := Lib.hid h.m.len
  have HTL : Hid (T.length = n3) := Lib.hid h.t.len
  clear h hb1 hvf hvr hsz
  obtain ⟨i0, hi, hz0, hz1, hz2⟩ := info_parts info_u64'
  unfold wr
  by_cases hh : holds D id th = true
  · rw [if_pos hh, if_pos hh]
    obtain ⟨k, y, hk, hne, hfx⟩ : ∃ (k : Nat) (y : Ls), D[k]? = some (id, y) ∧ (∀ a ∈ D.take k, a.1 ≠ id) ∧ hx D id th = k := by
      rcases fx_cases D id with ⟨h1, h2⟩ | ⟨k, y, h1, h2, h3, h4⟩
      · unfold holds at hh; rw [h1] at hh; cases hh
      · exact ⟨k, y, h1, h2, by unfold hx; rw [if_pos hh, h3]⟩
    rw [hfx] at HH
    have hkn : k < n := by have := (List.getElem?_eq_some_iff.1 hk).1; have := HDL.out; omega
    have hk0 : decide ((k : Int) < 0) = false := decide_eq_false (by omega)
    clear hk hne hfx hh
    go_enter Tryz.func12, Tryz.ntmps12
    go_wp2_with fail
    refine HH.out.mono ?_
    rintro e w3 ⟨rfl, hb3⟩
    have HBW := Lib.hid (HB1.out.trans (hb3.mono HB1.out.size))
    have VF := Lib.hid (HVF.out.below hb3 (by have := HSZ.out; omega))
    have VR := Lib.hid (HVR.out.below hb3 (by have := HSZ.out; omega))
    obtain ⟨⟨f0, f1, f2, f3⟩, g0, g1, g2, g3⟩ := VF.out
    have hs3 : w.heap.size + 2 ≤ w3.heap.size := by have := hb3.size; have := HSZ.out; omega
    clear hb3 HVF HVR HB1 HH
    go_wp2_with fail
    refine (rforget_any leak A A2 A3 n c n2 c2 n3 c3 D M T w3 id (HD.out.later HBW.out) (by omega)).mono ?_
    rintro e w4 ⟨A5, c5, rfl, dk4, ho4, hb4⟩
    obtain ⟨Q, hQ⟩ : ∃ Q, M.filter (· != id) = Q := ⟨_, rfl⟩
    have hQl : Q.length ≤ 1000 := by rw [← hQ]; have := List.length_filter_le (· != id) M; have := HML.out; omega
    rw [hQ] at dk4 ho4 ⊢
    obtain ⟨q, hq⟩ : ∃ q, Q.length = q := ⟨_, rfl⟩
    rw [hq] at dk4 ho4 hQl ⊢
    have HBW4 := Lib.hid (HBW.out.trans (hb4.mono (by omega)))
    obtain ⟨⟨f0, f1, f2, f3⟩, g0, g1, g2, g3⟩ := VF.out.below hb4 (by omega)
    have VR4 := Lib.hid (VR.out.below hb4 (by omega))
    have hs4 : w3.heap.size ≤ w4.heap.size := hb4.size
    have HO4 := Lib.hid ho4
    have HQQ := Lib.hid hQ
    have HQ2 := Lib.hid hq
    clear hb4 dk4 ho4 hQ hq VF VR
    go_upto_region 4 with (fail)
    have hfr : Below w3.heap.size ((((w4.setCell ⟨w.heap.size, 0, none⟩ (.int .u64 leak)).setCell ⟨w.heap.size, 1, none⟩ (.slice A n c)).setCell ⟨w.heap.size, 2, none⟩ (.slice A5 q c5)).setCell ⟨w.heap.size, 3, none⟩ (.slice A3 n3 c3)) ((((w4.setCell ⟨w.heap.size, 0, none⟩ (.int .u64 leak)).setCell ⟨w.heap.size, 1, none⟩ (.slice A n c)).setCell ⟨w.heap.size, 2, none⟩ (.slice A5 q c5)).setCell ⟨w.heap.size, 3, none⟩ (.slice A3 n3 c3)) := Below.refl _ _
    have HO5 : Hid (((((w4.setCell ⟨w.heap.size, 0, none⟩ (.int .u64 leak)).setCell ⟨w.heap.size, 1, none⟩ (.slice A n c)).setCell ⟨w.heap.size, 2, none⟩ (.slice A5 q c5)).setCell ⟨w.heap.size, 3, none⟩ (.slice A3 n3 c3)).ownsRow w3.heap.size 22 1 (.slice A5 q c5) q (Q.map (Value.int .u64))) := Lib.hid (by
      refine Hi.own_same HO4.out (fun g' hg' => ?_)
      have hg := (HO4.out.lt g' hg').1
      rw [heap_setCell_other _ _ g' _ (fun e => by have e : g' = w.heap.size := e; omega), heap_setCell_other _ _ g' _ (fun e => by have e : g' = w.heap.size := e; omega), heap_setCell_other _ _ g' _ (fun e => by have e : g' = w.heap.size := e; omega), heap_setCell_other _ _ g' _ (fun e => by have e : g' = w.heap.size := e; omega)])
    have HB5 : Hid (Below w.heap.size w ((((w4.setCell ⟨w.heap.size, 0, none⟩ (.int .u64 leak)).setCell ⟨w.heap.size, 1, none⟩ (.slice A n c)).setCell ⟨w.heap.size, 2, none⟩ (.slice A5 q c5)).setCell ⟨w.heap.size, 3, none⟩ (.slice A3 n3 c3))) := Lib.hid (by
      repeat' (first | exact HBW4.out | apply Below.setCell | apply below_drewN | apply Below.drew | apply Below.alloc)
      all_goals (first | (simp; done) | (simp; omega)))
    have x0 : ((((w4.setCell ⟨w.heap.size, 0, none⟩ (.int .u64 leak)).setCell ⟨w.heap.size, 1, none⟩ (.slice A n c)).setCell ⟨w.heap.size, 2, none⟩ (.slice A5 q c5)).setCell ⟨w.heap.size, 3, none⟩ (.slice A3 n3 c3)).cell? ⟨w.heap.size, 0, none⟩ = some (.int .u64 leak) := by go_simp
    have x1 : ((((w4.setCell ⟨w.heap.size, 0, none⟩ (.int .u64 leak)).setCell ⟨w.heap.size, 1, none⟩ (.slice A n c)).setCell ⟨w.heap.size, 2, none⟩ (.slice A5 q c5)).setCell ⟨w.heap.size, 3, none⟩ (.slice A3 n3 c3)).cell? ⟨w.heap.size, 1, none⟩ = some (.slice A n c) := by go_simp
    have x2 : ((((w4.setCell ⟨w.heap.size, 0, none⟩ (.int .u64 leak)).setCell ⟨w.heap.size, 1, none⟩ (.slice A n c)).setCell ⟨w.heap.size, 2, none⟩ (.slice A5 q c5)).setCell ⟨w.heap.size, 3, none⟩ (.slice A3 n3 c3)).cell? ⟨w.heap.size, 2, none⟩ = some (.slice A5 q c5) := by go_simp
    have x3 : ((((w4.setCell ⟨w.heap.size, 0, none⟩ (.int .u64 leak)).setCell ⟨w.heap.size, 1, none⟩ (.slice A n c)).setCell ⟨w.heap.size, 2, none⟩ (.slice A5 q c5)).setCell ⟨w.heap.size, 3, none⟩ (.slice A3 n3 c3)).cell? ⟨w.heap.size, 3, none⟩ = some (.slice A3 n3 c3) := by go_simp
    have y0 : ((((w4.setCell ⟨w.heap.size, 0, none⟩ (.int .u64 leak)).setCell ⟨w.heap.size, 1, none⟩ (.slice A n c)).setCell ⟨w.heap.size, 2, none⟩ (.slice A5 q c5)).setCell ⟨w.heap.size, 3, none⟩ (.slice A3 n3 c3)).frozen? ⟨w.heap.size, 0, none⟩ = false := by go_simp
    have y1 : ((((w4.setCell ⟨w.heap.size, 0, none⟩ (.int .u64 leak)).setCell ⟨w.heap.size, 1, none⟩ (.slice A n c)).setCell ⟨w.heap.size, 2, none⟩ (.slice A5 q c5)).setCell ⟨w.heap.size, 3, none⟩ (.slice A3 n3 c3)).frozen? ⟨w.heap.size, 1, none⟩ = false := by go_simp
    have y2 : ((((w4.setCell ⟨w.heap.size, 0, none⟩ (.int .u64 leak)).setCell ⟨w.heap.size, 1, none⟩ (.slice A n c)).setCell ⟨w.heap.size, 2, none⟩ (.slice A5 q c5)).setCell ⟨w.heap.size, 3, none⟩ (.slice A3 n3 c3)).frozen? ⟨w.heap.size, 2, none⟩ = false := by go_simp
    have y3 : ((((w4.setCell ⟨w.heap.size, 0, none⟩ (.int .u64 leak)).setCell ⟨w.heap.size, 1, none⟩ (.slice A n c)).setCell ⟨w.heap.size, 2, none⟩ (.slice A5 q c5)).setCell ⟨w.heap.size, 3, none⟩ (.slice A3 n3 c3)).frozen? ⟨w.heap.size, 3, none⟩ = false := by go_simp
    have V5 : Hid (V4 ((((w4.setCell ⟨w.heap.size, 0, none⟩ (.int .u64 leak)).setCell ⟨w.heap.size, 1, none⟩ (.slice A n c)).setCell ⟨w.heap.size, 2, none⟩ (.slice A5 q c5)).setCell ⟨w.heap.size, 3, none⟩ (.slice A3 n3 c3)) w.heap.size (.int .u64 leak) (.slice A n c) (.slice A5 q c5) (.slice A3 n3 c3)) := Lib.hid ⟨⟨x0, x1, x2, x3⟩, y0, y1, y2, y3⟩
    have VR5 : Hid (V4 ((((w4.setCell ⟨w.heap.size, 0, none⟩ (.int .u64 leak)).setCell ⟨w.heap.size, 1, none⟩ (.slice A n c)).setCell ⟨w.heap.size, 2, none⟩ (.slice A5 q c5)).setCell ⟨w.heap.size, 3, none⟩ (.slice A3 n3 c3)) (w.heap.size + 1) (.int .u64 0) (.slice none 0 0) (.slice none 0 0) (.slice none 0 0)) := Lib.hid (by
      obtain ⟨⟨r0, r1, r2, r3⟩, z0, z1, z2, z3⟩ := VR4.out
      exact ⟨⟨by go_simp, by go_simp, by go_simp, by go_simp⟩, by go_simp, by go_simp, by go_simp, by go_simp⟩)
    have hs5 : ((((w4.setCell ⟨w.heap.size, 0, none⟩ (.int .u64 leak)).setCell ⟨w.heap.size, 1, none⟩ (.slice A n c)).setCell ⟨w.heap.size, 2, none⟩ (.slice A5 q c5)).setCell ⟨w.heap.size, 3, none⟩ (.slice A3 n3 c3)).heap.size = w4.heap.size := by simp
    clear f0 f1 f2 f3 g0 g1 g2 g3 hfr VR4 HO4 HBW4 x0 x1 x3 y0 y1 y2 y3 x2
    generalize ((((w4.setCell ⟨w.heap.size, 0, none⟩ (.int .u64 leak)).setCell ⟨w.heap.size, 1, none⟩ (.slice A n c)).setCell ⟨w.heap.size, 2, none⟩ (.slice A5 q c5)).setCell ⟨w.heap.size, 3, none⟩ (.slice A3 n3 c3)) = w5 at *
    have hs5' : w4.heap.size ≤ w5.heap.size := by omega
    clear hs5
    obtain ⟨⟨x0, x1, x2, x3⟩, y0, y1, y2, y3⟩ := V5.out
    have HRD := Lib.hid (rd_one (enc := Value.int .u64) w5 id 22)
    have HO6 := Lib.hid (HO5.out.alloc (.cells #[.int .u64 id] 22))
    have HB6 := Lib.hid ((Below.refl w3.heap.size w5).alloc (by omega) (.cells #[.int .u64 id] 22))
    have HMP : Hid (Q.map (Value.int .u64) ++ [id].map (Value.int .u64) = (Q ++ [id]).map (Value.int .u64)) := Lib.hid (by simp)
    go_wp2_with (
      at_builtin
      refine append_rd _ rfl _ _ 28 rfl w3.heap.size 22 i0 (.int .u64 0) 8 Tryz.underlying28 hi hz0 hz1 hz2 rfl _ q _ rfl HO6.out _ _ 1 1 [id] rfl HRD.out (fun _ => rfl) (q + 1) rfl _ HMP.out (by unfold maxLen; omega) (by omega) (by simp; omega) ?_
      intro A7 c7 w7 ho7 hg7 hat7
      have b57 : Below w3.heap.size w5 w7 := HB6.out.grown hg7 (by simp; omega) (fun j hj => (HO6.out.lt j hj).1)
      have HO7 := Lib.hid ho7
      have HBW7 := Lib.hid (HB5.out.trans (b57.mono (by omega)))
      obtain ⟨⟨f0, f1, f2, f3⟩, g0, g1, g2, g3⟩ := V5.out.below b57 (by omega)
      obtain ⟨⟨r0, r1, r2, r3⟩, z0, z1, z2, z3⟩ := VR5.out.below b57 (by omega)
      have hs7 : w3.heap.size ≤ w7.heap.size := by have := b57.size; omega
      clear b57 ho7 hg7 hat7 x0 x1 x2 x3 y0 y1 y2 y3 V5 VR5 HO5 HO6 HRD)
    have hfin : Below w.heap.size w (((((w7.setCell ⟨w.heap.size, 2, none⟩ (.slice A7 (q + 1) c7)).setCell ⟨w.heap.size + 1, 0, none⟩ (.int .u64 leak)).setCell ⟨w.heap.size + 1, 1, none⟩ (.slice A n c)).setCell ⟨w.heap.size + 1, 2, none⟩ (.slice A7 (q + 1) c7)).setCell ⟨w.heap.size + 1, 3, none⟩ (.slice A3 n3 c3)) := by
      repeat' (first | exact HBW7.out | apply Below.setCell | apply below_drewN | apply Below.drew | apply Below.alloc)
      all_goals (first | (simp; done) | (simp; omega))
    have hset : (((((w7.setCell ⟨w.heap.size, 2, none⟩ (.slice A7 (q + 1) c7)).setCell ⟨w.heap.size + 1, 0, none⟩ (.int .u64 leak)).setCell ⟨w.heap.size + 1, 1, none⟩ (.slice A n c)).setCell ⟨w.heap.size + 1, 2, none⟩ (.slice A7 (q + 1) c7)).setCell ⟨w.heap.size + 1, 3, none⟩ (.slice A3 n3 c3)).ownsRow w3.heap.size 22 1 (.slice A7 (q + 1) c7) (q + 1) ((Q ++ [id]).map (Value.int .u64)) := by
      refine Hi.own_same HO7.out (fun g' hg' => ?_)
      have hg := (HO7.out.lt g' hg').1
      rw [heap_setCell_other _ _ g' _ (fun e => by have e : g' = w.heap.size + 1 := e; omega), heap_setCell_other _ _ g' _ (fun e => by have e : g' = w.heap.size + 1 := e; omega), heap_setCell_other _ _ g' _ (fun e => by have e : g' = w.heap.size + 1 := e; omega), heap_setCell_other _ _ g' _ (fun e => by have e : g' = w.heap.size + 1 := e; omega), heap_setCell_other _ _ g' _ (fun e => by have e : g' = w.heap.size := e; omega)]
    have hdk := HD.out.later hfin
    refine bodyPost_ret (v := .tuple #[.agg #[.int .u64 leak, .slice A n c, .slice A7 (q + 1) c7, .slice A3 n3 c3], .int .i64 0]) (by simp [results, Tryz.results12, go_sem, r0, r1, r2, r3]) rfl ⟨⟨A, n, c, A7, q + 1, c7, A3, n3, c3⟩, rfl, ⟨hdk.l, by rw [HQQ.out]; exact Rd.own_rd hset, hdk.t, hdk.fm, hdk.fl⟩, hfin⟩
  · rw [if_neg hh, if_neg hh]
    have hh : holds D id th = false := by simpa using hh
    have e5 : hx D id th = -1 := by unfold hx; rw [if_neg (by rw [hh]; decide)]
    rw [e5] at HH
    clear e5 hh
    go_enter Tryz.func12, Tryz.ntmps12
    go_wp2_with fail
    refine HH.out.mono ?_
    rintro e w3 ⟨rfl, hb3⟩
    have HBW := Lib.hid (HB1.out.trans (hb3.mono HB1.out.size))
    obtain ⟨⟨f0, f1, f2, f3⟩, g0, g1, g2, g3⟩ := HVF.out.below hb3 (by have := HSZ.out; omega)
    obtain ⟨⟨r0, r1, r2, r3⟩, z0, z1, z2, z3⟩ := HVR.out.below hb3 (by have := HSZ.out; omega)
    have hs3 : w.heap.size + 2 ≤ w3.heap.size := by have := hb3.size; have := HSZ.out; omega
    clear hb3 HVF HVR HB1 HH
    go_wp2_with fail
    have hfin : Below w.heap.size w ((((w3.setCell ⟨w.heap.size + 1, 0, none⟩ (.int .u64 leak)).setCell ⟨w.heap.size + 1, 1, none⟩ (.slice A n c)).setCell ⟨w.heap.size + 1, 2, none⟩ (.slice A2 n2 c2)).setCell ⟨w.heap.size + 1, 3, none⟩ (.slice A3 n3 c3)) := by
      repeat' (first | exact HBW.out | apply Below.setCell | apply below_drewN | apply Below.drew | apply Below.alloc)
      all_goals (first | (simp; done) | (simp; omega))
    refine bodyPost_ret (v := .tuple #[.agg #[.int .u64 leak, .slice A n c, .slice A2 n2 c2, .slice A3 n3 c3], .int .i64 5]) (by simp [results, Tryz.results12, go_sem, r0, r1, r2, r3]) rfl ⟨⟨A, n, c, A2, n2, c2, A3, n3, c3⟩, rfl, HD.out.later hfin, hfin⟩
end
end Go.Proofs.YtbdcdofjcljliaaGreatDoor.Le
