/- The document's book (layer 14): Mark, End. -/
import Derived.Test.YtbdcdofjcljliaaGreatDoorLeaseRefB
import Derived.Deep.CutRange
import Derived.Deep.CutBlock
namespace Go.Proofs.YtbdcdofjcljliaaGreatDoor.Le
open Go.ChangeShapes Go.WideShapes Go.ChangeAt Go.RowKit Go.Deep Go.Maps Rw Hi Mt
set_option linter.unusedVariables false

theorem split_wo {D : List (Int × Ls)} {id : Int} {k : Nat} {y : Ls} (hnd : Nd D) (hk : D[k]? = some (id, y)) : D.take k ++ D.drop (k + 1) = Mt.wo D id := by
  obtain ⟨hl, e⟩ := List.getElem?_eq_some_iff.1 hk
  have h1 : D = D.take k ++ (id, y) :: D.drop (k + 1) := by
    conv => lhs; rw [← List.take_append_drop k D, List.drop_eq_getElem_cons hl, e]
  have h2 : (D.map Prod.fst) = (D.take k).map Prod.fst ++ id :: (D.drop (k + 1)).map Prod.fst := by conv => lhs; rw [h1, List.map_append, List.map_cons]
  unfold Nd at hnd
  rw [h2, List.nodup_append] at hnd
  obtain ⟨n1, n2, n3⟩ := hnd
  rw [List.nodup_cons] at n2
  conv => rhs; rw [h1]
  unfold Mt.wo
  rw [List.filter_append, List.filter_cons_of_neg (by simp)]
  congr 1
  · rw [List.filter_eq_self.2]
    intro a ha
    have := n3 a.1 (List.mem_map.2 ⟨a, ha, rfl⟩) id (by simp)
    simpa using this
  · rw [List.filter_eq_self.2]
    intro a ha
    have h9 : a.1 ≠ id := fun e => n2.1 (List.mem_map.2 ⟨a, ha, e⟩)
    simpa using h9
section
variable (leak : Int) (A A2 A3 : Option Addr) (n c n2 c2 n3 c3 : Nat) (D : List (Int × Ls)) (M : List Int) (T : List (Int × Int)) (w : World)
set_option maxRecDepth 100000 in
set_option maxHeartbeats 1000000 in
theorem rend_any (id th : Int) (h : Dk w ⟨A, n, c, A2, n2, c2, A3, n3, c3⟩ D M T) (hnd : Nd D) (hn : n ≤ 1000) (hn2 : n2 ≤ 1000) (hn3 : n3 ≤ 1000) :
    Calls Tryz.prog 10 #[.agg #[.int .u64 leak, .slice A n c, .slice A2 n2 c2, .slice A3 n3 c3], .int .u64 id, .int .i64 th] w fun e w' => ∃ d : Da, e = .returned (.tuple #[d.val leak, .int .i64 (wr D id th)]) ∧ Dk w' d (if holds D id th = true then Mt.wo D id else D) M (if holds D id th = true then Wl.wo T id else T) ∧ Below w.heap.size w w' := by
  obtain ⟨hb1, hvf, hvr, hsz⟩ := boxes leak A A2 A3 n c n2 c2 n3 c3 w
  have HD := Lib.hid h
  have HB1 := Lib.hid hb1
  have HVF := Lib.hid hvf
  have HVR := Lib.hid hvr
  have HSZ := Lib.hid hsz
  have HH := Lib.hid (rholds_any leak A A2 A3 n c n2 c2 n3 c3 D ((w.alloc (.cells #[.int .u64 leak, .slice A n c, .slice A2 n2 c2, .slice A3 n3 c3] 31)).alloc (.cells #[.int .u64 0, .slice none 0 0, .slice none 0 0, .slice none 0 0] 31)) id th (h.l.later hb1) (by omega))
  have HDL : Hid (D.length = n) := Lib.hid h.l.len
  have HML : Hid (M.length = n2) := Lib.hid h.m.len
  have HTL : Hid (T.length = n3) := Lib.hid h.t.len
  clear h hb1 hvf hvr hsz
  obtain ⟨i0, hi, hz0, hz1, hz2⟩ := info_parts info_lease
  unfold wr
  by_cases hh : holds D id th = true
  · rw [if_pos hh, if_pos hh, if_pos hh]
    obtain ⟨k, y, hk, hne, hfx⟩ : ∃ (k : Nat) (y : Ls), D[k]? = some (id, y) ∧ (∀ a ∈ D.take k, a.1 ≠ id) ∧ hx D id th = k := by
      rcases fx_cases D id with ⟨h1, h2⟩ | ⟨k, y, h1, h2, h3, h4⟩
      · unfold holds at hh; rw [h1] at hh; cases hh
      · exact ⟨k, y, h1, h2, by unfold hx; rw [if_pos hh, h3]⟩
    rw [hfx] at HH
    have hkn : k < n := by have := (List.getElem?_eq_some_iff.1 hk).1; have := HDL.out; omega
    have hk0 : decide ((k : Int) < 0) = false := decide_eq_false (by omega)
    obtain ⟨b, o, x', t', s', f', hA, hb, ha, -, -, -, -⟩ := four_at HD.out.l hkn
    have hA : A = some ⟨b, o, none⟩ := hA
    subst hA
    obtain ⟨j, hj⟩ : ∃ j : Nat, j = k + 1 := ⟨_, rfl⟩
    have hwr : IntKind.i64.wrap ((k : Int) + 1) = (j : Int) := by rw [hj, IntKind.wrap_i64]; omega
    have hnc : n ≤ c := HD.out.l.cap
    have htop : c ≤ 9223372036854775807 := HD.out.l.top
    obtain ⟨A4, hA4⟩ : ∃ A4 : Option Addr, (if c = j then some (⟨b, o, none⟩ : Addr) else some ⟨b, o + j * 4, none⟩) = A4 := ⟨_, rfl⟩
    have hRl : Rl w w.heap.size (some ⟨b, o, none⟩) n c D := HD.out.l
    have HB4 : Hid (Rl w w.heap.size A4 (n - j) (c - j) (D.drop j)) := Lib.hid (hRl.back (i := j) (by omega) rfl (fun hlt => by rw [← hA4, if_neg (by omega)]))
    clear hRl
    have hjn : j ≤ n := by omega
    have hjc : j ≤ c := by omega
    have hsp : D.take k ++ D.drop j = Mt.wo D id := by rw [hj]; exact split_wo hnd hk
    have HSP := Lib.hid hsp
    have HJ := Lib.hid hj
    have hwl : (Mt.wo D id).length = n - 1 := by rw [← hsp, List.length_append, List.length_take, List.length_drop]; have := HDL.out; omega
    have HWL := Lib.hid hwl
    clear hk hne hfx hh hsp hwl hj ha
    go_enter Tryz.func10, Tryz.ntmps10
    go_wp2_with fail
    refine HH.out.mono ?_
    rintro e w3 ⟨rfl, hb3⟩
    have HBW := Lib.hid (HB1.out.trans (hb3.mono HB1.out.size))
    have VF := Lib.hid (HVF.out.below hb3 (by have := HSZ.out; omega))
    have VR := Lib.hid (HVR.out.below hb3 (by have := HSZ.out; omega))
    obtain ⟨⟨f0, f1, f2, f3⟩, g0, g1, g2, g3⟩ := VF.out
    have hs3 : w.heap.size + 2 ≤ w3.heap.size := by have := hb3.size; have := HSZ.out; omega
    have RF := Lib.hid ((HD.out.later HBW.out).l.front (i := k) (by show k ≤ n; omega))
    have RB := Lib.hid (HB4.out.later HBW.out)
    clear hb3 HVF HVR HB1 HH HB4
    go_wp2_with (
      at_builtin
      refine append_rs enc4_len rfl _ _ 27 rfl (w.heap.size + 2) 69 i0 _ 32 Tryz.underlying27 hi hz0 hz1 hz2 rfl (by decide) (.slice none 0 0) 0 [] rfl (World.ownsRow_nil _ _ _ _) _ (some ⟨b, o, none⟩) k c (D.take k) rfl RF.out enc4_one k (Nat.zero_add _) (flat enc4 (D.take k)) rfl (by unfold maxLen; omega) (by omega) (by omega) ?_
      intro A5 c5 w5 ho5 hg5 hat5
      refine Hid.out ?_)
    refine Lib.hid ?_
    have b35 : Below (w.heap.size + 2) w3 w5 := (Below.refl _ _).grown hg5 (by omega) (fun j hj => by cases hj)
    have B35 := Lib.hid ((Below.refl w3.heap.size w3).grown hg5 (by omega) (fun j hj => by cases hj))
    have HO5 := Lib.hid ho5
    have HBW5 := Lib.hid (HBW.out.trans (b35.mono (by omega)))
    obtain ⟨⟨f0, f1, f2, f3⟩, g0, g1, g2, g3⟩ := VF.out.below b35 (by omega)
    have VF5 := Lib.hid (VF.out.below b35 (by omega))
    have VR5 := Lib.hid (VR.out.below b35 (by omega))
    have RB5 := Lib.hid (RB.out.later B35.out)
    have hs5 : w.heap.size + 2 ≤ w5.heap.size := by have := b35.size; omega
    have HE1 : Hid (k + (n - j) = n - 1) := Lib.hid (by have := HJ.out; omega)
    have HE2 : Hid (flat enc4 (D.take k) ++ flat enc4 (D.drop j) = flat enc4 (Mt.wo D id)) := Lib.hid (by rw [← flat_append, HSP.out])
    clear ho5 hg5 hat5 b35 B35 RF RB VF VR HBW
    go_wp2_with (
      at_builtin
      refine append_rs enc4_len rfl _ _ 27 rfl (w.heap.size + 2) 69 i0 _ 32 Tryz.underlying27 hi hz0 hz1 hz2 rfl (by decide) (.slice A5 k c5) k (flat enc4 (D.take k)) rfl HO5.out _ A4 (n - j) (c - j) (D.drop j) rfl RB5.out enc4_one (n - 1) HE1.out (flat enc4 (Mt.wo D id)) HE2.out (by unfold maxLen; omega) (by omega) (by omega) ?_
      intro A6 c6 w6 ho6 hg6 hat6
      have b56 : Below (w.heap.size + 2) w5 w6 := (Below.refl _ _).grown hg6 (by omega) (fun j hj => (HO5.out.lt j hj).1)
      have HO6 := Lib.hid ho6
      have HBW6 := Lib.hid (HBW5.out.trans (b56.mono (by omega)))
      obtain ⟨⟨f0, f1, f2, f3⟩, g0, g1, g2, g3⟩ := VF5.out.below b56 (by omega)
      have VR6 := Lib.hid (VR5.out.below b56 (by omega))
      have hs6 : w.heap.size + 2 ≤ w6.heap.size := by have := b56.size; omega
      clear ho6 hg6 hat6 b56 VF5 VR5 RB5 HO5)
    have HT6 := Lib.hid (HD.out.later HBW6.out).t
    have HB7 : Hid (Below (w.heap.size) w (w6.setCell ⟨w.heap.size, 1, none⟩ (.slice A6 (n - 1) c6))) := Lib.hid (HBW6.out.setCell (Nat.le_refl _) _)
    have HT7 := Lib.hid (HD.out.later HB7.out).t
    refine (Wl.twithout_any A3 n3 c3 _ T id _ HT7.out (Nat.le_refl _) (by omega)).mono ?_
    rintro e w8 ⟨A8, c8, rfl, ho8, hb8⟩
    have HBW8 := Lib.hid (HB7.out.trans (hb8.mono (by simp; omega)))
    obtain ⟨⟨q0, q1, q2, q3⟩, p0, p1, p2, p3⟩ := (show V4 (w6.setCell ⟨w.heap.size, 1, none⟩ (.slice A6 (n - 1) c6)) w.heap.size (.int .u64 leak) (.slice A6 (n - 1) c6) (.slice A2 n2 c2) (.slice A3 n3 c3) from ⟨⟨by go_simp, by go_simp, by go_simp, by go_simp⟩, by go_simp, by go_simp, by go_simp, by go_simp⟩).below hb8 (by simp; omega)
    obtain ⟨⟨r0, r1, r2, r3⟩, z0, z1, z2, z3⟩ := VR6.out
    obtain ⟨⟨r0, r1, r2, r3⟩, z0, z1, z2, z3⟩ := (show V4 (w6.setCell ⟨w.heap.size, 1, none⟩ (.slice A6 (n - 1) c6)) (w.heap.size + 1) (.int .u64 0) (.slice none 0 0) (.slice none 0 0) (.slice none 0 0) from ⟨⟨by go_simp, by go_simp, by go_simp, by go_simp⟩, by go_simp, by go_simp, by go_simp, by go_simp⟩).below hb8 (by simp; omega)
    have HO8 := Lib.hid ho8
    have hs8 : w6.heap.size ≤ w8.heap.size := by have := hb8.size; simpa using this
    have HO68 : Hid (w8.ownsRow (w.heap.size + 2) 69 4 (.slice A6 (n - 1) c6) (n - 1) (flat enc4 (Mt.wo D id))) := Lib.hid (by
      refine Hi.own_same HO6.out (fun g' hg' => ?_)
      have hg := HO6.out.lt g' hg'
      rw [hb8.block g' (by simp; omega), heap_setCell_other _ _ g' _ (fun e => by have e : g' = w.heap.size := e; omega)])
    obtain ⟨q, hq⟩ : ∃ q, (Wl.wo T id).length = q := ⟨_, rfl⟩
    rw [hq] at HO8 ⊢
    have HQ2 := Lib.hid hq
    clear hb8 ho8 HB7 HT7 HT6 VR6 HO6 HBW6 f0 f1 f2 f3 g0 g1 g2 g3 hq
    go_wp2_with fail
    have hfin : Below w.heap.size w (((((w8.setCell ⟨w.heap.size, 3, none⟩ (.slice A8 q c8)).setCell ⟨w.heap.size + 1, 0, none⟩ (.int .u64 leak)).setCell ⟨w.heap.size + 1, 1, none⟩ (.slice A6 (n - 1) c6)).setCell ⟨w.heap.size + 1, 2, none⟩ (.slice A2 n2 c2)).setCell ⟨w.heap.size + 1, 3, none⟩ (.slice A8 q c8)) := by
      repeat' (first | exact HBW8.out | apply Below.setCell | apply below_drewN | apply Below.drew | apply Below.alloc)
      all_goals (first | (simp; done) | (simp; omega))
    have hset1 : (((((w8.setCell ⟨w.heap.size, 3, none⟩ (.slice A8 q c8)).setCell ⟨w.heap.size + 1, 0, none⟩ (.int .u64 leak)).setCell ⟨w.heap.size + 1, 1, none⟩ (.slice A6 (n - 1) c6)).setCell ⟨w.heap.size + 1, 2, none⟩ (.slice A2 n2 c2)).setCell ⟨w.heap.size + 1, 3, none⟩ (.slice A8 q c8)).ownsRow (w.heap.size + 2) 69 4 (.slice A6 (n - 1) c6) (n - 1) (flat enc4 (Mt.wo D id)) := by
      refine Hi.own_same HO68.out (fun g' hg' => ?_)
      have hg := (HO68.out.lt g' hg').1
      rw [heap_setCell_other _ _ g' _ (fun e => by have e : g' = w.heap.size + 1 := e; omega), heap_setCell_other _ _ g' _ (fun e => by have e : g' = w.heap.size + 1 := e; omega), heap_setCell_other _ _ g' _ (fun e => by have e : g' = w.heap.size + 1 := e; omega), heap_setCell_other _ _ g' _ (fun e => by have e : g' = w.heap.size + 1 := e; omega), heap_setCell_other _ _ g' _ (fun e => by have e : g' = w.heap.size := e; omega)]
    have hset2 : (((((w8.setCell ⟨w.heap.size, 3, none⟩ (.slice A8 q c8)).setCell ⟨w.heap.size + 1, 0, none⟩ (.int .u64 leak)).setCell ⟨w.heap.size + 1, 1, none⟩ (.slice A6 (n - 1) c6)).setCell ⟨w.heap.size + 1, 2, none⟩ (.slice A2 n2 c2)).setCell ⟨w.heap.size + 1, 3, none⟩ (.slice A8 q c8)).ownsRow (w6.setCell ⟨w.heap.size, 1, none⟩ (.slice A6 (n - 1) c6)).heap.size 96 2 (.slice A8 q c8) q (flat Wl.enc2 (Wl.wo T id)) := by
      refine Hi.own_same HO8.out (fun g' hg' => ?_)
      have hg := (HO8.out.lt g' hg').1
      simp at hg
      rw [heap_setCell_other _ _ g' _ (fun e => by have e : g' = w.heap.size + 1 := e; omega), heap_setCell_other _ _ g' _ (fun e => by have e : g' = w.heap.size + 1 := e; omega), heap_setCell_other _ _ g' _ (fun e => by have e : g' = w.heap.size + 1 := e; omega), heap_setCell_other _ _ g' _ (fun e => by have e : g' = w.heap.size + 1 := e; omega), heap_setCell_other _ _ g' _ (fun e => by have e : g' = w.heap.size := e; omega)]
    have hdk := HD.out.later hfin
    refine bodyPost_ret (v := .tuple #[.agg #[.int .u64 leak, .slice A6 (n - 1) c6, .slice A2 n2 c2, .slice A8 q c8], .int .i64 0]) (by simp [results, Tryz.results10, go_sem, r0, r1, r2, r3]) rfl ⟨⟨A6, n - 1, c6, A2, n2, c2, A8, q, c8⟩, rfl, ⟨Rs.own_rs enc4_len HWL.out hset1, hdk.m, Rs.own_rs Wl.enc2_len HQ2.out hset2, Wl.own_fm hset2, Wl.own_fm hset1⟩, hfin⟩
  · rw [if_neg hh, if_neg hh, if_neg hh]
    have hh : holds D id th = false := by simpa using hh
    have e5 : hx D id th = -1 := by unfold hx; rw [if_neg (by rw [hh]; decide)]
    rw [e5] at HH
    clear e5 hh
    go_enter Tryz.func10, Tryz.ntmps10
    go_wp2_with fail
    refine HH.out.mono ?_
    rintro e w3 ⟨rfl, hb3⟩
    have HBW := Lib.hid (HB1.out.trans (hb3.mono HB1.out.size))
    obtain ⟨⟨f0, f1, f2, f3⟩, g0, g1, g2, g3⟩ := HVF.out.below hb3 (by have := HSZ.out; omega)
    obtain ⟨⟨r0, r1, r2, r3⟩, z0, z1, z2, z3⟩ := HVR.out.below hb3 (by have := HSZ.out; omega)
    have hs3 : w.heap.size + 2 ≤ w3.heap.size := by have := hb3.size; have := HSZ.out; omega
    clear hb3 HVF HVR HB1 HH
    go_wp2_with fail
    have hfin : Below w.heap.size w ((((w3.setCell ⟨w.heap.size + 1, 0, none⟩ (.int .u64 leak)).setCell ⟨w.heap.size + 1, 1, none⟩ (.slice A n c)).setCell ⟨w.heap.size + 1, 2, none⟩ (.slice A2 n2 c2)).setCell ⟨w.heap.size + 1, 3, none⟩ (.slice A3 n3 c3)) := by
      repeat' (first | exact HBW.out | apply Below.setCell | apply below_drewN | apply Below.drew | apply Below.alloc)
      all_goals (first | (simp; done) | (simp; omega))
    refine bodyPost_ret (v := .tuple #[.agg #[.int .u64 leak, .slice A n c, .slice A2 n2 c2, .slice A3 n3 c3], .int .i64 5]) (by simp [results, Tryz.results10, go_sem, r0, r1, r2, r3]) rfl ⟨⟨A, n, c, A2, n2, c2, A3, n3, c3⟩, rfl, HD.out.later hfin, hfin⟩
end
end Go.Proofs.YtbdcdofjcljliaaGreatDoor.Le
