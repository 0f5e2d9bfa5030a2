/- The document's Take of layer 11, at a hit. -/
import Derived.Test.YtbedboekfkobjaaGreatDoorSlotsRef
namespace Go.Proofs.YtbedboekfkobjaaGreatDoor.St
open Go.ChangeShapes Go.WideShapes Go.ChangeAt Go.RowKit Rw Hi
set_option linter.unusedVariables false

set_option maxRecDepth 100000 in
set_option maxHeartbeats 4000000 in
theorem rtake_hit (A : Option Addr) (n c : Nat) (l : List Sx) (t : Int) (k : Nat) (x : Sx) (w : World) (h : Rs enc3 3 w w.heap.size A n c l) (hn : n ≤ 1000) (hf : l.findIdx? (hit t) = some k) (hx : l[k]? = some x) :
    Calls Tryz.prog 16 #[.slice A n c, .int .i64 t] w fun e w' => ∃ A' c', e = .returned (.tuple #[.slice A' (n - 1) c', .int .u64 x.2.2, .bool true]) ∧ Rs enc3 3 w' w'.heap.size A' (n - 1) c' (l.eraseIdx k) ∧ New1 w w' (.slice A n c) (.slice A' (n - 1) c') ∧ Below w.heap.size w w' := by
  obtain ⟨i0, hi0, hz0, hz1, hz2⟩ := info_parts info_rslot
  have hkn : k < n := by rw [← h.len]; exact (List.getElem?_eq_some_iff.1 hx).1
  obtain ⟨b, o, y, rfl, hb, hy, c0, c1, c2⟩ := three_at h hkn
  obtain rfl : x = y := by rw [hx] at hy; injection hy
  obtain ⟨x0, x1, x2⟩ := x
  simp only at c0 c1 c2 ⊢
  have HR := Lib.hid h
  have HLEN := Lib.hid h.len
  have HZ := Lib.hid (ixZ_some hf)
  have hnc := h.cap
  have htop := h.top
  obtain ⟨j, hj⟩ : ∃ j : Nat, j = k + 1 := ⟨_, rfl⟩
  have hwr : IntKind.i64.wrap ((k : Int) + 1) = (j : Int) := by rw [hj, IntKind.wrap_i64]; omega
  obtain ⟨A4, hA4⟩ : ∃ A4 : Option Addr, (if c = j then some (⟨b, o, none⟩ : Addr) else some ⟨b, o + j * 3, none⟩) = A4 := ⟨_, rfl⟩
  have HB4 : Hid (Rs enc3 3 w w.heap.size A4 (n - j) (c - j) (l.drop j)) := Lib.hid (h.back (i := j) (by omega) rfl (fun hlt => by rw [← hA4, if_neg (by omega)]))
  have hjn : j ≤ n := by omega
  have hjc : j ≤ c := by omega
  have HJ := Lib.hid hj
  clear h hf hx hy c0 c1 hj
  go_enter Tryz.func16, Tryz.ntmps16
  go_wp2_with fail
  refine (rof_any _ n c _ l t w HR.out (Nat.le_refl _)).mono ?_
  rw [HZ.out]
  rintro e w1 ⟨rfl, hb1⟩
  have hs1 := hb1.size
  have d2 := (hb1.cell (p := ⟨b, o + k * 3 + 2, none⟩) hb).trans c2
  have R1 := Lib.hid ((HR.out.below hb1).front (i := k) (by omega))
  have RB1 := Lib.hid (HB4.out.below hb1)
  have B1 := Lib.hid hb1
  clear hb1 HR HB4 c2
  go_wp2_with (
    at_builtin
    refine append_rs enc3_len rfl _ _ 26 rfl w.heap.size 47 i0 _ 24 Tryz.underlying26 hi0 hz0 hz1 hz2 rfl (by decide) (.slice none 0 0) 0 [] rfl (World.ownsRow_nil _ _ _ _) _ (some ⟨b, o, none⟩) k c (l.take k) rfl R1.out enc3_one k (Nat.zero_add _) (flat enc3 (l.take k)) rfl (by unfold maxLen; omega) (by omega) hs1 ?_
    intro A2 c3 w2 ho2 hg2 hat2
    refine Hid.out ?_)
  refine Lib.hid ?_
  have B2 := Lib.hid (B1.out.grown hg2 hs1 (fun j hj => by cases hj))
  have hs2 := B2.out.size
  have b12 : Below w.heap.size w1 w2 := (Below.refl _ _).grown hg2 hs1 (fun j hj => by cases hj)
  have e2 := (b12.cell (p := ⟨b, o + k * 3 + 2, none⟩) hb).trans d2
  have RB2 := Lib.hid (RB1.out.below b12)
  have HO2 := Lib.hid ho2
  clear ho2 hg2 hat2 b12 d2 RB1 R1 B1
  go_wp2_with fail
  refine reg_start 14 (fun w' => w'.cell? ⟨b, o + k * 3 + 2, none⟩ = some (.int .u64 x2)) (by kernel_rfl) (by kernel_rfl) ?_
  intro hT
  have HT := Lib.hid hT
  clear hT
  have f2 : w2.drew.cell? ⟨b, o + k * 3 + 2, none⟩ = some (.int .u64 x2) := e2
  refine reg_load 0 HT.out rfl (by kernel_rfl) (by decide) (fun _ _ _ _ h => h) f2 rfl ?_
  apply Exists.intro
  refine ⟨fun w' hw => by (go_simp; exact rfl), ?_⟩
  refine reg_load 1 HT.out rfl (by kernel_rfl) (by decide) (fun _ _ _ _ h => h) f2 rfl ?_
  apply Exists.intro
  refine ⟨fun w' hw => by (go_simp; exact rfl), ?_⟩
  refine reg_load 2 HT.out rfl (by kernel_rfl) (by decide) (fun _ _ _ _ h => h) f2 rfl ?_
  apply Exists.intro
  refine ⟨fun w' hw => by (go_simp; exact rfl), ?_⟩
  refine reg_load 3 HT.out rfl (by kernel_rfl) (by decide) (fun _ _ _ _ h => h) f2 rfl ?_
  apply Exists.intro
  refine ⟨fun w' hw => by (go_simp; exact rfl), ?_⟩
  refine reg_load 4 HT.out rfl (by kernel_rfl) (by decide) (fun _ _ _ _ h => h) f2 rfl ?_
  apply Exists.intro
  refine ⟨fun w' hw => by (go_simp; exact rfl), ?_⟩
  refine reg_load 6 HT.out rfl (by kernel_rfl) (by decide) (fun _ _ _ _ h => h) f2 rfl ?_
  apply Exists.intro
  refine ⟨fun w' hw => by (go_simp; exact rfl), ?_⟩
  refine reg_load 7 HT.out rfl (by kernel_rfl) (by decide) (fun _ _ _ _ h => h) f2 rfl ?_
  apply Exists.intro
  refine ⟨fun w' hw => by (go_simp; exact rfl), ?_⟩
  refine reg_load 8 HT.out rfl (by kernel_rfl) (by decide) (fun _ _ _ _ h => h) f2 rfl ?_
  apply Exists.intro
  refine ⟨fun w' hw => by (go_simp; exact rfl), ?_⟩
  refine reg_load 9 HT.out rfl (by kernel_rfl) (by decide) (fun _ _ _ _ h => h) f2 rfl ?_
  apply Exists.intro
  refine ⟨fun w' hw => by (go_simp; exact rfl), ?_⟩
  refine reg_load 10 HT.out rfl (by kernel_rfl) (by decide) (fun _ _ _ _ h => h) f2 rfl ?_
  apply Exists.intro
  refine ⟨fun w' hw => by (go_simp; exact rfl), ?_⟩
  refine reg_only 5 rfl (by kernel_rfl) rfl ?_
  have HE1 : Hid (k + (n - j) = n - 1) := Lib.hid (by have := HJ.out; omega)
  have HE2 : Hid (flat enc3 (l.take k) ++ flat enc3 (l.drop j) = flat enc3 (l.eraseIdx k)) := Lib.hid (by rw [← flat_append, HJ.out, List.eraseIdx_eq_take_drop_succ])
  refine wp_append_rs (enc := enc3) enc3_len (.tmp 20) (.tmp 24) 26 rfl w.heap.size 47 i0 _ 24 Tryz.underlying26 hi0 hz0 hz1 hz2 rfl (by decide) (.slice A2 k c3) k (flat enc3 (l.take k)) ?_ HO2.out.drew w.heap.size A4 (n - j) (c - j) (l.drop j) ?_ (RB2.out.below (Below.refl _ w2).drew) enc3_one (n - 1) HE1.out (flat enc3 (l.eraseIdx k)) HE2.out (by unfold maxLen; omega) (by omega) hs2 ?_
  · go_simp
  · go_simp
  intro A5 c5 w5 ho5 hg5 hat5
  have b25 : Below w.heap.size w2 w5 := (Below.refl _ _).drew.trans ((Below.refl _ _).grown hg5 hs2 (fun j hj => (HO2.out.lt j hj).1))
  have g2 := (b25.cell (p := ⟨b, o + k * 3 + 2, none⟩) hb).trans e2
  have HF := Lib.hid (Rs.own_rs enc3_len (xs := l.eraseIdx k) (by have := erase_len (l := l) (k := k) (by rw [HLEN.out]; exact hkn); have := HLEN.out; omega) ho5)
  have HLO := Lib.hid ho5.lt
  have B5 := Lib.hid (B2.out.trans b25)
  clear ho5 hg5 hat5 b25
  refine ⟨fun _ => g2, ?_⟩
  refine reg_only 11 rfl (by kernel_rfl) rfl ?_
  unfold Oper.wp
  go_simp
  refine reg_only 12 rfl (by kernel_rfl) rfl ?_
  unfold Oper.wp
  go_simp
  refine reg_only 13 rfl (by kernel_rfl) rfl ?_
  unfold Oper.wp
  go_simp
  refine reg_done (by kernel_rfl) ?_
  go_wp2_with fail
  go_ret3
  exact ⟨A5, c5, rfl, HF.out, .inr (fun g hg => HLO.out g hg), B5.out⟩
end Go.Proofs.YtbedboekfkobjaaGreatDoor.St
