/- A part of the claim: the texts SnapFresh. -/
import Derived.Test.YthmdiaingolfnaaGreatDoorZBase1
import Derived.StillTailTactics
namespace Go.Proofs.YthmdiaingolfnaaGreatDoor.Sn
open Go.ChangeShapes Go.WideShapes Go.ChangeAt Go.RowKit Rw Sl
set_option linter.unusedVariables false
def Fresh (w : World) (v u : Value) : Prop := u = v ∨ ∃ A n c, u = .agg #[.slice A n c] ∧ ∀ b o, A = some ⟨b, o, none⟩ → w.heap.size ≤ b
theorem own_fresh {w w' : World} {v : Value} {base n c : Nat} {e : TypeId} {A : Option Addr} {xs : List Value} (h : w'.ownsRow base e 1 (.slice A n c) n xs) (hb : w.heap.size ≤ base) : Fresh w v (.agg #[.slice A n c]) :=
  .inr ⟨A, n, c, rfl, fun b o e => by subst e; exact Nat.le_trans hb (h.lt b rfl).1⟩
set_option maxRecDepth 100000 in
set_option maxHeartbeats 1000000 in
theorem with2_any (v : Value) (xs : List Int) (x : Int) (w : World) (h : Snap w w.heap.size v xs) (hl : xs.length * 8 + 8 ≤ 140737488355328) (hx : 0 ≤ x ∧ x ≤ 18446744073709551615) :
    Calls Tryz.prog 94 #[v, .int .u64 x] w fun e w' => ∃ u, e = .returned u ∧ Snap w' w'.heap.size u (sWith xs x) ∧ Below w.heap.size w w' ∧ Fresh w v u := by
  have h' := h
  obtain ⟨⟨A, n, c, rfl, r⟩, hnd, hok⟩ := h
  obtain rfl := r.len
  have R := Lib.hid r
  have HS := Lib.hid h'
  have HD := Lib.hid hnd
  have HO := Lib.hid hok
  clear r h' hnd hok
  obtain ⟨i0, hi, hz0, hz1, hz2⟩ := info_parts info_u64
  by_cases hm : x ∈ xs
  · have hneg : 0 ≤ sIdx xs x := by have := sIdx_neg xs x; have := mt this.1 (by simpa using hm); omega
    have e1 : sWith xs x = xs := by simp [sWith, hm]
    rw [e1]
    have HM := Lib.hid hm
    clear hm e1
    go_enter Tryz.func94, Tryz.ntmps94
    go_wp2_with fail
    refine (idx_any _ xs x _ (HS.out.later (((Below.refl _ _).alloc (Nat.le_refl _) _).alloc (by simp) _))).mono ?_
    rintro e w' ⟨rfl, hb⟩
    have c0 : w'.cell? ⟨w.heap.size, 0, none⟩ = some (.slice A xs.length c) := (hb.cell (p := ⟨w.heap.size, 0, none⟩) (by simp; omega)).trans (by go_simp)
    have c1 : w'.cell? ⟨w.heap.size + 1, 0, none⟩ = some (.slice none 0 0) := (hb.cell (p := ⟨w.heap.size + 1, 0, none⟩) (by simp)).trans (by go_simp)
    have f1 : w'.frozen? ⟨w.heap.size + 1, 0, none⟩ = false := (hb.frozen (p := ⟨w.heap.size + 1, 0, none⟩) (by simp)).trans (by go_simp)
    go_wp2_with fail
    have hbw : Below w.heap.size w (w'.setCell ⟨w.heap.size + 1, 0, none⟩ (.slice A xs.length c)) := ((((Below.refl _ _).alloc (Nat.le_refl _) _).alloc (by simp) _).trans (hb.mono (by simp; omega))).setCell (p := ⟨w.heap.size + 1, 0, none⟩) (by simp) _
    exact bodyPost_ret (v := .agg #[.slice A xs.length c]) (by simp [results, Tryz.results94, go_sem, c1]) rfl ⟨_, rfl, HS.out.later hbw, hbw, .inl rfl⟩
  · have hneg : sIdx xs x < 0 := (sIdx_neg xs x).2 hm
    have e1 : sWith xs x = xs ++ [x] := by simp [sWith, hm]
    have hnd2 := nodup_sWith HD.out x
    have hok2 := HO.out.with_ hx.1 hx.2
    rw [e1] at hnd2 hok2 ⊢
    have HD2 := Lib.hid hnd2
    have HO2 := Lib.hid hok2
    clear hm e1 hnd2 hok2
    go_enter Tryz.func94, Tryz.ntmps94
    go_wp2_with fail
    refine (idx_any _ xs x _ (HS.out.later (((Below.refl _ _).alloc (Nat.le_refl _) _).alloc (by simp) _))).mono ?_
    rintro e w' ⟨rfl, hb⟩
    have c0 : w'.cell? ⟨w.heap.size, 0, none⟩ = some (.slice A xs.length c) := (hb.cell (p := ⟨w.heap.size, 0, none⟩) (by simp; omega)).trans (by go_simp)
    have c1 : w'.cell? ⟨w.heap.size + 1, 0, none⟩ = some (.slice none 0 0) := (hb.cell (p := ⟨w.heap.size + 1, 0, none⟩) (by simp)).trans (by go_simp)
    have f1 : w'.frozen? ⟨w.heap.size + 1, 0, none⟩ = false := (hb.frozen (p := ⟨w.heap.size + 1, 0, none⟩) (by simp)).trans (by go_simp)
    have hb1 : Below w.heap.size w w' := (((Below.refl _ _).alloc (Nat.le_refl _) _).alloc (by simp) _).trans (hb.mono (by simp; omega))
    have hs1 : w.heap.size + 2 ≤ w'.heap.size := by have := hb.size; simpa using this
    clear hb
    go_wp2_with fail
    refine (all_any _ xs _ (HS.out.later hb1) (by omega)).mono ?_
    rintro e w2 ⟨u, uc, rfl, hown, hb2⟩
    have c2 : w2.cell? ⟨w.heap.size + 1, 0, none⟩ = some (.slice none 0 0) := (hb2.cell (p := ⟨w.heap.size + 1, 0, none⟩) (by show w.heap.size + 1 < _; omega)).trans c1
    have f2 : w2.frozen? ⟨w.heap.size + 1, 0, none⟩ = false := (hb2.frozen (p := ⟨w.heap.size + 1, 0, none⟩) (by show w.heap.size + 1 < _; omega)).trans f1
    have hs2 := hb2.size
    clear c0 c1 f1
    have hlt3 : ∀ g, (Value.slice u xs.length uc).ownBlock = some g → w'.heap.size ≤ g := fun g hg => (hown.lt g hg).1
    have hne3 : some (w.heap.size + 1) ≠ (Value.slice u xs.length uc).ownBlock := fun e => by have := hlt3 _ e.symm; omega
    have H3 := Lib.hid hlt3
    have HN3 := Lib.hid hne3
    clear hlt3 hne3
    go_wp2_with (at_builtin; refine append_rd _ rfl _ _ 54 rfl w'.heap.size 22 i0 (.int .u64 0) 8 Tryz.underlying54 hi hz0 hz1 hz2 rfl _ xs.length _ rfl (hown.alloc _) _ _ 1 1 [x] rfl (rd_one (enc := Value.int .u64) w2 x _) one_u64 (xs.length + 1) rfl ((xs ++ [x]).map (Value.int .u64)) List.map_append.symm (by unfold maxLen; omega) (by omega) (by simp; omega) ?_; intro v3 vc3 w3 hown3 hg3 hat3; have c3 := hg3.cell (alloc_cell c2 _) HN3.out; have f3 := grown_frozen hg3 (alloc_frozen f2 (by show w.heap.size + 1 < _; omega) _) (by show w.heap.size + 1 < _; simp; omega) HN3.out)
    have hb3 : Below w.heap.size w w3 := ((hb1.trans (hb2.mono (by omega))).alloc (by omega) _).grown hg3 (by simp; omega) (fun k hk => by have := H3.out k hk; omega)
    go_wp2_with fail
    have hown4 := ownsRow_setCell_below hown3 (a := ⟨w.heap.size + 1, 0, none⟩) (by show w.heap.size + 1 < _; omega) (.slice v3 (xs.length + 1) vc3)
    exact bodyPost_ret (v := .agg #[.slice v3 (xs.length + 1) vc3]) (by simp [results, Tryz.results94, go_sem, c3]) rfl ⟨_, rfl, ⟨⟨_, _, _, rfl, Rd.own_rd hown4⟩, HD2.out, HO2.out⟩, hb3.setCell (p := ⟨w.heap.size + 1, 0, none⟩) (by simp) _, own_fresh hown4 (by first | omega | (simp; omega))⟩
set_option maxRecDepth 100000 in
set_option maxHeartbeats 1000000 in
theorem without2_any (v : Value) (xs : List Int) (x : Int) (w : World) (h : Snap w w.heap.size v xs) (hl : xs.length * 8 ≤ 140737488355328) :
    Calls Tryz.prog 149 #[v, .int .u64 x] w fun e w' => ∃ u, e = .returned u ∧ Snap w' w'.heap.size u (sWithout xs x) ∧ Below w.heap.size w w' ∧ Fresh w v u := by
  have h' := h
  obtain ⟨⟨A, n, c, rfl, r⟩, hnd, hok⟩ := h
  obtain rfl := r.len
  have hcap := r.cap
  have htop := r.top
  have R := Lib.hid r
  have HS := Lib.hid h'
  have HD := Lib.hid hnd
  have HO := Lib.hid hok
  clear r h' hnd hok
  by_cases hm : x ∈ xs
  · obtain ⟨k, hk, hkl, hkx⟩ := sIdx_get hm
    obtain ⟨b, o, y, rfl, hb, -, -⟩ := R.out.get hkl
    have HE := Lib.hid (sWithout_cut HD.out hkx)
    clear hm hkx
    have HK := Lib.hid hk
    clear hk
    have hbw : b < w.heap.size := hb
    go_enter Tryz.func149, Tryz.ntmps149
    go_wp2_with fail
    refine (idx_any _ xs x _ (HS.out.later (((Below.refl _ _).alloc (Nat.le_refl _) _).alloc (by simp) _))).mono ?_
    rintro e w' ⟨rfl, hb⟩
    rw [HK.out]
    have c0 : w'.cell? ⟨w.heap.size, 0, none⟩ = some (.slice (some ⟨b, o, none⟩) xs.length c) := (hb.cell (p := ⟨w.heap.size, 0, none⟩) (by simp; omega)).trans (by go_simp)
    have c1 : w'.cell? ⟨w.heap.size + 1, 0, none⟩ = some (.slice none 0 0) := (hb.cell (p := ⟨w.heap.size + 1, 0, none⟩) (by simp)).trans (by go_simp)
    have f1 : w'.frozen? ⟨w.heap.size + 1, 0, none⟩ = false := (hb.frozen (p := ⟨w.heap.size + 1, 0, none⟩) (by simp)).trans (by go_simp)
    have hb1 : Below w.heap.size w w' := (((Below.refl _ _).alloc (Nat.le_refl _) _).alloc (by simp) _).trans (hb.mono (by simp; omega))
    have hs1 : w.heap.size + 2 ≤ w'.heap.size := by have := hb.size; simpa using this
    clear hb
    go_wp2_with fail
    have hkc : k ≤ c := by omega
    have hk1 : k + 1 ≤ xs.length := by omega
    have hw1 : IntKind.i64.wrap ((k : Int) + 1) = (k : Int) + 1 := IntWalk.i64_in _ (by omega)
    have hw2 : 0 ≤ (k : Int) + 1 := by omega
    have hw3 : ((k : Int) + 1).toNat = k + 1 := by omega
    have hw4 : (k : Int) + 1 ≤ (xs.length : Int) := by omega
    go_still_tail 9, (by kernel_rfl)
    change wpList _ _ _ _ _ w'.drew
    have hb2 : Below w.heap.size w w'.drew := hb1.drew
    have d1 : w'.drew.cell? ⟨w.heap.size + 1, 0, none⟩ = some (.slice none 0 0) := c1
    have g1 : w'.drew.frozen? ⟨w.heap.size + 1, 0, none⟩ = false := f1
    have hs2 : w.heap.size + 2 ≤ w'.drew.heap.size := hs1
    clear c0 c1 f1 hb1 hs1 hw1 hw2 hw3 hw4
    generalize w'.drew = w2 at *
    obtain ⟨A2, hA2, hA3⟩ : ∃ A2, (if c = k + 1 then some (⟨b, o, none⟩ : Addr) else some ⟨b, o + (k + 1), none⟩) = A2 ∧ (k + 1 < xs.length → A2 = some ⟨b, o + (k + 1), none⟩) := ⟨_, rfl, fun h => by rw [if_neg (by omega)]⟩
    rw [hA2]
    have HA3 := Lib.hid hA3
    clear hA2 hA3
    go_wp2_with fail
    refine (concat_two _ _ A2 k c (xs.length - (k + 1)) (c - (k + 1)) w.heap.size w.heap.size (xs.take k) (xs.drop (k + 1)) _ (by go_simp) (by go_simp) (((R.out.below hb2).front (by omega)).alloc (by omega) _) (((R.out.below hb2).back (by omega) rfl HA3.out).alloc (by omega) _) (by simp; omega) (by simp; omega) (by simp) (by omega)).mono ?_
    rintro e w3 ⟨v3, vc3, rfl, hown3, hb3⟩
    have hs3 := hb3.size
    simp at hs3
    have c3 : w3.cell? ⟨w.heap.size + 1, 0, none⟩ = some (.slice none 0 0) := (hb3.cell (p := ⟨w.heap.size + 1, 0, none⟩) (by simp; omega)).trans (alloc_cell d1 _)
    have f3 : w3.frozen? ⟨w.heap.size + 1, 0, none⟩ = false := (hb3.frozen (p := ⟨w.heap.size + 1, 0, none⟩) (by simp; omega)).trans (alloc_frozen g1 (by show w.heap.size + 1 < _; omega) _)
    rw [HE.out] at hown3
    go_wp2_with fail
    have hown4 := ownsRow_setCell_below hown3 (a := ⟨w.heap.size + 1, 0, none⟩) (by show w.heap.size + 1 < _; simp; omega) (.slice v3 (k + (xs.length - (k + 1))) vc3)
    exact bodyPost_ret (v := .agg #[.slice v3 (k + (xs.length - (k + 1))) vc3]) (by simp [results, Tryz.results149, go_sem, c3]) rfl ⟨_, rfl, ⟨⟨_, _, _, rfl, Rd.own_rd hown4⟩, nodup_sWithout HD.out x, HO.out.without x⟩,
      ((hb2.alloc (by omega) _).trans (hb3.mono (by simp; omega))).setCell (p := ⟨w.heap.size + 1, 0, none⟩) (by simp) _, own_fresh hown4 (by first | omega | (simp; omega))⟩
  · have hneg : sIdx xs x < 0 := (sIdx_neg xs x).2 hm
    have e1 : sWithout xs x = xs := sWithout_none hm
    rw [e1]
    clear hm e1
    go_enter Tryz.func149, Tryz.ntmps149
    go_wp2_with fail
    refine (idx_any _ xs x _ (HS.out.later (((Below.refl _ _).alloc (Nat.le_refl _) _).alloc (by simp) _))).mono ?_
    rintro e w' ⟨rfl, hb⟩
    have c0 : w'.cell? ⟨w.heap.size, 0, none⟩ = some (.slice A xs.length c) := (hb.cell (p := ⟨w.heap.size, 0, none⟩) (by simp; omega)).trans (by go_simp)
    have c1 : w'.cell? ⟨w.heap.size + 1, 0, none⟩ = some (.slice none 0 0) := (hb.cell (p := ⟨w.heap.size + 1, 0, none⟩) (by simp)).trans (by go_simp)
    have f1 : w'.frozen? ⟨w.heap.size + 1, 0, none⟩ = false := (hb.frozen (p := ⟨w.heap.size + 1, 0, none⟩) (by simp)).trans (by go_simp)
    go_wp2_with fail
    have hbw : Below w.heap.size w (w'.setCell ⟨w.heap.size + 1, 0, none⟩ (.slice A xs.length c)) := ((((Below.refl _ _).alloc (Nat.le_refl _) _).alloc (by simp) _).trans (hb.mono (by simp; omega))).setCell (p := ⟨w.heap.size + 1, 0, none⟩) (by simp) _
    exact bodyPost_ret (v := .agg #[.slice A xs.length c]) (by simp [results, Tryz.results149, go_sem, c1]) rfl ⟨_, rfl, HS.out.later hbw, hbw, .inl rfl⟩
end Go.Proofs.YthmdiaingolfnaaGreatDoor.Sn
