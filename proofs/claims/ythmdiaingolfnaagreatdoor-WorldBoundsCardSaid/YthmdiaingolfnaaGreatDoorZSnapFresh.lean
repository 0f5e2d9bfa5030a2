/- A part of the claim: the texts SnapFresh. -/
import Derived.Test.YthmdiaingolfnaaGreatDoorZBase1
import Derived.StillTailTactics
namespace Go.Proofs.YthmdiaingolfnaaGreatDoor.Sn
open Go.ChangeShapes Go.WideShapes Go.ChangeAt Go.RowKit Rw Sl
set_option linter.unusedVariables false
def Fresh (w : World) (v u : Value) : Prop := u = v ∨ ∃ A n c, u = .agg #[.slice A n c] ∧ ∀ b o, A = some ⟨b, o, none⟩ → w.heap.size ≤ b
theorem own_fresh {w w' : World} {v : Value} {base n c : Nat} {e : TypeId} {A : Option Addr} {xs : List Value} (h : w'.ownsRow base e 1 (.slice A n c) n xs) (hb : w.heap.size ≤ base) : Fresh w v (.agg #[.slice A n c]) :=
  .inr ⟨A, n, c, rfl, fun b o e => by subst e; exact Nat.le_trans hb (h.lt b rfl).1⟩
set_option maxRecDepth 100000 in
set_option maxHeartbeats 1000000 in
theorem with2_any (v : Value) (xs : List Int) (x : Int) (w : World) (h : Snap w w.heap.size v xs) (hl : xs.length * 8 + 8 ≤ 140737488355328) (hx : 0 ≤ x ∧ x ≤ 18446744073709551615) :
    Calls Tryz.prog 94 #[v, .int .u64 x] w fun e w' => ∃ u, e = .returned u ∧ Snap w' w'.heap.size u (sWith xs x) ∧ Below w.heap.size w w' ∧ Fresh w v u := by
  have h' := h
  obtain ⟨⟨A, n, c, rfl, r⟩, hnd, hok⟩ := h
  obtain rfl := r.len
  have R := Lib.hid r
  have HS := Lib.hid h'
  have HD := Lib.hid hnd
  have HO := Lib.hid hok
  clear r h' hnd hok
  obtain ⟨i0, hi, hz0, hz1, hz2⟩ := info_parts info_u64
  by_cases hm : x ∈ xs
  · have hneg : 0 ≤ sIdx xs x := by have := sIdx_neg xs x; have := mt this.1 (by simpa using hm); omega
    have e1 : sWith xs x = xs := by simp [sWith, hm]
    rw [e1]
    have HM := Lib.hid hm
    clear hm e1
    go_enter Tryz.func94, Tryz.ntmps94
    go_wp2_with fail
    refine (idx_any _ xs x _ (HS.out.later (((Below.refl _ _).alloc (Nat.le_refl _) _).alloc (by simp) _))).mono ?_
    rintro e w' ⟨rfl, hb⟩
    have c0 : w'.cell? ⟨w.heap.size, 0, none⟩ = some (.slice A xs.length c) := (hb.cell (p := ⟨w.heap.size, 0, none⟩) (by simp; omega)).trans (by go_simp)
    have c1 : w'.cell? ⟨w.heap.size + 1, 0, none⟩ = some (.slice none 0 0) := (hb.cell (p := ⟨w.heap.size + 1, 0, none⟩) (by simp)).trans (by go_simp)
    have f1 : w'.frozen? ⟨w.heap.size + 1, 0, none⟩ = false := (hb.frozen (p := ⟨w.heap.size + 1, 0, none⟩) (by simp)).trans (by go_simp)
    go_wp2_with fail
    have hbw : Below w.heap.size w (w'.setCell ⟨w.heap.size + 1, 0, none⟩ (.slice A xs.length c)) := ((((Below.refl _ _).alloc (Nat.le_refl _) _).alloc (by simp) _).trans (hb.mono (by simp; omega))).setCell (p := ⟨w.heap.size + 1, 0, none⟩) (by simp) _
    exact bodyPost_ret (v := .agg #[.slice A xs.length c]) (by simp [results, Tryz.results94, go_sem, c1]) rfl ⟨_, rfl, HS.out.later hbw, hbw, .inl rfl⟩
  · have hneg : sIdx xs x < 0 := (sIdx_neg xs x).2 hm
    have e1 : sWith xs x = xs ++ [x] := by simp [sWith, hm]
    have hnd2 := nodup_sWith HD.out x
    have hok2 := HO.out.with_ hx.1 hx.2
    rw [e1] at hnd2 hok2 ⊢
    have HD2 := Lib.hid hnd2
    have HO2 := Lib.hid hok2
    clear hm e1 hnd2 hok2
    go_enter Tryz.func94, Tryz.ntmps94
    go_wp2_with fail
    refine (idx_any _ xs x _ (HS.out.later (((Below.refl _ _).alloc (Nat.le_refl _) _).alloc (by simp) _))).mono ?_
    rintro e w' ⟨rfl, hb⟩
    have c0 : w'.cell? ⟨w.heap.size, 0, none⟩ = some (.slice A xs.length c) := (hb.cell (p := ⟨w.heap.size, 0, none⟩) (by simp; omega)).trans (by go_simp)
    have c1 : w'.cell? ⟨w.heap.size + 1, 0, none⟩ = some (.slice none 0 0) := (hb.cell (p := ⟨w.heap.size + 1, 0, none⟩) (by simp)).trans (by go_simp)
    have f1 : w'.frozen? ⟨w.heap.size + 1, 0, none⟩ = false := (hb.frozen (p := ⟨w.heap.size + 1, 0, none⟩) (by simp)).trans (by go_simp)
    have hb1 : Below w.heap.size w w' := (((Below.refl _ _).alloc (Nat.le_refl _) _).alloc (by simp) _).trans (hb.mono (by simp; omega))
    have hs1 : w.heap.size + 2 ≤ w'.heap.size := by have := hb.size; simpa using this
    clear hb
    go_wp2_with fail
    refine (all_any _ xs _ (HS.out.later hb1) (by omega)).mono ?_
    rintro e w2 ⟨u, uc, rfl, hown, hb2⟩
    have c2 : w2.cell? ⟨w.heap.size + 1, 0, none⟩ = some (.slice none 0 0) := (hb2.cell (p := ⟨w.heap.size + 1, 0, none⟩) (by show w.heap.size + 1 < _; omega)).trans c1
    have f2 : w2.frozen? ⟨w.heap.size + 1, 0, none⟩ = false := (hb2.frozen (p := ⟨w.heap.size + 1, 0, none⟩) (by show w.heap.size + 1 < _; omega)).trans f1
    have hs2 := hb2.size
    clear c0 c1 f1
    have hlt3 : ∀ g, (Value.slice u xs.length uc).ownBlock = some g → w'.heap.size ≤ g := fun g hg => (hown.lt g hg).1
    have hne3 : some (w.heap.size + 1) ≠ (Value.slice u xs.length uc).ownBlock := fun e => by have := hlt3 _ e.symm; omega
    have H3 := Lib.hid hlt3
    have HN3 := Lib.hid hne3
    clear hlt3 hne3
    go_wp2_with (at_builtin; refine append_rd _ rfl _ _ 54 rfl w'.heap.size 22 i0 (.int .u64 0) 8 Tryz.underlying54 hi hz0 hz1 hz2 rfl _ xs.length _ rfl (hown.alloc _) _ _ 1 1 [x] rfl (rd_one (enc := Value.int .u64) w2 x _) one_u64 (xs.length + 1) rfl ((xs ++ [x]).map (Value.int .u64)) List.map_append.symm (by unfold maxLen; omega) (by omega) (by simp; omega) ?_; intro v3 vc3 w3 hown3 hg3 hat3; have c3 := hg3.cell (alloc_cell c2 _) HN3.out; have f3 := grown_frozen hg3 (alloc_frozen f2 (by show w.heap.size + 1 < _; omega) _) (by show w.heap.size + 1 < _; simp; omega) HN3.out)
    have hb3 : Below w.heap.size w w3 := ((hb1.trans (hb2.mono (by omega))).alloc (by omega) _).grown hg3 (by simp; omega) (fun k hk => by have := H3.out k hk; omega)
    go_wp2_with fail
    have hown4 := ownsRow_setCell_below hown3 (a := ⟨w.heap.size + 1, 0, none⟩) (by show w.heap.size + 1 < _; omega) (.slice v3 (xs.length + 1) vc3)
    exact bodyPost_ret (v := .agg #[.slice v3 (xs.length + 1) vc3]) (by simp [results, Tryz.results94, go_sem, c3]) rfl ⟨_, rfl, ⟨⟨_, _, _, rfl, Rd.own_rd hown4⟩, HD2.out, HO2.out⟩, hb3.setCell (p := ⟨w.heap.size + 1, 0, none⟩) (by simp) _, own_fresh hown4 (by first | omega | (simp; omega))⟩
end Go.Proofs.YthmdiaingolfnaaGreatDoor.Sn
