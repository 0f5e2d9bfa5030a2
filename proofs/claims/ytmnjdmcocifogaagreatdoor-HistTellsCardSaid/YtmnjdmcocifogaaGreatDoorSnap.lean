/- Contracts of the functions of layer 3 (snap). -/
import Derived.Test.YtmnjdmcocifogaaGreatDoorSlices
import Derived.Test.YtmnjdmcocifogaaGreatDoorMapSet
import Derived.StillTailTactics
namespace Go.Proofs.YtmnjdmcocifogaaGreatDoor.Sn
open Go.ChangeShapes Go.WideShapes Go.ChangeAt Go.RowKit Rw Sl
set_option linter.unusedVariables false

/-- The value of a Snap of these numbers, below block B. -/
structure Snap (w : World) (B : Nat) (v : Value) (xs : List Int) : Prop where
  rd : ∃ A n c, v = .agg #[.slice A n c] ∧ Rd (Value.int .u64) w B A n c xs
  nd : xs.Nodup
  ok : U64s xs
theorem Snap.later {w w' : World} {v : Value} {xs : List Int} (h : Snap w w.heap.size v xs) (hb : Below w.heap.size w w') : Snap w' w'.heap.size v xs := by
  obtain ⟨⟨A, n, c, e, r⟩, h1, h2⟩ := h
  exact ⟨⟨A, n, c, e, r.later hb⟩, h1, h2⟩
theorem Snap.below {w w' : World} {B : Nat} {v : Value} {xs : List Int} (h : Snap w B v xs) (hb : Below B w w') : Snap w' B v xs := by
  obtain ⟨⟨A, n, c, e, r⟩, h1, h2⟩ := h
  exact ⟨⟨A, n, c, e, r.below hb⟩, h1, h2⟩
theorem Snap.more {w : World} {B B' : Nat} {v : Value} {xs : List Int} (h : Snap w B v xs) (hb : B ≤ B') : Snap w B' v xs := by
  obtain ⟨⟨A, n, c, e, r⟩, h1, h2⟩ := h
  exact ⟨⟨A, n, c, e, r.more hb⟩, h1, h2⟩

theorem Snap.setOther {w : World} {B : Nat} {v : Value} {xs : List Int} (h : Snap w B v xs) {p : Addr} {x : Value} (hp : w.cell? p = some x) (hne : ∀ y, Value.int .u64 y ≠ x) (u : Value) : Snap (w.setCell p u) B v xs := by
  obtain ⟨⟨A, n, c, e, r⟩, h1, h2⟩ := h
  exact ⟨⟨A, n, c, e, r.setOther hp hne u⟩, h1, h2⟩
theorem Snap.form {w : World} {B : Nat} {v : Value} {xs : List Int} (h : Snap w B v xs) : ∃ A n c, v = .agg #[.slice A n c] := by
  obtain ⟨⟨A, n, c, e, r⟩, -, -⟩ := h
  exact ⟨A, n, c, e⟩

theorem wf_u64 {x : Int} (h : 0 ≤ x ∧ x ≤ 18446744073709551615) : (Lit.int .u64 x).wf = true := WalkArith.wf_u64 (by omega)

theorem all_any (v : Value) (xs : List Int) (w : World) (h : Snap w w.heap.size v xs) (hl : xs.length * 8 ≤ 140737488355328) :
    Calls Tryz.prog 151 #[v] w fun e w' => ∃ A' c', e = .returned (.slice A' xs.length c') ∧ w'.ownsRow w.heap.size 23 1 (.slice A' xs.length c') xs.length (xs.map (Value.int .u64)) ∧ Below w.heap.size w w' := by
  obtain ⟨⟨A, n, c, rfl, r⟩, -, -⟩ := h
  obtain rfl := r.len
  have R := Lib.hid r
  clear r
  go_enter Tryz.func151, Tryz.ntmps151
  go_wp2_with fail
  refine (clone_any A _ c xs w.heap.size _ (R.out.alloc (Nat.le_refl _) _) (by simp) hl).mono ?_
  rintro e w' ⟨u, uc, rfl, hown, hb⟩
  go_wp2_with fail
  go_ret
  exact ⟨u, uc, rfl, own_mono hown (by simp), ((Below.refl _ _).alloc (Nat.le_refl _) _).trans (hb.mono (by simp))⟩

theorem zero_bool (w : World) : (zeroValue 4).run Tryz.prog w = .ok (.bool false) w := by kernel_rfl
theorem row_ne {w : World} {base : Nat} {e : TypeId} {v : Value} {n : Nat} {xs : List Value} (h : w.ownsRow base e 1 v n xs) {g : Nat} (hg : g < base) : some g ≠ v.ownBlock := fun e => by
  have := (h.lt g e.symm).1; omega

set_option maxRecDepth 100000 in
set_option maxHeartbeats 2000000 in
theorem of_any (A : Option Addr) (n c : Nat) (xs : List Int) (w : World) (h : Rd (Value.int .u64) w w.heap.size A n c xs) (hok : U64s xs) (hl : n * 8 + 8 ≤ 140737488355328) :
    Calls Tryz.prog 150 #[.slice A n c] w fun e w' => ∃ u, e = .returned u ∧ Snap w' w'.heap.size u (sOf xs) ∧ Below w.heap.size w w' := by
  have hmm := @run_makeMap Tryz.prog
  obtain ⟨i0, hi, hz0, hz1, hz2⟩ := info_parts info_u64
  have hn := h.len
  have R := Lib.hid h
  have HO := Lib.hid hok
  have HN := Lib.hid hn
  clear h hok hn
  go_enter Tryz.func150, Tryz.ntmps150
  go_wp2
  go_loopw [3, 10] (fun v i wr => ∃ (k c' : Nat) (A' : Option Addr) (acc : List Int), k ≤ n ∧ i = .int .i64 k ∧ v = .slice A' acc.length c' ∧ Hid (acc = sOf (xs.take k)) ∧ acc.length ≤ k ∧
      wr.ownsRow (w.heap.size + 2) 23 1 (.slice A' acc.length c') acc.length (acc.map (Value.int .u64)) ∧ wr.ownsMap Tryz.prog 23 (plainElem Tryz.prog 4) (w.heap.size + 1) k (Mp.setD .u64 acc) ∧
      wr.cell? ⟨w.heap.size, 0, none⟩ = some (.slice none 0 0) ∧ wr.frozen? ⟨w.heap.size, 0, none⟩ = false ∧ Below w.heap.size w wr ∧ w.heap.size + 2 ≤ wr.heap.size) (fun _ i _ => n - (intOf i).toNat)
  case atStart =>
    refine ⟨0, 0, none, [], Nat.zero_le _, rfl, rfl, rfl, Nat.zero_le _, World.ownsRow_nil _ _ _ _, ?_, by go_simp, by go_simp, ((Below.refl _ _).alloc (Nat.le_refl _) _).alloc (by simp) _, by simp⟩
    have := World.ownsMap_made (H := Unit) (w.alloc (.cells #[.slice none 0 0] 195)) Tryz.prog 23 (plainElem Tryz.prog 4)
    simpa [Mp.setD_nil] using this
  case round =>
    obtain ⟨k, c', A', acc, hk, rfl, rfl, hacc, hal, hrow, hmap, hc0, hf0, hbel, hsz⟩ := hrel
    by_cases hlt : k < n
    · obtain ⟨b, o, x, rfl, hb, hx, hcell⟩ := R.out.get hlt
      have hcx : wr.cell? ⟨b, o + k, none⟩ = some (.int .u64 x) := (hbel.cell (p := ⟨b, o + k, none⟩) hb).trans hcell
      have hwf := wf_u64 (HO.out.get hx)
      have HX := Lib.hid hx
      clear hx hcell
      by_cases hm : x ∈ acc
      · have e1 : sOf (xs.take (k + 1)) = acc := by rw [sOf_take HX.out, ← hacc.out, sWith, if_pos hm]
        have E1 := Lib.hid e1
        clear e1
        go_wp2_with (at_lookup; refine Mp.lookup_set _ rfl _ _ 72 rfl 23 4 .u64 Tryz.underlying23 Tryz.underlying72 Tryz.underlying4 (zero_bool _) (w.heap.size + 1) k acc rfl hmap x rfl hwf ?_)
        go_roundw
        case rel => exact ⟨k + 1, c', A', acc, by omega, by go_num, rfl, E1.out.symm, by omega, hrow, hmap.mono (by omega), hc0, hf0, hbel, hsz⟩
        case measure => simp [intOf]; omega
      · have e1 : sOf (xs.take (k + 1)) = acc ++ [x] := by rw [sOf_take HX.out, ← hacc.out, sWith, if_neg hm]
        have E1 := Lib.hid e1
        clear e1
        go_wp2_with (first
          | (at_lookup; refine Mp.lookup_set _ rfl _ _ 72 rfl 23 4 .u64 Tryz.underlying23 Tryz.underlying72 Tryz.underlying4 (zero_bool _) (w.heap.size + 1) k acc rfl hmap x rfl hwf ?_)
          | (at_mapUpdate; refine Mp.update_set _ rfl _ _ _ 72 rfl 23 4 .u64 Tryz.underlying23 Tryz.underlying72 Tryz.underlying4 (w.heap.size + 1) k acc rfl hmap (by unfold maxLen; omega) x rfl rfl hwf ?_; intro w1 hmap1 hg1)
          | (at_builtin; refine append_rd _ rfl _ _ 74 rfl (w.heap.size + 2) 23 i0 (.int .u64 0) 8 Tryz.underlying74 hi hz0 hz1 hz2 rfl _ acc.length _ rfl ((hrow.kept hg1 (Or.inr (row_ne hrow (Nat.lt_succ_self _)).symm)).alloc _) _ _ 1 1 [x] rfl (rd_one (enc := Value.int .u64) w1 x _) one_u64 (acc.length + 1) rfl ((acc ++ [x]).map (Value.int .u64)) List.map_append.symm (by unfold maxLen; omega) (by omega) (by have := hg1.size; simp; omega) ?_; intro v3 vc3 w3 hrow3 hg3 hat3))
        have s1 := hg1.size
        have s3 := hg3.size
        simp at s3
        have hrow1 := hrow.kept hg1 (Or.inr (row_ne hrow (Nat.lt_succ_self _)).symm)
        have hne0 : some w.heap.size ≠ (Value.slice A' acc.length c').ownBlock := row_ne hrow (by omega)
        have hc1 := hg1.cell hc0 (by simp)
        have hf1 := grown_frozen hg1 hf0 (by show w.heap.size < _; omega) (by simp)
        go_roundw
        case rel =>
          refine ⟨k + 1, vc3, v3, acc ++ [x], by omega, by go_num, by simp, E1.out.symm, by simp; omega, by simpa using hrow3, ?_, ?_, ?_, ?_, by omega⟩
          · exact (hmap1.alloc _).kept hg3 (row_ne hrow (by omega))
          · exact hg3.cell (alloc_cell hc1 _) hne0
          · exact grown_frozen hg3 (alloc_frozen hf1 (by show w.heap.size < _; omega) _) (by show w.heap.size < _; simp; omega) hne0
          · exact ((hbel.grown hg1 (by omega) (fun j hj => by cases hj; omega)).alloc (by omega) _).grown hg3 (by simp; omega) (fun j hj => by have := (hrow.lt j hj).1; omega)
        case measure => simp [intOf]; omega
    · have e1 : acc = sOf xs := by rw [hacc.out, List.take_of_length_le (by have := HN.out; omega)]
      clear hacc
      have E1 := Lib.hid e1
      clear e1
      go_wp2
      have hrow4 := ownsRow_setCell_below hrow (a := ⟨w.heap.size, 0, none⟩) (by show w.heap.size < _; omega) (.slice A' acc.length c')
      exact bodyPost_ret (v := .agg #[.slice A' acc.length c']) (by simp [results, Tryz.results150, go_sem, hc0]) rfl ⟨_, rfl, ⟨⟨_, _, _, rfl, by rw [← E1.out]; exact Rd.own_rd hrow4⟩, nodup_sOf xs, HO.out.of⟩, hbel.setCell (p := ⟨w.heap.size, 0, none⟩) (Nat.le_refl _) _⟩
end Go.Proofs.YtmnjdmcocifogaaGreatDoor.Sn
