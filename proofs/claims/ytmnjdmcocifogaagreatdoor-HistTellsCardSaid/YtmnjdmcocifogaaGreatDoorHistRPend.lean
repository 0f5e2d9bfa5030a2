/- Layer 9: the document's Pending. -/
import Derived.Test.YtmnjdmcocifogaaGreatDoorHistPend
namespace Go.Proofs.YtmnjdmcocifogaaGreatDoor.Hi
open Go.ChangeShapes Go.WideShapes Go.ChangeAt Go.RowKit Go.Maps Rw Tx
set_option linter.unusedVariables false

def Fm9 (A : Option Addr) (c : Nat) : Prop := (A = none ∧ c = 0) ∨ ∃ b o, A = some ⟨b, o, none⟩
theorem own_fm9 {w : World} {base : Nat} {e : TypeId} {size n : Nat} {A : Option Addr} {c : Nat} {xs : List Value} (h : w.ownsRow base e size (.slice A n c) n xs) : Fm9 A c := by
  rcases h.2 with ⟨h1, _⟩ | ⟨g, cap, cur, h1, _⟩
  · injection h1 with h1 _ h2; exact .inl ⟨h1, h2⟩
  · injection h1 with h1 _ h2; exact .inr ⟨g, 0, h1⟩
/-- Those of the first k that wait. -/
def Pk (l : List Ev) (k : Nat) (ps : List Int) : Prop := ps.Pairwise (· < ·) ∧ ∀ t, t ∈ ps ↔ 0 < cnt l t ∧ ∃ e ∈ l.take k, e.thread = t
theorem Pk.nil (l : List Ev) : Pk l 0 [] := ⟨List.Pairwise.nil, fun t => ⟨fun h => (by cases h), fun ⟨_, e, h, _⟩ => by simp at h⟩⟩
theorem Pk.all {l : List Ev} {k : Nat} {ps : List Int} (h : Pk l k ps) (hk : l.length ≤ k) : Pn l ps :=
  ⟨h.1, fun t => by
    rw [h.2, List.take_of_length_le hk]
    exact ⟨fun h => h.1, fun h => ⟨h, cnt_mem h⟩⟩⟩
theorem Pk.skip {l : List Ev} {k : Nat} {ps : List Int} {a : Ev} (h : Pk l k ps) (ha : l[k]? = some a) (hc : cnt l a.thread ≤ 0 ∨ a.thread ∈ ps) : Pk l (k + 1) ps := by
  refine ⟨h.1, fun t => ⟨fun ht => ?_, ?_⟩⟩
  · obtain ⟨h1, e, h2, h3⟩ := (h.2 t).1 ht
    exact ⟨h1, e, by rw [take_one ha]; exact List.mem_append_left _ h2, h3⟩
  · rintro ⟨h1, e, h2, h3⟩
    rw [take_one ha] at h2
    rcases List.mem_append.1 h2 with h2 | h2
    · exact (h.2 t).2 ⟨h1, e, h2, h3⟩
    · simp at h2
      subst h2
      subst h3
      rcases hc with hc | hc
      · omega
      · exact hc
theorem Pk.ins {l : List Ev} {k j : Nat} {ps : List Int} {a : Ev} (h : Pk l k ps) (ha : l[k]? = some a) (hc : 0 < cnt l a.thread) (h1 : ∀ x ∈ ps.take j, x < a.thread) (h2 : ∀ x ∈ ps.drop j, a.thread < x) : Pk l (k + 1) (ps.take j ++ [a.thread] ++ ps.drop j) := by
  refine ⟨?_, fun t => ?_⟩
  · rw [List.append_assoc, List.pairwise_append]
    refine ⟨h.1.sublist (List.take_sublist _ _), ?_, fun x hx y hy => ?_⟩
    · rw [List.singleton_append, List.pairwise_cons]
      exact ⟨h2, h.1.sublist (List.drop_sublist _ _)⟩
    · rw [List.singleton_append] at hy
      rcases List.mem_cons.1 hy with rfl | hy
      · exact h1 x hx
      · have := h1 x hx; have := h2 y hy; omega
  · have hm : t ∈ ps.take j ++ [a.thread] ++ ps.drop j ↔ t ∈ ps ∨ t = a.thread := by
      conv => rhs; lhs; rw [← List.take_append_drop j ps]
      simp only [List.mem_append, List.mem_singleton]
      constructor
      · rintro ((h | h) | h)
        · exact .inl (.inl h)
        · exact .inr h
        · exact .inl (.inr h)
      · rintro ((h | h) | h)
        · exact .inl (.inl h)
        · exact .inr h
        · exact .inl (.inr h)
    rw [hm, h.2, take_one ha]
    constructor
    · rintro (⟨h3, e, h4, h5⟩ | rfl)
      · exact ⟨h3, e, List.mem_append_left _ h4, h5⟩
      · exact ⟨hc, a, by simp, rfl⟩
    · rintro ⟨h3, e, h4, h5⟩
      rcases List.mem_append.1 h4 with h4 | h4
      · exact .inl ⟨h3, e, h4, h5⟩
      · simp at h4
        subst h4
        exact .inr h5.symm
theorem gt_drop {ps : List Int} {j : Nat} {y t : Int} (h : ps.Pairwise (· < ·)) (hy : ps[j]? = some y) (ht : t < y) : ∀ x ∈ ps.drop j, t < x := by
  obtain ⟨hj, rfl⟩ := List.getElem?_eq_some_iff.1 hy
  have h2 := h.sublist (List.drop_sublist j ps)
  rw [List.drop_eq_getElem_cons hj] at h2 ⊢
  obtain ⟨p1, _⟩ := List.pairwise_cons.1 h2
  intro x hx
  rcases List.mem_cons.1 hx with rfl | hx
  · exact ht
  · have := p1 x hx; omega
theorem lt_take {ps : List Int} {j : Nat} {y t : Int} (h : ∀ x ∈ ps.take j, x < t) (hy : ps[j]? = some y) (ht : y < t) : ∀ x ∈ ps.take (j + 1), x < t := by
  intro x hx
  rw [List.take_add_one, hy] at hx
  rcases List.mem_append.1 hx with hx | hx
  · exact h x hx
  · simp at hx
    subst hx
    exact ht

set_option maxRecDepth 100000 in
set_option maxHeartbeats 8000000 in
theorem rpending_any (A : Option Addr) (n c B : Nat) (l : List Ev) (w : World) (h : Rs encE 6 w B A n c l) (hB : B ≤ w.heap.size) (hn : n ≤ 1000) :
    Calls Tryz.prog 20 #[.slice A n c] w fun e w' => ∃ A' n' c' ps, e = .returned (.slice A' n' c') ∧ Rd (Value.int .i64) w' w'.heap.size A' n' c' ps ∧ Pn l ps ∧ Below w.heap.size w w' := by
  obtain ⟨i0, hi, hz0, hz1, hz2⟩ := info_parts info_i
  have HR := Lib.hid h
  have HLEN := Lib.hid h.len
  have HBB := Lib.hid hB
  clear h
  go_enter Tryz.func20, Tryz.ntmps20
  go_wp2_with fail
  go_loopw [3, 10] (fun v i wr => ∃ (k n' c' : Nat) (A' : Option Addr) (ps : List Int), k ≤ n ∧ n' ≤ k ∧ i = .int .i64 k ∧ v = .slice A' n' c' ∧ Hid (Fm9 A' c') ∧ Hid (Rd (Value.int .i64) wr wr.heap.size A' n' c' ps) ∧ Hid (Below w.heap.size w wr) ∧ Hid (Pk l k ps)) (fun _ i _ => n - (intOf i).toNat)
  case atStart => exact ⟨0, 0, 0, none, [], Nat.zero_le _, Nat.le_refl _, rfl, rfl, Lib.hid (.inl ⟨rfl, rfl⟩), Lib.hid Rd.nil_, Lib.hid (Below.refl _ _), Lib.hid (Pk.nil l)⟩
  case round =>
    obtain ⟨k, n', c', A', ps, hk, hnk, rfl, rfl, HFM, HRD, HBR, HPK⟩ := hrel
    by_cases hlt : k < n
    · obtain ⟨b, o, a, rfl, hb, ha, hc0, hc1, hc2, hc3, hc4, hc5⟩ := rs_six HR.out hlt
      have d0 := (HBR.out.cell (p := ⟨b, o + k * 6, none⟩) (by simp only; omega)).trans hc0
      have d1 := (HBR.out.cell (p := ⟨b, o + k * 6 + 1, none⟩) (by simp only; omega)).trans hc1
      have d2 := (HBR.out.cell (p := ⟨b, o + k * 6 + 2, none⟩) (by simp only; omega)).trans hc2
      have d3 := (HBR.out.cell (p := ⟨b, o + k * 6 + 3, none⟩) (by simp only; omega)).trans hc3
      have d4 := (HBR.out.cell (p := ⟨b, o + k * 6 + 4, none⟩) (by simp only; omega)).trans hc4
      have d5 := (HBR.out.cell (p := ⟨b, o + k * 6 + 5, none⟩) (by simp only; omega)).trans hc5
      have hbs := HBR.out.size
      have HA := Lib.hid ha
      have HB2 := Lib.hid (HBR.out.alloc hbs (.cells #[.int .u64 a.step, .int .i64 a.thread, .int .i64 a.kind, .int .i64 a.op, .int .u64 a.id, .int .i64 a.err] 38))
      have HRA := Lib.hid (HR.out.below (HB2.out.mono HBB.out))
      have HX1 := Lib.hid (show (wr.alloc (.cells #[.int .u64 a.step, .int .i64 a.thread, .int .i64 a.kind, .int .i64 a.op, .int .u64 a.id, .int .i64 a.err] 38)).cell? ⟨wr.heap.size, 1, none⟩ = some (.int .i64 a.thread) by go_simp)
      have HRD2 := Lib.hid (HRD.out.later ((Below.refl wr.heap.size wr).alloc (Nat.le_refl _) (.cells #[.int .u64 a.step, .int .i64 a.thread, .int .i64 a.kind, .int .i64 a.op, .int .u64 a.id, .int .i64 a.err] 38)))
      clear ha hc0 hc1 hc2 hc3 hc4 hc5 HBR HRD
      go_wp2_with fail
      have hs1 : (wr.alloc (.cells #[.int .u64 a.step, .int .i64 a.thread, .int .i64 a.kind, .int .i64 a.op, .int .u64 a.id, .int .i64 a.err] 38)).heap.size = wr.heap.size + 1 := by simp
      refine (open_any (some ⟨b, o, none⟩) n c B l a.thread _ HRA.out (by have := HBB.out; simp; omega) hn).mono ?_
      rintro e w3 ⟨rfl, hb3⟩
      rw [hs1] at hb3
      have hx1 : w3.cell? ⟨wr.heap.size, 1, none⟩ = some (.int .i64 a.thread) := (hb3.cell (p := ⟨wr.heap.size, 1, none⟩) (by simp only; omega)).trans HX1.out
      have hrd3 : Rd (Value.int .i64) w3 w3.heap.size A' n' c' ps := HRD2.out.later (by rw [hs1]; exact hb3)
      have hb33 : Below w.heap.size w w3 := HB2.out.trans (hb3.mono (by omega))
      have HRD3 := Lib.hid hrd3
      have HB3 := Lib.hid hb33
      have hsz3 : wr.heap.size < w3.heap.size := by have := hb3.size; omega
      have hsw : w.heap.size ≤ w3.heap.size := by omega
      clear d0 d1 d2 d3 d4 d5 HX1 HRD2 HB2 HRA hb3 hrd3 hb33 hs1
      generalize wr.heap.size = bev at *
      generalize hz : cnt l a.thread = z at *
      have HZ := Lib.hid hz
      clear hz
      by_cases hz0' : z ≤ 0
      · have hzd : decide (z ≤ 0) = true := decide_eq_true hz0'
        go_wp2_with fail
        go_roundw
        case rel => exact ⟨k + 1, n', c', A', ps, by omega, by omega, by go_num, rfl, HFM, HRD3, HB3, Lib.hid (HPK.out.skip HA.out (.inl (by rw [HZ.out]; exact hz0')))⟩
        case measure => simp [intOf]; omega
      · have hzd : decide (z ≤ 0) = false := decide_eq_false hz0'
        have HZP := Lib.hid (show 0 < cnt l a.thread by rw [HZ.out]; omega)
        clear HZ
        go_wp2_with fail
        go_loopw [6] (fun v wr2 => ∃ (j q : Nat), j ≤ n' ∧ v = .int .i64 j ∧ wr2 = w3.drewN q ∧ Hid (∀ x ∈ ps.take j, x < a.thread)) (fun v _ => n' - (intOf v).toNat)
        case atStart => exact ⟨0, 0, Nat.zero_le _, rfl, rfl, Lib.hid (fun x hx => by simp at hx)⟩
        case round =>
          obtain ⟨j, q, hj, rfl, rfl, HALL⟩ := hrel
          have HLP := Lib.hid HRD3.out.len
          by_cases hjn : j < n'
          · obtain ⟨g, og, y, rfl, hg, hy, hcy⟩ := HRD3.out.get hjn
            have HY := Lib.hid hy
            have b0 : decide ((j : Int) < (n' : Int)) = true := decide_eq_true (by omega)
            have b1 : (j : Int) < (n' : Int) := by omega
            have b2 : (0 : Int) ≤ (j : Int) := by omega
            clear hy
            by_cases hyt : y < a.thread
            · have hd1 : decide (y < a.thread) = true := decide_eq_true hyt
              have HN := Lib.hid (lt_take HALL.out HY.out hyt)
              clear HALL
              go_wp2_with fail
              go_quiet (fail)
              go_wp2_with fail
              go_roundw
              case rel => exact ⟨j + 1, _, by omega, by go_num, rfl, HN⟩
              case measure => simp [intOf]; omega
            · have hd1 : decide (y < a.thread) = false := decide_eq_false hyt
              by_cases hey : y = a.thread
              · have hd2 : (y == a.thread) = true := by simpa using hey
                have HMEM := Lib.hid (show a.thread ∈ ps from hey ▸ List.mem_of_getElem? HY.out)
                clear hey
                go_wp2_with fail
                go_quiet (fail)
                go_wp2_with fail
                go_quiet (fail)
                go_wp2_with fail
                go_roundw
                case rel => exact ⟨k + 1, n', c', _, ps, by omega, by omega, by go_num, rfl, HFM, Lib.hid (HRD3.out.drewN _), Lib.hid (below_drewN HB3.out _), Lib.hid (HPK.out.skip HA.out (.inr HMEM.out))⟩
                case measure => simp [intOf]; omega
              · have hd2 : (y == a.thread) = false := by simpa using hey
                have hjc : j < c' := by have := HRD3.out.cap; omega
                have HGT := Lib.hid (gt_drop HPK.out.1 HY.out (show a.thread < y by omega))
                go_wp2_with fail
                go_quiet (fail)
                go_wp2_with fail
                go_quiet (fail)
                go_wp2_with (
                  at_builtin
                  refine append_rd _ rfl _ _ 42 rfl w3.heap.size 3 i0 (.int .i64 0) 8 Tryz.underlying42 hi hz0 hz1 hz2 rfl (.slice none 0 0) 0 [] rfl (World.ownsRow_nil _ _ _ _) _ (some ⟨g, og, none⟩) j c' (ps.take j) rfl ((HRD3.out.drewN _).front (i := j) (by omega)) one_i j (Nat.zero_add _) ((ps.take j).map (Value.int .i64)) rfl (by unfold maxLen; omega) (by omega) (Nat.le_refl _) ?_
                  intro A5 c5 w5 ho5 hg5 ha5
                  refine Hid.out ?_)
                refine Lib.hid ?_
                have hx5 : w5.cell? ⟨bev, 1, none⟩ = some (.int .i64 a.thread) := hg5.cell (show _ = _ from hx1) (by simp [Value.ownBlock])
                have hrd5 : Rd (Value.int .i64) w5 w3.heap.size (some ⟨g, og, none⟩) n' c' ps := (HRD3.out.drewN _).grown hg5 (Nat.le_refl _) (fun g hg => by cases hg)
                have hb5 : Below w.heap.size w w5 := Below.grown (below_drewN HB3.out _) hg5 hsw (fun j hj => by cases hj)
                have hs5 : w3.heap.size ≤ w5.heap.size := hg5.size
                have HO5 := Lib.hid ho5
                have HRD5 := Lib.hid hrd5
                have HB5 := Lib.hid hb5
                clear ho5 hrd5 hb5 hg5 ha5 hx1
                go_wp2_with (
                  at_builtin
                  refine append_rd _ rfl _ _ 42 rfl w3.heap.size 3 i0 (.int .i64 0) 8 Tryz.underlying42 hi hz0 hz1 hz2 rfl (.slice A5 j c5) j _ rfl (HO5.out.alloc _) _ _ 1 1 [a.thread] rfl (rd_one (enc := Value.int .i64) w5 a.thread 3) one_i (j + 1) rfl ((ps.take j ++ [a.thread]).map (Value.int .i64)) List.map_append.symm (by unfold maxLen; omega) (by omega) (by simp; omega) ?_
                  intro A6 c6 w6 ho6 hg6 ha6
                  refine Hid.out ?_)
                refine Lib.hid ?_
                have hrd6 : Rd (Value.int .i64) w6 w3.heap.size (some ⟨g, og, none⟩) n' c' ps := (HRD5.out.alloc hs5 _).grown hg6 (by simp; omega) (fun g hg => (HO5.out.lt g hg).1)
                have hb6 : Below w.heap.size w w6 := (HB5.out.alloc HB5.out.size _).grown hg6 (by have := HB5.out.size; simp; omega) (fun j hj => by have := (HO5.out.lt j hj).1; omega)
                have hs6 : w3.heap.size ≤ w6.heap.size := by have := hg6.size; simp at this; omega
                have HO6 := Lib.hid ho6
                have HRD6 := Lib.hid hrd6
                have HB6 := Lib.hid hb6
                clear ho6 hrd6 hb6 hg6 ha6 HO5 HRD5 HB5 hx5
                have hrdn : Rd (Value.int .i64) w6 w3.heap.size (some ⟨g, og + j, none⟩) (n' - j) (c' - j) (ps.drop j) := (HRD6.out.back (i := j) (A' := some ⟨g, og + j, none⟩) (by omega) rfl (fun _ => rfl))
                have HRDN := Lib.hid hrdn
                clear hrdn
                go_wp2_with (
                  at_builtin
                  refine append_rd _ rfl _ _ 42 rfl w3.heap.size 3 i0 (.int .i64 0) 8 Tryz.underlying42 hi hz0 hz1 hz2 rfl (.slice A6 (j + 1) c6) (j + 1) _ rfl HO6.out _ (some ⟨g, og + j, none⟩) (n' - j) (c' - j) (ps.drop j) rfl HRDN.out one_i (n' + 1) (by omega) ((ps.take j ++ [a.thread] ++ ps.drop j).map (Value.int .i64)) List.map_append.symm (by unfold maxLen; omega) (by omega) hs6 ?_
                  intro A7 c7 w7 ho7 hg7 ha7
                  refine Hid.out ?_)
                refine Lib.hid ?_
                have hb7 : Below w.heap.size w w7 := HB6.out.grown hg7 HB6.out.size (fun j hj => by have := (HO6.out.lt j hj).1; omega)
                have HO7 := Lib.hid ho7
                have HB7 := Lib.hid hb7
                clear ho7 hb7 hg7 ha7 HO6 HRD6 HB6
                go_wp2_with fail
                go_roundw
                case rel => exact ⟨k + 1, n' + 1, c7, A7, _, by omega, by omega, by go_num, rfl, Lib.hid (own_fm9 HO7.out), Lib.hid (Rd.own_rd HO7.out), HB7, Lib.hid (HPK.out.ins HA.out HZP.out HALL.out HGT.out)⟩
                case measure => simp [intOf]; omega
          · obtain rfl : j = n' := by omega
            have b0 : decide ((j : Int) < (j : Int)) = false := decide_eq_false (by omega)
            have HGT := Lib.hid (show ∀ x ∈ ps.drop j, a.thread < x by (intro x hx; rw [List.drop_eq_nil_of_le (by have := HLP.out; omega)] at hx; cases hx))
            rcases HFM.out with ⟨rfl, rfl⟩ | ⟨g, og, rfl⟩
            · obtain rfl : j = 0 := by have := HRD3.out.cap; omega
              go_wp2_with fail
              go_quiet (fail)
              go_wp2_with fail
              go_quiet (fail)
              go_wp2_with (
                at_builtin
                refine append_rd _ rfl _ _ 42 rfl w3.heap.size 3 i0 (.int .i64 0) 8 Tryz.underlying42 hi hz0 hz1 hz2 rfl (.slice none 0 0) 0 [] rfl (World.ownsRow_nil _ _ _ _) _ none 0 0 (ps.take 0) rfl ((HRD3.out.drewN _).front (i := 0) (by omega)) one_i 0 (Nat.zero_add _) ((ps.take 0).map (Value.int .i64)) rfl (by unfold maxLen; omega) (by omega) (Nat.le_refl _) ?_
                intro A5 c5 w5 ho5 hg5 ha5
                refine Hid.out ?_)
              refine Lib.hid ?_
              have hx5 : w5.cell? ⟨bev, 1, none⟩ = some (.int .i64 a.thread) := hg5.cell (show _ = _ from hx1) (by simp [Value.ownBlock])
              have hrd5 : Rd (Value.int .i64) w5 w3.heap.size none 0 0 ps := (HRD3.out.drewN _).grown hg5 (Nat.le_refl _) (fun g hg => by cases hg)
              have hb5 : Below w.heap.size w w5 := Below.grown (below_drewN HB3.out _) hg5 hsw (fun j hj => by cases hj)
              have hs5 : w3.heap.size ≤ w5.heap.size := hg5.size
              have HO5 := Lib.hid ho5
              have HRD5 := Lib.hid hrd5
              have HB5 := Lib.hid hb5
              clear ho5 hrd5 hb5 hg5 ha5 hx1
              go_wp2_with (
                at_builtin
                refine append_rd _ rfl _ _ 42 rfl w3.heap.size 3 i0 (.int .i64 0) 8 Tryz.underlying42 hi hz0 hz1 hz2 rfl (.slice A5 0 c5) 0 _ rfl (HO5.out.alloc _) _ _ 1 1 [a.thread] rfl (rd_one (enc := Value.int .i64) w5 a.thread 3) one_i (0 + 1) rfl ((ps.take 0 ++ [a.thread]).map (Value.int .i64)) List.map_append.symm (by unfold maxLen; omega) (by omega) (by simp; omega) ?_
                intro A6 c6 w6 ho6 hg6 ha6
                refine Hid.out ?_)
              refine Lib.hid ?_
              have hrd6 : Rd (Value.int .i64) w6 w3.heap.size none 0 0 ps := (HRD5.out.alloc hs5 _).grown hg6 (by simp; omega) (fun g hg => (HO5.out.lt g hg).1)
              have hb6 : Below w.heap.size w w6 := (HB5.out.alloc HB5.out.size _).grown hg6 (by have := HB5.out.size; simp; omega) (fun j hj => by have := (HO5.out.lt j hj).1; omega)
              have hs6 : w3.heap.size ≤ w6.heap.size := by have := hg6.size; simp at this; omega
              have HO6 := Lib.hid ho6
              have HRD6 := Lib.hid hrd6
              have HB6 := Lib.hid hb6
              clear ho6 hrd6 hb6 hg6 ha6 HO5 HRD5 HB5 hx5
              have hrdn : Rd (Value.int .i64) w6 w3.heap.size none 0 0 (ps.drop 0) := (by rw [List.drop_eq_nil_of_le (by have := HLP.out; omega)]; exact Rd.empty _ (by have := HRD6.out.cap; have := HRD6.out.top; omega))
              have HRDN := Lib.hid hrdn
              clear hrdn
              go_wp2_with (
                at_builtin
                refine append_rd _ rfl _ _ 42 rfl w3.heap.size 3 i0 (.int .i64 0) 8 Tryz.underlying42 hi hz0 hz1 hz2 rfl (.slice A6 (0 + 1) c6) (0 + 1) _ rfl HO6.out _ none 0 0 (ps.drop 0) rfl HRDN.out one_i (0 + 1) (by omega) ((ps.take 0 ++ [a.thread] ++ ps.drop 0).map (Value.int .i64)) List.map_append.symm (by unfold maxLen; omega) (by omega) hs6 ?_
                intro A7 c7 w7 ho7 hg7 ha7
                refine Hid.out ?_)
              refine Lib.hid ?_
              have hb7 : Below w.heap.size w w7 := HB6.out.grown hg7 HB6.out.size (fun j hj => by have := (HO6.out.lt j hj).1; omega)
              have HO7 := Lib.hid ho7
              have HB7 := Lib.hid hb7
              clear ho7 hb7 hg7 ha7 HO6 HRD6 HB6
              go_wp2_with fail
              go_roundw
              case rel => exact ⟨k + 1, 0 + 1, c7, A7, _, by omega, by omega, by go_num, rfl, Lib.hid (own_fm9 HO7.out), Lib.hid (Rd.own_rd HO7.out), HB7, Lib.hid (HPK.out.ins HA.out HZP.out HALL.out HGT.out)⟩
              case measure => simp [intOf]; omega
            · by_cases hcc : c' = j
              · subst hcc
                go_wp2_with fail
                go_quiet (fail)
                go_wp2_with fail
                go_quiet (fail)
                go_wp2_with (
                  at_builtin
                  refine append_rd _ rfl _ _ 42 rfl w3.heap.size 3 i0 (.int .i64 0) 8 Tryz.underlying42 hi hz0 hz1 hz2 rfl (.slice none 0 0) 0 [] rfl (World.ownsRow_nil _ _ _ _) _ (some ⟨g, og, none⟩) c' c' (ps.take c') rfl ((HRD3.out.drewN _).front (i := c') (by omega)) one_i c' (Nat.zero_add _) ((ps.take c').map (Value.int .i64)) rfl (by unfold maxLen; omega) (by omega) (Nat.le_refl _) ?_
                  intro A5 c5 w5 ho5 hg5 ha5
                  refine Hid.out ?_)
                refine Lib.hid ?_
                have hx5 : w5.cell? ⟨bev, 1, none⟩ = some (.int .i64 a.thread) := hg5.cell (show _ = _ from hx1) (by simp [Value.ownBlock])
                have hrd5 : Rd (Value.int .i64) w5 w3.heap.size (some ⟨g, og, none⟩) c' c' ps := (HRD3.out.drewN _).grown hg5 (Nat.le_refl _) (fun g hg => by cases hg)
                have hb5 : Below w.heap.size w w5 := Below.grown (below_drewN HB3.out _) hg5 hsw (fun j hj => by cases hj)
                have hs5 : w3.heap.size ≤ w5.heap.size := hg5.size
                have HO5 := Lib.hid ho5
                have HRD5 := Lib.hid hrd5
                have HB5 := Lib.hid hb5
                clear ho5 hrd5 hb5 hg5 ha5 hx1
                go_wp2_with (
                  at_builtin
                  refine append_rd _ rfl _ _ 42 rfl w3.heap.size 3 i0 (.int .i64 0) 8 Tryz.underlying42 hi hz0 hz1 hz2 rfl (.slice A5 c' c5) c' _ rfl (HO5.out.alloc _) _ _ 1 1 [a.thread] rfl (rd_one (enc := Value.int .i64) w5 a.thread 3) one_i (c' + 1) rfl ((ps.take c' ++ [a.thread]).map (Value.int .i64)) List.map_append.symm (by unfold maxLen; omega) (by omega) (by simp; omega) ?_
                  intro A6 c6 w6 ho6 hg6 ha6
                  refine Hid.out ?_)
                refine Lib.hid ?_
                have hrd6 : Rd (Value.int .i64) w6 w3.heap.size (some ⟨g, og, none⟩) c' c' ps := (HRD5.out.alloc hs5 _).grown hg6 (by simp; omega) (fun g hg => (HO5.out.lt g hg).1)
                have hb6 : Below w.heap.size w w6 := (HB5.out.alloc HB5.out.size _).grown hg6 (by have := HB5.out.size; simp; omega) (fun j hj => by have := (HO5.out.lt j hj).1; omega)
                have hs6 : w3.heap.size ≤ w6.heap.size := by have := hg6.size; simp at this; omega
                have HO6 := Lib.hid ho6
                have HRD6 := Lib.hid hrd6
                have HB6 := Lib.hid hb6
                clear ho6 hrd6 hb6 hg6 ha6 HO5 HRD5 HB5 hx5
                have hrdn : Rd (Value.int .i64) w6 w3.heap.size (some ⟨g, og, none⟩) 0 0 (ps.drop c') := (by rw [List.drop_eq_nil_of_le (by have := HLP.out; omega)]; exact Rd.empty _ (by have := HRD6.out.cap; have := HRD6.out.top; omega))
                have HRDN := Lib.hid hrdn
                clear hrdn
                go_wp2_with (
                  at_builtin
                  refine append_rd _ rfl _ _ 42 rfl w3.heap.size 3 i0 (.int .i64 0) 8 Tryz.underlying42 hi hz0 hz1 hz2 rfl (.slice A6 (c' + 1) c6) (c' + 1) _ rfl HO6.out _ (some ⟨g, og, none⟩) 0 0 (ps.drop c') rfl HRDN.out one_i (c' + 1) (by omega) ((ps.take c' ++ [a.thread] ++ ps.drop c').map (Value.int .i64)) List.map_append.symm (by unfold maxLen; omega) (by omega) hs6 ?_
                  intro A7 c7 w7 ho7 hg7 ha7
                  refine Hid.out ?_)
                refine Lib.hid ?_
                have hb7 : Below w.heap.size w w7 := HB6.out.grown hg7 HB6.out.size (fun j hj => by have := (HO6.out.lt j hj).1; omega)
                have HO7 := Lib.hid ho7
                have HB7 := Lib.hid hb7
                clear ho7 hb7 hg7 ha7 HO6 HRD6 HB6
                go_wp2_with fail
                go_roundw
                case rel => exact ⟨k + 1, c' + 1, c7, A7, _, by omega, by omega, by go_num, rfl, Lib.hid (own_fm9 HO7.out), Lib.hid (Rd.own_rd HO7.out), HB7, Lib.hid (HPK.out.ins HA.out HZP.out HALL.out HGT.out)⟩
                case measure => simp [intOf]; omega
              · have hjc : j < c' := by have := HRD3.out.cap; omega
                go_wp2_with fail
                go_quiet (fail)
                go_wp2_with fail
                go_quiet (fail)
                go_wp2_with (
                  at_builtin
                  refine append_rd _ rfl _ _ 42 rfl w3.heap.size 3 i0 (.int .i64 0) 8 Tryz.underlying42 hi hz0 hz1 hz2 rfl (.slice none 0 0) 0 [] rfl (World.ownsRow_nil _ _ _ _) _ (some ⟨g, og, none⟩) j c' (ps.take j) rfl ((HRD3.out.drewN _).front (i := j) (by omega)) one_i j (Nat.zero_add _) ((ps.take j).map (Value.int .i64)) rfl (by unfold maxLen; omega) (by omega) (Nat.le_refl _) ?_
                  intro A5 c5 w5 ho5 hg5 ha5
                  refine Hid.out ?_)
                refine Lib.hid ?_
                have hx5 : w5.cell? ⟨bev, 1, none⟩ = some (.int .i64 a.thread) := hg5.cell (show _ = _ from hx1) (by simp [Value.ownBlock])
                have hrd5 : Rd (Value.int .i64) w5 w3.heap.size (some ⟨g, og, none⟩) j c' ps := (HRD3.out.drewN _).grown hg5 (Nat.le_refl _) (fun g hg => by cases hg)
                have hb5 : Below w.heap.size w w5 := Below.grown (below_drewN HB3.out _) hg5 hsw (fun j hj => by cases hj)
                have hs5 : w3.heap.size ≤ w5.heap.size := hg5.size
                have HO5 := Lib.hid ho5
                have HRD5 := Lib.hid hrd5
                have HB5 := Lib.hid hb5
                clear ho5 hrd5 hb5 hg5 ha5 hx1
                go_wp2_with (
                  at_builtin
                  refine append_rd _ rfl _ _ 42 rfl w3.heap.size 3 i0 (.int .i64 0) 8 Tryz.underlying42 hi hz0 hz1 hz2 rfl (.slice A5 j c5) j _ rfl (HO5.out.alloc _) _ _ 1 1 [a.thread] rfl (rd_one (enc := Value.int .i64) w5 a.thread 3) one_i (j + 1) rfl ((ps.take j ++ [a.thread]).map (Value.int .i64)) List.map_append.symm (by unfold maxLen; omega) (by omega) (by simp; omega) ?_
                  intro A6 c6 w6 ho6 hg6 ha6
                  refine Hid.out ?_)
                refine Lib.hid ?_
                have hrd6 : Rd (Value.int .i64) w6 w3.heap.size (some ⟨g, og, none⟩) j c' ps := (HRD5.out.alloc hs5 _).grown hg6 (by simp; omega) (fun g hg => (HO5.out.lt g hg).1)
                have hb6 : Below w.heap.size w w6 := (HB5.out.alloc HB5.out.size _).grown hg6 (by have := HB5.out.size; simp; omega) (fun j hj => by have := (HO5.out.lt j hj).1; omega)
                have hs6 : w3.heap.size ≤ w6.heap.size := by have := hg6.size; simp at this; omega
                have HO6 := Lib.hid ho6
                have HRD6 := Lib.hid hrd6
                have HB6 := Lib.hid hb6
                clear ho6 hrd6 hb6 hg6 ha6 HO5 HRD5 HB5 hx5
                have hrdn : Rd (Value.int .i64) w6 w3.heap.size (some ⟨g, og + j, none⟩) 0 (c' - j) (ps.drop j) := (by rw [List.drop_eq_nil_of_le (by have := HLP.out; omega)]; exact Rd.empty _ (by have := HRD6.out.cap; have := HRD6.out.top; omega))
                have HRDN := Lib.hid hrdn
                clear hrdn
                go_wp2_with (
                  at_builtin
                  refine append_rd _ rfl _ _ 42 rfl w3.heap.size 3 i0 (.int .i64 0) 8 Tryz.underlying42 hi hz0 hz1 hz2 rfl (.slice A6 (j + 1) c6) (j + 1) _ rfl HO6.out _ (some ⟨g, og + j, none⟩) 0 (c' - j) (ps.drop j) rfl HRDN.out one_i (j + 1) (by omega) ((ps.take j ++ [a.thread] ++ ps.drop j).map (Value.int .i64)) List.map_append.symm (by unfold maxLen; omega) (by omega) hs6 ?_
                  intro A7 c7 w7 ho7 hg7 ha7
                  refine Hid.out ?_)
                refine Lib.hid ?_
                have hb7 : Below w.heap.size w w7 := HB6.out.grown hg7 HB6.out.size (fun j hj => by have := (HO6.out.lt j hj).1; omega)
                have HO7 := Lib.hid ho7
                have HB7 := Lib.hid hb7
                clear ho7 hb7 hg7 ha7 HO6 HRD6 HB6
                go_wp2_with fail
                go_roundw
                case rel => exact ⟨k + 1, j + 1, c7, A7, _, by omega, by omega, by go_num, rfl, Lib.hid (own_fm9 HO7.out), Lib.hid (Rd.own_rd HO7.out), HB7, Lib.hid (HPK.out.ins HA.out HZP.out HALL.out HGT.out)⟩
                case measure => simp [intOf]; omega
    · obtain rfl : k = n := by omega
      have hpn := HPK.out.all (by have := HLEN.out; omega)
      have HPN := Lib.hid hpn
      clear hpn HPK
      go_wp2_with fail
      go_ret
      exact ⟨A', n', c', ps, rfl, HRD.out, HPN.out, HBR.out⟩
end Go.Proofs.YtmnjdmcocifogaaGreatDoor.Hi
