/- The document's book (layer 14): what only looks. -/
import Derived.Test.YtbdcdofjcljliaaGreatDoorLeaseMath
import Derived.Test.YtbdcdofjcljliaaGreatDoorBase5
namespace Go.Proofs.YtbdcdofjcljliaaGreatDoor.Le
open Go.ChangeShapes Go.WideShapes Go.ChangeAt Go.RowKit Go.Maps Rw Hi Mt
set_option linter.unusedVariables false

/-- A lease as the document has it. -/
def enc4 (a : Int × Ls) : List Value := [.int .u64 a.1, .int .i64 a.2.thread, .int .u64 a.2.since, .bool a.2.flag]
theorem enc4_len (a : Int × Ls) : (enc4 a).length = 4 := rfl
theorem enc4_one (y : Int × Ls) : ∀ u ∈ enc4 y, u.oneCell' = true := by intro u hu; simp [enc4] at hu; rcases hu with rfl | rfl | rfl | rfl <;> rfl
theorem info_lease : (Tryz.prog.info? 69).map (fun i => (i.zero, i.size, i.bytes)) = some (some (.agg #[.int .u64 0, .int .i64 0, .int .u64 0, .bool false]), 4, 32) := by kernel_rfl
abbrev Rl (w : World) (B : Nat) (A : Option Addr) (n c : Nat) (l : List (Int × Ls)) : Prop := Rs enc4 4 w B A n c l
theorem four_at {w : World} {B : Nat} {A : Option Addr} {n c : Nat} {l : List (Int × Ls)} (h : Rl w B A n c l) {k : Nat} (hk : k < n) :
    ∃ b o x t s f, A = some ⟨b, o, none⟩ ∧ b < B ∧ l[k]? = some (x, ⟨t, s, f⟩) ∧ w.cell? ⟨b, o + k * 4, none⟩ = some (.int .u64 x) ∧ w.cell? ⟨b, o + k * 4 + 1, none⟩ = some (.int .i64 t) ∧ w.cell? ⟨b, o + k * 4 + 2, none⟩ = some (.int .u64 s) ∧ w.cell? ⟨b, o + k * 4 + 3, none⟩ = some (.bool f) := by
  obtain ⟨b, o, ⟨x, t, s, f⟩, hA, hb, hx, hc⟩ := h.get hk
  exact ⟨b, o, x, t, s, f, hA, hb, hx, hc 0 _ (by omega) rfl, hc 1 _ (by omega) rfl, hc 2 _ (by omega) rfl, hc 3 _ (by omega) rfl⟩
/-- Where an id stands. -/
def fx (D : List (Int × Ls)) (id : Int) : Int := match D.findIdx? (fun a => a.1 == id) with
  | some i => (i : Int)
  | none => -1
theorem fx_hit {D : List (Int × Ls)} {id : Int} {k : Nat} {y : Ls} (h : ∀ a ∈ D.take k, a.1 ≠ id) (hk : D[k]? = some (id, y)) : fx D id = k := by
  have : D.findIdx? (fun a => a.1 == id) = some k := by
    obtain ⟨hl, e⟩ := List.getElem?_eq_some_iff.1 hk
    rw [List.findIdx?_eq_some_iff_getElem]
    refine ⟨hl, by rw [e]; simp, fun j hj => ?_⟩
    have := h D[j] (List.mem_take_iff_getElem.2 ⟨j, by omega, rfl⟩)
    simpa using this
  unfold fx; rw [this]
theorem fx_miss {D : List (Int × Ls)} {id : Int} (h : ∀ a ∈ D, a.1 ≠ id) : fx D id = -1 := by
  have : D.findIdx? (fun a => a.1 == id) = none := by
    rw [List.findIdx?_eq_none_iff]
    intro a ha
    simpa using h a ha
  unfold fx; rw [this]
theorem take_ne {D : List (Int × Ls)} {id : Int} {k : Nat} {a : Int × Ls} (h : ∀ a ∈ D.take k, a.1 ≠ id) (hk : D[k]? = some a) (hne : a.1 ≠ id) : ∀ a ∈ D.take (k + 1), a.1 ≠ id := by
  obtain ⟨hl, rfl⟩ := List.getElem?_eq_some_iff.1 hk
  intro b hb
  rw [List.take_succ_eq_append_getElem hl] at hb
  rcases List.mem_append.1 hb with hb | hb
  · exact h b hb
  · rw [List.mem_singleton.1 hb]; exact hne
theorem fx_cases (D : List (Int × Ls)) (id : Int) : (fnd D id = none ∧ fx D id = -1) ∨ ∃ (k : Nat) (y : Ls), D[k]? = some (id, y) ∧ (∀ a ∈ D.take k, a.1 ≠ id) ∧ fx D id = k ∧ fnd D id = some y := by
  by_cases h : ∀ a ∈ D, a.1 ≠ id
  · refine .inl ⟨?_, fx_miss h⟩
    refine fnd_none fun hm => ?_
    obtain ⟨a, ha, e⟩ := List.mem_map.1 hm
    exact h a ha e
  · cases hf : D.findIdx? (fun a => a.1 == id) with
    | none =>
      rw [List.findIdx?_eq_none_iff] at hf
      exact absurd (fun a ha => by simpa using hf a ha) h
    | some k =>
      rw [List.findIdx?_eq_some_iff_getElem] at hf
      obtain ⟨hl, h1, h2⟩ := hf
      refine .inr ⟨k, D[k].2, ?_, fun a ha => ?_, ?_, ?_⟩
      · rw [List.getElem?_eq_getElem hl]
        have : D[k].1 = id := by simpa using h1
        rw [← this]
      · obtain ⟨j, hj, rfl⟩ := List.mem_take_iff_getElem.1 ha
        have := h2 j (by omega)
        simpa using this
      · unfold fx
        rw [List.findIdx?_eq_some_iff_getElem.2 ⟨hl, h1, h2⟩]
      · unfold fnd
        have hp : D.find? (fun a => a.1 == id) = some D[k] := List.find?_eq_some_iff_getElem.2 ⟨h1, k, hl, rfl, fun j hj => by simpa using h2 j hj⟩
        rw [hp]; rfl
section
variable (leak : Int) (A A2 A3 : Option Addr) (n c n2 c2 n3 c3 B : Nat) (D : List (Int × Ls)) (w : World)
set_option maxRecDepth 100000 in
set_option maxHeartbeats 2000000 in
theorem rfind_any (id : Int) (h : Rl w B A n c D) (hB : B ≤ w.heap.size) (hn : n ≤ 100000) :
    Calls Tryz.prog 32 #[.agg #[.int .u64 leak, .slice A n c, .slice A2 n2 c2, .slice A3 n3 c3], .int .u64 id] w fun e w' => e = .returned (.int .i64 (fx D id)) ∧ Below w.heap.size w w' := by
  have HR := Lib.hid h
  have HLEN := Lib.hid h.len
  have b0 := Lib.hid ((Below.refl w.heap.size w).alloc (Nat.le_refl _) (.cells #[.int .u64 leak, .slice A n c, .slice A2 n2 c2, .slice A3 n3 c3] 31))
  clear h
  go_enter Tryz.func32, Tryz.ntmps32
  go_wp2_with fail
  go_loopw [5, 6, 10] (fun s5 s6 i wr => ∃ k : Nat, k ≤ n ∧ i = .int .i64 k ∧ Hid (∀ a ∈ D.take k, a.1 ≠ id) ∧ Below w.heap.size w wr) (fun _ _ i _ => n - (intOf i).toNat)
  case atStart => exact ⟨0, Nat.zero_le _, rfl, Lib.hid (fun a ha => by simp at ha), b0.out⟩
  case round =>
    obtain ⟨k, hk, rfl, hno, hbr⟩ := hrel
    by_cases hlt : k < n
    · obtain ⟨b, o, x, t, s, f, rfl, hb, ha, c0, c1, c2, c3⟩ := four_at HR.out hlt
      have d0 := (hbr.cell (p := ⟨b, o + k * 4, none⟩) (by simp only; omega)).trans c0
      have d1 := (hbr.cell (p := ⟨b, o + k * 4 + 1, none⟩) (by simp only; omega)).trans c1
      have d2 := (hbr.cell (p := ⟨b, o + k * 4 + 2, none⟩) (by simp only; omega)).trans c2
      have d3 := (hbr.cell (p := ⟨b, o + k * 4 + 3, none⟩) (by simp only; omega)).trans c3
      have HAA := Lib.hid ha
      have hbs := hbr.size
      have HB2 := Lib.hid (hbr.alloc hbs (.cells #[.int .u64 x, .int .i64 t, .int .u64 s, .bool f] 69))
      clear c0 c1 c2 c3 ha hbr
      by_cases hx : x = id
      · subst hx
        have HF := Lib.hid (fx_hit hno.out HAA.out)
        go_wp2_with fail
        go_ret
        exact ⟨by rw [HF.out]; rfl, HB2.out⟩
      · have e1 : (x == id) = false := by simpa using hx
        have HN2 := Lib.hid (take_ne hno.out HAA.out hx)
        clear hx
        go_wp2_with fail
        go_roundw
        case rel => exact ⟨k + 1, by omega, by go_num, HN2, HB2.out⟩
        case measure => simp [intOf]; omega
    · have HF : Hid (fx D id = -1) := Lib.hid (fx_miss (by
        have h9 := hno.out
        rw [List.take_of_length_le (by have := HLEN.out; omega)] at h9
        exact h9))
      go_wp2_with fail
      go_ret
      exact ⟨by rw [HF.out]; rfl, hbr⟩
set_option maxRecDepth 100000 in
theorem rmarked_any (id : Int) (M : List Int) (h : Rd (Value.int .u64) w B A2 n2 c2 M) (hB : B ≤ w.heap.size) (hn : n2 ≤ 100000) :
    Calls Tryz.prog 39 #[.agg #[.int .u64 leak, .slice A n c, .slice A2 n2 c2, .slice A3 n3 c3], .int .u64 id] w fun e w' => e = .returned (.bool (decide (id ∈ M))) ∧ Below w.heap.size w w' := by
  have HR := Lib.hid h
  have HLEN := Lib.hid h.len
  have b0 := Lib.hid ((Below.refl w.heap.size w).alloc (Nat.le_refl _) (.cells #[.int .u64 leak, .slice A n c, .slice A2 n2 c2, .slice A3 n3 c3] 31))
  clear h
  go_enter Tryz.func39, Tryz.ntmps39
  go_wp2_with fail
  go_loopw [6, 10] (fun s5 i wr => ∃ k : Nat, k ≤ n2 ∧ i = .int .i64 k ∧ Hid (id ∉ M.take k) ∧ Below w.heap.size w wr) (fun _ i _ => n2 - (intOf i).toNat)
  case atStart => exact ⟨0, Nat.zero_le _, rfl, Lib.hid (by simp), b0.out⟩
  case round =>
    obtain ⟨k, hk, rfl, hno, hbr⟩ := hrel
    by_cases hlt : k < n2
    · obtain ⟨b, o, y, rfl, hb, hy, hcy⟩ := HR.out.get hlt
      have d0 := (hbr.cell (p := ⟨b, o + k, none⟩) (by simp only; omega)).trans hcy
      have HY := Lib.hid hy
      clear hcy hy
      by_cases hx : y = id
      · subst hx
        have HF : Hid (decide (y ∈ M) = true) := Lib.hid (decide_eq_true (List.mem_of_getElem? HY.out))
        go_wp2_with fail
        go_ret
        exact ⟨by rw [HF.out]; rfl, hbr⟩
      · have e1 : (y == id) = false := by simpa using hx
        have HN2 : Hid (id ∉ M.take (k + 1)) := Lib.hid (by
          obtain ⟨hl, e⟩ := List.getElem?_eq_some_iff.1 HY.out
          rw [List.take_succ_eq_append_getElem hl, List.mem_append, e]
          rintro (h9 | h9)
          · exact hno.out h9
          · exact hx (List.mem_singleton.1 h9).symm)
        clear hx
        go_wp2_with fail
        go_roundw
        case rel => exact ⟨k + 1, by omega, by go_num, HN2, hbr⟩
        case measure => simp [intOf]; omega
    · have HF : Hid (decide (id ∈ M) = false) := Lib.hid (decide_eq_false (by
        have h9 := hno.out
        rw [List.take_of_length_le (by have := HLEN.out; omega)] at h9
        exact h9))
      go_wp2_with fail
      go_ret
      exact ⟨by rw [HF.out]; rfl, hbr⟩

theorem info_u64' : (Tryz.prog.info? 22).map (fun i => (i.zero, i.size, i.bytes)) = some (some (.int .u64 0), 1, 8) := by kernel_rfl

set_option maxRecDepth 100000 in
set_option maxHeartbeats 4000000 in
theorem rheld_any (th : Int) (h : Rl w B A n c D) (hB : B ≤ w.heap.size) (hn : n ≤ 100000) :
    Calls Tryz.prog 37 #[.agg #[.int .u64 leak, .slice A n c, .slice A2 n2 c2, .slice A3 n3 c3], .int .i64 th] w fun e w' => ∃ A' c', e = .returned (.slice A' (D.filter (fun a => a.2.thread == th)).length c') ∧
      w'.ownsRow w.heap.size 22 1 (.slice A' (D.filter (fun a => a.2.thread == th)).length c') (D.filter (fun a => a.2.thread == th)).length (((D.filter (fun a => a.2.thread == th)).map Prod.fst).map (Value.int .u64)) ∧ Below w.heap.size w w' := by
  obtain ⟨i0, hi, hz0, hz1, hz2⟩ := info_parts info_u64'
  have HR := Lib.hid h
  have HLEN := Lib.hid h.len
  have b0 := Lib.hid ((Below.refl w.heap.size w).alloc (Nat.le_refl _) (.cells #[.int .u64 leak, .slice A n c, .slice A2 n2 c2, .slice A3 n3 c3] 31))
  clear h
  go_enter Tryz.func37, Tryz.ntmps37
  go_wp2_with fail
  go_loopw [5, 7, 11] (fun v x9 i wr => ∃ (k q c' : Nat) (A' : Option Addr), k ≤ n ∧ i = .int .i64 k ∧ v = .slice A' q c' ∧ q ≤ k ∧ Hid (q = ((D.take k).filter (fun a => a.2.thread == th)).length) ∧
      Hid (wr.ownsRow w.heap.size 22 1 (.slice A' q c') q ((((D.take k).filter (fun a => a.2.thread == th)).map Prod.fst).map (Value.int .u64))) ∧ Below w.heap.size w wr) (fun _ x9 i _ => n - (intOf i).toNat)
  case atStart => exact ⟨0, 0, 0, none, Nat.zero_le _, rfl, rfl, Nat.zero_le _, rfl, World.ownsRow_nil _ _ _ _, b0.out⟩
  case round =>
    obtain ⟨k, q, c', A', hk, rfl, rfl, hqk, HQL, HROW, hbr⟩ := hrel
    by_cases hlt : k < n
    · obtain ⟨b, o, x, t, s, f, rfl, hb, ha, c0, c1, c2, c3⟩ := four_at HR.out hlt
      have d0 := (hbr.cell (p := ⟨b, o + k * 4, none⟩) (by simp only; omega)).trans c0
      have d1 := (hbr.cell (p := ⟨b, o + k * 4 + 1, none⟩) (by simp only; omega)).trans c1
      have d2 := (hbr.cell (p := ⟨b, o + k * 4 + 2, none⟩) (by simp only; omega)).trans c2
      have d3 := (hbr.cell (p := ⟨b, o + k * 4 + 3, none⟩) (by simp only; omega)).trans c3
      have HAA : Hid (D.take (k + 1) = D.take k ++ [(x, ⟨t, s, f⟩)]) := Lib.hid (by
        obtain ⟨hl, e⟩ := List.getElem?_eq_some_iff.1 ha
        rw [List.take_succ_eq_append_getElem hl, e])
      have hbs := hbr.size
      have HB2 := Lib.hid (hbr.alloc hbs (.cells #[.int .u64 x, .int .i64 t, .int .u64 s, .bool f] 69))
      clear c0 c1 c2 c3 ha hbr
      by_cases hP : (t == th) = true
      · have EW : Hid ((D.take (k + 1)).filter (fun a => a.2.thread == th) = (D.take k).filter (fun a => a.2.thread == th) ++ [(x, ⟨t, s, f⟩)]) := Lib.hid (by rw [HAA.out, List.filter_append]; simp [hP])
        have e1 : (t == th) = true := hP
        have hrd : Rd (Value.int .u64) ((wr.alloc (.cells #[.int .u64 x, .int .i64 t, .int .u64 s, .bool f] 69)).alloc (.cells #[.int .u64 x] 22)) (wr.heap.size + 1 + 1) (some ⟨wr.heap.size + 1, 0, none⟩) 1 1 [x] := by
          have := rd_one (enc := Value.int .u64) (wr.alloc (.cells #[.int .u64 x, .int .i64 t, .int .u64 s, .bool f] 69)) x 22
          simpa using this
        have HRD := Lib.hid hrd
        have HROW2 := Lib.hid ((HROW.out.alloc (.cells #[.int .u64 x, .int .i64 t, .int .u64 s, .bool f] 69)).alloc (.cells #[.int .u64 x] 22))
        have HB3 := Lib.hid (HB2.out.alloc (by simp; omega) (.cells #[.int .u64 x] 22))
        have HMP : Hid ((((D.take k).filter (fun a => a.2.thread == th)).map Prod.fst).map (Value.int .u64) ++ [x].map (Value.int .u64) = (((D.take (k + 1)).filter (fun a => a.2.thread == th)).map Prod.fst).map (Value.int .u64)) := Lib.hid (by rw [EW.out]; simp)
        clear hrd hP
        go_wp2_with (
          at_builtin
          refine append_rd _ rfl _ _ 28 rfl w.heap.size 22 i0 (.int .u64 0) 8 Tryz.underlying28 hi hz0 hz1 hz2 rfl _ q _ rfl HROW2.out _ _ 1 1 [x] rfl HRD.out (fun _ => rfl) (q + 1) rfl _ HMP.out (by unfold maxLen; omega) (by omega) (by simp; omega) ?_
          intro A4 c4 w4 hrow4 hg4 hat4
          have HROW4 := Lib.hid hrow4
          have HB4 := Lib.hid (HB3.out.grown hg4 (by simp; omega) (fun j hj => (HROW2.out.lt j hj).1))
          clear hrow4 hg4 hat4)
        go_roundw
        case rel => exact ⟨k + 1, q + 1, c4, A4, by omega, by go_num, rfl, by omega, Lib.hid (by rw [EW.out, List.length_append, ← HQL.out]; rfl), HROW4, HB4.out⟩
        case measure => simp [intOf]; omega
      · have EW : Hid ((D.take (k + 1)).filter (fun a => a.2.thread == th) = (D.take k).filter (fun a => a.2.thread == th)) := Lib.hid (by rw [HAA.out, List.filter_append]; simp [hP])
        have e1 : (t == th) = false := by simpa using hP
        have HROW2 := Lib.hid (HROW.out.alloc (.cells #[.int .u64 x, .int .i64 t, .int .u64 s, .bool f] 69))
        clear hP
        go_wp2_with fail
        go_roundw
        case rel => exact ⟨k + 1, q, c', A', by omega, by go_num, rfl, by omega, Lib.hid (by rw [EW.out]; exact HQL.out), Lib.hid (by rw [EW.out]; exact HROW2.out), HB2.out⟩
        case measure => simp [intOf]; omega
    · have ht : D.take k = D := List.take_of_length_le (by have := HLEN.out; omega)
      have hrow := HROW.out
      have hql := HQL.out
      rw [ht] at hrow hql
      subst hql
      have HROW2 := Lib.hid hrow
      clear hrow HROW HQL ht
      go_wp2_with fail
      go_ret
      exact ⟨A', c', rfl, HROW2.out, hbr⟩

set_option maxRecDepth 100000 in
set_option maxHeartbeats 4000000 in
theorem rflagged_any (h : Rl w B A n c D) (hB : B ≤ w.heap.size) (hn : n ≤ 100000) :
    Calls Tryz.prog 41 #[.agg #[.int .u64 leak, .slice A n c, .slice A2 n2 c2, .slice A3 n3 c3]] w fun e w' => ∃ A' c', e = .returned (.slice A' (D.filter (fun a => a.2.flag)).length c') ∧
      w'.ownsRow w.heap.size 22 1 (.slice A' (D.filter (fun a => a.2.flag)).length c') (D.filter (fun a => a.2.flag)).length (((D.filter (fun a => a.2.flag)).map Prod.fst).map (Value.int .u64)) ∧ Below w.heap.size w w' := by
  obtain ⟨i0, hi, hz0, hz1, hz2⟩ := info_parts info_u64'
  have HR := Lib.hid h
  have HLEN := Lib.hid h.len
  have b0 := Lib.hid ((Below.refl w.heap.size w).alloc (Nat.le_refl _) (.cells #[.int .u64 leak, .slice A n c, .slice A2 n2 c2, .slice A3 n3 c3] 31))
  clear h
  go_enter Tryz.func41, Tryz.ntmps41
  go_wp2_with fail
  go_loopw [3, 5, 9] (fun v x9 i wr => ∃ (k q c' : Nat) (A' : Option Addr), k ≤ n ∧ i = .int .i64 k ∧ v = .slice A' q c' ∧ q ≤ k ∧ Hid (q = ((D.take k).filter (fun a => a.2.flag)).length) ∧
      Hid (wr.ownsRow w.heap.size 22 1 (.slice A' q c') q ((((D.take k).filter (fun a => a.2.flag)).map Prod.fst).map (Value.int .u64))) ∧ Below w.heap.size w wr) (fun _ x9 i _ => n - (intOf i).toNat)
  case atStart => exact ⟨0, 0, 0, none, Nat.zero_le _, rfl, rfl, Nat.zero_le _, rfl, World.ownsRow_nil _ _ _ _, b0.out⟩
  case round =>
    obtain ⟨k, q, c', A', hk, rfl, rfl, hqk, HQL, HROW, hbr⟩ := hrel
    by_cases hlt : k < n
    · obtain ⟨b, o, x, t, s, f, rfl, hb, ha, c0, c1, c2, c3⟩ := four_at HR.out hlt
      have d0 := (hbr.cell (p := ⟨b, o + k * 4, none⟩) (by simp only; omega)).trans c0
      have d1 := (hbr.cell (p := ⟨b, o + k * 4 + 1, none⟩) (by simp only; omega)).trans c1
      have d2 := (hbr.cell (p := ⟨b, o + k * 4 + 2, none⟩) (by simp only; omega)).trans c2
      have d3 := (hbr.cell (p := ⟨b, o + k * 4 + 3, none⟩) (by simp only; omega)).trans c3
      have HAA : Hid (D.take (k + 1) = D.take k ++ [(x, ⟨t, s, f⟩)]) := Lib.hid (by
        obtain ⟨hl, e⟩ := List.getElem?_eq_some_iff.1 ha
        rw [List.take_succ_eq_append_getElem hl, e])
      have hbs := hbr.size
      have HB2 := Lib.hid (hbr.alloc hbs (.cells #[.int .u64 x, .int .i64 t, .int .u64 s, .bool f] 69))
      clear c0 c1 c2 c3 ha hbr
      by_cases hP : f = true
      · have EW : Hid ((D.take (k + 1)).filter (fun a => a.2.flag) = (D.take k).filter (fun a => a.2.flag) ++ [(x, ⟨t, s, f⟩)]) := Lib.hid (by rw [HAA.out, List.filter_append]; simp [hP])
        have e1 : f = true := hP
        subst e1
        have hrd : Rd (Value.int .u64) ((wr.alloc (.cells #[.int .u64 x, .int .i64 t, .int .u64 s, .bool true] 69)).alloc (.cells #[.int .u64 x] 22)) (wr.heap.size + 1 + 1) (some ⟨wr.heap.size + 1, 0, none⟩) 1 1 [x] := by
          have := rd_one (enc := Value.int .u64) (wr.alloc (.cells #[.int .u64 x, .int .i64 t, .int .u64 s, .bool true] 69)) x 22
          simpa using this
        have HRD := Lib.hid hrd
        have HROW2 := Lib.hid ((HROW.out.alloc (.cells #[.int .u64 x, .int .i64 t, .int .u64 s, .bool true] 69)).alloc (.cells #[.int .u64 x] 22))
        have HB3 := Lib.hid (HB2.out.alloc (by simp; omega) (.cells #[.int .u64 x] 22))
        have HMP : Hid ((((D.take k).filter (fun a => a.2.flag)).map Prod.fst).map (Value.int .u64) ++ [x].map (Value.int .u64) = (((D.take (k + 1)).filter (fun a => a.2.flag)).map Prod.fst).map (Value.int .u64)) := Lib.hid (by rw [EW.out]; simp)
        clear hrd hP
        go_wp2_with (
          at_builtin
          refine append_rd _ rfl _ _ 28 rfl w.heap.size 22 i0 (.int .u64 0) 8 Tryz.underlying28 hi hz0 hz1 hz2 rfl _ q _ rfl HROW2.out _ _ 1 1 [x] rfl HRD.out (fun _ => rfl) (q + 1) rfl _ HMP.out (by unfold maxLen; omega) (by omega) (by simp; omega) ?_
          intro A4 c4 w4 hrow4 hg4 hat4
          have HROW4 := Lib.hid hrow4
          have HB4 := Lib.hid (HB3.out.grown hg4 (by simp; omega) (fun j hj => (HROW2.out.lt j hj).1))
          clear hrow4 hg4 hat4)
        go_roundw
        case rel => exact ⟨k + 1, q + 1, c4, A4, by omega, by go_num, rfl, by omega, Lib.hid (by rw [EW.out, List.length_append, ← HQL.out]; rfl), HROW4, HB4.out⟩
        case measure => simp [intOf]; omega
      · have EW : Hid ((D.take (k + 1)).filter (fun a => a.2.flag) = (D.take k).filter (fun a => a.2.flag)) := Lib.hid (by rw [HAA.out, List.filter_append]; simp [hP])
        have e1 : f = false := by simpa using hP
        subst e1
        have HROW2 := Lib.hid (HROW.out.alloc (.cells #[.int .u64 x, .int .i64 t, .int .u64 s, .bool false] 69))
        clear hP
        go_wp2_with fail
        go_roundw
        case rel => exact ⟨k + 1, q, c', A', by omega, by go_num, rfl, by omega, Lib.hid (by rw [EW.out]; exact HQL.out), Lib.hid (by rw [EW.out]; exact HROW2.out), HB2.out⟩
        case measure => simp [intOf]; omega
    · have ht : D.take k = D := List.take_of_length_le (by have := HLEN.out; omega)
      have hrow := HROW.out
      have hql := HQL.out
      rw [ht] at hrow hql
      subst hql
      have HROW2 := Lib.hid hrow
      clear hrow HROW HQL ht
      go_wp2_with fail
      go_ret
      exact ⟨A', c', rfl, HROW2.out, hbr⟩
end
end Go.Proofs.YtbdcdofjcljliaaGreatDoor.Le
