/- The document's slots (a list), at whatever rows. -/
import Derived.Test.YtbedboekfkobjaaGreatDoorSlotsE
import Derived.Test.YtbedboekfkobjaaGreatDoorBase1
import Derived.Test.YtbedboekfkobjaaGreatDoorBase3
import Derived.Test.YtbedboekfkobjaaGreatDoorRowPut
namespace Go.Proofs.YtbedboekfkobjaaGreatDoor.St
open Go.ChangeShapes Go.WideShapes Go.ChangeAt Go.RowKit Rw Hi
set_option linter.unusedVariables false

theorem info_rslot : (Tryz.prog.info? 47).map (fun i => (i.zero, i.size, i.bytes)) = some (some (.agg #[.int .i64 0, .int .u64 0, .int .u64 0]), 3, 24) := by kernel_rfl
/-- A row that is new, or the elder one. -/
def New1 (w w' : World) (v v' : Value) : Prop := v'.ownBlock = v.ownBlock ∨ ∀ g, v'.ownBlock = some g → w.heap.size ≤ g ∧ g < w'.heap.size
set_option maxHeartbeats 1000000 in
theorem rof_any (A : Option Addr) (n c B : Nat) (l : List Sx) (t : Int) (w : World) (h : Rs enc3 3 w B A n c l) (hB : B ≤ w.heap.size) :
    Calls Tryz.prog 19 #[.slice A n c, .int .i64 t] w fun e w' => e = .returned (.int .i64 (ixZ (hit t) l)) ∧ Below w.heap.size w w' := by
  have hn : n ≤ 9223372036854775807 := by have := h.cap; have := h.top; omega
  have HR := Lib.hid h
  clear h
  go_enter Tryz.func19, Tryz.ntmps19
  go_wp2_with fail
  go_loopw [9] (fun i wr => ∃ k : Nat, k ≤ n ∧ i = .int .i64 k ∧ Miss (hit t) l k ∧ Below w.heap.size w wr) (fun i _ => n - (intOf i).toNat)
  case atStart => exact ⟨0, Nat.zero_le _, rfl, Miss.zero _ _, Below.refl _ _⟩
  case round =>
    obtain ⟨k, hk, rfl, hm, hbr⟩ := hrel
    have HM := Lib.hid hm
    have hbs := hbr.size
    clear hm
    by_cases hlt : k < n
    · obtain ⟨b, o, x, rfl, hb, hx, c0, c1, c2⟩ := three_at HR.out hlt
      have d0 := (hbr.cell (p := ⟨b, o + k * 3, none⟩) (by simp only; omega)).trans c0
      have d1 := (hbr.cell (p := ⟨b, o + k * 3 + 1, none⟩) (by simp only; omega)).trans c1
      have d2 := (hbr.cell (p := ⟨b, o + k * 3 + 2, none⟩) (by simp only; omega)).trans c2
      obtain ⟨x0, x1, x2⟩ := x
      have HX := Lib.hid hx
      simp only at d0 d1 d2
      have HB2 := Lib.hid (hbr.alloc hbs (.cells #[.int .i64 x0, .int .u64 x1, .int .u64 x2] 47))
      clear c0 c1 c2 hx
      cases hq : (x0 == t : Bool) with
      | true =>
        have HI := Lib.hid (ixZ_some (ix_some HM.out HX.out hq))
        go_wp2_with fail
        go_ret
        exact ⟨by rw [HI.out]; rfl, HB2.out⟩
      | false =>
        have HM2 := Lib.hid (HM.out.succ HX.out hq)
        go_wp2_with fail
        go_roundw
        case rel => exact ⟨k + 1, by omega, by go_num, HM2.out, HB2.out⟩
        case measure => simp [intOf]; omega
    · have hk' : k = n := by omega
      have HI := Lib.hid (ixZ_none (ix_none (p := hit t) (l := l) (by rw [HR.out.len, ← hk']; exact HM.out)))
      go_wp2_with fail
      go_ret
      exact ⟨by rw [HI.out]; rfl, hbr⟩
set_option maxHeartbeats 1000000 in
theorem rwaiting_any (A : Option Addr) (n c B : Nat) (l : List Sx) (w : World) (h : Rs enc3 3 w B A n c l) (hB : B ≤ w.heap.size) :
    Calls Tryz.prog 24 #[.slice A n c] w fun e w' => e = .returned (.int .i64 (waitN l)) ∧ Below w.heap.size w w' := by
  have hn : n ≤ 9223372036854775807 := by have := h.cap; have := h.top; omega
  have HR := Lib.hid h
  have HL := Lib.hid h.len
  clear h
  go_enter Tryz.func24, Tryz.ntmps24
  go_wp2_with fail
  go_loopw [3, 8] (fun s i wr => ∃ k q : Nat, k ≤ n ∧ i = .int .i64 k ∧ s = .int .i64 q ∧ q ≤ k ∧ q = waitN (l.take k) ∧ Below w.heap.size w wr) (fun _ i _ => n - (intOf i).toNat)
  case atStart => exact ⟨0, 0, Nat.zero_le _, rfl, rfl, Nat.le_refl _, rfl, Below.refl _ _⟩
  case round =>
    obtain ⟨k, q, hk, rfl, rfl, hqk, hq, hbr⟩ := hrel
    have HQ := Lib.hid hq
    have hbs := hbr.size
    clear hq
    by_cases hlt : k < n
    · obtain ⟨b, o, x, rfl, hb, hx, c0, c1, c2⟩ := three_at HR.out hlt
      have d0 := (hbr.cell (p := ⟨b, o + k * 3, none⟩) (by simp only; omega)).trans c0
      have d1 := (hbr.cell (p := ⟨b, o + k * 3 + 1, none⟩) (by simp only; omega)).trans c1
      have d2 := (hbr.cell (p := ⟨b, o + k * 3 + 2, none⟩) (by simp only; omega)).trans c2
      obtain ⟨x0, x1, x2⟩ := x
      have HW := Lib.hid (waitN_snoc hx)
      simp only at d0 d1 d2
      have HB2 := Lib.hid (hbr.alloc hbs (.cells #[.int .i64 x0, .int .u64 x1, .int .u64 x2] 47))
      clear c0 c1 c2 hx
      cases hz : (x2 == 0 : Bool) with
      | true =>
        have hq2 : q + 1 = waitN (l.take (k + 1)) := by rw [HW.out, HQ.out]; simp [free, hz]
        have HQ2 := Lib.hid hq2
        clear hq2
        go_wp2_with fail
        go_roundw
        case rel => exact ⟨k + 1, q + 1, by omega, by go_num, by go_num, by omega, HQ2.out, HB2.out⟩
        case measure => simp [intOf]; omega
      | false =>
        have hq2 : q = waitN (l.take (k + 1)) := by rw [HW.out, HQ.out]; simp [free, hz]
        have HQ2 := Lib.hid hq2
        clear hq2
        go_wp2_with fail
        go_roundw
        case rel => exact ⟨k + 1, q, by omega, by go_num, rfl, by omega, HQ2.out, HB2.out⟩
        case measure => simp [intOf]; omega
    · obtain rfl : k = n := by omega
      have hq2 : q = waitN l := by rw [HQ.out, List.take_of_length_le (by have := HL.out; omega)]
      have HQ2 := Lib.hid hq2
      clear hq2 HQ
      go_wp2_with fail
      go_ret
      exact ⟨by rw [← HQ2.out]; rfl, hbr⟩

theorem rslot_same (w : World) (a b c : Int) : (Op.equalIn 10000 47 (.agg #[.int .i64 a, .int .u64 b, .int .u64 c]) (.agg #[.int .i64 a, .int .u64 b, .int .u64 c])).run Tryz.prog w = .ok true w := by
  rw [show (10000 : Nat) = 9999 + 1 from rfl, run_equalIn_agg w 9999 _ _ _ (by kernel_rfl) (by kernel_rfl)]
  rw [show (9999 : Nat) = 9998 + 1 from rfl]
  simp only [Program.fieldsOf, Tryz.underlying47]
  go_simp
theorem rslot_ne (w : World) (a b c : Int) : (binOp .neq 47 (.agg #[.int .i64 a, .int .u64 b, .int .u64 c]) (.agg #[.int .i64 a, .int .u64 b, .int .u64 c])).run Tryz.prog w = .ok (.bool false) w := by
  rw [run_neq_struct, rslot_same]
  rfl
theorem rslot_guard : Tryz.prog.eqGuardType Tryz.prog.depth 47 = false := by kernel_rfl
set_option maxHeartbeats 1000000 in
theorem requal_same (A A' : Option Addr) (n c c' : Nat) (xs : List Sx) (B B' : Nat) (w : World) (h : Rs enc3 3 w B A n c xs) (h' : Rs enc3 3 w B' A' n c' xs) :
    Calls Tryz.prog 20 #[.slice A n c, .slice A' n c'] w fun e w' => e = .returned (.bool true) ∧ ∃ q, w.drewN q = w' := by
  have hn : n ≤ 9223372036854775807 := by have := h.cap; have := h.top; omega
  have HR := Lib.hid h
  have HR' := Lib.hid h'
  have hg := rslot_guard
  have hne := fun W => rslot_ne W
  clear h h'
  go_enter Tryz.func20, Tryz.ntmps20
  go_wp2
  go_loopw [5, 13] (fun _ i wr => ∃ k q : Nat, k ≤ n ∧ i = .int .i64 k ∧ wr = w.drewN q) (fun _ i _ => n - (intOf i).toNat)
  case atStart => exact ⟨0, 0, Nat.zero_le _, rfl, rfl⟩
  case round =>
    obtain ⟨k, q, hk, rfl, rfl⟩ := hrel
    by_cases hlt : k < n
    · obtain ⟨b, o, x, rfl, hb, hx, c0, c1, c2⟩ := three_at HR.out hlt
      obtain ⟨b', o', y, rfl, hb', hy, d0, d1, d2⟩ := three_at HR'.out hlt
      obtain rfl : x = y := by rw [hx] at hy; injection hy
      clear hx hy
      obtain ⟨x0, x1, x2⟩ := x
      simp only at c0 c1 c2 d0 d1 d2
      go_wp2
      go_quiet (fail)
      go_wp2
      go_roundw
      case rel => exact ⟨k + 1, _, by omega, by go_num, rfl⟩
      case measure => simp [intOf]; omega
    · have hk' : k = n := by omega
      go_wp2
      go_ret
      exact ⟨rfl, _, rfl⟩

set_option maxRecDepth 100000 in
set_option maxHeartbeats 2000000 in
theorem to_any (A : Option Addr) (n c B : Nat) (l : List Sx) (w : World) (h : Rs enc3 3 w B A n c l) (hB : B ≤ w.heap.size) (hn : n ≤ 1000) :
    Calls Tryz.prog 21 #[.slice A n c] w fun e w' => ∃ A' c', e = .returned (.slice A' n c') ∧ Rs enc3 3 w' w'.heap.size A' n c' l ∧ Below w.heap.size w w' := by
  obtain ⟨i0, hi, hz0, hz1, hz2⟩ := info_parts info_rslot
  have HR := Lib.hid h
  have HLEN := Lib.hid h.len
  clear h
  go_enter Tryz.func21, Tryz.ntmps21
  go_wp2_with fail
  go_loopw [3, 8] (fun v i wr => ∃ (k c' : Nat) (A' : Option Addr), k ≤ n ∧ i = .int .i64 k ∧ v = .slice A' k c' ∧ wr.ownsRow w.heap.size 47 3 (.slice A' k c') k (flat enc3 (l.take k)) ∧ Below w.heap.size w wr) (fun _ i _ => n - (intOf i).toNat)
  case atStart => exact ⟨0, 0, none, Nat.zero_le _, rfl, rfl, World.ownsRow_nil _ _ _ _, Below.refl _ _⟩
  case round =>
    obtain ⟨k, c', A', hk, rfl, rfl, hrow, hbr⟩ := hrel
    have HROW := Lib.hid hrow
    clear hrow
    by_cases hlt : k < n
    · obtain ⟨b, o, x, rfl, hb, hx, c0, c1, c2⟩ := three_at HR.out hlt
      have d0 := (hbr.cell (p := ⟨b, o + k * 3, none⟩) (by simp only; omega)).trans c0
      have d1 := (hbr.cell (p := ⟨b, o + k * 3 + 1, none⟩) (by simp only; omega)).trans c1
      have d2 := (hbr.cell (p := ⟨b, o + k * 3 + 2, none⟩) (by simp only; omega)).trans c2
      obtain ⟨x0, x1, x2⟩ := x
      simp only at d0 d1 d2
      have hbs := hbr.size
      have hb2 := hbr.alloc hbs (.cells #[.int .i64 x0, .int .u64 x1, .int .u64 x2] 43)
      have HB2 := Lib.hid (hb2.alloc (by simp; omega) (.cells #[.int .i64 x0, .int .u64 x1, .int .u64 x2] 47))
      have hrs : Rs enc3 3 ((wr.alloc (.cells #[.int .i64 x0, .int .u64 x1, .int .u64 x2] 43)).alloc (.cells #[.int .i64 x0, .int .u64 x1, .int .u64 x2] 47)) (wr.heap.size + 1 + 1) (some ⟨wr.heap.size + 1, 0, none⟩) 1 1 [(x0, x1, x2)] := by
        have := rs_one enc3_len (wr.alloc (.cells #[.int .i64 x0, .int .u64 x1, .int .u64 x2] 43)) (x0, x1, x2) 47 (cs := #[.int .i64 x0, .int .u64 x1, .int .u64 x2]) rfl
        simpa using this
      have HRS := Lib.hid hrs
      have hmp : flat enc3 (l.take k) ++ flat enc3 [(x0, x1, x2)] = flat enc3 (l.take (k + 1)) := by rw [List.take_add_one, hx, flat_append]; rfl
      have HMP := Lib.hid hmp
      have HROW2 := Lib.hid ((HROW.out.alloc (.cells #[.int .i64 x0, .int .u64 x1, .int .u64 x2] 43)).alloc (.cells #[.int .i64 x0, .int .u64 x1, .int .u64 x2] 47))
      clear c0 c1 c2 hx hb2 hrs hmp hbr
      go_wp2_with (
        at_builtin
        refine append_rs enc3_len rfl _ _ 26 rfl w.heap.size 47 i0 _ 24 Tryz.underlying26 hi hz0 hz1 hz2 rfl (by decide) (.slice A' k c') k _ rfl HROW2.out _ _ 1 1 [(x0, x1, x2)] rfl HRS.out enc3_one (k + 1) rfl _ HMP.out (by unfold maxLen; omega) (by omega) (by simp; omega) ?_
        intro A3 c3 w3 hrow3 hg3 hat3
        have HROW3 := Lib.hid hrow3
        have HB3 := Lib.hid (HB2.out.grown hg3 (by simp; omega) (fun j hj => (HROW2.out.lt j hj).1))
        clear hrow3 hg3 hat3)
      go_roundw
      case rel => exact ⟨k + 1, c3, A3, by omega, by go_num, rfl, HROW3.out, HB3.out⟩
      case measure => simp [intOf]; omega
    · obtain rfl : k = n := by omega
      have hrow := HROW.out
      rw [List.take_of_length_le (by have := HLEN.out; omega)] at hrow
      have HR2 := Lib.hid (Rs.own_rs enc3_len HLEN.out hrow)
      clear hrow HROW
      go_wp2_with fail
      go_ret
      exact ⟨A', c', rfl, HR2.out, hbr⟩

set_option maxRecDepth 100000 in
set_option maxHeartbeats 2000000 in
theorem rpark_any (A : Option Addr) (n c : Nat) (l : List Sx) (t d : Int) (w : World) (h : Rs enc3 3 w w.heap.size A n c l) (hn : n ≤ 1000) :
    Calls Tryz.prog 17 #[.slice A n c, .int .i64 t, .int .u64 d] w fun e w' => ∃ A' n' c', e = .returned (.tuple #[.slice A' n' c', .int .i64 (parkE l t)]) ∧ Rs enc3 3 w' w'.heap.size A' n' c' (parkL l t d) ∧ New1 w w' (.slice A n c) (.slice A' n' c') ∧ Below w.heap.size w w' := by
  obtain ⟨i0, hi, hz0, hz1, hz2⟩ := info_parts info_rslot
  have HR := Lib.hid h
  have HLEN := Lib.hid h.len
  clear h
  cases hf : l.findIdx? (hit t) with
  | some k =>
    obtain ⟨e1, e2⟩ := park_hit (d := d) hf
    have HZ := Lib.hid (ixZ_some hf)
    rw [e1, e2]
    clear e1 e2 hf
    go_enter Tryz.func17, Tryz.ntmps17
    go_wp2_with fail
    refine (rof_any A n c _ l t w HR.out (Nat.le_refl _)).mono ?_
    rw [HZ.out]
    rintro e w1 ⟨rfl, hb1⟩
    go_wp2_with fail
    go_ret2
    exact ⟨A, n, c, rfl, HR.out.later hb1, .inl rfl, hb1⟩
  | none =>
    obtain ⟨e1, e2⟩ := park_miss (d := d) hf
    have HZ := Lib.hid (ixZ_none hf)
    rw [e1, e2]
    clear e1 e2 hf
    go_enter Tryz.func17, Tryz.ntmps17
    go_wp2_with fail
    refine (rof_any A n c _ l t w HR.out (Nat.le_refl _)).mono ?_
    rw [HZ.out]
    rintro e w1 ⟨rfl, hb1⟩
    have hs1 := hb1.size
    have R1 := Lib.hid (HR.out.later hb1)
    have B1 := Lib.hid hb1
    clear hb1 HR
    go_wp2_with (
      at_builtin
      refine append_rs enc3_len rfl _ _ 26 rfl w.heap.size 47 i0 _ 24 Tryz.underlying26 hi hz0 hz1 hz2 rfl (by decide) (.slice none 0 0) 0 [] rfl (World.ownsRow_nil _ _ _ _) _ A n c l rfl R1.out enc3_one n (Nat.zero_add _) (flat enc3 l) rfl (by unfold maxLen; omega) (by omega) hs1 ?_
      intro A2 c2 w2 ho2 hg2 hat2
      refine Hid.out ?_)
    refine Lib.hid ?_
    have B2 := Lib.hid (B1.out.grown hg2 hs1 (fun j hj => by cases hj))
    have hs2 := B2.out.size
    have HO2 := Lib.hid (ho2.alloc (.cells #[.int .i64 t, .int .u64 d, .int .u64 0] 47))
    have B3 := Lib.hid (B2.out.alloc hs2 (.cells #[.int .i64 t, .int .u64 d, .int .u64 0] 47))
    have hrs : Rs enc3 3 (w2.alloc (.cells #[.int .i64 t, .int .u64 d, .int .u64 0] 47)) (w2.heap.size + 1) (some ⟨w2.heap.size, 0, none⟩) 1 1 [(t, d, 0)] := rs_one enc3_len w2 (t, d, 0) 47 (cs := #[.int .i64 t, .int .u64 d, .int .u64 0]) rfl
    have HRS := Lib.hid hrs
    clear ho2 hg2 hat2 hrs B1 R1
    go_wp2_with (
      at_builtin
      refine append_rs enc3_len rfl _ _ 26 rfl w.heap.size 47 i0 _ 24 Tryz.underlying26 hi hz0 hz1 hz2 rfl (by decide) (.slice A2 n c2) n _ rfl HO2.out _ _ 1 1 [(t, d, 0)] rfl HRS.out enc3_one (n + 1) rfl (flat enc3 (l ++ [(t, d, 0)])) (flat_append _ _).symm (by unfold maxLen; omega) (by omega) (by simp; omega) ?_
      intro A3 c3 w3 hrow3 hg3 hat3
      have HRR := Lib.hid (Rs.own_rs enc3_len (xs := l ++ [(t, d, 0)]) (by simp [HLEN.out]) hrow3)
      have HLO := Lib.hid hrow3.lt
      have HB3 := Lib.hid (B3.out.grown hg3 (by simp; omega) (fun j hj => (HO2.out.lt j hj).1))
      clear hrow3 hg3 hat3)
    go_ret2
    exact ⟨A3, n + 1, c3, rfl, HRR.out, .inr (fun g hg => HLO.out g hg), HB3.out⟩

theorem rfill_zero (A : Option Addr) (n c : Nat) (w : World) :
    Calls Tryz.prog 14 #[.slice A n c, .int .u64 0] w fun e w' => e = .returned (.tuple #[.slice A n c, .int .i64 0, .bool false]) ∧ w = w' := by
  go_enter Tryz.func14, Tryz.ntmps14
  go_wp2_with fail
  go_ret3
  exact ⟨rfl, rfl⟩
set_option maxRecDepth 100000 in
set_option maxHeartbeats 2000000 in
theorem rfill_miss (A : Option Addr) (n c : Nat) (l : List Sx) (i : Int) (w : World) (h : Rs enc3 3 w w.heap.size A n c l) (hi : i ≠ 0) (hf : l.findIdx? free = none) :
    Calls Tryz.prog 14 #[.slice A n c, .int .u64 i] w fun e w' => e = .returned (.tuple #[.slice A n c, .int .i64 0, .bool false]) ∧ Below w.heap.size w w' := by
  have hn : n ≤ 9223372036854775807 := by have := h.cap; have := h.top; omega
  have e0 : (i == 0) = false := by simpa using hi
  have HR := Lib.hid h
  have hall : ∀ x ∈ l, free x = false := by rw [List.findIdx?_eq_none_iff] at hf; exact hf
  have HALL := Lib.hid hall
  clear h hi hf hall
  go_enter Tryz.func14, Tryz.ntmps14
  go_wp2_with fail
  go_loopw [15] (fun i wr => ∃ k : Nat, k ≤ n ∧ i = .int .i64 k ∧ Below w.heap.size w wr) (fun i _ => n - (intOf i).toNat)
  case atStart => exact ⟨0, Nat.zero_le _, rfl, Below.refl _ _⟩
  case round =>
    obtain ⟨k, hk, rfl, hbr⟩ := hrel
    have hbs := hbr.size
    by_cases hlt : k < n
    · obtain ⟨b, o, x, rfl, hb, hx, c0, c1, c2⟩ := three_at HR.out hlt
      have d0 := (hbr.cell (p := ⟨b, o + k * 3, none⟩) (by simp only; omega)).trans c0
      have d1 := (hbr.cell (p := ⟨b, o + k * 3 + 1, none⟩) (by simp only; omega)).trans c1
      have d2 := (hbr.cell (p := ⟨b, o + k * 3 + 2, none⟩) (by simp only; omega)).trans c2
      obtain ⟨x0, x1, x2⟩ := x
      have hq : (x2 == 0 : Bool) = false := HALL.out _ (List.mem_of_getElem? hx)
      simp only at d0 d1 d2
      have HB2 := Lib.hid (hbr.alloc hbs (.cells #[.int .i64 x0, .int .u64 x1, .int .u64 x2] 47))
      clear c0 c1 c2 hx
      go_wp2_with fail
      go_roundw
      case rel => exact ⟨k + 1, by omega, by go_num, HB2.out⟩
      case measure => simp [intOf]; omega
    · have hk' : k = n := by omega
      go_wp2_with fail
      go_ret3
      exact ⟨rfl, hbr⟩
set_option maxRecDepth 100000 in
set_option maxHeartbeats 4000000 in
theorem rfill_hit (A : Option Addr) (n c : Nat) (l : List Sx) (i : Int) (j : Nat) (y : Sx) (w : World) (h : Rs enc3 3 w w.heap.size A n c l) (hi : i ≠ 0) (hn : n ≤ 1000) (hf : l.findIdx? free = some j) (hy : l[j]? = some y) :
    Calls Tryz.prog 14 #[.slice A n c, .int .u64 i] w fun e w' => ∃ A' c', e = .returned (.tuple #[.slice A' n c', .int .i64 y.1, .bool true]) ∧ Rs enc3 3 w' w'.heap.size A' n c' (fillAt l j y i) ∧ New1 w w' (.slice A n c) (.slice A' n c') ∧ Below w.heap.size w w' := by
  obtain ⟨i0, hi0, hz0, hz1, hz2⟩ := info_parts info_rslot
  have e0 : (i == 0) = false := by simpa using hi
  have HR := Lib.hid h
  have HLEN := Lib.hid h.len
  have hnc := h.cap
  have htop := h.top
  rw [List.findIdx?_eq_some_iff_getElem] at hf
  obtain ⟨hjl, hfr, hbe⟩ := hf
  have hjn : j < n := by rw [← h.len]; exact hjl
  have hym : free y = true := by rw [List.getElem?_eq_getElem hjl] at hy; injection hy with hy; subst hy; exact hfr
  have HBE : Hid (∀ k x, k < j → l[k]? = some x → free x = false) := Lib.hid (fun k x hk hx => by
    obtain ⟨h1, h2⟩ := List.getElem?_eq_some_iff.1 hx
    have := hbe k hk
    rw [h2] at this
    simpa using this)
  have HY := Lib.hid hy
  have HYM := Lib.hid hym
  clear h hi hfr hbe hy hym hjl
  go_enter Tryz.func14, Tryz.ntmps14
  go_wp2_with fail
  go_loopw [15] (fun i wr => ∃ k : Nat, k ≤ j ∧ i = .int .i64 k ∧ Below w.heap.size w wr) (fun i _ => n - (intOf i).toNat)
  case atStart => exact ⟨0, Nat.zero_le _, rfl, Below.refl _ _⟩
  case round =>
    obtain ⟨k, hk, rfl, hbr⟩ := hrel
    have hbs := hbr.size
    have hlt : k < n := by omega
    obtain ⟨b, o, x, rfl, hb, hx, c0, c1, c2⟩ := three_at HR.out hlt
    have d0 := (hbr.cell (p := ⟨b, o + k * 3, none⟩) (by simp only; omega)).trans c0
    have d1 := (hbr.cell (p := ⟨b, o + k * 3 + 1, none⟩) (by simp only; omega)).trans c1
    have d2 := (hbr.cell (p := ⟨b, o + k * 3 + 2, none⟩) (by simp only; omega)).trans c2
    obtain ⟨x0, x1, x2⟩ := x
    simp only at d0 d1 d2
    have HB2 := Lib.hid (hbr.alloc hbs (.cells #[.int .i64 x0, .int .u64 x1, .int .u64 x2] 47))
    by_cases hkj : k < j
    · have hq : (x2 == 0 : Bool) = false := HBE.out k _ hkj hx
      clear c0 c1 c2 hx
      go_wp2_with fail
      go_roundw
      case rel => exact ⟨k + 1, by omega, by go_num, HB2.out⟩
      case measure => simp [intOf]; omega
    · obtain rfl : k = j := by omega
      have hyx : y = (x0, x1, x2) := by have := HY.out; rw [hx] at this; injection this with this; exact this.symm
      have hq : (x2 == 0 : Bool) = true := by have := HYM.out; rw [hyx] at this; exact this
      have HYX := Lib.hid hyx
      have RW := Lib.hid ((HR.out.below (hbr.mono (Nat.le_refl _))).alloc hbs (.cells #[.int .i64 x0, .int .u64 x1, .int .u64 x2] 47))
      have hwa : (wr.alloc (.cells #[.int .i64 x0, .int .u64 x1, .int .u64 x2] 47)).cell? ⟨wr.heap.size, 0, none⟩ = some (.int .i64 x0) := by go_simp
      have HWA := Lib.hid hwa
      clear c0 c1 c2 hx hyx hwa
      go_wp2_with (
        at_builtin
        refine append_rs enc3_len rfl _ _ 26 rfl w.heap.size 47 i0 _ 24 Tryz.underlying26 hi0 hz0 hz1 hz2 rfl (by decide) (.slice none 0 0) 0 [] rfl (World.ownsRow_nil _ _ _ _) _ (some ⟨b, o, none⟩) n c l rfl RW.out enc3_one n (Nat.zero_add _) (flat enc3 l) rfl (by unfold maxLen; omega) (by omega) (by simp; omega) ?_
        intro A2 c2 w2 ho2 hg2 hat2
        refine Hid.out ?_)
      refine Lib.hid ?_
      have B2 := HB2.out.grown hg2 (by simp; omega) (fun j hj => by cases hj)
      have hs2 := B2.size
      have hbox : w2.cell? ⟨wr.heap.size, 0, none⟩ = some (.int .i64 x0) := hg2.cell HWA.out (fun e => by cases e)
      have hrs2 := Rs.own_rs enc3_len HLEN.out ho2
      obtain ⟨g, o2, z, rfl, hg0, hz, _, _, v2⟩ := three_at hrs2 hlt
      have ho20 : o2 = 0 := by
        rcases ho2.2 with ⟨h', _⟩ | ⟨g, cap, cur, h', _⟩
        · cases h'
        · injection h' with h2 _ _; injection h2 with h2; injection h2
      subst ho20
      simp only [Nat.zero_add] at v2
      have fz := ho2.frozenAt (k * 3 + 2)
      have hgw : g ≠ wr.heap.size := by
        rcases hat2 with e | e
        · cases e
        · injection e with e; simp at e; have e2 : g = wr.heap.size + 1 := e; omega
      obtain ⟨s1, s2⟩ := ho2.stored (k * 3 + 2) (.int .u64 i)
      rw [flat_set enc3_len l k 2 y (y.1, y.2.1, i) (.int .u64 i) HY.out (by omega) rfl] at s1
      have hw4 : (w2.setCell ⟨g, k * 3 + 2, none⟩ (.int .u64 i)).cell? ⟨wr.heap.size, 0, none⟩ = some (.int .i64 x0) := (World.cell?_setCell_other _ _ _ _ (fun e => by injection e with e; exact hgw e)).trans hbox
      have S1 := Lib.hid s1
      have hcap2 := hrs2.cap
      have htop2 := hrs2.top
      have hlo := ho2.lt
      have HLO := Lib.hid hlo
      have B4 := Lib.hid (B2.setCell (p := ⟨g, k * 3 + 2, none⟩) (hlo g rfl).1 (.int .u64 i))
      clear s1 s2 ho2 hg2 hat2 hrs2 hz B2 hlo hbox HWA RW
      have hxy : x0 = y.1 := by rw [HYX.out]
      go_wp2_with fail
      go_quiet (fail)
      go_wp2_with fail
      go_ret3
      exact ⟨some ⟨g, 0, none⟩, c2, by rw [← hxy]; rfl, Rs.own_rs enc3_len (xs := fillAt l k y i) (by rw [fillAt_len]; exact HLEN.out) (own_same S1.out (fun _ _ => rfl)), .inr (fun g' hg' => by have := HLO.out g' hg'; simpa using this), below_drewN B4.out _⟩

theorem rtake_miss (A : Option Addr) (n c : Nat) (l : List Sx) (t : Int) (w : World) (h : Rs enc3 3 w w.heap.size A n c l) (hf : l.findIdx? (hit t) = none) :
    Calls Tryz.prog 16 #[.slice A n c, .int .i64 t] w fun e w' => e = .returned (.tuple #[.slice A n c, .int .u64 0, .bool false]) ∧ Below w.heap.size w w' := by
  have HR := Lib.hid h
  have HZ := Lib.hid (ixZ_none hf)
  clear h hf
  go_enter Tryz.func16, Tryz.ntmps16
  go_wp2_with fail
  refine (rof_any A n c _ l t w HR.out (Nat.le_refl _)).mono ?_
  rw [HZ.out]
  rintro e w1 ⟨rfl, hb1⟩
  go_wp2_with fail
  go_ret3
  exact ⟨rfl, hb1⟩
end Go.Proofs.YtbedboekfkobjaaGreatDoor.St
