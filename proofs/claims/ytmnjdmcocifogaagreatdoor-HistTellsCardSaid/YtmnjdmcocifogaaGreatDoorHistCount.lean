/- Layer 9: events as the document's, and how many calls are open. -/
import Derived.Test.YtmnjdmcocifogaaGreatDoorHistEq
namespace Go.Proofs.YtmnjdmcocifogaaGreatDoor.Hi
open Go.ChangeShapes Go.WideShapes Go.ChangeAt Go.RowKit Rw Tx
set_option linter.unusedVariables false

theorem info_rev : (Tryz.prog.info? 38).map (fun i => (i.zero, i.size, i.bytes)) = some (some (.agg #[.int .u64 0, .int .i64 0, .int .i64 0, .int .i64 0, .int .u64 0, .int .i64 0]), 6, 48) := by kernel_rfl
theorem rs_six {w : World} {B : Nat} {A : Option Addr} {n c : Nat} {l : List Ev} (h : Rs encE 6 w B A n c l) {k : Nat} (hk : k < n) :
    ∃ b o e, A = some ⟨b, o, none⟩ ∧ b < B ∧ l[k]? = some e ∧ w.cell? ⟨b, o + k * 6, none⟩ = some (.int .u64 e.step) ∧ w.cell? ⟨b, o + k * 6 + 1, none⟩ = some (.int .i64 e.thread) ∧
      w.cell? ⟨b, o + k * 6 + 2, none⟩ = some (.int .i64 e.kind) ∧ w.cell? ⟨b, o + k * 6 + 3, none⟩ = some (.int .i64 e.op) ∧ w.cell? ⟨b, o + k * 6 + 4, none⟩ = some (.int .u64 e.id) ∧ w.cell? ⟨b, o + k * 6 + 5, none⟩ = some (.int .i64 e.err) := by
  obtain ⟨b, o, x, hA, hb, hx, hc⟩ := h.get hk
  exact ⟨b, o, x, hA, hb, hx, by simpa using hc 0 _ (by omega) rfl, hc 1 _ (by omega) rfl, hc 2 _ (by omega) rfl, hc 3 _ (by omega) rfl, hc 4 _ (by omega) rfl, hc 5 _ (by omega) rfl⟩
/-- What an event adds to what a thread waits for. -/
def dl (t : Int) (e : Ev) : Int := if e.thread = t then (if e.kind = 0 then 1 else if e.kind = 2 then -1 else 0) else 0
def cnt (l : List Ev) (t : Int) : Int := (l.map (dl t)).sum
theorem cnt_nil (t : Int) : cnt [] t = 0 := rfl
theorem cnt_append (a b : List Ev) (t : Int) : cnt (a ++ b) t = cnt a t + cnt b t := by simp [cnt]
theorem cnt_snoc {l : List Ev} {k : Nat} {e : Ev} (t : Int) (h : l[k]? = some e) : cnt (l.take (k + 1)) t = cnt (l.take k) t + dl t e := by
  rw [List.take_add_one, h, cnt_append]
  simp [cnt]
theorem dl_le (t : Int) (e : Ev) : -1 ≤ dl t e ∧ dl t e ≤ 1 := by
  unfold dl
  split
  · split
    · omega
    · split <;> omega
  · omega
theorem cnt_le (t : Int) (l : List Ev) : -(l.length : Int) ≤ cnt l t ∧ cnt l t ≤ l.length := by
  induction l with
  | nil => simp [cnt]
  | cons e l ih =>
    have := dl_le t e
    have e2 : cnt (e :: l) t = dl t e + cnt l t := by simp [cnt]
    rw [e2, List.length_cons]
    omega
/-- A thread that waits is one of an event's. -/
theorem cnt_mem {l : List Ev} {t : Int} (h : 0 < cnt l t) : ∃ e ∈ l, e.thread = t := by
  induction l with
  | nil => simp [cnt] at h
  | cons e l ih =>
    by_cases he : e.thread = t
    · exact ⟨e, by simp, he⟩
    · have e2 : cnt (e :: l) t = dl t e + cnt l t := by simp [cnt]
      rw [e2] at h
      have : dl t e = 0 := by simp [dl, he]
      obtain ⟨x, hx, hxt⟩ := ih (by omega)
      exact ⟨x, by simp [hx], hxt⟩
set_option maxRecDepth 100000 in
set_option maxHeartbeats 4000000 in
theorem of_any (A : Option Addr) (n c B : Nat) (l : List Ev) (w : World) (h : Rs encE 6 w B A n c l) (hB : B ≤ w.heap.size) (hn : n ≤ 1000) :
    Calls Tryz.prog 15 #[.slice A n c] w fun e w' => ∃ A' c', e = .returned (.slice A' n c') ∧ w'.ownsRow w.heap.size 38 6 (.slice A' n c') n (flat encE l) ∧ Below w.heap.size w w' := by
  obtain ⟨i0, hi, hz0, hz1, hz2⟩ := info_parts info_rev
  have HR := Lib.hid h
  have HLEN := Lib.hid h.len
  clear h
  go_enter Tryz.func15, Tryz.ntmps15
  go_wp2_with fail
  go_loopw [3, 8] (fun v i wr => ∃ (k c' : Nat) (A' : Option Addr), k ≤ n ∧ i = .int .i64 k ∧ v = .slice A' k c' ∧
      wr.ownsRow w.heap.size 38 6 (.slice A' k c') k (flat encE (l.take k)) ∧ Below w.heap.size w wr) (fun _ i _ => n - (intOf i).toNat)
  case atStart => exact ⟨0, 0, none, Nat.zero_le _, rfl, rfl, World.ownsRow_nil _ _ _ _, Below.refl _ _⟩
  case round =>
    obtain ⟨k, c', A', hk, rfl, rfl, hrow, hbr⟩ := hrel
    have HROW := Lib.hid hrow
    clear hrow
    by_cases hlt : k < n
    · obtain ⟨b, o, a, rfl, hb, ha, hc0, hc1, hc2, hc3, hc4, hc5⟩ := rs_six HR.out hlt
      have d0 := (hbr.cell (p := ⟨b, o + k * 6, none⟩) (by simp only; omega)).trans hc0
      have d1 := (hbr.cell (p := ⟨b, o + k * 6 + 1, none⟩) (by simp only; omega)).trans hc1
      have d2 := (hbr.cell (p := ⟨b, o + k * 6 + 2, none⟩) (by simp only; omega)).trans hc2
      have d3 := (hbr.cell (p := ⟨b, o + k * 6 + 3, none⟩) (by simp only; omega)).trans hc3
      have d4 := (hbr.cell (p := ⟨b, o + k * 6 + 4, none⟩) (by simp only; omega)).trans hc4
      have d5 := (hbr.cell (p := ⟨b, o + k * 6 + 5, none⟩) (by simp only; omega)).trans hc5
      have hbs := hbr.size
      have hb2 := hbr.alloc hbs (.cells #[.int .u64 a.step, .int .i64 a.thread, .int .i64 a.kind, .int .i64 a.op, .int .u64 a.id, .int .i64 a.err] 26)
      have HB2 := Lib.hid (hb2.alloc (by simp; omega) (.cells #[.int .u64 a.step, .int .i64 a.thread, .int .i64 a.kind, .int .i64 a.op, .int .u64 a.id, .int .i64 a.err] 38))
      have hrs : Rs encE 6 ((wr.alloc (.cells #[.int .u64 a.step, .int .i64 a.thread, .int .i64 a.kind, .int .i64 a.op, .int .u64 a.id, .int .i64 a.err] 26)).alloc (.cells #[.int .u64 a.step, .int .i64 a.thread, .int .i64 a.kind, .int .i64 a.op, .int .u64 a.id, .int .i64 a.err] 38)) (wr.heap.size + 1 + 1) (some ⟨wr.heap.size + 1, 0, none⟩) 1 1 [a] := by
        have := rs_one encE_len (wr.alloc (.cells #[.int .u64 a.step, .int .i64 a.thread, .int .i64 a.kind, .int .i64 a.op, .int .u64 a.id, .int .i64 a.err] 26)) a 38 (cs := #[.int .u64 a.step, .int .i64 a.thread, .int .i64 a.kind, .int .i64 a.op, .int .u64 a.id, .int .i64 a.err]) rfl
        simpa using this
      have HRS := Lib.hid hrs
      have hmp : flat encE (l.take k) ++ flat encE [a] = flat encE (l.take (k + 1)) := by rw [← flat_append, List.take_add_one, ha]; rfl
      have HMP := Lib.hid hmp
      have HROW2 := Lib.hid ((HROW.out.alloc (.cells #[.int .u64 a.step, .int .i64 a.thread, .int .i64 a.kind, .int .i64 a.op, .int .u64 a.id, .int .i64 a.err] 26)).alloc (.cells #[.int .u64 a.step, .int .i64 a.thread, .int .i64 a.kind, .int .i64 a.op, .int .u64 a.id, .int .i64 a.err] 38))
      clear ha hbr hb2 hrs hmp hc0 hc1 hc2 hc3 hc4 hc5
      go_wp2_with (
        at_builtin
        refine append_rs encE_len rfl _ _ 30 rfl w.heap.size 38 i0 _ 48 Tryz.underlying30 hi hz0 hz1 hz2 rfl (by decide) _ k _ rfl HROW2.out _ _ 1 1 [a] rfl HRS.out encE_one (k + 1) rfl _ HMP.out (by unfold maxLen; omega) (by omega) (by simp; omega) ?_
        intro A3 c3 w3 hrow3 hg3 hat3
        have HROW3 := Lib.hid hrow3
        have HB3 := Lib.hid (HB2.out.grown hg3 (by simp; omega) (fun j hj => (HROW2.out.lt j hj).1))
        clear hrow3 hg3 hat3)
      go_roundw
      case rel => exact ⟨k + 1, c3, A3, by omega, by go_num, rfl, HROW3.out, HB3.out⟩
      case measure => simp [intOf]; omega
    · obtain rfl : k = n := by omega
      have ht : l.take k = l := List.take_of_length_le (by have := HLEN.out; omega)
      have hrow := HROW.out
      rw [ht] at hrow
      have HROW2 := Lib.hid hrow
      clear hrow HROW ht
      go_wp2_with fail
      go_ret
      exact ⟨A', c', rfl, HROW2.out, hbr⟩
set_option maxRecDepth 100000 in
set_option maxHeartbeats 4000000 in
theorem open_any (A : Option Addr) (n c B : Nat) (l : List Ev) (t : Int) (w : World) (h : Rs encE 6 w B A n c l) (hB : B ≤ w.heap.size) (hn : n ≤ 1000) :
    Calls Tryz.prog 42 #[.slice A n c, .int .i64 t] w fun e w' => e = .returned (.int .i64 (cnt l t)) ∧ Below w.heap.size w w' := by
  have HR := Lib.hid h
  have HLEN := Lib.hid h.len
  clear h
  go_enter Tryz.func42, Tryz.ntmps42
  go_wp2_with fail
  go_loopw [5, 10] (fun v i wr => ∃ (k : Nat), k ≤ n ∧ i = .int .i64 k ∧ v = .int .i64 (cnt (l.take k) t) ∧ Below w.heap.size w wr) (fun _ i _ => n - (intOf i).toNat)
  case atStart => exact ⟨0, Nat.zero_le _, rfl, rfl, Below.refl _ _⟩
  case round =>
    obtain ⟨k, hk, rfl, rfl, hbr⟩ := hrel
    by_cases hlt : k < n
    · obtain ⟨b, o, a, rfl, hb, ha, hc0, hc1, hc2, hc3, hc4, hc5⟩ := rs_six HR.out hlt
      have d0 := (hbr.cell (p := ⟨b, o + k * 6, none⟩) (by simp only; omega)).trans hc0
      have d1 := (hbr.cell (p := ⟨b, o + k * 6 + 1, none⟩) (by simp only; omega)).trans hc1
      have d2 := (hbr.cell (p := ⟨b, o + k * 6 + 2, none⟩) (by simp only; omega)).trans hc2
      have d3 := (hbr.cell (p := ⟨b, o + k * 6 + 3, none⟩) (by simp only; omega)).trans hc3
      have d4 := (hbr.cell (p := ⟨b, o + k * 6 + 4, none⟩) (by simp only; omega)).trans hc4
      have d5 := (hbr.cell (p := ⟨b, o + k * 6 + 5, none⟩) (by simp only; omega)).trans hc5
      have hbs := hbr.size
      have HB2 := Lib.hid (hbr.alloc hbs (.cells #[.int .u64 a.step, .int .i64 a.thread, .int .i64 a.kind, .int .i64 a.op, .int .u64 a.id, .int .i64 a.err] 38))
      have hcs := cnt_snoc t ha
      have hcl := cnt_le t (l.take k)
      rw [List.length_take_of_le (by have := HLEN.out; omega)] at hcl
      generalize cnt (l.take k) t = q at *
      have HCS := Lib.hid hcs
      clear ha hbr hc0 hc1 hc2 hc3 hc4 hc5 hcs
      by_cases ht : a.thread = t
      · have e1 : (a.thread == t) = true := by simpa using ht
        by_cases h0 : a.kind = 0
        · have e2 : (a.kind == 0) = true := by simpa using h0
          have e3 : (a.kind == 2) = false := by simp [h0]
          have HV := Lib.hid (show dl t a = 1 by simp [dl, *])
          have HV2 := Lib.hid (HCS.out.trans (congrArg (q + ·) HV.out))
          clear HCS HV ht h0
          go_wp2_with fail
          go_roundw
          case rel => refine ⟨k + 1, by omega, by go_num, ?_, HB2.out⟩; first | (rw [HV2.out]; done) | (rw [HV2.out]; congr 1; done) | (rw [HV2.out]; congr 1; omega)
          case measure => simp [intOf]; omega
        · have e2 : (a.kind == 0) = false := by simpa using h0
          by_cases h2 : a.kind = 2
          · have e3 : (a.kind == 2) = true := by simpa using h2
            have HV := Lib.hid (show dl t a = -1 by simp [dl, *])
            have HV2 := Lib.hid (HCS.out.trans (congrArg (q + ·) HV.out))
            clear HCS HV ht h0 h2
            go_wp2_with fail
            go_roundw
            case rel => refine ⟨k + 1, by omega, by go_num, ?_, HB2.out⟩; first | (rw [HV2.out]; done) | (rw [HV2.out]; congr 1; done) | (rw [HV2.out]; congr 1; omega)
            case measure => simp [intOf]; omega
          · have e3 : (a.kind == 2) = false := by simpa using h2
            have HV := Lib.hid (show dl t a = 0 by simp [dl, *])
            have HV2 := Lib.hid (HCS.out.trans (congrArg (q + ·) HV.out))
            clear HCS HV ht h0 h2
            go_wp2_with fail
            go_roundw
            case rel => refine ⟨k + 1, by omega, by go_num, ?_, HB2.out⟩; first | (rw [HV2.out]; done) | (rw [HV2.out]; congr 1; done) | (rw [HV2.out]; congr 1; omega)
            case measure => simp [intOf]; omega
      · have e1 : (a.thread == t) = false := by simpa using ht
        have HV := Lib.hid (show dl t a = 0 by simp [dl, *])
        have HV2 := Lib.hid (HCS.out.trans (congrArg (q + ·) HV.out))
        clear HCS HV ht
        go_wp2_with fail
        go_roundw
        case rel => refine ⟨k + 1, by omega, by go_num, ?_, HB2.out⟩; first | (rw [HV2.out]; done) | (rw [HV2.out]; congr 1; done) | (rw [HV2.out]; congr 1; omega)
        case measure => simp [intOf]; omega
    · obtain rfl : k = n := by omega
      have ht : l.take k = l := List.take_of_length_le (by have := HLEN.out; omega)
      rw [ht]
      clear ht
      go_wp2_with fail
      go_ret
      exact ⟨rfl, hbr⟩
end Go.Proofs.YtmnjdmcocifogaaGreatDoor.Hi
