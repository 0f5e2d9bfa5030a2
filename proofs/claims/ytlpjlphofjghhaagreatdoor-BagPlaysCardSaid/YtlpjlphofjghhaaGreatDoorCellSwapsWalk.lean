/- The walk of hackneylaw02.CellSwaps. -/
import Derived.Test.YtlpjlphofjghhaaGreatDoorBase1
import Derived.Test.YtlpjlphofjghhaaGreatDoorWordRef
namespace Go.Proofs.YtlpjlphofjghhaaGreatDoor.Wd
open Go.ChangeShapes Go.WideShapes Go.ChangeAt Go.RowKit
set_option linter.unusedVariables false

theorem rswap_any (v o t : Int) (w : World) (o0 : 0 ≤ o) (o1 : o ≤ 18446744073709551615) (t0 : -9223372036854775808 ≤ t) (t1 : t ≤ 9223372036854775807) :
    Calls Tryz.prog 51 #[.int .u64 v, .int .u64 o, .int .i64 t] w fun e w' => e = .returned (.tuple #[.int .u64 (wSwap v o t), .bool (wSwapOk v o t)]) ∧ w = w' := by
  cases hm : wMay (o % 4) t
  · have H := Lib.hid hm
    have e1 := Lib.hid (show wSwap v o t = v by simp [wSwap, hm])
    have e2 := Lib.hid (show wSwapOk v o t = false by simp [wSwapOk, hm])
    clear hm
    rw [e1.out, e2.out]
    by_cases hv : v = o
    · have hb : (v != o) = false := by simpa using hv
      clear hv
      go_enter Tryz.func51, Tryz.ntmps51
      go_wp2_with fail
      refine (rto_any _ _ _ o0 o1 t0 t1).mono ?_
      rintro e w' ⟨rfl, rfl⟩
      rw [H.out]
      go_wp2_with fail
      go_ret2
      exact ⟨rfl, rfl⟩
    · have hb : (v != o) = true := by simpa using hv
      clear hv
      go_enter Tryz.func51, Tryz.ntmps51
      go_wp2_with fail
      refine (rto_any _ _ _ o0 o1 t0 t1).mono ?_
      rintro e w' ⟨rfl, rfl⟩
      go_wp2_with fail
      go_ret2
      exact ⟨rfl, rfl⟩
  · have H := Lib.hid hm
    by_cases hv : v = o
    · have hb : (v != o) = false := by simpa using hv
      have e1 := Lib.hid (show wSwap v o t = wTo o t by simp [wSwap, hm, hv])
      have e2 := Lib.hid (show wSwapOk v o t = true by simp [wSwapOk, hm, hv])
      clear hm hv
      rw [e1.out, e2.out]
      go_enter Tryz.func51, Tryz.ntmps51
      go_wp2_with fail
      refine (rto_any _ _ _ o0 o1 t0 t1).mono ?_
      rintro e w' ⟨rfl, rfl⟩
      rw [H.out]
      go_wp2_with fail
      go_ret2
      exact ⟨rfl, rfl⟩
    · have hb : (v != o) = true := by simpa using hv
      have e1 := Lib.hid (show wSwap v o t = v by simp [wSwap, hv])
      have e2 := Lib.hid (show wSwapOk v o t = false by simp [wSwapOk, hv])
      clear hv hm
      rw [e1.out, e2.out]
      go_enter Tryz.func51, Tryz.ntmps51
      go_wp2_with fail
      refine (rto_any _ _ _ o0 o1 t0 t1).mono ?_
      rintro e w' ⟨rfl, rfl⟩
      go_wp2_with fail
      go_ret2
      exact ⟨rfl, rfl⟩

theorem block_lt {w : World} {a : Addr} {v : Value} (h : w.cell? a = some v) : a.block < w.heap.size := by
  unfold World.cell? at h
  cases hb : w.heap[a.block]? with
  | none => rw [hb] at h; cases h
  | some o => exact (Array.getElem?_eq_some_iff.1 hb).1

theorem two_new (wr : World) (b : Nat) (x o s : Int) (l c : Bool) (T U : TypeId) (hx : wr.cell? ⟨b, 0, none⟩ = some (.int .u64 x)) (hf : wr.frozen? ⟨b, 0, none⟩ = false) :
    ((wr.alloc (.cells #[.int .u64 o, .int .i64 s, .bool l, .bool c] T)).alloc (.cells #[.int .u64 x] U)).cell? ⟨b, 0, none⟩ = some (.int .u64 x) ∧
    ((wr.alloc (.cells #[.int .u64 o, .int .i64 s, .bool l, .bool c] T)).alloc (.cells #[.int .u64 x] U)).frozen? ⟨b, 0, none⟩ = false ∧
    ((wr.alloc (.cells #[.int .u64 o, .int .i64 s, .bool l, .bool c] T)).alloc (.cells #[.int .u64 x] U)).cell? ⟨wr.heap.size + 1, 0, none⟩ = some (.int .u64 x) ∧
    ((wr.alloc (.cells #[.int .u64 o, .int .i64 s, .bool l, .bool c] T)).alloc (.cells #[.int .u64 x] U)).frozen? ⟨wr.heap.size + 1, 0, none⟩ = false ∧
    ((wr.alloc (.cells #[.int .u64 o, .int .i64 s, .bool l, .bool c] T)).alloc (.cells #[.int .u64 x] U)).cell? ⟨wr.heap.size, 0, none⟩ = some (.int .u64 o) ∧
    ((wr.alloc (.cells #[.int .u64 o, .int .i64 s, .bool l, .bool c] T)).alloc (.cells #[.int .u64 x] U)).cell? ⟨wr.heap.size, 1, none⟩ = some (.int .i64 s) ∧
    ((wr.alloc (.cells #[.int .u64 o, .int .i64 s, .bool l, .bool c] T)).alloc (.cells #[.int .u64 x] U)).cell? ⟨wr.heap.size, 2, none⟩ = some (.bool l) ∧
    ((wr.alloc (.cells #[.int .u64 o, .int .i64 s, .bool l, .bool c] T)).alloc (.cells #[.int .u64 x] U)).frozen? ⟨wr.heap.size, 0, none⟩ = false := by
  have hbs : b < wr.heap.size := block_lt hx
  refine ⟨?_, ?_, ?_, ?_, ?_, ?_, ?_, ?_⟩ <;> go_simp

end Go.Proofs.YtlpjlphofjghhaaGreatDoor.Wd
