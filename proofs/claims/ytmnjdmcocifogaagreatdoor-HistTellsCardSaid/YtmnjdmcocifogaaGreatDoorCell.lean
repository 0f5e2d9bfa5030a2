/- Contracts of the functions of layer 2 (cell), in one goroutine. -/
import Derived.Test.YtmnjdmcocifogaaGreatDoorWord
import Derived.Laws.LoneSync
import Derived.Laws.Pointers
namespace Go.Proofs.YtmnjdmcocifogaaGreatDoor.Wd
open Go.ChangeShapes Go.WideShapes Go.ChangeAt Go.RowKit
set_option linter.unusedVariables false

theorem aload_any (a : Addr) (v : Int) (w : World) (hc : w.cell? a = some (.int .u64 v)) :
    Calls Tryz.prog 167 #[.pointer (some a)] w fun e w' => e = .returned (.int .u64 v) ∧ w = w' := by
  have hl := run_call_load (P := Tryz.prog) Tryz.func173 (by kernel_rfl) (by kernel_rfl) (by kernel_rfl) .u64 (by kernel_rfl) hc
  obtain ⟨b, o, s⟩ := a
  go_enter Tryz.func167, Tryz.ntmps167
  go_wp2
  go_ret
  exact ⟨rfl, rfl⟩
theorem astore_any (a : Addr) (v y : Int) (w : World) (hc : w.cell? a = some (.int .u64 v)) (hf : w.frozen? a = false) :
    Calls Tryz.prog 161 #[.pointer (some a), .int .u64 y] w fun e w' => e = .returned (.tuple #[]) ∧ w.setCell a (.int .u64 y) = w' := by
  have hl := run_call_store (P := Tryz.prog) Tryz.func166 (by kernel_rfl) (by kernel_rfl) (by kernel_rfl) (by kernel_rfl) (k := .u64) (y := y) hc hf
  go_enter Tryz.func161, Tryz.ntmps161
  go_wp2
  go_end0
  exact ⟨rfl, rfl⟩
theorem acas_hit (a : Addr) (v y : Int) (w : World) (hc : w.cell? a = some (.int .u64 v)) (hf : w.frozen? a = false) :
    Calls Tryz.prog 164 #[.pointer (some a), .int .u64 v, .int .u64 y] w fun e w' => e = .returned (.bool true) ∧ w.setCell a (.int .u64 y) = w' := by
  have hl := run_call_cas_hit (P := Tryz.prog) Tryz.func172 (by kernel_rfl) (by kernel_rfl) (by kernel_rfl) .u64 (by kernel_rfl) (y := y) hc hf
  go_enter Tryz.func164, Tryz.ntmps164
  go_wp2
  go_ret
  exact ⟨rfl, rfl⟩
theorem load_any (a : Addr) (v : Int) (w : World) (hc : w.cell? a = some (.int .u64 v)) :
    Calls Tryz.prog 162 #[.pointer (some a)] w fun e w' => e = .returned (.int .u64 v) ∧ w = w' := by
  go_enter Tryz.func162, Tryz.ntmps162
  go_wp2_with fail
  refine (aload_any _ v _ hc).mono ?_
  rintro e w' ⟨rfl, rfl⟩
  go_wp2_with fail
  go_ret
  exact ⟨rfl, rfl⟩
theorem load_nil (w : World) :
    Calls Tryz.prog 162 #[.pointer none] w fun e w' => e = .returned (.int .u64 0) ∧ w = w' := by
  go_enter Tryz.func162, Tryz.ntmps162
  go_wp2_with fail
  go_ret
  exact ⟨rfl, rfl⟩
theorem new_any (v : Int) (w : World) :
    Calls Tryz.prog 158 #[.int .u64 v] w fun e w' => e = .returned (.pointer (some ⟨w.heap.size, 0, none⟩)) ∧ w.alloc (.cells #[.int .u64 v] 212) = w' := by
  go_enter Tryz.func158, Tryz.ntmps158
  go_wp2_with fail
  refine (astore_any _ 0 _ _ (by go_simp) (by go_simp)).mono ?_
  rintro e w' ⟨rfl, rfl⟩
  go_wp2_with fail
  go_ret
  exact ⟨rfl, by simp⟩
theorem swap_nil (o t : Int) (w : World) :
    Calls Tryz.prog 159 #[.pointer none, .int .u64 o, .int .i64 t] w fun e w' => e = .returned (.tuple #[.int .u64 0, .bool false]) ∧ w = w' := by
  go_enter Tryz.func159, Tryz.ntmps159
  go_wp2_with fail
  go_ret2
  exact ⟨rfl, rfl⟩
/-- It holds another word: what it holds is told; nothing is done. -/
theorem swap_other (a : Addr) (v o t : Int) (w : World) (hc : w.cell? a = some (.int .u64 v)) (o0 : 0 ≤ o) (o1 : o ≤ 18446744073709551615) (hne : v ≠ o) :
    Calls Tryz.prog 159 #[.pointer (some a), .int .u64 o, .int .i64 t] w fun e w' => e = .returned (.tuple #[.int .u64 v, .bool false]) ∧ w = w' := by
  have hb : (v != o) = true := by rw [bne_iff_ne]; exact hne
  clear hne
  go_enter Tryz.func159, Tryz.ntmps159
  go_wp2_with fail
  refine (load_any _ v _ hc).mono ?_
  rintro e w' ⟨rfl, rfl⟩
  go_wp2_with fail
  refine (to_any _ _ _ o0 o1).mono ?_
  rintro e w' ⟨rfl, rfl⟩
  go_wp2_with fail
  go_ret2
  exact ⟨rfl, rfl⟩
/-- It holds that word, which may not go on: nothing is done. -/
theorem swap_maynot (a : Addr) (o t : Int) (w : World) (hc : w.cell? a = some (.int .u64 o)) (o0 : 0 ≤ o) (o1 : o ≤ 18446744073709551615) (hm : wMay (o % 4) t = false) :
    Calls Tryz.prog 159 #[.pointer (some a), .int .u64 o, .int .i64 t] w fun e w' => e = .returned (.tuple #[.int .u64 o, .bool false]) ∧ w = w' := by
  have H := Lib.hid hm
  clear hm
  go_enter Tryz.func159, Tryz.ntmps159
  go_wp2_with fail
  refine (load_any _ o _ hc).mono ?_
  rintro e w' ⟨rfl, rfl⟩
  go_wp2_with fail
  refine (to_any _ _ _ o0 o1).mono ?_
  rintro e w' ⟨rfl, rfl⟩
  rw [H.out]
  go_wp2_with fail
  go_ret2
  exact ⟨rfl, rfl⟩
/-- It holds that word, which goes on. -/
theorem swap_goes (a : Addr) (o t : Int) (w : World) (hc : w.cell? a = some (.int .u64 o)) (hf : w.frozen? a = false) (o0 : 0 ≤ o) (o1 : o ≤ 18446744073709551615) (hm : wMay (o % 4) t = true) :
    Calls Tryz.prog 159 #[.pointer (some a), .int .u64 o, .int .i64 t] w fun e w' => e = .returned (.tuple #[.int .u64 (wTo o t), .bool true]) ∧ w.setCell a (.int .u64 (wTo o t)) = w' := by
  have H := Lib.hid hm
  clear hm
  go_enter Tryz.func159, Tryz.ntmps159
  go_wp2_with fail
  refine (load_any _ o _ hc).mono ?_
  rintro e w' ⟨rfl, rfl⟩
  go_wp2_with fail
  refine (to_any _ _ _ o0 o1).mono ?_
  rintro e w' ⟨rfl, rfl⟩
  rw [H.out]
  go_wp2_with fail
  refine (acas_hit _ _ _ _ hc hf).mono ?_
  rintro e w' ⟨rfl, rfl⟩
  go_wp2_with fail
  go_ret2
  exact ⟨rfl, rfl⟩
/-- What a cell that holds v holds behind Swap(o, t). -/
def wSwap (v o t : Int) : Int := if v = o ∧ wMay (o % 4) t = true then wTo o t else v
def wSwapOk (v o t : Int) : Bool := decide (v = o) && wMay (o % 4) t
theorem wSwap_lo (v o t : Int) (h : 0 ≤ v) : 0 ≤ wSwap v o t := by
  unfold wSwap; split
  · next h' => exact wTo_lo _ _ (by omega)
  · exact h
theorem wSwap_hi (v o t : Int) (h : v ≤ 18446744073709551615) : wSwap v o t ≤ 18446744073709551615 := by
  unfold wSwap; split
  · next h' => exact wTo_hi _ _ (by omega)
  · exact h
theorem setCell_self {w : World} {a : Addr} {v : Value} (h : w.cell? a = some v) : w.setCell a v = w := by
  have hh : (w.setCell a v).heap = w.heap := by
    apply Array.ext
    · simp [World.setCell]
    intro i h1 h2
    simp only [World.setCell, Array.getElem_modify]
    split
    · next hi =>
      subst hi
      unfold World.cell? at h
      rw [Array.getElem?_eq_getElem h2] at h
      split at h
      · next c e f hc =>
        simp only [Option.some.injEq] at hc
        rw [hc]
        split at h
        · cases h
        · next hs =>
          simp only [if_neg hs]
          congr 1
          obtain ⟨hlt, hv⟩ := Array.getElem?_eq_some_iff.1 h
          apply Array.ext
          · simp
          intro j h3 h4
          rw [Array.getElem_setIfInBounds]
          split
          · next hj => subst hj; exact hv.symm
          · rfl
      · cases h
    · rfl
  have he : w.setCell a v = { w with heap := (w.setCell a v).heap } := rfl
  rw [he, hh]
/-- Swap of a cell that holds v, whatever is asked. -/
theorem swap_any (a : Addr) (v o t : Int) (w : World) (hc : w.cell? a = some (.int .u64 v)) (hf : w.frozen? a = false) (o0 : 0 ≤ o) (o1 : o ≤ 18446744073709551615) :
    Calls Tryz.prog 159 #[.pointer (some a), .int .u64 o, .int .i64 t] w fun e w' => e = .returned (.tuple #[.int .u64 (wSwap v o t), .bool (wSwapOk v o t)]) ∧ w.setCell a (.int .u64 (wSwap v o t)) = w' := by
  by_cases hv : v = o
  · subst hv
    cases hm : wMay (v % 4) t
    · refine (swap_maynot a v t w hc o0 o1 hm).mono fun e w' ⟨he, hw⟩ => ?_
      have e1 : wSwap v v t = v := by simp [wSwap, hm]
      have e2 : wSwapOk v v t = false := by simp [wSwapOk, hm]
      rw [e1, e2, setCell_self hc]; exact ⟨he, hw⟩
    · refine (swap_goes a v t w hc hf o0 o1 hm).mono fun e w' ⟨he, hw⟩ => ?_
      have e1 : wSwap v v t = wTo v t := by simp [wSwap, hm]
      have e2 : wSwapOk v v t = true := by simp [wSwapOk, hm]
      rw [e1, e2]; exact ⟨he, hw⟩
  · refine (swap_other a v o t w hc o0 o1 hv).mono fun e w' ⟨he, hw⟩ => ?_
    have e1 : wSwap v o t = v := by simp [wSwap, hv]
    have e2 : wSwapOk v o t = false := by simp [wSwapOk, hv]
    rw [e1, e2, setCell_self hc]; exact ⟨he, hw⟩
theorem Awake_any (w : World) :
    Calls Tryz.prog 160 #[] w fun e w' => e = .returned (.bool true) ∧ w = w' := by
  go_enter Tryz.func160, Tryz.ntmps160
  go_wp2_with fail
  refine (awake_any _).mono ?_
  rintro e w' ⟨rfl, rfl⟩
  go_wp2_with fail
  go_ret
  exact ⟨rfl, rfl⟩
theorem awake2_any (w : World) :
    Calls Tryz.prog 155 #[] w fun e w' => e = .returned (.bool true) ∧ w.alloc (.cells #[.int .u64 25] 212) = w' := by
  go_enter Tryz.func155, Tryz.ntmps155
  go_wp2_with fail
  refine (new_any _ _).mono ?_
  rintro e w' ⟨rfl, rfl⟩
  go_wp2_with fail
  refine (swap_goes _ _ _ _ (by go_simp) (by go_simp) (by decide) (by decide) (by decide)).mono ?_
  rintro e w' ⟨rfl, rfl⟩
  rw [show wTo 20 1 = 25 by decide]
  go_wp2_with fail
  refine (swap_other _ 25 _ _ _ (by go_simp) (by decide) (by decide) (by decide)).mono ?_
  rintro e w' ⟨rfl, rfl⟩
  go_wp2_with fail
  refine (Awake_any _).mono ?_
  rintro e w' ⟨rfl, rfl⟩
  go_wp2_with fail
  go_ret
  exact ⟨rfl, rfl⟩
end Go.Proofs.YtmnjdmcocifogaaGreatDoor.Wd
