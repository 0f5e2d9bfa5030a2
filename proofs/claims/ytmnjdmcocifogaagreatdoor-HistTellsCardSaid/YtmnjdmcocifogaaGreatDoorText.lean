/- The text of an event. -/
import Derived.Test.YtmnjdmcocifogaaGreatDoorLayText
import Derived.Test.YtmnjdmcocifogaaGreatDoorStab
import Derived.WalkKit
import Derived.ProofKit
import Derived.BigGuardPart
import Derived.Outline
import Derived.Lib.Hide
import Derived.WalkSpells
import Derived.RegionTactic
namespace Go.Proofs.YtmnjdmcocifogaaGreatDoor.Tx
open Go.ChangeShapes Go.WideShapes Go.ChangeAt Go.RowKit Rw Go.Shelf Go.Sort
set_option linter.unusedVariables false

/-- The table of powers of ten lies where the program laid it. -/
def Tab (w : World) : Prop := Lib.TabIs Tryz.prog w "internal/strconv.uint64pow10" .u64 Lib.pow10Tab
theorem Tab.below {w w' : World} (h : Tab w) (hb : Below w.heap.size w w') : Tab w' := by
  unfold Tab Lib.TabIs World.var? at *
  cases hg : Tryz.prog.globalNamed "internal/strconv.uint64pow10" with
  | none => simp [hg] at h
  | some g =>
    simp only [hg, Option.bind_some] at h ⊢
    have hlt : g < w.heap.size := by
      rcases Nat.lt_or_ge g w.heap.size with h' | h'
      · exact h'
      · rw [Array.getElem?_eq_none h'] at h; simp at h
    rw [hb.block g hlt]
    exact h
theorem below_grow (w : World) (k : Nat) (os : Array Obj) : Below w.heap.size w (grow (w.drewN k) os) :=
  ⟨rfl, rfl, rfl, by simp, fun j hj => heap_grow_old (w.drewN k) os hj⟩
def bts (l : List UInt8) : ByteArray := ⟨l.toArray⟩

theorem itoa_any (n : Int) (h0 : -9223372036854775808 ≤ n) (h1 : n ≤ 9223372036854775807) (w : World) (hT : Tab w) :
    Calls Tryz.prog 45 #[.int .i64 n] w fun e w' => e = .returned (.string (bts (Lib.itoa n))) ∧ Below w.heap.size w w' :=
  (Any.strconv_Itoa txItoa n h0 h1 w hT).mono fun e w' ⟨h, k, os, hw⟩ => ⟨h, hw ▸ below_grow w k os⟩

set_option maxHeartbeats 4000000 in
set_option maxRecDepth 100000 in
/-- FormatUint at base 10: walked over the shelf's contracts of what it calls. -/
theorem fu_any (u : Nat) (hu64 : u < 18446744073709551616) (w : World) (hT : Tab w) :
    Calls Tryz.prog 62 #[.int .u64 u, .int .i64 10] w fun e w' => e = .returned (.string (bts (Lib.itoa u))) ∧ Below w.heap.size w w' := by
  by_cases hs : u < 100
  · have hd : decide ((u : Int) < 100) = true := decide_eq_true (by omega)
    go_enter Tryz.func62, Tryz.ntmps62
    go_wp2_with fail
    refine (Any.internal_strconv_small (P := Tryz.prog) (ρ := txRen) { txItoa with } u hs _).mono ?_
    rintro e w' ⟨rfl, rfl⟩
    go_wp2_with fail
    go_ret
    exact ⟨by rw [Lib.itoa_nonneg]; rfl, Below.refl _ _⟩
  · have hu1 : 1 ≤ u := by omega
    have hd : decide ((u : Int) < 100) = false := decide_eq_false (by omega)
    have hnd20 : Lib.nDigits u ≤ 20 := by have := Lib.numDigits_eq u hu1 hu64; split at this <;> omega
    have hb3 : Lib.nDigits u ≤ 24 := by omega
    have hal : Tryz.prog.arrayLen 132 = 24 := by kernel_rfl
    have hsl : ∀ W, (Instr.sliceAt 132 (.pointer (some ⟨w.heap.size, 0, none⟩)) none (some (.int .i64 (Lib.nDigits u : Int))) none).run Tryz.prog W = .ok (.slice (some ⟨w.heap.size, 0, none⟩) (Lib.nDigits u) 24) W := fun W => by
      rw [run_sliceAt_array_h W 132 ⟨w.heap.size, 0, none⟩ (by simp [Program.arrayLen, Program.elem, Tryz.underlying132]) .i64 (Lib.nDigits u : Int) (by omega) (by rw [hal]; omega)]
      go_simp
    have hH0 : Holds (fun (b : UInt8) => Value.int .u8 (b.toNat : Int)) (w.alloc (.cells Lib.zeros24 132)) w.heap.size 0 (Array.replicate (Lib.nDigits u) (0 : UInt8)) := fun j hj => by
      have hj' : j < Lib.nDigits u := by simpa using hj
      refine ⟨?_, World.frozen?_alloc_new _ _ _ _⟩
      rw [World.cell?_alloc_new, Nat.zero_add, Lib.zeros24_at j (by omega), getElem!_pos _ j hj]
      simp
    have hfmt := Any.internal_strconv_formatBase10 (P := Tryz.prog) (ρ := txRen) { txItoa with } w.heap.size 0 24 u (Array.replicate (Lib.nDigits u) 0) (w.alloc (.cells Lib.zeros24 132)) hH0 (by rw [Array.size_replicate]; exact Lib.lt_pow_nDigits u) hu64 (by rw [Array.size_replicate]; omega)
    rw [Array.size_replicate] at hfmt
    have HH0 := Lib.hid hH0
    clear hH0 hal
    go_enter Tryz.func62, Tryz.ntmps62
    go_wp2_with fail
    refine (Any.internal_strconv_numDigits (P := Tryz.prog) (ρ := txRen) { txItoa with } u hu1 hu64 _ (Lib.tabIs_alloc hT _)).mono ?_
    rintro e w' ⟨rfl, rfl⟩
    go_wp2_with fail
    refine hfmt.mono ?_
    rintro e w' ⟨rfl, k, v', dk, rfl, hF⟩
    have hcv : (convert 124 9 (.slice (some ⟨w.heap.size, 0, none⟩) (Lib.nDigits u) 24)).run Tryz.prog ((putRow (fun (b : UInt8) => Value.int .u8 (b.toNat : Int)) (w.alloc (.cells Lib.zeros24 132)) w.heap.size 0 dk).drewN k) = .ok (.string ⟨(Lib.decDigits u).toArray⟩) ((putRow (fun (b : UInt8) => Value.int .u8 (b.toNat : Int)) (w.alloc (.cells Lib.zeros24 132)) w.heap.size 0 dk).drewN k) := by
      have h := run_convert_bytes_back (P := Tryz.prog) ((putRow (fun (b : UInt8) => Value.int .u8 (b.toNat : Int)) (w.alloc (.cells Lib.zeros24 132)) w.heap.size 0 dk).drewN k) 124 9 5 ⟨w.heap.size, 0, none⟩ 24 (Lib.decDigits u) Tryz.underlying124 Tryz.underlying5 Tryz.underlying9 (fun j hj => by
        rw [Lib.row_is_numeral hF j hj, Lib.add_plain, World.cell?_drewN]
        exact cell?_putRow (fun (b : UInt8) => Value.int .u8 (b.toNat : Int)) _ w.heap.size 0 _ dk HH0.out (by rw [hF.size, Array.size_replicate]) j (by rw [hF.size]; rw [Lib.decDigits_length] at hj; exact hj))
      rw [Lib.decDigits_length] at h
      exact h
    go_wp2
    go_ret
    refine ⟨by rw [Lib.itoa_nonneg]; rfl, ?_⟩
    obtain ⟨os', _, e⟩ := putRow_grow_new (fun (b : UInt8) => Value.int .u8 (b.toNat : Int)) w #[.cells Lib.zeros24 132] w.heap.size 0 dk (Nat.le_refl _)
    rw [alloc_eq_grow, e]
    exact below_grow w k os'
theorem funit_any (n : Int) (h0 : 0 ≤ n) (h1 : n ≤ 18446744073709551615) (w : World) (hT : Tab w) :
    Calls Tryz.prog 44 #[.int .u64 n, .int .i64 10] w fun e w' => e = .returned (.string (bts (Lib.itoa n))) ∧ Below w.heap.size w w' := by
  obtain ⟨u, rfl⟩ : ∃ u : Nat, n = u := ⟨n.toNat, by omega⟩
  have hu : u < 18446744073709551616 := by omega
  go_enter Tryz.func44, Tryz.ntmps44
  go_wp2_with fail
  refine (fu_any u hu _ hT).mono ?_
  rintro e w' ⟨rfl, hb⟩
  go_wp2_with fail
  go_ret
  exact ⟨rfl, hb⟩

/-! ### Words -/
def pickw (n : Int) (ws : List ByteArray) : ByteArray := if n < 0 then bts [63] else ws.getD n.toNat (bts [63])
theorem named_any (n : Int) (A : Option Addr) (m c : Nat) (ws : List ByteArray) (B : Nat) (w : World) (h : Rd Value.string w B A m c ws) :
    Calls Tryz.prog 46 #[.int .i64 n, .slice A m c] w fun e w' => e = .returned (.string (pickw n ws)) ∧ w = w' := by
  have hl := h.len
  by_cases h0 : n < 0
  · have hd : decide (n < 0) = true := decide_eq_true h0
    have hp : pickw n ws = bts [63] := by unfold pickw; rw [if_pos h0]
    rw [hp]
    have HP := Lib.hid h
    clear h hl hp
    go_enter Tryz.func46, Tryz.ntmps46
    go_wp2_with fail
    go_ret
    exact ⟨rfl, rfl⟩
  · obtain ⟨k, rfl⟩ : ∃ k : Nat, n = k := ⟨n.toNat, by omega⟩
    have hd : decide ((k : Int) < 0) = false := decide_eq_false h0
    by_cases h1 : k < m
    · have hge : decide ((m : Int) ≤ (k : Int)) = false := decide_eq_false (by omega)
      obtain ⟨b, o, x, rfl, hb, hx, hc⟩ := h.get h1
      have hp : pickw k ws = x := by unfold pickw; rw [if_neg h0]; simp [hx]
      rw [hp]
      have HP := Lib.hid h
      clear h hl hp hx h0
      go_enter Tryz.func46, Tryz.ntmps46
      go_wp2_with fail
      go_ret
      exact ⟨rfl, rfl⟩
    · have hge : decide ((m : Int) ≤ (k : Int)) = true := decide_eq_true (by omega)
      have hp : pickw k ws = bts [63] := by unfold pickw; rw [if_neg h0]; simp [List.getElem?_eq_none (show ws.length ≤ k by omega)]
      rw [hp]
      have HP := Lib.hid h
      clear h hl hp h0
      go_enter Tryz.func46, Tryz.ntmps46
      go_wp2_with fail
      go_ret
      exact ⟨rfl, rfl⟩
theorem line_any (A : Option Addr) (m c : Nat) (ws : List ByteArray) (w : World) (h : Rd Value.string w w.heap.size A m c ws) (hm : 0 < m)
    (hlen : (Lib.join (ws.map (·.data.toList)) [32]).length ≤ 140737488355328) (hm2 : m ≤ 100) :
    Calls Tryz.prog 43 #[.slice A m c] w fun e w' => e = .returned (.string (bts (Lib.join (ws.map (·.data.toList)) [32]))) ∧ Below w.heap.size w w' := by
  obtain ⟨b, o, rfl, hb, hc⟩ := h.at_ hm
  have hl := h.len
  have hcap := h.cap
  have J := Any.strings_Join (P := Tryz.prog) (ρ := txRen) txJoin txExtra b o c ws (bts [32]) w hc hb (by omega) (by omega) hlen
  rw [hl] at J
  have HJ := Lib.hid J
  clear J h hc hl hlen
  go_enter Tryz.func43, Tryz.ntmps43
  go_wp2_with fail
  refine HJ.out.mono ?_
  rintro e w' ⟨rfl, hb'⟩
  go_wp2_with fail
  go_ret
  exact ⟨rfl, hb'⟩
end Go.Proofs.YtmnjdmcocifogaaGreatDoor.Tx
