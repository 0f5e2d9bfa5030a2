/- A part of the claim: the texts FltD. -/
import Derived.Test.YthmdiaingolfnaaGreatDoorZFltC
namespace Go.Proofs.YthmdiaingolfnaaGreatDoor.Ff
open Go.ChangeShapes Go.WideShapes Go.ChangeAt Go.RowKit Rw Go.Shelf Go.Sort
set_option linter.unusedVariables false
theorem info_u8 : (Tryz.prog.info? 5).map (fun i => (i.zero, i.size, i.bytes)) = some (some (.int .u8 0), 1, 1) := by kernel_rfl
theorem one_u8 (y : Int) : (Value.int .u8 y).oneCell' = true := rfl
structure Ap (base hb : Nat) (ds : List Int) (w0 : World) (l : List Int) (A : Option Addr) (n c : Nat) (w : World) : Prop where
  own : w.ownsRow base 5 1 (.slice A n c) n (l.map (Value.int .u8))
  ne : (Value.slice A n c).ownBlock ≠ some hb
  lt : hb < w.heap.size
  dig : ∀ j x, ds[j]? = some x → w.cell? ⟨hb, j, none⟩ = some (.int .u8 x)
  bel : Below base w0 w
  bs : base ≤ w.heap.size
  few : n ≤ 1000
theorem Ap.len {base hb : Nat} {ds : List Int} {w0 : World} {l : List Int} {A : Option Addr} {n c : Nat} {w : World} (h : Ap base hb ds w0 l A n c w) : l.length = n := by
  have := h.own.1; simpa using this
section
variable {ops : Array Oper} {rest : List Oper} {o : Oper} {a : Act} {Q : Exit → Act → World → Prop}
theorem Ap.app {base hb : Nat} {ds : List Int} {w0 : World} {l : List Int} {A : Option Addr} {n c : Nat} {w : World} (h : Ap base hb ds w0 l A n c w) (b : Int) (hgd : o.guard = none) (s x : Operand)
    (ho : o.op = .call { callee := .builtin .append, args := #[s, x], argTypes := #[79, 79] }) (hs : a.eval s = .slice A n c) (hx : a.eval x = .slice (some ⟨w.heap.size, 0, none⟩) 1 1) (few : n + 1 ≤ 1000) (k : Nat) (hk : n + 1 = k)
    (K : ∀ A' c' w', Ap base hb ds w0 (l ++ [b]) A' k c' w' → wpList Tryz.prog ops Q rest (a.put o.dst (.slice A' k c')) w') : wpList Tryz.prog ops Q (o :: rest) a (w.alloc (.cells #[.int .u8 b] 5)) := by
  subst hk
  obtain ⟨i0, hi, hz0, hz1, hz2⟩ := info_parts info_u8
  have hrd : Rd (Value.int .u8) (w.alloc (.cells #[.int .u8 b] 5)) (w.heap.size + 1) (some ⟨w.heap.size, 0, none⟩) 1 1 [b] := rd_one (enc := Value.int .u8) w b 5
  refine append_rd _ hgd s x 79 ho base 5 i0 (.int .u8 0) 1 Tryz.underlying79 hi hz0 hz1 hz2 rfl _ n _ hs (h.own.alloc _) _ _ 1 1 [b] hx hrd one_u8 (n + 1) rfl ((l ++ [b]).map (Value.int .u8)) (by simp) (by unfold maxLen; omega) (by omega) (by have := h.bs; simp; omega) ?_
  intro A' c' w' h1 h2 h3
  refine K A' c' w' ⟨h1, ?_, ?_, fun j y hy => ?_, ?_, ?_, few⟩
  · intro e
    rcases h3 with h3 | h3
    · exact h.ne (h3.symm.trans e)
    · rw [h3] at e
      injection e with e
      have := h.lt
      simp at e
      omega
  · have := h2.size; have := h.lt; simp at *; omega
  · exact h2.cell (alloc_cell (h.dig j y hy) _) (fun e => h.ne e.symm)
  · exact ((h.bel).alloc h.bs _).grown h2 (by have := h.bs; simp; omega) (fun g hg => (h.own.lt g hg).1)
  · have := h2.size; have := h.bs; simp at *; omega
end
set_option maxHeartbeats 4000000 in
set_option maxRecDepth 100000 in
theorem efg_quarter (base hb : Nat) (ds : List Int) (w0 w : World) (A : Option Addr) (c : Nat) (h : Ap base hb ds w0 [] A 0 c w) (h0 : ds[0]? = some 50) (h1 : ds[1]? = some 53) :
    Calls Tryz.prog 226 #[.slice A 0 c, .bool false, .slice (some ⟨hb, 0, none⟩) 32 32, .int .i64 0, .int .i64 2, .int .i64 2, .int .u8 103, .bool true] w fun e w' => ∃ A' c', e = .returned (.slice A' 4 c') ∧ Ap base hb ds w0 [48, 46, 50, 53] A' 4 c' w' := by
  have H := Lib.hid h
  have H0 := Lib.hid h0
  have H1 := Lib.hid h1
  clear h h0 h1
  have m1 : max (2 : Int) 0 = 2 := by decide
  have m2 : max (0 : Int) 0 = 0 := by decide
  have m3 : min (2 : Int) 0 = 0 := by decide
  have m4 : max (0 : Int) 2 = 2 := by decide
  have m5 : min (2 : Int) 2 = 2 := by decide
  go_enter Tryz.func226, Tryz.ntmps226
  go_wp2_with (at_builtin; (refine Ap.app H.out 48 rfl _ _ rfl rfl rfl (by omega) 1 rfl ?_; intro A1 c1 w1 hap; refine Hid.out ?_))
  refine Lib.hid ?_
  have HA1 := Lib.hid hap
  clear hap
  go_wp2_with (at_builtin; (refine Ap.app HA1.out 46 rfl _ _ rfl rfl rfl (by omega) 2 rfl ?_; intro A2 c2 w2 hap))
  have HA2 := Lib.hid hap
  clear hap H HA1
  go_wp2_with fail
  go_loopw [0, 240] (fun u0 u1 wr => u0 = .slice A2 2 c2 ∧ u1 = .int .i64 0 ∧ Hid (wr = w2)) (fun _ _ _ => 0)
  case atStart => exact ⟨rfl, rfl, rfl⟩
  case round =>
    obtain ⟨rfl, rfl, hw⟩ := hrel
    have hw' := hw.out
    subst hw'
    clear hw
    go_wp2_with fail
    go_loopw [0, 30, 247] (fun u0 _ u1 wr => ∃ (q : Nat) (A9 : Option Addr) (c9 n9 : Nat), q ≤ 2 ∧ n9 = 2 + q ∧ u0 = .slice A9 n9 c9 ∧ u1 = .int .i64 q ∧ Hid (Ap base hb ds w0 ([48, 46] ++ [50, 53].take q) A9 n9 c9 wr)) (fun _ _ u1 _ => 2 - (intOf u1).toNat)
    case atStart => exact ⟨0, A2, c2, 2, by omega, by omega, rfl, rfl, HA2.out⟩
    case round =>
      clear HA2
      obtain ⟨q, A9, c9, n9, hq, hn9, rfl, rfl, hap⟩ := hrel
      by_cases hqr : q < 2
      · have qd : decide ((q : Int) < 2) = true := decide_eq_true (by omega)
        obtain ⟨x, hx, hy⟩ : ∃ x : Int, ds[q]? = some x ∧ [48, 46] ++ [50, 53].take q ++ [x] = [48, 46] ++ [50, 53].take (q + 1) := by
          match q, hqr with
          | 0, _ => exact ⟨50, H0.out, rfl⟩
          | 1, _ => exact ⟨53, H1.out, rfl⟩
        have hc := hap.out.dig q x hx
        have b0 : (0 : Int) ≤ (q : Int) := by omega
        have b1 : (q : Int) < 32 := by omega
        have HY := Lib.hid hy
        clear hx hy
        go_wp2_with (at_builtin; (refine Ap.app hap.out x rfl _ _ rfl rfl rfl (by omega) _ rfl ?_; intro A8 c8 w8 hap8))
        have H8 := Lib.hid hap8
        clear hap8
        go_roundw
        case rel => exact ⟨q + 1, A8, c8, 2 + q + 1, by omega, by omega, rfl, by go_num, by rw [← HY.out, ← hn9]; exact H8⟩
        case measure => simp [intOf]; omega
      · have qd : decide ((q : Int) < 2) = false := decide_eq_false (by omega)
        obtain rfl : q = 2 := by omega
        obtain rfl : n9 = 4 := by omega
        go_wp2_with fail
        obtain ⟨wq, hwq⟩ : ∃ wq, wq = wr := ⟨_, rfl⟩
        rw [← hwq] at hap
        subst hwq
        go_loopw [0, 261] (fun u0 u1 wx => u0 = .slice A9 4 c9 ∧ u1 = .int .i64 0 ∧ Hid (wx = wq)) (fun _ _ _ => 0)
        case atStart => exact ⟨rfl, rfl, rfl⟩
        case round =>
          obtain ⟨rfl, rfl, hw⟩ := hrel
          have hw' := hw.out
          subst hw'
          clear hw
          go_wp2_with fail
          go_ret
          exact ⟨A9, c9, rfl, hap.out⟩
end Go.Proofs.YthmdiaingolfnaaGreatDoor.Ff
