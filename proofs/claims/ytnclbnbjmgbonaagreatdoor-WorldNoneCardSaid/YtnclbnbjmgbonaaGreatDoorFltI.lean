/- strconv.FormatFloat: the digits as a text, in general. -/
import Derived.Test.YtnclbnbjmgbonaaGreatDoorFltD
import Derived.Deep.CutRange
import Derived.Deep.CutBlock
namespace Go.Proofs.YtnclbnbjmgbonaaGreatDoor.Ff
open Go.ChangeShapes Go.WideShapes Go.ChangeAt Go.RowKit Go.Deep Rw Go.Shelf Go.Sort
set_option linter.unusedVariables false

theorem Ap.alloc {base hb : Nat} {ds : List Int} {w0 : World} {l : List Int} {A : Option Addr} {n c : Nat} {w : World} (h : Ap base hb ds w0 l A n c w) (o : Obj) : Ap base hb ds w0 l A n c (w.alloc o) :=
  ⟨h.own.alloc _, h.ne, by have := h.lt; simp; omega, fun j x hx => alloc_cell (h.dig j x hx) _, h.bel.alloc h.bs _, by have := h.bs; simp; omega, h.few⟩
/-- Two, three bytes that are laid. -/
theorem rd_two (w : World) (x y : Int) (t : TypeId) : Rd (Value.int .u8) (w.alloc (.cells #[.int .u8 x, .int .u8 y] t)) (w.heap.size + 1) (some ⟨w.heap.size, 0, none⟩) 2 2 [x, y] :=
  ⟨rfl, Nat.le_refl _, by omega, fun _ => ⟨w.heap.size, 0, rfl, by omega, fun j z hz => by
    match j, hz with
    | 0, hz => injection hz with hz; subst hz; rw [World.cell?_alloc_new]; rfl
    | 1, hz => injection hz with hz; subst hz; rw [World.cell?_alloc_new]; rfl
    | j + 2, hz => simp at hz⟩⟩
theorem rd_three (w : World) (x y z : Int) (t : TypeId) : Rd (Value.int .u8) (w.alloc (.cells #[.int .u8 x, .int .u8 y, .int .u8 z] t)) (w.heap.size + 1) (some ⟨w.heap.size, 0, none⟩) 3 3 [x, y, z] :=
  ⟨rfl, Nat.le_refl _, by omega, fun _ => ⟨w.heap.size, 0, rfl, by omega, fun j u hu => by
    match j, hu with
    | 0, hu => injection hu with hu; subst hu; rw [World.cell?_alloc_new]; rfl
    | 1, hu => injection hu with hu; subst hu; rw [World.cell?_alloc_new]; rfl
    | 2, hu => injection hu with hu; subst hu; rw [World.cell?_alloc_new]; rfl
    | j + 3, hu => simp at hu⟩⟩
section
variable {ops : Array Oper} {rest : List Oper} {o : Oper} {a : Act} {Q : Exit → Act → World → Prop}
/-- append(dst, bs...) -/
theorem Ap.appR {base hb : Nat} {ds : List Int} {w0 : World} {l : List Int} {A : Option Addr} {n c : Nat} {w : World} (h : Ap base hb ds w0 l A n c w) (hgd : o.guard = none) (s x : Operand)
    (ho : o.op = .call { callee := .builtin .append, args := #[s, x], argTypes := #[324, 324] }) (hs : a.eval s = .slice A n c) (B : Nat) (A2 : Option Addr) (m c2 : Nat) (ys : List Int) (hx : a.eval x = .slice A2 m c2) (hr : Rd (Value.int .u8) w B A2 m c2 ys) (few : n + m ≤ 1000) (k : Nat) (hk : n + m = k)
    (K : ∀ A' c' w', Ap base hb ds w0 (l ++ ys) A' k c' w' → wpList Tryz.prog ops Q rest (a.put o.dst (.slice A' k c')) w') : wpList Tryz.prog ops Q (o :: rest) a w := by
  subst hk
  obtain ⟨i0, hi, hz0, hz1, hz2⟩ := info_parts info_u8
  refine append_rd _ hgd s x 324 ho base 5 i0 (.int .u8 0) 1 Tryz.underlying324 hi hz0 hz1 hz2 rfl _ n _ hs h.own _ _ m c2 ys hx hr one_u8 (n + m) rfl ((l ++ ys).map (Value.int .u8)) (by simp) (by unfold maxLen; omega) (by omega) h.bs ?_
  intro A' c' w' h1 h2 h3
  refine K A' c' w' ⟨h1, ?_, ?_, fun j y hy => ?_, ?_, ?_, few⟩
  · intro e
    rcases h3 with h3 | h3
    · exact h.ne (h3.symm.trans e)
    · rw [h3] at e
      injection e with e
      have := h.lt
      omega
  · have := h2.size; have := h.lt; omega
  · exact h2.cell (h.dig j y hy) (fun e => h.ne e.symm)
  · exact h.bel.grown h2 h.bs (fun g hg => (h.own.lt g hg).1)
  · have := h2.size; have := h.bs; omega
end
/-- Digits that stand behind others. -/
theorem Ap.digits {base hb : Nat} {ds : List Int} {w0 : World} {l : List Int} {A : Option Addr} {n c : Nat} {w : World} (h : Ap base hb ds w0 l A n c w) (i m c2 : Nat) (him : i + m ≤ ds.length) (hc : m ≤ c2) (hc2 : c2 ≤ 100) : Rd (Value.int .u8) w w.heap.size (some ⟨hb, i, none⟩) m c2 ((ds.take (i + m)).drop i) :=
  ⟨by simp; omega, hc, by omega, fun _ => ⟨hb, i, rfl, h.lt, fun j y hy => h.dig _ y (by
    rw [List.getElem?_drop, List.getElem?_take] at hy
    split at hy
    · exact hy
    · cases hy)⟩⟩
/-- A sign. -/
def sg (neg : Bool) : List Int := if neg = true then [45] else []
/-- The text with the point ahead of the digits, z noughts between. -/
def fN (neg : Bool) (ds : List Int) (nd z : Nat) : List Int := sg neg ++ [48] ++ (if 0 < nd + z then 46 :: (List.replicate z 48 ++ ds.take nd) else [])
/-- The text with the point behind the first p digits. -/
def fP (neg : Bool) (ds : List Int) (nd p : Nat) : List Int := sg neg ++ (ds.take (min nd p) ++ List.replicate (p - nd) 48) ++ (if p < nd then 46 :: (ds.take nd).drop p else [])
/-- Noughts of nought. -/
def f0 (neg : Bool) : List Int := sg neg ++ [48]

set_option maxHeartbeats 4000000 in
set_option maxRecDepth 100000 in
theorem efg_fn (base hb : Nat) (ds : List Int) (w0 w : World) (A : Option Addr) (c : Nat) (neg : Bool) (nd z : Nat) (h : Ap base hb ds w0 [] A 0 c w) (hnd : nd ≤ ds.length) (hn20 : nd ≤ 20) (hz : z ≤ 3) :
    Calls Tryz.prog 297 #[.slice A 0 c, .bool neg, .slice (some ⟨hb, 0, none⟩) 32 32, .int .i64 (-(z : Int)), .int .i64 nd, .int .i64 nd, .int .u8 103, .bool true] w fun e w' => ∃ A' n' c', e = .returned (.slice A' n' c') ∧ Ap base hb ds w0 (fN neg ds nd z) A' n' c' w' := by
  have H := Lib.hid h
  clear h
  have t1 : decide ((nd : Int) < (nd : Int)) = false := decide_eq_false (by omega)
  have t2 : decide (-(z : Int) - 1 < -4) = false := decide_eq_false (by omega)
  have t3 : decide ((6 : Int) ≤ -(z : Int) - 1) = false := decide_eq_false (by omega)
  have t4 : max ((nd : Int) + (z : Int)) 0 = (nd : Int) + (z : Int) := by omega
  have t4' : max ((nd : Int) - -(z : Int)) 0 = (nd : Int) + (z : Int) := by omega
  have t5 : decide ((0 : Int) < -(z : Int)) = false := decide_eq_false (by omega)
  have t6 : max (0 : Int) (z : Int) = (z : Int) := by omega
  have t7 : min ((nd : Int) + (z : Int)) (z : Int) = (z : Int) := by omega
  have t8 : -(z : Int) + (z : Int) = 0 := by omega
  have t9 : (nd : Int) + (z : Int) - (z : Int) = (nd : Int) := by omega
  have t10 : max (0 : Int) (nd : Int) = (nd : Int) := by omega
  have t11 : min (nd : Int) (nd : Int) = (nd : Int) := by omega
  have t12 : max (0 : Int) 0 = 0 := by omega
  go_enter Tryz.func297, Tryz.ntmps297
  go_upto_if 68 with (fail)
  go_cut [5] from 68 to 69 (fun s5 wx => s5 = .int .i64 nd ∧ w = wx)
  case first =>
    by_cases hlt : -(z : Int) < (nd : Int)
    · have hlt' : decide (-(z : Int) < (nd : Int)) = true := decide_eq_true hlt
      go_wp2_with fail
      go_meet
      case rel => simp
    · have hlt' : decide (-(z : Int) < (nd : Int)) = false := decide_eq_false hlt
      go_wp2_with fail
      go_meet
      case rel => simp
  case rest =>
    obtain ⟨rfl, rfl⟩ := hcut
    go_upto_if 178 with (fail)
    go_cut [0] from 179 to 181 (fun s0 wx => ∃ (A1 : Option Addr) (n1 c1 : Nat), s0 = .slice A1 n1 c1 ∧ n1 ≤ 1 ∧ Hid (Ap base hb ds w0 (sg neg) A1 n1 c1 wx))
    case first =>
      cases neg with
      | true =>
        go_wp2_with (at_builtin; (refine Ap.app H.out 45 rfl _ _ rfl rfl rfl (by omega) 1 rfl ?_; intro A1 c1 w1 hap))
        have HA1 := Lib.hid hap
        clear hap
        go_meet
        case rel => exact ⟨A1, 1, c1, rfl, by omega, HA1⟩
      | false =>
        go_wp2_with fail
        go_meet
        case rel => exact ⟨A, 0, c, rfl, by omega, H⟩
    case rest =>
      obtain ⟨A1, n1, c1, rfl, hn1, HA⟩ := hcut
      generalize wc = w1 at *
      clear H
      go_wp2_with (at_builtin; (refine Ap.app HA.out 48 rfl _ _ rfl rfl rfl (by omega) (n1 + 1) rfl ?_; intro A2 c2 w2 hap; refine Hid.out ?_))
      refine Lib.hid ?_
      have HA2 := Lib.hid hap
      clear hap HA
      by_cases hpos : 0 < nd + z
      · have p1 : decide ((0 : Int) < (nd : Int) + (z : Int)) = true := decide_eq_true (by omega)
        have HPOS := Lib.hid hpos
        clear hpos
        go_wp2_with (at_builtin; (refine Ap.app HA2.out 46 rfl _ _ rfl rfl rfl (by omega) (n1 + 1 + 1) rfl ?_; intro A3 c3 w3 hap))
        have HA3 := Lib.hid hap
        clear hap HA2
        go_loopw [0, 240] (fun u0 u1 wr => ∃ (q n9 c9 : Nat) (A9 : Option Addr), q ≤ z ∧ n9 ≤ (n1 + 1 + 1) + q ∧ (n1 + 1 + 1) + q ≤ n9 ∧ u0 = .slice A9 n9 c9 ∧ u1 = .int .i64 q ∧ Hid (Ap base hb ds w0 (sg neg ++ [48] ++ [46] ++ List.replicate q 48) A9 n9 c9 wr)) (fun _ u1 _ => z - (intOf u1).toNat)
        case atStart => exact ⟨0, (n1 + 1 + 1), c3, A3, by omega, by omega, by omega, rfl, rfl, Lib.hid (by rw [List.replicate_zero, List.append_nil]; exact HA3.out)⟩
        case round =>
          clear HA3
          obtain ⟨q, n9, c9, A9, hq, hn9, hn9', rfl, rfl, hap9⟩ := hrel
          by_cases hlt : q < z
          · go_wp2_with (at_builtin; (refine Ap.app hap9.out 48 rfl _ _ rfl rfl rfl (by omega) (n9 + 1) rfl ?_; intro A8 c8 w8 hap8))
            have H8 := Lib.hid hap8
            clear hap8
            go_roundw
            case rel => exact ⟨q + 1, n9 + 1, c8, A8, by omega, by omega, by omega, rfl, by go_num, Lib.hid (by rw [List.replicate_succ', ← List.append_assoc]; exact H8.out)⟩
            case measure => simp [intOf]; omega
          · obtain rfl : z = q := by omega
            go_wp2_with fail
            clear hq hlt
            go_loopw [0, 30, 247] (fun u0 ux u1 wr => ∃ (q n7 c7 : Nat) (A7 : Option Addr), q ≤ nd ∧ n7 ≤ n9 + q ∧ n9 + q ≤ n7 ∧ u0 = .slice A7 n7 c7 ∧ u1 = .int .i64 q ∧ Hid (Ap base hb ds w0 ((sg neg ++ [48] ++ [46] ++ List.replicate z 48) ++ ds.take q) A7 n7 c7 wr)) (fun _ _ u1 _ => nd - (intOf u1).toNat)
            case atStart => exact ⟨0, n9, c9, A9, by omega, by omega, by omega, rfl, rfl, Lib.hid (by rw [List.take_zero, List.append_nil]; exact hap9.out)⟩
            case round =>
              clear hap9
              obtain ⟨q, n7, c7, A7, hq, hn7, hn7', rfl, rfl, hap7⟩ := hrel
              by_cases hlt : q < nd
              · obtain ⟨x, hx⟩ : ∃ x, ds[q]? = some x := ⟨_, List.getElem?_eq_getElem (by omega)⟩
                have hcx := hap7.out.dig _ x hx
                have HY : Hid (ds.take (q + 1) = ds.take q ++ [x]) := Lib.hid (take_snoc' (hx))
                have b0 : (0 : Int) ≤ (q : Int) := by omega
                have b1 : (q : Int) < 32 := by omega
                have b3 : (q : Int) < (nd : Int) := by omega
                clear hx
                go_wp2_with (at_builtin; (refine Ap.app hap7.out x rfl _ _ rfl rfl rfl (by omega) (n7 + 1) rfl ?_; intro A6 c6 w6 hap6))
                have H6 := Lib.hid hap6
                clear hap6
                go_roundw
                case rel => exact ⟨q + 1, n7 + 1, c6, A6, by omega, by omega, by omega, rfl, by go_num, Lib.hid (by rw [HY.out, ← List.append_assoc]; exact H6.out)⟩
                case measure => simp [intOf]; omega
              · obtain rfl : nd = q := by omega
                go_wp2_with fail
                obtain ⟨wq, hwq⟩ : ∃ wq, wq = wr := ⟨_, rfl⟩
                rw [← hwq] at hap7
                subst hwq
                go_loopw [0, 261] (fun u0 u1 wx => u0 = .slice A7 n7 c7 ∧ u1 = .int .i64 0 ∧ Hid (wx = wq)) (fun _ _ _ => 0)
                case atStart => exact ⟨rfl, rfl, rfl⟩
                case round =>
                  obtain ⟨rfl, rfl, hw⟩ := hrel
                  have hw' := hw.out
                  subst hw'
                  clear hw
                  go_wp2_with fail
                  go_ret
                  exact ⟨A7, n7, c7, rfl, by have h9 := hap7.out; unfold fN; rw [if_pos HPOS.out]; simpa using h9⟩
      · have p1 : decide ((0 : Int) < (nd : Int) + (z : Int)) = false := decide_eq_false (by omega)
        go_wp2_with fail
        go_ret
        exact ⟨A2, _, c2, rfl, by unfold fN; rw [if_neg hpos, List.append_nil]; exact HA2.out⟩

set_option maxHeartbeats 4000000 in
set_option maxRecDepth 100000 in
theorem efg_fp (base hb : Nat) (ds : List Int) (w0 w : World) (A : Option Addr) (c : Nat) (neg : Bool) (nd p : Nat) (h : Ap base hb ds w0 [] A 0 c w) (hnd : nd ≤ ds.length) (hn20 : nd ≤ 20) (hp1 : 1 ≤ p) (hp6 : p ≤ 6) :
    Calls Tryz.prog 297 #[.slice A 0 c, .bool neg, .slice (some ⟨hb, 0, none⟩) 32 32, .int .i64 (p : Int), .int .i64 nd, .int .i64 nd, .int .u8 103, .bool true] w fun e w' => ∃ A' n' c', e = .returned (.slice A' n' c') ∧ Ap base hb ds w0 (fP neg ds nd p) A' n' c' w' := by
  have H := Lib.hid h
  clear h
  obtain ⟨r, hr⟩ : ∃ r, nd - p = r := ⟨_, rfl⟩
  obtain ⟨m, hm⟩ : ∃ m, min nd p = m := ⟨_, rfl⟩
  obtain ⟨z2, hz2⟩ : ∃ z, p - m = z := ⟨_, rfl⟩
  have hm1 : m ≤ nd ∧ m ≤ p ∧ z2 ≤ 6 ∧ r ≤ 20 := by omega
  obtain ⟨hm1, hm2, hz6, hr20⟩ := hm1
  have HF : Hid (fP neg ds nd p = sg neg ++ ds.take m ++ List.replicate z2 48 ++ (if p < nd then 46 :: (ds.drop p).take r else [])) := Lib.hid (by
    unfold fP
    rw [hm, List.drop_take, hr, show p - nd = z2 by omega]
    simp)
  have HR : Hid (nd - p = r) := Lib.hid hr
  have t1 : decide ((nd : Int) < (nd : Int)) = false := decide_eq_false (by omega)
  have t2 : decide ((p : Int) - 1 < -4) = false := decide_eq_false (by omega)
  have t3 : decide ((6 : Int) ≤ (p : Int) - 1) = false := decide_eq_false (by omega)
  have t4 : max ((nd : Int) - (p : Int)) 0 = (r : Int) := by omega
  have t5 : decide ((0 : Int) < (p : Int)) = true := decide_eq_true (by omega)
  have t5' : decide (0 < p) = true := decide_eq_true (by omega)
  have t6 : min (nd : Int) (p : Int) = (m : Int) := by omega
  have t7 : (p : Int) - (m : Int) = (z2 : Int) := by omega
  have t8 : max (0 : Int) (-(p : Int)) = 0 := by omega
  have t9 : min (r : Int) 0 = 0 := by omega
  have t10 : max (0 : Int) (r : Int) = (r : Int) := by omega
  have t11 : min (r : Int) (r : Int) = (r : Int) := by omega
  have t12 : max (0 : Int) 0 = 0 := by omega
  have hm32 : m ≤ 32 := by omega
  clear hr hm hz2
  go_enter Tryz.func297, Tryz.ntmps297
  go_upto_if 68 with (fail)
  go_cut [5] from 68 to 69 (fun s5 wx => s5 = .int .i64 nd ∧ w = wx)
  case first =>
    by_cases hlt : (p : Int) < (nd : Int)
    · have hlt' : decide ((p : Int) < (nd : Int)) = true := decide_eq_true hlt
      go_wp2_with fail
      go_meet
      case rel => simp
    · have hlt' : decide ((p : Int) < (nd : Int)) = false := decide_eq_false hlt
      go_wp2_with fail
      go_meet
      case rel => simp
  case rest =>
    obtain ⟨rfl, rfl⟩ := hcut
    go_upto_if 178 with (fail)
    go_cut [0] from 179 to 181 (fun s0 wx => ∃ (A1 : Option Addr) (n1 c1 : Nat), s0 = .slice A1 n1 c1 ∧ n1 ≤ 1 ∧ Hid (Ap base hb ds w0 (sg neg) A1 n1 c1 wx))
    case first =>
      cases neg with
      | true =>
        go_wp2_with (at_builtin; (refine Ap.app H.out 45 rfl _ _ rfl rfl rfl (by omega) 1 rfl ?_; intro A1 c1 w1 hap))
        have HA1 := Lib.hid hap
        clear hap
        go_meet
        case rel => exact ⟨A1, 1, c1, rfl, by omega, HA1⟩
      | false =>
        go_wp2_with fail
        go_meet
        case rel => exact ⟨A, 0, c, rfl, by omega, H⟩
    case rest =>
      obtain ⟨A1, n1, c1, rfl, hn1, HA⟩ := hcut
      generalize wc = w1 at *
      clear H
      go_wp2_with fail
      go_loopw [0, 25, 191] (fun u0 ux u1 wr => ∃ (q n7 c7 : Nat) (A7 : Option Addr), q ≤ m ∧ n7 ≤ n1 + q ∧ n1 + q ≤ n7 ∧ u0 = .slice A7 n7 c7 ∧ u1 = .int .i64 q ∧ Hid (Ap base hb ds w0 (sg neg ++ ds.take q) A7 n7 c7 wr)) (fun _ _ u1 _ => m - (intOf u1).toNat)
      case atStart => exact ⟨0, n1, c1, A1, by omega, by omega, by omega, rfl, rfl, Lib.hid (by rw [List.take_zero, List.append_nil]; exact HA.out)⟩
      case round =>
        clear HA
        obtain ⟨q, n7, c7, A7, hq, hn7, hn7', rfl, rfl, hap7⟩ := hrel
        by_cases hlt : q < m
        · obtain ⟨x, hx⟩ : ∃ x, ds[q]? = some x := ⟨_, List.getElem?_eq_getElem (by omega)⟩
          have hcx := hap7.out.dig _ x hx
          have HY : Hid (ds.take (q + 1) = ds.take q ++ [x]) := Lib.hid (take_snoc' (hx))
          have b0 : (0 : Int) ≤ (q : Int) := by omega
          have b1 : (q : Int) < 32 := by omega
          have b3 : (q : Int) < (m : Int) := by omega
          clear hx
          go_wp2_with (at_builtin; (refine Ap.app hap7.out x rfl _ _ rfl rfl rfl (by omega) (n7 + 1) rfl ?_; intro A6 c6 w6 hap6))
          have H6 := Lib.hid hap6
          clear hap6
          go_roundw
          case rel => exact ⟨q + 1, n7 + 1, c6, A6, by omega, by omega, by omega, rfl, by go_num, Lib.hid (by rw [HY.out, ← List.append_assoc]; exact H6.out)⟩
          case measure => simp [intOf]; omega
        · obtain rfl : m = q := by omega
          go_wp2_with fail
          go_loopw [0, 203] (fun u0 u1 wr => ∃ (q n9 c9 : Nat) (A9 : Option Addr), q ≤ z2 ∧ n9 ≤ n7 + q ∧ n7 + q ≤ n9 ∧ u0 = .slice A9 n9 c9 ∧ u1 = .int .i64 q ∧ Hid (Ap base hb ds w0 ((sg neg ++ ds.take m) ++ List.replicate q 48) A9 n9 c9 wr)) (fun _ u1 _ => z2 - (intOf u1).toNat)
          case atStart => exact ⟨0, n7, c7, A7, by omega, by omega, by omega, rfl, rfl, Lib.hid (by rw [List.replicate_zero, List.append_nil]; exact hap7.out)⟩
          case round =>
            clear hap7
            obtain ⟨q, n9, c9, A9, hq, hn9, hn9', rfl, rfl, hap9⟩ := hrel
            by_cases hlt : q < z2
            · go_wp2_with (at_builtin; (refine Ap.app hap9.out 48 rfl _ _ rfl rfl rfl (by omega) (n9 + 1) rfl ?_; intro A8 c8 w8 hap8))
              have H8 := Lib.hid hap8
              clear hap8
              go_roundw
              case rel => exact ⟨q + 1, n9 + 1, c8, A8, by omega, by omega, by omega, rfl, by go_num, Lib.hid (by rw [List.replicate_succ', ← List.append_assoc]; exact H8.out)⟩
              case measure => simp [intOf]; omega
            · obtain rfl : z2 = q := by omega
              by_cases hpos : 0 < r
              · have p1 : decide ((0 : Int) < (r : Int)) = true := decide_eq_true (by omega)
                have p1' : decide (0 < r) = true := decide_eq_true (by omega)
                have t13 : (nd : Int) - (p : Int) = (r : Int) := by have := HR.out; omega
                have HPOS := Lib.hid hpos
                clear t4 hpos
                go_wp2_with (at_builtin; (refine Ap.app hap9.out 46 rfl _ _ rfl rfl rfl (by omega) (n9 + 1) rfl ?_; intro A3 c3 w3 hap))
                have HA3 := Lib.hid hap
                clear hap hap9
                obtain ⟨wr, hwr⟩ : ∃ wr, wr = w3 := ⟨_, rfl⟩
                rw [← hwr] at HA3 ⊢
                subst hwr
                obtain ⟨wq, hwq⟩ : ∃ wq, wq = wr := ⟨_, rfl⟩
                rw [← hwq] at HA3
                subst hwq
                go_loopw [0, 240] (fun u0 u1 wx => u0 = .slice A3 (n9 + 1) c3 ∧ u1 = .int .i64 0 ∧ Hid (wx = wq)) (fun _ _ _ => 0)
                case atStart => exact ⟨rfl, rfl, rfl⟩
                case round =>
                  obtain ⟨rfl, rfl, hw⟩ := hrel
                  have hw' := hw.out
                  subst hw'
                  clear hw
                  go_wp2_with fail
                  go_loopw [0, 30, 247] (fun u0 ux u1 wr => ∃ (q n7 c7 : Nat) (A7 : Option Addr), q ≤ r ∧ n7 ≤ (n9 + 1) + q ∧ (n9 + 1) + q ≤ n7 ∧ u0 = .slice A7 n7 c7 ∧ u1 = .int .i64 q ∧ Hid (Ap base hb ds w0 ((sg neg ++ ds.take m ++ List.replicate z2 48 ++ [46]) ++ (ds.drop p).take q) A7 n7 c7 wr)) (fun _ _ u1 _ => r - (intOf u1).toNat)
                  case atStart => exact ⟨0, (n9 + 1), c3, A3, by omega, by omega, by omega, rfl, rfl, Lib.hid (by rw [List.take_zero, List.append_nil]; exact HA3.out)⟩
                  case round =>
                    clear HA3
                    obtain ⟨q, n7, c7, A7, hq, hn7, hn7', rfl, rfl, hap7⟩ := hrel
                    by_cases hlt : q < r
                    · obtain ⟨x, hx⟩ : ∃ x, ds[p + q]? = some x := ⟨_, List.getElem?_eq_getElem (by omega)⟩
                      have hcx := hap7.out.dig _ x hx
                      have HY : Hid ((ds.drop p).take (q + 1) = (ds.drop p).take q ++ [x]) := Lib.hid (take_snoc' (by rw [List.getElem?_drop]; exact hx))
                      have b2 : (p : Int) + (q : Int) = ((p + q : Nat) : Int) := by omega
                      have b0 : (0 : Int) ≤ ((p + q : Nat) : Int) := by omega
                      have b1 : ((p + q : Nat) : Int) < 32 := by omega
                      generalize p + q = oq at *
                      clear hx
                      go_wp2_with (at_builtin; (refine Ap.app hap7.out x rfl _ _ rfl rfl rfl (by omega) (n7 + 1) rfl ?_; intro A6 c6 w6 hap6))
                      have H6 := Lib.hid hap6
                      clear hap6
                      go_roundw
                      case rel => exact ⟨q + 1, n7 + 1, c6, A6, by omega, by omega, by omega, rfl, by go_num, Lib.hid (by rw [HY.out, ← List.append_assoc]; exact H6.out)⟩
                      case measure => simp [intOf]; omega
                    · obtain rfl : r = q := by omega
                      go_wp2_with fail
                      obtain ⟨wq, hwq⟩ : ∃ wq, wq = wr := ⟨_, rfl⟩
                      rw [← hwq] at hap7
                      subst hwq
                      go_loopw [0, 261] (fun u0 u1 wx => u0 = .slice A7 n7 c7 ∧ u1 = .int .i64 0 ∧ Hid (wx = wq)) (fun _ _ _ => 0)
                      case atStart => exact ⟨rfl, rfl, rfl⟩
                      case round =>
                        obtain ⟨rfl, rfl, hw⟩ := hrel
                        have hw' := hw.out
                        subst hw'
                        clear hw
                        go_wp2_with fail
                        go_ret
                        exact ⟨A7, n7, c7, rfl, by have h9 := hap7.out; rw [HF.out, if_pos (show p < nd by have := HR.out; have := HPOS.out; omega)]; simpa using h9⟩
              · have p1 : decide ((0 : Int) < (r : Int)) = false := decide_eq_false (by omega)
                go_wp2_with fail
                go_ret
                exact ⟨A9, n9, c9, rfl, by have h9 := hap9.out; rw [HF.out, if_neg (show ¬ p < nd by have := HR.out; omega), List.append_nil]; exact h9⟩

set_option maxHeartbeats 4000000 in
set_option maxRecDepth 100000 in
theorem efg_zero (base hb : Nat) (ds : List Int) (w0 w : World) (A : Option Addr) (c : Nat) (neg : Bool)  (h : Ap base hb ds w0 [] A 0 c w)  :
    Calls Tryz.prog 297 #[.slice A 0 c, .bool neg, .slice none 0 0, .int .i64 0, .int .i64 0, .int .i64 (-1), .int .u8 103, .bool true] w fun e w' => ∃ A' n' c', e = .returned (.slice A' n' c') ∧ Ap base hb ds w0 (f0 neg) A' n' c' w' := by
  have H := Lib.hid h
  clear h
  have t1 : max (-1 : Int) 0 = 0 := by omega
  go_enter Tryz.func297, Tryz.ntmps297
  go_upto_if 178 with (fail)
  go_cut [0] from 179 to 181 (fun s0 wx => ∃ (A1 : Option Addr) (n1 c1 : Nat), s0 = .slice A1 n1 c1 ∧ n1 ≤ 1 ∧ Hid (Ap base hb ds w0 (sg neg) A1 n1 c1 wx))
  case first =>
    cases neg with
    | true =>
      go_wp2_with (at_builtin; (refine Ap.app H.out 45 rfl _ _ rfl rfl rfl (by omega) 1 rfl ?_; intro A1 c1 w1 hap))
      have HA1 := Lib.hid hap
      clear hap
      go_meet
      case rel => exact ⟨A1, 1, c1, rfl, by omega, HA1⟩
    | false =>
      go_wp2_with fail
      go_meet
      case rel => exact ⟨A, 0, c, rfl, by omega, H⟩
  case rest =>
    obtain ⟨A1, n1, c1, rfl, hn1, HA⟩ := hcut
    generalize wc = w1 at *
    clear H
    go_wp2_with (at_builtin; (refine Ap.app HA.out 48 rfl _ _ rfl rfl rfl (by omega) (n1 + 1) rfl ?_; intro A2 c2 w2 hap))
    have HA2 := Lib.hid hap
    clear hap HA
    go_ret
    exact ⟨A2, _, c2, rfl, HA2.out⟩

/-- The first digit; the exponent's number, sign and digits. -/
def fd (ds : List Int) (nd : Nat) : Int := if nd = 0 then 48 else ds.getD 0 48
def ex (nd : Nat) (dp : Int) : Int := if nd = 0 then 0 else dp - 1
def es (X : Int) : Int := if X < 0 then 45 else 43
def en (k : Nat) : List Int := if k < 10 then [48, (k : Int) + 48] else if k < 100 then [(k / 10 : Nat) + 48, (k % 10 : Nat) + 48] else [(k / 100 : Nat) + 48, (k / 10 % 10 : Nat) + 48, (k % 10 : Nat) + 48]
/-- The text with an exponent. -/
def fE (neg : Bool) (ds : List Int) (nd : Nat) (dp : Int) : List Int := sg neg ++ [fd ds nd] ++ (if 1 < nd then 46 :: (ds.take nd).drop 1 else []) ++ [101] ++ [es (ex nd dp)] ++ en (ex nd dp).natAbs

set_option maxHeartbeats 4000000 in
set_option maxRecDepth 100000 in
theorem efg_fe (base hb : Nat) (ds : List Int) (w0 w : World) (A : Option Addr) (c : Nat) (neg : Bool) (nd : Nat) (dp : Int) (h : Ap base hb ds w0 [] A 0 c w) (hnd : nd ≤ ds.length) (hn20 : nd ≤ 20) (hdp : dp < -3 ∨ 7 ≤ dp) (hlo : -450 ≤ dp) (hhi : dp ≤ 450) :
    Calls Tryz.prog 297 #[.slice A 0 c, .bool neg, .slice (some ⟨hb, 0, none⟩) 32 32, .int .i64 dp, .int .i64 nd, .int .i64 nd, .int .u8 103, .bool true] w fun e w' => ∃ A' n' c', e = .returned (.slice A' n' c') ∧ Ap base hb ds w0 (fE neg ds nd dp) A' n' c' w' := by
  have H := Lib.hid h
  clear h
  have t1 : decide ((nd : Int) < (nd : Int)) = false := decide_eq_false (by omega)
  obtain ⟨X, hX⟩ : ∃ X, ex nd dp = X := ⟨_, rfl⟩
  obtain ⟨k, hk⟩ : ∃ k, X.natAbs = k := ⟨_, rfl⟩
  have hXb : -460 ≤ X ∧ X ≤ 460 := by rw [← hX]; unfold ex; split <;> omega
  have hk5 : k ≤ 460 := by omega
  obtain ⟨fv, hfv⟩ : ∃ v, fd ds nd = v := ⟨_, rfl⟩
  obtain ⟨sv, hsv⟩ : ∃ v, es X = v := ⟨_, rfl⟩
  obtain ⟨mo, hmo⟩ : ∃ v, (if 1 < nd then 46 :: (ds.take nd).drop 1 else []) = v := ⟨_, rfl⟩
  have HFV := Lib.hid hfv
  have HSV := Lib.hid hsv
  have HMO := Lib.hid hmo
  have HX := Lib.hid hX
  have HKK := Lib.hid hk
  have HXB := Lib.hid hXb
  have HND := Lib.hid hnd
  clear hX hk hXb hnd hfv hsv hmo
  go_enter Tryz.func297, Tryz.ntmps297
  go_upto_region 8 with (fail)
  go_cut [56] from 50 to 56 (fun s56 wx => s56 = .bool true ∧ w = wx)
  case first =>
    by_cases h1 : dp - 1 < -4
    · have h1' : decide (dp - 1 < -4) = true := decide_eq_true h1
      go_wp2_with fail
      go_meet
      case rel => simp
    · have h1' : decide (dp - 1 < -4) = false := decide_eq_false h1
      have h2' : decide (6 ≤ dp - 1) = true := decide_eq_true (by omega)
      go_wp2_with fail
      go_meet
      case rel => simp
  case rest =>
    obtain ⟨rfl, rfl⟩ := hcut
    clear hdp
    go_upto_if 78 with (fail)
    go_cut [0] from 79 to 81 (fun s0 wx => ∃ (A1 : Option Addr) (n1 c1 : Nat), s0 = .slice A1 n1 c1 ∧ n1 ≤ 1 ∧ Hid (Ap base hb ds w0 (sg neg) A1 n1 c1 wx))
    case first =>
      cases neg with
      | true =>
        go_wp2_with (at_builtin; (refine Ap.app H.out 45 rfl _ _ rfl rfl rfl (by omega) 1 rfl ?_; intro A1 c1 w1 hap))
        have HA1 := Lib.hid hap
        clear hap
        go_meet
        case rel => exact ⟨A1, 1, c1, rfl, by omega, HA1⟩
      | false =>
        go_wp2_with fail
        go_meet
        case rel => exact ⟨A, 0, c, rfl, by omega, H⟩
    case rest =>
      obtain ⟨A1, n1, c1, rfl, hn1, HA⟩ := hcut
      generalize wc = w1 at *
      clear H
      go_upto_if 83 with (fail)
      go_cut [19] from 83 to 86 (fun s19 wx => s19 = .int .u8 fv ∧ w1 = wx)
      case first =>
        by_cases hz : nd = 0
        · have hz1 : ((nd : Int) != 0) = false := by rw [hz]; rfl
          have hz2 : (nd != 0) = false := by rw [hz]; rfl
          have hfv : fv = 48 := by rw [← HFV.out]; unfold fd; rw [if_pos hz]
          have hzz : (nd == 0) = true := by rw [hz]; rfl
          clear hz
          go_wp2_with fail
          go_meet
          case rel => simp [hfv]
        · have hz1 : ((nd : Int) != 0) = true := by simp; omega
          have hz2 : (nd != 0) = true := by simpa using hz
          obtain ⟨x, hx⟩ : ∃ x, ds[0]? = some x := ⟨_, List.getElem?_eq_getElem (by have := HND.out; omega)⟩
          have hcx := HA.out.dig _ x hx
          have hfv : fv = x := by rw [← HFV.out]; unfold fd; rw [if_neg hz, List.getD_eq_getElem?_getD, hx]; rfl
          clear hx hz
          go_wp2_with fail
          go_meet
          case rel => simp [hfv]
      case rest =>
        obtain ⟨rfl, rfl⟩ := hcut
        go_wp2_with (at_builtin; (refine Ap.app HA.out fv rfl _ _ rfl rfl rfl (by omega) (n1 + 1) rfl ?_; intro A2 c2 w2 hap; refine Hid.out ?_))
        refine Lib.hid ?_
        have HA2 := Lib.hid hap
        clear hap HA
        go_upto_if 92 with (fail)
        go_cut [0, 20, 21] from 92 to 119 (fun s0 s20 s21 wx => ∃ (A3 : Option Addr) (n3 c3 : Nat), s0 = .slice A3 n3 c3 ∧ n3 ≤ 40 ∧ Hid (Ap base hb ds w0 (sg neg ++ [fv] ++ mo) A3 n3 c3 wx))
        case first =>
          by_cases h1 : 1 < nd
          · have p1 : decide ((0 : Int) < (nd : Int) - 1) = true := decide_eq_true (by omega)
            have p2 : decide ((1 : Int) < (nd : Int)) = true := decide_eq_true (by omega)
            have p3 : decide (1 < nd) = true := decide_eq_true h1
            have p4 : min (nd : Int) (nd : Int) = (nd : Int) := by omega
            have p5 : (nd : Int) - 1 + 1 = (nd : Int) := by omega
            have hmo : mo = 46 :: (ds.take nd).drop 1 := by rw [← HMO.out, if_pos h1]
            have HM := Lib.hid hmo
            have HN1 := Lib.hid h1
            clear hmo
            go_wp2_with (at_builtin; (refine Ap.app HA2.out 46 rfl _ _ rfl rfl rfl (by omega) (n1 + 1 + 1) rfl ?_; intro A3 c3 w3 hap; refine Hid.out ?_))
            refine Lib.hid ?_
            have HA3 := Lib.hid hap
            clear hap HA2
            go_wp2_with (at_builtin; (refine Ap.appR HA3.out rfl _ _ rfl rfl _ (some ⟨hb, 1, none⟩) (nd - 1) 31 ((ds.take (1 + (nd - 1))).drop 1) rfl (HA3.out.digits 1 (nd - 1) 31 (by have := HND.out; omega) (by omega) (by omega)) (by omega) (n1 + 1 + 1 + (nd - 1)) rfl ?_; intro A4 c4 wr hap))
            have HA4 : Hid (Ap base hb ds w0 (sg neg ++ [fv] ++ mo) A4 (n1 + 1 + 1 + (nd - 1)) c4 wr) := Lib.hid (by
              rw [HM.out]
              have := HN1.out
              rw [show 1 + (nd - 1) = nd by omega] at hap
              simpa using hap)
            clear hap HA3
            go_wp2_with fail
            obtain ⟨wq, hwq⟩ : ∃ wq, wq = wr := ⟨_, rfl⟩
            rw [← hwq] at HA4
            subst hwq
            go_loopw [0, 114] (fun u0 u1 wx => u0 = .slice A4 (n1 + 1 + 1 + (nd - 1)) c4 ∧ u1 = .int .i64 0 ∧ Hid (wx = wq)) (fun _ _ _ => 0)
            case atStart => exact ⟨rfl, rfl, rfl⟩
            case round =>
              obtain ⟨rfl, rfl, hw⟩ := hrel
              have hw' := hw.out
              subst hw'
              clear hw
              go_wp2_with fail
              go_meet
              case rel => exact ⟨A4, _, c4, rfl, by omega, HA4⟩
          · have p1 : decide ((0 : Int) < (nd : Int) - 1) = false := decide_eq_false (by omega)
            have p3 : decide (1 < nd) = false := decide_eq_false h1
            have hmo : mo = [] := by rw [← HMO.out, if_neg h1]
            go_wp2_with fail
            go_meet
            case rel => exact ⟨A2, _, c2, rfl, by omega, by rw [hmo, List.append_nil]; exact HA2⟩
        case rest =>
          obtain ⟨A3, n3, c3, rfl, hn3, HA3⟩ := hcut
          generalize wc = w3 at *
          clear HA2
          go_wp2_with (at_builtin; (refine Ap.app HA3.out 101 rfl _ _ rfl rfl rfl (by omega) (n3 + 1) rfl ?_; intro A4 c4 w4 hap; refine Hid.out ?_))
          refine Lib.hid ?_
          have HA4 := Lib.hid hap
          clear hap HA3
          go_upto_if 127 with (fail)
          go_cut [22] from 127 to 127 (fun s22 wx => s22 = .int .i64 X ∧ w4 = wx)
          case first =>
            by_cases hz : nd = 0
            · have hz1 : ((nd : Int) == 0) = true := by rw [hz]; rfl
              have hz2 : (nd == 0) = true := by rw [hz]; rfl
              have hXX : X = 0 := by rw [← HX.out]; unfold ex; rw [if_pos hz]
              clear hz
              go_wp2_with fail
              go_meet
              case rel => simp [hXX]
            · have hz1 : ((nd : Int) == 0) = false := by simp; omega
              have hz2 : (nd == 0) = false := by simpa using hz
              have hXX : X = dp - 1 := by rw [← HX.out]; unfold ex; rw [if_neg hz]
              clear hz
              go_wp2_with fail
              go_meet
              case rel => simp [hXX]
          case rest =>
            obtain ⟨rfl, rfl⟩ := hcut
            have hXb := HXB.out
            go_upto_if 129 with (fail)
            go_cut [19, 22] from 129 to 131 (fun s19 s22 wx => s19 = .int .u8 sv ∧ s22 = .int .i64 (k : Int) ∧ w4 = wx)
            case first =>
              by_cases hn : X < 0
              · have hn1 : decide (X < 0) = true := decide_eq_true hn
                have hsv : sv = 45 := by rw [← HSV.out]; unfold es; rw [if_pos hn]
                have hkk : -X = (k : Int) := by have := HKK.out; omega
                go_wp2_with fail
                go_meet
                case rel => simp [hsv]
              · have hn1 : decide (X < 0) = false := decide_eq_false hn
                have hsv : sv = 43 := by rw [← HSV.out]; unfold es; rw [if_neg hn]
                have HKX : Hid (X = (k : Int)) := Lib.hid (by have := HKK.out; omega)
                go_wp2_with fail
                go_meet
                case rel => simp [hsv, HKX.out]
            case rest =>
              obtain ⟨rfl, rfl, rfl⟩ := hcut
              go_wp2_with (at_builtin; (refine Ap.app HA4.out sv rfl _ _ rfl rfl rfl (by omega) (n3 + 1 + 1) rfl ?_; intro A5 c5 w5 hap; refine Hid.out ?_))
              refine Lib.hid ?_
              have HA5 := Lib.hid hap
              clear hap HA4
              have HF : Hid (fE neg ds nd dp = sg neg ++ [fv] ++ mo ++ [101] ++ [sv] ++ en k) := Lib.hid (by unfold fE; rw [HX.out, HKK.out, HFV.out, HSV.out, HMO.out])
              have wk : IntKind.u8.wrap (48 : Int) = 48 := rfl
              by_cases h10 : k < 10
              · have k1 : decide ((k : Int) < 10) = true := decide_eq_true (by omega)
                have k2 : decide (k < 10) = true := decide_eq_true h10
                have k3 : IntKind.u8.wrap (k : Int) = (k : Int) := by rw [IntKind.wrap_u8]; omega
                have k4 : IntKind.u8.wrap ((k : Int) + 48) = (k : Int) + 48 := by rw [IntKind.wrap_u8]; omega
                have HE : Hid (en k = [48, (k : Int) + 48]) := Lib.hid (by unfold en; rw [if_pos h10])
                clear h10
                go_wp2_with (at_builtin; (refine Ap.appR (HA5.out.alloc _) rfl _ _ rfl rfl _ _ 2 2 [48, (k : Int) + 48] rfl (rd_two _ _ _ _) (by omega) (n3 + 1 + 1 + 2) rfl ?_; intro A6 c6 w6 hap))
                have HA6 := Lib.hid hap
                clear hap
                go_wp2_with fail
                go_ret
                exact ⟨A6, _, c6, rfl, by rw [HF.out, HE.out]; exact HA6.out⟩
              · have k1 : decide ((k : Int) < 10) = false := decide_eq_false (by omega)
                have k2 : decide (k < 10) = false := decide_eq_false h10
                by_cases h100 : k < 100
                · have k3 : decide ((k : Int) < 100) = true := decide_eq_true (by omega)
                  have k4 : decide (k < 100) = true := decide_eq_true h100
                  have HE : Hid (en k = [((k / 10 : Nat) : Int) + 48, ((k % 10 : Nat) : Int) + 48]) := Lib.hid (by unfold en; rw [if_neg h10, if_pos h100])
                  have ka : (k : Int) / 10 = ((k / 10 : Nat) : Int) := by omega
                  have kb : (k : Int) % 10 = ((k % 10 : Nat) : Int) := by omega
                  have kc : (k : Int).tdiv 10 = ((k / 10 : Nat) : Int) := by rw [Int.tdiv_eq_ediv_of_nonneg (by omega)]; omega
                  have kd : (k : Int).tmod 10 = ((k % 10 : Nat) : Int) := by rw [Int.tmod_eq_emod_of_nonneg (by omega)]; omega
                  have hab : k / 10 ≤ 9 ∧ k % 10 ≤ 9 := by omega
                  generalize k / 10 = a at *
                  generalize k % 10 = b at *
                  obtain ⟨ha9, hb9⟩ := hab
                  have w1 : IntKind.u8.wrap (a : Int) = (a : Int) := by rw [IntKind.wrap_u8]; omega
                  have w2 : IntKind.u8.wrap ((a : Int) + 48) = (a : Int) + 48 := by rw [IntKind.wrap_u8]; omega
                  have w3 : IntKind.u8.wrap (b : Int) = (b : Int) := by rw [IntKind.wrap_u8]; omega
                  have w4 : IntKind.u8.wrap ((b : Int) + 48) = (b : Int) + 48 := by rw [IntKind.wrap_u8]; omega
                  clear h10 h100
                  go_wp2_with (at_builtin; (refine Ap.appR (HA5.out.alloc _) rfl _ _ rfl rfl _ _ 2 2 [(a : Int) + 48, (b : Int) + 48] rfl (rd_two _ _ _ _) (by omega) (n3 + 1 + 1 + 2) rfl ?_; intro A6 c6 w6 hap))
                  have HA6 := Lib.hid hap
                  clear hap
                  go_wp2_with fail
                  go_ret
                  exact ⟨A6, _, c6, rfl, by rw [HF.out, HE.out]; exact HA6.out⟩
                · have k3 : decide ((k : Int) < 100) = false := decide_eq_false (by omega)
                  have k4 : decide (k < 100) = false := decide_eq_false h100
                  have HE : Hid (en k = [((k / 100 : Nat) : Int) + 48, ((k / 10 % 10 : Nat) : Int) + 48, ((k % 10 : Nat) : Int) + 48]) := Lib.hid (by unfold en; rw [if_neg h10, if_neg h100])
                  have ka : (k : Int) / 100 = ((k / 100 : Nat) : Int) := by omega
                  have kb : (k : Int) % 10 = ((k % 10 : Nat) : Int) := by omega
                  have kc : (k : Int).tdiv 100 = ((k / 100 : Nat) : Int) := by rw [Int.tdiv_eq_ediv_of_nonneg (by omega)]; omega
                  have kd : (k : Int).tmod 10 = ((k % 10 : Nat) : Int) := by rw [Int.tmod_eq_emod_of_nonneg (by omega)]; omega
                  have ke : (k : Int) / 10 = ((k / 10 : Nat) : Int) := by omega
                  have kf : (k : Int).tdiv 10 = ((k / 10 : Nat) : Int) := by rw [Int.tdiv_eq_ediv_of_nonneg (by omega)]; omega
                  have kg : ((k / 10 : Nat) : Int) % 10 = ((k / 10 % 10 : Nat) : Int) := by omega
                  have kh : ((k / 10 : Nat) : Int).tmod 10 = ((k / 10 % 10 : Nat) : Int) := by rw [Int.tmod_eq_emod_of_nonneg (by omega)]; omega
                  have hab : k / 100 ≤ 9 ∧ k % 10 ≤ 9 ∧ k / 10 ≤ 46 ∧ k / 10 % 10 ≤ 9 := by omega
                  generalize k / 100 = a at *
                  generalize k % 10 = b at *
                  generalize k / 10 % 10 = d at *
                  generalize k / 10 = e at *
                  obtain ⟨ha9, hb9, he9, hd9⟩ := hab
                  have w1 : IntKind.u8.wrap (a : Int) = (a : Int) := by rw [IntKind.wrap_u8]; omega
                  have w2 : IntKind.u8.wrap ((a : Int) + 48) = (a : Int) + 48 := by rw [IntKind.wrap_u8]; omega
                  have w3 : IntKind.u8.wrap (b : Int) = (b : Int) := by rw [IntKind.wrap_u8]; omega
                  have w4 : IntKind.u8.wrap ((b : Int) + 48) = (b : Int) + 48 := by rw [IntKind.wrap_u8]; omega
                  have w5' : IntKind.u8.wrap (e : Int) = (e : Int) := by rw [IntKind.wrap_u8]; omega
                  have w6 : IntKind.u8.wrap ((d : Int) + 48) = (d : Int) + 48 := by rw [IntKind.wrap_u8]; omega
                  clear h10 h100
                  go_wp2_with (at_builtin; (refine Ap.appR (HA5.out.alloc _) rfl _ _ rfl rfl _ _ 3 3 [(a : Int) + 48, (d : Int) + 48, (b : Int) + 48] rfl (rd_three _ _ _ _ _) (by omega) (n3 + 1 + 1 + 3) rfl ?_; intro A6 c6 w6 hap))
                  have HA6 := Lib.hid hap
                  clear hap
                  go_wp2_with fail
                  go_ret
                  exact ⟨A6, _, c6, rfl, by rw [HF.out, HE.out]; exact HA6.out⟩
end Go.Proofs.YtnclbnbjmgbonaaGreatDoor.Ff
