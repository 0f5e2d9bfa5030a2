/- The walk of hackneylaw11.SlotsOrder. -/
import Derived.Test.YtbedboekfkobjaaGreatDoorAwake11
namespace Go.Proofs.YtbedboekfkobjaaGreatDoor.St
open Go.ChangeShapes Go.WideShapes Go.ChangeAt Go.RowKit Rw Hi
set_option linter.unusedVariables false

theorem info_i (t : TypeId) (ht : t = 3) : (Tryz.prog.info? t).map (fun i => (i.zero, i.size, i.bytes)) = some (some (.int .i64 0), 1, 8) := by subst ht; kernel_rfl
theorem info_u (t : TypeId) (ht : t = 27) : (Tryz.prog.info? t).map (fun i => (i.zero, i.size, i.bytes)) = some (some (.int .u64 0), 1, 8) := by subst ht; kernel_rfl
theorem one_i (y : Int) : (Value.int .i64 y).oneCell' = true := rfl
theorem one_u (y : Int) : (Value.int .u64 y).oneCell' = true := rfl
/-- A row that lies apart from slots. -/
def Apart (v : Value) (p : Nat) (r : Option Nat) : Prop := ∀ g, v.ownBlock = some g → g ≠ p ∧ r ≠ some g
theorem keep_row {w w' : World} {base : Nat} {e : TypeId} {sz n : Nat} {v : Value} {xs : List Value} {p : Nat} {r : Option Nat} (h : w.ownsRow base e sz v n xs) (hf : Fr (some p) r w w') (ha : Apart v p r) : w'.ownsRow base e sz v n xs :=
  own_same h (fun g hg => hf.block g (h.lt g hg).2 (fun e => by injection e with e; exact (ha g hg).1 e) (fun e => (ha g hg).2 e.symm))
theorem Apart.next {v : Value} {p h : Nat} {r r' : Option Nat} (ha : Apart v p r) (hv : ∀ g, v.ownBlock = some g → g < h) (hr : ∀ g, r' = some g → r = some g ∨ h ≤ g) : Apart v p r' := fun g hg => by
  refine ⟨(ha g hg).1, fun e => ?_⟩
  rcases hr g e with e2 | e2
  · exact (ha g hg).2 e2
  · have := hv g hg; omega
/-- What is appended to a row leaves slots. -/
theorem Ss.grown {w w' : World} {B p : Nat} {r : Option Nat} {l : List Sx} {v : Value} (h : Ss w B p r l) (hg : w.grownBy w' v.ownBlock) (ha : Apart v p r) : Ss w' B p r l :=
  h.same (hg.block p h.lt (fun e => (ha p e.symm).1 rfl)) (fun g hg' => hg.block g (h.rowlt g hg').2 (fun e => (ha g e.symm).2 hg'))
theorem Apart.grown {w : World} {B p : Nat} {r : Option Nat} {l : List Sx} {v v' : Value} (ha : Apart v p r) (h : Ss w B p r l) (hv : v'.ownBlock = v.ownBlock ∨ ∃ g, v'.ownBlock = some g ∧ w.heap.size ≤ g) : Apart v' p r := fun g hg => by
  rcases hv with e | ⟨g2, e, h2⟩
  · exact ha g (e.symm.trans hg)
  · rw [e] at hg
    injection hg with hg
    subst hg
    exact ⟨fun e2 => by have := h.lt; omega, fun e2 => by have := (h.rowlt _ e2).2; omega⟩
theorem own_rd_i {w : World} {base : Nat} {e : TypeId} {A : Option Addr} {n c : Nat} {xs : List Int} {q : IntKind} (hl : xs.length = n) (h : w.ownsRow base e 1 (.slice A n c) n (xs.map (Value.int q))) : Rd (Value.int q) w w.heap.size A n c xs   := by
  subst hl; exact Rd.own_rd h

set_option maxRecDepth 100000 in
theorem order_long (A : Option Addr) (n c : Nat) (A' : Option Addr) (n' c' : Nat) (w : World) (hT : Tx.Tab w) (hn : n ≤ 9223372036854775807) (hn' : n' ≤ 9223372036854775807) (h : 60 < n ∨ 60 < n') :
    Calls Tryz.prog 4 #[.slice A n c, .slice A' n' c'] w fun e w' => e = .returned (.bool true) ∧ Below w.heap.size w w' := by
  by_cases h1 : 60 < n
  · have t0 : decide ((60 : Int) < (n : Int)) = true := decide_eq_true (by omega)
    have t0' : decide (60 < n) = true := decide_eq_true (by omega)
    go_enter Tryz.func4, Tryz.ntmps4
    go_wp2_with fail
    refine (awake11_any _ hT).mono ?_
    rintro e w1 ⟨rfl, hb1⟩
    go_wp2_with fail
    go_ret
    exact ⟨rfl, hb1⟩
  · have t0 : decide ((60 : Int) < (n : Int)) = false := decide_eq_false (by omega)
    have t0' : decide (60 < n) = false := decide_eq_false (by omega)
    have t1 : decide ((60 : Int) < (n' : Int)) = true := decide_eq_true (by omega)
    have t1' : decide (60 < n') = true := decide_eq_true (by omega)
    go_enter Tryz.func4, Tryz.ntmps4
    go_wp2_with fail
    refine (awake11_any _ hT).mono ?_
    rintro e w1 ⟨rfl, hb1⟩
    go_wp2_with fail
    go_ret
    exact ⟨rfl, hb1⟩

set_option maxHeartbeats 8000000 in
set_option maxRecDepth 100000 in
theorem order_any (A : Option Addr) (n c : Nat) (xs : List Int) (A' : Option Addr) (n' c' : Nat) (ys : List Int) (w : World) (hT : Tx.Tab w) (h : Rd (Value.int .i64) w w.heap.size A n c xs) (h' : Rd (Value.int .u64) w w.heap.size A' n' c' ys) (hn : n ≤ 60) (hn' : n' ≤ 60) :
    Calls Tryz.prog 4 #[.slice A n c, .slice A' n' c'] w fun e w' => e = .returned (.bool true) ∧ Below w.heap.size w w' := by
  obtain ⟨i0, hi, hz0, hz1, hz2⟩ := info_parts (info_i _ rfl)
  obtain ⟨i1, hi1, hz01, hz11, hz21⟩ := info_parts (info_u _ rfl)
  have HT := Lib.hid hT
  have R' := Lib.hid h
  have R2 := Lib.hid h'
  have t0 : decide ((60 : Int) < (n : Int)) = false := decide_eq_false (by omega)
  have t0' : decide (60 < n) = false := decide_eq_false (by omega)
  have t1 : decide ((60 : Int) < (n' : Int)) = false := decide_eq_false (by omega)
  have t1' : decide (60 < n') = false := decide_eq_false (by omega)
  clear hT h h'
  go_enter Tryz.func4, Tryz.ntmps4
  go_wp2_with fail
  refine (awake11_any _ HT.out).mono ?_
  rintro e w1 ⟨rfl, hb1⟩
  go_wp2_with fail
  refine (new_any _ w.heap.size hb1.size).mono ?_
  rintro e w2 ⟨p, rfl, h2, hp2, hb2⟩
  have b2 : Below w.heap.size w w2 := hb1.trans (hb2.mono hb1.size)
  have H2 := Lib.hid h2
  have HB2 := Lib.hid b2
  clear h2 b2 hb1 hb2 hp2 t0 t0' t1 t1'
  go_wp2_with fail
  go_loopw [6, 32] (fun v i wr => ∃ (k q c1 : Nat) (r : Option Nat) (A1 : Option Addr) (R : List Int), k ≤ n ∧ i = .int .i64 k ∧ v = .slice A1 q c1 ∧ q ≤ k ∧ R.length = q ∧
    wr.ownsRow w.heap.size 3 1 (.slice A1 q c1) q (R.map (Value.int .i64)) ∧ Ss wr w.heap.size p r (stt R []) ∧ Apart (.slice A1 q c1) p r ∧ Below w.heap.size w wr) (fun _ i _ => n - (intOf i).toNat)
  case atStart => exact ⟨0, 0, 0, none, none, [], Nat.zero_le _, rfl, rfl, Nat.le_refl _, rfl, World.ownsRow_nil _ _ _ _, H2.out, (fun g hg => by cases hg), HB2.out⟩
  case round =>
    clear H2 HB2
    obtain ⟨k, q, c1, r, A1, R, hk, rfl, rfl, hqk, hRl, hrow, hss, hap, hbr⟩ := hrel
    have HROW := Lib.hid hrow
    have HS := Lib.hid hss
    have HAP := Lib.hid hap
    have HRL := Lib.hid hRl
    clear hrow hss hap hRl
    by_cases hlt : k < n
    · obtain ⟨b, o, t, rfl, hb, ht, c0⟩ := R'.out.get hlt
      have d0 := (hbr.cell (p := ⟨b, o + k, none⟩) hb).trans c0
      have HB := Lib.hid hbr
      have hbs := hbr.size
      clear c0 ht hbr
      go_wp2_with fail
      cases hf : (stt R []).findIdx? (hit t) with
      | some j =>
        refine (park_hit_any _ _ _ _ _ t 1 j HS.out hf).mono ?_
        rintro e w3 ⟨rfl, hb3⟩
        have S3 := Lib.hid (HS.out.later hb3)
        have ROW3 := Lib.hid (own_same HROW.out (fun g hg => hb3.block g (HROW.out.lt g hg).2))
        have B3 := Lib.hid (HB.out.trans (hb3.mono hbs))
        clear hb3 hf
        go_wp2_with fail
        go_roundw
        case rel => exact ⟨k + 1, q, c1, r, A1, R, by omega, by go_num, rfl, by omega, HRL.out, ROW3.out, S3.out, HAP.out, B3.out⟩
        case measure => simp [intOf]; omega
      | none =>
        refine (park_miss_any _ _ _ _ _ t 1 HS.out hf (by rw [stt_len]; have := HRL.out; omega)).mono ?_
        rintro e w3 ⟨rfl, r3, hs3, hf3, hr3⟩
        rw [← stt_snoc] at hs3
        have hap3 : Apart (.slice A1 q c1) p r3 := HAP.out.next (fun g hg => (HROW.out.lt g hg).2) hr3
        have row3 := keep_row HROW.out hf3 HAP.out
        have b3 : Below w.heap.size w w3 := HB.out.trans (hf3.below hbs (fun k hk => by cases hk; exact HS.out.lo) (fun g hg => (HS.out.rowlt g hg).1))
        have hs3z := b3.size
        have S3 := Lib.hid (hs3.later ((Below.refl w3.heap.size w3).alloc (Nat.le_refl _) (.cells #[.int .i64 t] 3)))
        have ROW3 := Lib.hid (row3.alloc (.cells #[.int .i64 t] 3))
        have B3 := Lib.hid (b3.alloc hs3z (.cells #[.int .i64 t] 3))
        have AP3 := Lib.hid hap3
        have hrd : Rd (Value.int .i64) (w3.alloc (.cells #[.int .i64 t] 3)) (w3.heap.size + 1) (some ⟨w3.heap.size, 0, none⟩) 1 1 [t] := rd_one w3 t 3
        have HRD := Lib.hid hrd
        have hmp : R.map (Value.int .i64) ++ [t].map (Value.int .i64) = (R ++ [t]).map (Value.int .i64) := by simp
        have HMP := Lib.hid hmp
        clear hs3 hf3 hr3 hap3 row3 b3 hf hrd hmp
        go_wp2_with (
          at_builtin
          refine append_rd _ rfl _ _ 55 rfl w.heap.size 3 i0 (.int .i64 0) 8 Tryz.underlying55 hi hz0 hz1 hz2 rfl (.slice A1 q c1) q _ rfl ROW3.out _ _ 1 1 [t] rfl HRD.out one_i (q + 1) rfl _ HMP.out (by unfold maxLen; omega) (by omega) (by simp; omega) ?_
          intro A4 c4 w4 hrow4 hg4 hat4
          have S4 := Lib.hid (S3.out.grown hg4 AP3.out)
          have AP4 := Lib.hid (AP3.out.grown (v' := .slice A4 (q + 1) c4) S3.out (hat4.imp id (fun e => ⟨_, e, Nat.le_refl _⟩)))
          have ROW4 := Lib.hid hrow4
          have B4 := Lib.hid (B3.out.grown hg4 (by simp; omega) (fun j hj => (ROW3.out.lt j hj).1))
          clear hrow4 hg4 hat4)
        go_roundw
        case rel => exact ⟨k + 1, q + 1, c4, r3, A4, R ++ [t], by omega, by go_num, rfl, by omega, by rw [List.length_append, HRL.out]; rfl, ROW4.out, S4.out, AP4.out, B4.out⟩
        case measure => simp [intOf]; omega
    · have hq60 : q ≤ 60 := by omega
      have HB := Lib.hid hbr
      have hbs := hbr.size
      clear hbr hqk
      go_wp2_with fail
      clear hlt hk
      go_loopw [9, 47] (fun v i ws => ∃ (k2 u c2 : Nat) (A2 : Option Addr) (H : List Int), k2 ≤ n' ∧ i = .int .i64 k2 ∧ v = .slice A2 u c2 ∧ u ≤ k2 ∧ u ≤ q ∧ H.length = u ∧ (∀ x ∈ H, x ≠ 0) ∧
        ws.ownsRow w.heap.size 27 1 (.slice A2 u c2) u (H.map (Value.int .u64)) ∧ ws.ownsRow w.heap.size 3 1 (.slice A1 q c1) q (R.map (Value.int .i64)) ∧ Ss ws w.heap.size p r (stt R H) ∧ Apart (.slice A2 u c2) p r ∧ (∀ g, (Value.slice A2 u c2).ownBlock = some g → (Value.slice A1 q c1).ownBlock ≠ some g) ∧ Below w.heap.size w ws) (fun _ i _ => n' - (intOf i).toNat)
      case atStart => exact ⟨0, 0, 0, none, [], Nat.zero_le _, rfl, rfl, Nat.le_refl _, Nat.zero_le _, rfl, (fun x hx => by cases hx), World.ownsRow_nil _ _ _ _, HROW.out, HS.out, (fun g hg => by cases hg), (fun g hg => by cases hg), HB.out⟩
      case round =>
        clear HB HS HROW hbs
        obtain ⟨k2, u, c2, A2, H, hk2, rfl, rfl, huk, huq, hHl, hH, hrow2, hrow, hss, hap2, hsep, hbr⟩ := hrel
        have HROW2 := Lib.hid hrow2
        have HROW := Lib.hid hrow
        have HS := Lib.hid hss
        have HAP2 := Lib.hid hap2
        have HSEP := Lib.hid hsep
        have HHL := Lib.hid hHl
        have HH := Lib.hid hH
        have HB := Lib.hid hbr
        have hbs := hbr.size
        clear hrow2 hrow hss hap2 hsep hHl hH hbr
        by_cases hlt : k2 < n'
        · obtain ⟨b, o, x, rfl, hb, hx, c0⟩ := R2.out.get hlt
          have d0 := (HB.out.cell (p := ⟨b, o + k2, none⟩) hb).trans c0
          clear c0 hx
          by_cases hx0 : x = 0
          · subst hx0
            go_wp2_with fail
            refine (fill_zero_any _ p).mono ?_
            rintro e w3 ⟨rfl, rfl⟩
            go_wp2_with fail
            go_roundw
            case rel => exact ⟨k2 + 1, u, c2, A2, H, by omega, by go_num, rfl, by omega, huq, HHL.out, HH.out, HROW2.out, HROW.out, HS.out, HAP2.out, HSEP.out, HB.out⟩
            case measure => simp [intOf]; omega
          · have e0 : (x == 0) = false := by simpa using hx0
            by_cases huq2 : u < q
            · have t0 : decide ((u : Int) < (q : Int)) = true := decide_eq_true (by omega)
              have t0' : decide (u < q) = true := decide_eq_true huq2
              obtain ⟨b1, o1, t, rfl, hb1, ht, cc⟩ := (own_rd_i HRL.out HROW.out).get huq2
              have hHR : H.length < R.length := by rw [HHL.out, HRL.out]; exact huq2
              have hfr : (stt R H).findIdx? free = some u := by rw [stt_free HH.out hHR, HHL.out]
              have hgt : (stt R H)[u]? = some (t, 1, 0) := by
                rw [stt_get R H ht, List.getD_eq_getElem?_getD, List.getElem?_eq_none (by rw [HHL.out]; exact Nat.le_refl _)]
                rfl
              have hfl : fillAt (stt R H) u (t, 1, 0) x = stt R (H ++ [x]) := by
                have hRu : R[H.length] = t := by
                  have := List.getElem?_eq_getElem hHR
                  rw [← HHL.out] at ht
                  rw [ht] at this
                  injection this with this
                  exact this.symm
                have := stt_fill hHR x
                rw [hRu, HHL.out] at this
                exact this
              have HFL := Lib.hid hfl
              have HFR := Lib.hid hfr
              have HGT := Lib.hid hgt
              clear hfr hgt hfl ht hHR
              go_wp2_with fail
              refine (fill_hit_any _ _ _ _ _ x u (t, 1, 0) HS.out HFR.out HGT.out hx0).mono ?_
              rw [HFL.out]
              rintro e w3 ⟨rfl, hs3, hf3⟩
              have row3 := keep_row HROW.out hf3 HAP.out
              have dt : w3.cell? ⟨b1, o1 + u, none⟩ = some (.int .i64 t) := by
                rw [hf3.cell (p := ⟨b1, o1 + u, none⟩) hb1 (fun e => by injection e with e; exact (HAP.out b1 rfl).1 e) (fun e => (HAP.out b1 rfl).2 e.symm)]
                exact cc
              have row23 := keep_row HROW2.out hf3 HAP2.out
              have b3 : Below w.heap.size w w3 := HB.out.trans (hf3.below hbs (fun k hk => by cases hk; exact HS.out.lo) (fun g hg => (HS.out.rowlt g hg).1))
              have hs3z := b3.size
              have hrd : Rd (Value.int .u64) (w3.alloc (.cells #[.int .u64 x] 27)) (w3.heap.size + 1) (some ⟨w3.heap.size, 0, none⟩) 1 1 [x] := rd_one w3 x 27
              have HRD := Lib.hid hrd
              have hmp : H.map (Value.int .u64) ++ [x].map (Value.int .u64) = (H ++ [x]).map (Value.int .u64) := by simp
              have HMP := Lib.hid hmp
              have S3 := Lib.hid (hs3.later ((Below.refl w3.heap.size w3).alloc (Nat.le_refl _) (.cells #[.int .u64 x] 27)))
              have ROW3 := Lib.hid (row3.alloc (.cells #[.int .u64 x] 27))
              have ROW23 := Lib.hid (row23.alloc (.cells #[.int .u64 x] 27))
              have B3 := Lib.hid (b3.alloc hs3z (.cells #[.int .u64 x] 27))
              clear hs3 hf3 row3 row23 b3 hrd hmp cc
              go_wp2_with (
                at_builtin
                refine append_rd _ rfl _ _ 56 rfl w.heap.size 27 i1 (.int .u64 0) 8 Tryz.underlying56 hi1 hz01 hz11 hz21 rfl (.slice A2 u c2) u _ rfl ROW23.out _ _ 1 1 [x] rfl HRD.out one_u (u + 1) rfl _ HMP.out (by unfold maxLen; omega) (by omega) (by simp; omega) ?_
                intro A4 c4 w4 hrow4 hg4 hat4
                have hat4' : (Value.slice A4 (u + 1) c4).ownBlock = (Value.slice A2 u c2).ownBlock ∨ ∃ g, (Value.slice A4 (u + 1) c4).ownBlock = some g ∧ (w3.alloc (.cells #[.int .u64 x] 27)).heap.size ≤ g := hat4.imp id (fun e => ⟨_, e, Nat.le_refl _⟩)
                have S4 := Lib.hid (S3.out.grown hg4 HAP2.out)
                have AP4 := Lib.hid (HAP2.out.grown (v' := .slice A4 (u + 1) c4) S3.out hat4')
                have ROW24 := Lib.hid hrow4
                have ROW4 := Lib.hid (own_same ROW3.out (fun g hg => hg4.block g (ROW3.out.lt g hg).2 (fun e => HSEP.out g e.symm hg)))
                have SEP4 : Hid (∀ g, (Value.slice A4 (u + 1) c4).ownBlock = some g → (Value.slice (some ⟨b1, o1, none⟩) q c1).ownBlock ≠ some g) := Lib.hid (fun g hg e => by
                  rcases hat4' with e2 | ⟨g2, e2, hg2⟩
                  · exact HSEP.out g (e2.symm.trans hg) e
                  · rw [e2] at hg
                    injection hg with hg
                    subst hg
                    have := (ROW3.out.lt _ e).2
                    omega)
                have B4 := Lib.hid (B3.out.grown hg4 (by simp; omega) (fun j hj => (ROW23.out.lt j hj).1))
                clear hrow4 hg4 hat4 hat4')
              go_roundw
              case rel => exact ⟨k2 + 1, u + 1, c4, A4, H ++ [x], by omega, by go_num, rfl, by omega, huq2, by rw [List.length_append, HHL.out]; rfl, (fun y hy => by
                rcases List.mem_append.1 hy with hy | hy
                · exact HH.out y hy
                · simp at hy; subst hy; exact hx0), ROW24.out, ROW4.out, S4.out, AP4.out, SEP4.out, B4.out⟩
              case measure => simp [intOf]; omega
            · have t0 : decide ((u : Int) < (q : Int)) = false := decide_eq_false (by omega)
              have t0' : decide (u < q) = false := decide_eq_false huq2
              have hfr : (stt R H).findIdx? free = none := stt_full HH.out (by rw [HHL.out, HRL.out]; omega)
              have HFR := Lib.hid hfr
              clear hfr
              go_wp2_with fail
              refine (fill_miss_any _ _ _ _ _ x HS.out HFR.out hx0).mono ?_
              rintro e w3 ⟨rfl, hb3⟩
              have S3 := Lib.hid (HS.out.later hb3)
              have ROW3 := Lib.hid (own_same HROW.out (fun g hg => hb3.block g (HROW.out.lt g hg).2))
              have ROW23 := Lib.hid (own_same HROW2.out (fun g hg => hb3.block g (HROW2.out.lt g hg).2))
              have B3 := Lib.hid (HB.out.trans (hb3.mono hbs))
              clear hb3
              go_wp2_with fail
              go_roundw
              case rel => exact ⟨k2 + 1, u, c2, A2, H, by omega, by go_num, rfl, by omega, huq, HHL.out, HH.out, ROW23.out, ROW3.out, S3.out, HAP2.out, HSEP.out, B3.out⟩
              case measure => simp [intOf]; omega
        · go_wp2_with fail
          clear hlt hk2 huk
          go_loopw [88] (fun i ws => ∃ k3 : Nat, k3 ≤ q ∧ i = .int .i64 k3 ∧
            ws.ownsRow w.heap.size 27 1 (.slice A2 u c2) u (H.map (Value.int .u64)) ∧ ws.ownsRow w.heap.size 3 1 (.slice A1 q c1) q (R.map (Value.int .i64)) ∧ Ss ws w.heap.size p r (stt (R.drop k3) (H.drop k3)) ∧ Below w.heap.size w ws) (fun i _ => q - (intOf i).toNat)
          case atStart => exact ⟨0, Nat.zero_le _, rfl, HROW2.out, HROW.out, HS.out, HB.out⟩
          case round =>
            clear HB HS HROW HROW2 hbs
            obtain ⟨k3, hk3, rfl, hrow2, hrow, hss, hbr⟩ := hrel
            have HROW2 := Lib.hid hrow2
            have HROW := Lib.hid hrow
            have HS := Lib.hid hss
            have HB := Lib.hid hbr
            have hbs := hbr.size
            clear hrow2 hrow hss hbr
            by_cases hlt : k3 < q
            · obtain ⟨b1, o1, t, rfl, hb1, ht, cc⟩ := (own_rd_i HRL.out HROW.out).get hlt
              have hdr := stt_drop (H := H) ht
              have hss := HS.out
              rw [hdr] at hss
              have HS2 := Lib.hid hss
              clear hdr hss ht
              go_wp2_with fail
              refine (take_hit_any _ _ _ _ _ t 0 _ HS2.out (first_hit _ _ _ _) rfl).mono ?_
              simp only [List.eraseIdx_zero, List.tail_cons]
              rintro e w3 ⟨rfl, hs3, hf3⟩
              have ROW3 := Lib.hid (keep_row HROW.out hf3 HAP.out)
              have row23 := keep_row HROW2.out hf3 HAP2.out
              have B3 := Lib.hid (HB.out.trans (hf3.below hbs (fun k hk => by cases hk; exact HS2.out.lo) (fun g hg => (HS2.out.rowlt g hg).1)))
              have S3 := Lib.hid hs3
              clear hs3 hf3
              by_cases hu : k3 < u
              · have t0 : decide ((k3 : Int) < (u : Int)) = true := decide_eq_true (by omega)
                have t0' : decide (k3 < u) = true := decide_eq_true hu
                obtain ⟨b2, o2, y, rfl, hb2, hy, c3⟩ := (own_rd_i HHL.out row23).get hu
                have hg : H.getD k3 0 = y := by rw [List.getD_eq_getElem?_getD, hy]; rfl
                rw [hg]
                have ROW23 := Lib.hid row23
                clear hg hy row23
                go_wp2_with fail
                go_roundw
                case rel => exact ⟨k3 + 1, by omega, by go_num, ROW23.out, ROW3.out, S3.out, B3.out⟩
                case measure => simp [intOf]; omega
              · have t0 : decide ((k3 : Int) < (u : Int)) = false := decide_eq_false (by omega)
                have t0' : decide (k3 < u) = false := decide_eq_false hu
                have hg : H.getD k3 0 = 0 := by rw [List.getD_eq_getElem?_getD, List.getElem?_eq_none (by rw [HHL.out]; omega)]; rfl
                rw [hg]
                have ROW23 := Lib.hid row23
                clear hg row23
                go_wp2_with fail
                go_roundw
                case rel => exact ⟨k3 + 1, by omega, by go_num, ROW23.out, ROW3.out, S3.out, B3.out⟩
                case measure => simp [intOf]; omega
            · have hnil : stt (R.drop k3) (H.drop k3) = [] := by rw [List.drop_of_length_le (by have := HRL.out; omega)]; rfl
              have hss := HS.out
              rw [hnil] at hss
              have HS2 := Lib.hid hss
              clear hnil hss
              go_wp2_with fail
              refine (all_any _ _ _ _ _ HS2.out (by simp)).mono ?_
              rintro e w3 ⟨A3, c3, rfl, ho3, hb3⟩
              simp only [List.length_nil]
              have S3 := Lib.hid (HS2.out.later hb3)
              have B3 := Lib.hid (HB.out.trans (hb3.mono hbs))
              clear ho3 hb3
              go_wp2_with fail
              refine (waiting_any _ _ _ _ _ S3.out (by simp)).mono ?_
              rintro e w4 ⟨rfl, hb4⟩
              rw [show waitN [] = 0 from rfl]
              go_wp2_with fail
              go_ret
              exact ⟨rfl, B3.out.trans (hb4.mono B3.out.size)⟩
end Go.Proofs.YtbedboekfkobjaaGreatDoor.St
