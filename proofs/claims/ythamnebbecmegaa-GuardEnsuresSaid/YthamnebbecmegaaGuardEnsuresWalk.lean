/- The walk of hackneylaw07.GuardEnsures (its end stands twice: made by program, gen_ens.py). -/
import Derived.Test.YthamnebbecmegaaEnsuresB
import Derived.Test.YthamnebbecmegaaGuardCatchesWalk
namespace Go.Proofs.Ythamnebbecmegaa.Gd
open Go.ChangeShapes Go.WideShapes Go.ChangeAt Go.RowKit Rw
set_option linter.unusedVariables false

set_option maxRecDepth 100000 in
set_option maxHeartbeats 8000000 in
theorem ensures_any (ab ao n c : Nat) (A : Option Addr) (Dd C : Nat → Int) (S : Nat → ByteArray) (w : World) (hn : n ≤ 30)
    (hA : 0 < n → A = some ⟨ab, ao, none⟩) (hab : 0 < n → ab < w.heap.size)
    (hc : ∀ j, j < n → w.cell? ⟨ab, ao + j * 3, none⟩ = some (.int .u8 (Dd j)) ∧ w.cell? ⟨ab, ao + j * 3 + 1, none⟩ = some (.int .u8 (C j)) ∧ w.cell? ⟨ab, ao + j * 3 + 2, none⟩ = some (.string (S j)))
    (hK : ∀ j, j < n → (0 ≤ Dd j ∧ Dd j ≤ 255) ∧ (0 ≤ C j ∧ C j ≤ 255)) :
    Calls Try.prog 7 #[.slice A n c] w fun e w' => e = .returned (.bool true) ∧ Below w.heap.size w w' := by
  have t0 : decide ((30 : Int) < (n : Int)) = false := decide_eq_false (by omega)
  have t0' : decide (30 < n) = false := decide_eq_false (by omega)
  have hmf := makeFunc_run
  have hfe := fail_eq 15
  have rs : ∀ (w : World) (a : Addr) (f : Fn) (x y : Array Value), (store a (.func f x y)).run Try.prog w = stored Try.prog w a (.func f x y) .plain := fun w a f x y => run_store Try.prog w a _ .plain rfl
  have HA := Lib.hid hA
  have HAB := Lib.hid hab
  have HC := Lib.hid hc
  have HKK := Lib.hid hK
  clear hA hab hc hK
  go_enter Try.func7, Try.ntmps7
  go_wp2_with fail
  refine (awake7_any _).mono ?_
  rintro e w1 ⟨rfl, b1⟩
  go_wp2_with fail
  obtain ⟨D, hD⟩ : ∃ D, w1.heap.size = D := ⟨_, rfl⟩
  rw [hD]
  have hwD : w.heap.size ≤ D := by have := b1.size; omega
  have HD := Lib.hid hD
  have hba := b1.alloc b1.size (.cells #[.slice none 0 0] 80)
  have hc0 : (w1.alloc (.cells #[.slice none 0 0] 80)).cell? ⟨D, 0, none⟩ = some (.slice none 0 0) := by rw [← hD]; go_simp
  have hf0 : (w1.alloc (.cells #[.slice none 0 0] 80)).frozen? ⟨D, 0, none⟩ = false := by rw [← hD]; go_simp
  have hsz0 : (w1.alloc (.cells #[.slice none 0 0] 80)).heap.size = D + 1 := by rw [← hD]; simp
  have HBA := Lib.hid hba
  have HC0 := Lib.hid hc0
  have HF0 := Lib.hid hf0
  have HS0 := Lib.hid hsz0
  clear hD hba hc0 hf0 hsz0 b1
  generalize w1.alloc (.cells #[.slice none 0 0] 80) = w2 at *
  go_loopw [4, 22] (fun v i wr => ∃ k : Nat, k ≤ n ∧ i = .int .i64 k ∧ v = vK D k ∧ wr.heap.size = D + 1 + 3 * k ∧ Ch Dd C S wr D k ∧ wr.cell? ⟨D, 0, none⟩ = some (.slice none 0 0) ∧ wr.frozen? ⟨D, 0, none⟩ = false ∧ Below w.heap.size w wr) (fun _ i _ => n - (intOf i).toNat)
  case atStart => exact ⟨0, Nat.zero_le _, rfl, rfl, HS0.out, fun j hj => absurd hj (by omega), HC0.out, HF0.out, HBA.out⟩
  case round =>
    clear HBA HC0 HF0 HS0
    obtain ⟨k, hk, rfl, rfl, hsz, hch, hd0, hdf, hbr⟩ := hrel
    by_cases hlt : k < n
    · obtain ⟨d0, d1, d2⟩ := HC.out k hlt
      have hab := HAB.out (by omega)
      obtain rfl := HA.out (by omega)
      rw [← hbr.cell (p := ⟨ab, _, none⟩) hab] at d0 d1 d2
      have hvk : ∀ u, (Value.func (.func (fK k)) #[] (cK D k)) = u → vK D k = u := fun u h => by rw [vK_eq]; exact h
      rw [vK_eq]
      have HSZ := Lib.hid hsz
      have HCH := Lib.hid hch
      have hge : D + 1 + 3 * k ≤ wr.heap.size := by omega
      have hle : wr.heap.size ≤ D + 1 + 3 * k := by omega
      clear hsz hch hvk
      go_wp2_with fail
      go_roundw
      case rel =>
        have e1 := HSZ.out
        have e2 : wr.heap.size + 1 = D + 2 + 3 * k := by omega
        have e3 : wr.heap.size + 1 + 1 = D + 3 + 3 * k := by omega
        have hbel : ∀ W, Below wr.heap.size wr W → Below w.heap.size w W ∧ W.cell? ⟨D, 0, none⟩ = some (.slice none 0 0) ∧ W.frozen? ⟨D, 0, none⟩ = false ∧ Ch Dd C S W D k := fun W h =>
          ⟨hbr.trans (h.mono hbr.size), (h.cell (p := ⟨D, 0, none⟩) (by simp only; omega)).trans hd0, (h.frozen (p := ⟨D, 0, none⟩) (by simp only; omega)).trans hdf, HCH.out.keep Dd C S fun p h1 h2 => h.cell (by omega)⟩
        obtain ⟨g1, g2, g3, g4⟩ := hbel _ (by
          show Below wr.heap.size wr (((wr.alloc (.cells #[.int .i64 k] 3)).alloc (.cells #[.int .u8 (Dd k), .int .u8 (C k), .string (S k)] 69)).alloc (.cells #[.func (.func (fK k)) #[] (cK D k)] 1))
          exact (((Below.refl _ _).alloc (Nat.le_refl _) _).alloc (by simp) _).alloc (by simp; omega) _)
        refine ⟨k + 1, by omega, by go_num, ?_, ?_, ?_, g2, g3, g1⟩
        · simp only [vK]; rw [e3, e2, e1]
        · simp; omega
        · intro j hj
          rcases Nat.lt_or_ge j k with h | h
          · exact g4 j h
          · obtain rfl : j = k := by omega
            rw [← e1, ← e2, ← e3, vK_eq]
            refine ⟨?_, ⟨?_, ?_, ?_⟩, ?_⟩ <;> simp [go_sem]
      case measure => simp [intOf]; omega
    · obtain rfl : k = n := by omega
      clear hlt hk
      have hst : St Dd C S wr D k [] none := ⟨hch, by omega, ⟨none, 0, hd0, World.ownsRow_nil _ _ _ _, rfl⟩, hdf⟩
      have HST := Lib.hid hst
      have HBR := Lib.hid hbr
      clear hst hch hd0 hdf hbr hsz
      go_wp2_with fail
      refine (tryK_any Dd C S D k hn HKK.out _ HST.out).mono ?_
      rintro e w3 ⟨pv, pb, rfl, hp, o', hst3, hb3⟩
      have HP := Lib.hid hp
      have HB3 := Lib.hid (HBR.out.trans (hb3.mono hwD))
      obtain ⟨A3, c3, hr0, hrow, _⟩ := hst3.row
      rw [upto_len] at hr0 hrow
      have hrd3 : Rd (Value.int .i64) w3 w3.heap.size A3 k c3 (upto k) := Rd.own_rd hrow
      have HRD3 := Lib.hid hrd3
      clear hp hst3 hb3 hrow hrd3 HBR HST
      go_wp2_with fail
      refine (sorted_any A3 k c3 _ _ HRD3.out (Nat.le_refl _) (by omega)).mono ?_
      rintro e w4 ⟨rfl, hb4⟩
      have HB4 := Lib.hid (HB3.out.trans (hb4.mono HB3.out.size))
      clear hb4 HRD3 hr0 HB3
      go_wp2_with fail
      obtain ⟨F, hF⟩ : ∃ F, w4.heap.size = F := ⟨_, rfl⟩
      rw [hF]
      have hwF : w.heap.size ≤ F := by have := HB4.out.size; omega
      have hba := HB4.out.alloc HB4.out.size (.cells #[.int .u8 0, .int .u8 0, .string ByteArray.empty] 69)
      have i0 : (w4.alloc (.cells #[.int .u8 0, .int .u8 0, .string ByteArray.empty] 69)).cell? ⟨F, 0, none⟩ = some (.int .u8 0) := by rw [← hF]; go_simp
      have i1 : (w4.alloc (.cells #[.int .u8 0, .int .u8 0, .string ByteArray.empty] 69)).cell? ⟨F, 1, none⟩ = some (.int .u8 0) := by rw [← hF]; go_simp
      have i2 : (w4.alloc (.cells #[.int .u8 0, .int .u8 0, .string ByteArray.empty] 69)).cell? ⟨F, 2, none⟩ = some (.string ByteArray.empty) := by rw [← hF]; go_simp
      have i3 : ∀ m, (w4.alloc (.cells #[.int .u8 0, .int .u8 0, .string ByteArray.empty] 69)).frozen? ⟨F, m, none⟩ = false := by intro m; rw [← hF]; go_simp
      have HBA := Lib.hid hba
      have I0 := Lib.hid i0
      have I1 := Lib.hid i1
      have I2 := Lib.hid i2
      have I3 := Lib.hid i3
      clear hF hba i0 i1 i2 i3 HB4
      change Code.wp _ _ _ _ (w4.alloc (.cells #[.int .u8 0, .int .u8 0, .string ByteArray.empty] 69))
      generalize w4.alloc (.cells #[.int .u8 0, .int .u8 0, .string ByteArray.empty] 69) = w5 at *
      go_loopw [47] (fun i wr => ∃ q : Nat, q ≤ k ∧ i = .int .i64 q ∧ (∀ j, j < q → want (Dd j) (C j) = 0) ∧ wr.cell? ⟨F, 0, none⟩ = some (.int .u8 0) ∧ wr.cell? ⟨F, 1, none⟩ = some (.int .u8 0) ∧ wr.cell? ⟨F, 2, none⟩ = some (.string ByteArray.empty) ∧ (∀ m, wr.frozen? ⟨F, m, none⟩ = false) ∧ Below w.heap.size w wr) (fun i _ => k - (intOf i).toNat)
      case atStart => exact ⟨0, Nat.zero_le _, rfl, fun j hj => absurd hj (by omega), I0.out, I1.out, I2.out, I3.out, HBA.out⟩
      case round =>
        clear HBA I0 I1 I2 I3
        obtain ⟨q, hq, rfl, hall, x0, x1, x2, x3, hbr⟩ := hrel
        have HALL := Lib.hid hall
        have X3 := Lib.hid x3
        clear hall x3
        by_cases hlt : q < k
        · obtain ⟨d0, d1, d2⟩ := HC.out q hlt
          have hab := HAB.out (by omega)
          obtain rfl := HA.out (by omega)
          rw [← hbr.cell (p := ⟨ab, _, none⟩) hab] at d0 d1 d2
          have hKT := HKK.out q hlt
          have HX := Lib.hid hKT.1
          have HY := Lib.hid hKT.2
          obtain ⟨x, hx⟩ : ∃ x, Dd q = x := ⟨_, rfl⟩
          obtain ⟨y, hy⟩ : ∃ y, C q = y := ⟨_, rfl⟩
          obtain ⟨z, hz⟩ : ∃ z, S q = z := ⟨_, rfl⟩
          rw [hx] at d0 HX
          rw [hy] at d1 HY
          rw [hz] at d2
          have EX := Lib.hid hx
          have EY := Lib.hid hy
          clear hKT hx hy hz
          go_wp2_with fail
          refine (want_any x y z HX.out HY.out _).mono ?_
          rintro e w6 ⟨rfl, hb6⟩
          have hbw := (Below.refl wr.heap.size wr).alloc (Nat.le_refl _) (.cells #[.int .u8 x, .int .u8 y, .string z] 69)
          have hb7 : Below wr.heap.size wr w6 := hbw.trans (hb6.mono (by simp))
          have hFl : F < wr.heap.size := Lw.lt_heap x0
          have f0 : w6.cell? ⟨F, 0, none⟩ = some (.int .u8 0) := (hb7.cell (p := ⟨F, 0, none⟩) hFl).trans x0
          have f1 : w6.cell? ⟨F, 1, none⟩ = some (.int .u8 0) := (hb7.cell (p := ⟨F, 1, none⟩) hFl).trans x1
          have f2 : w6.cell? ⟨F, 2, none⟩ = some (.string ByteArray.empty) := (hb7.cell (p := ⟨F, 2, none⟩) hFl).trans x2
          have f3 : ∀ m, w6.frozen? ⟨F, m, none⟩ = false := fun m => (hb7.frozen (p := ⟨F, m, none⟩) hFl).trans (X3.out m)
          have c0 : w6.cell? ⟨wr.heap.size, 0, none⟩ = some (.int .u8 x) := (hb6.cell (p := ⟨wr.heap.size, 0, none⟩) (by simp)).trans (by go_simp)
          have c1 : w6.cell? ⟨wr.heap.size, 1, none⟩ = some (.int .u8 y) := (hb6.cell (p := ⟨wr.heap.size, 1, none⟩) (by simp)).trans (by go_simp)
          have c2 : w6.cell? ⟨wr.heap.size, 2, none⟩ = some (.string z) := (hb6.cell (p := ⟨wr.heap.size, 2, none⟩) (by simp)).trans (by go_simp)
          have HB7 := Lib.hid (hbr.trans (hb7.mono hbr.size))
          clear hb6 hbw hb7 hbr X3 x0 x1 x2 d0 d1 d2
          by_cases hw : want x y = 0
          · have hwb : (want x y != 0) = false := by simpa using hw
            have HWW := Lib.hid hw
            clear hw
            go_wp2_with fail
            go_roundw
            case rel =>
              refine ⟨q + 1, by omega, by go_num, fun j hj => ?_, f0, f1, f2, f3, HB7.out⟩
              rcases Nat.lt_or_ge j q with h | h
              · exact HALL.out j h
              · obtain rfl : j = q := by omega
                rw [EX.out, EY.out]; exact HWW.out
            case measure => simp [intOf]; omega
          · have hwb : (want x y != 0) = true := by simpa using hw
            have HW : Hid (want x y ≠ 0 ↔ ∃ j, j < k ∧ want (Dd j) (C j) ≠ 0) := Lib.hid ⟨fun h => ⟨q, hlt, by rw [EX.out, EY.out]; exact h⟩, fun _ => hw⟩
            clear hw
            go_wp2_with fail
            obtain ⟨WT, hWT⟩ : ∃ WT, ((w6.setCell ⟨F, 0, none⟩ (.int .u8 x)).setCell ⟨F, 1, none⟩ (.int .u8 y)).setCell ⟨F, 2, none⟩ (.string z) = WT := ⟨_, rfl⟩
            rw [hWT]
            have n01 : (⟨F, 0, none⟩ : Addr) ≠ ⟨F, 1, none⟩ := fun e => by injection e with _ e; omega
            have n02 : (⟨F, 0, none⟩ : Addr) ≠ ⟨F, 2, none⟩ := fun e => by injection e with _ e; omega
            have n12 : (⟨F, 1, none⟩ : Addr) ≠ ⟨F, 2, none⟩ := fun e => by injection e with _ e; omega
            have x0 : WT.cell? ⟨F, 0, none⟩ = some (.int .u8 x) := by
              rw [← hWT]
              exact (World.cell?_setCell_other _ _ _ _ n02.symm).trans ((World.cell?_setCell_other _ _ _ _ n01.symm).trans (World.cell?_setCell_same _ _ _ f0))
            have x1 : WT.cell? ⟨F, 1, none⟩ = some (.int .u8 y) := by
              rw [← hWT]
              exact (World.cell?_setCell_other _ _ _ _ n12.symm).trans (World.cell?_setCell_same _ _ _ ((World.cell?_setCell_other _ _ _ _ n01).trans f1))
            have x2 : WT.cell? ⟨F, 2, none⟩ = some (.string z) := by
              rw [← hWT]
              exact World.cell?_setCell_same _ _ _ ((World.cell?_setCell_other _ _ _ _ n12).trans ((World.cell?_setCell_other _ _ _ _ n02).trans f2))
            have hbT : Below w.heap.size w WT := by
              rw [← hWT]
              exact ((HB7.out.setCell hwF _).setCell hwF _).setCell hwF _
            have hfd := HX.out
            have hfc := HY.out
            clear hWT f0 f1 f2 f3 c0 c1 c2 HB7 n01 n02 n12 hwb
            -- the tail
            have hw0 : want x y ≠ 0 ↔ ∃ j, j < k ∧ want (Dd j) (C j) ≠ 0 := HW.out
            refine (ensure_any (F := .nilFunc) (L := .nilFunc) (.inl rfl) (Rf := fun e w1 => e = .returned (.tuple #[]) ∧ WT.alloc (.cells #[.nilFunc] 1) = w1) (Rl := fun _ w1 e w' => e = .returned (.tuple #[]) ∧ WT.alloc (.cells #[.nilFunc] 1) = w') (call_nil _) ?_ ?_).mono ?_
            · rintro e w1 ⟨rfl, rfl⟩
              exact ⟨.inl rfl, by go_simp, call_nil _⟩
            · exact fun _ _ e w' h => .inl h.1
            rintro e w5 ⟨e0, w0, e1, ⟨rfl, rfl⟩, ⟨rfl, rfl⟩, rfl⟩
            have y0 := alloc_cell x0 (.cells #[.nilFunc] 1)
            have y1 := alloc_cell x1 (.cells #[.nilFunc] 1)
            have y2 := alloc_cell x2 (.cells #[.nilFunc] 1)
            have hb5 : Below w.heap.size w (WT.alloc (.cells #[.nilFunc] 1)) := hbT.alloc hbT.size _
            generalize WT.alloc (.cells #[.nilFunc] 1) = w5 at *
            clear x0 x1 x2 hbT
            go_wp2_with fail
            refine (try_two (K := 48) (first := #[]) (cap := #[.pointer (some ⟨F, 0, none⟩)]) (fun w => by simp [go_sem]) (fun w1 hb1 => ?_)).mono ?_
            · rw [Array.empty_append]
              exact third_any F x y z hfd hfc w1 ((hb1.cell (p := ⟨F, 0, none⟩) (Lw.lt_heap y0)).trans y0) ((hb1.cell (p := ⟨F, 1, none⟩) (Lw.lt_heap y1)).trans y1) ((hb1.cell (p := ⟨F, 2, none⟩) (Lw.lt_heap y2)).trans y2)
            rintro e w6 ⟨rfl, hb6⟩
            have v0 : w6.cell? ⟨F, 0, none⟩ = some (.int .u8 x) := (hb6.cell (p := ⟨F, 0, none⟩) (Lw.lt_heap y0)).trans y0
            have v1 : w6.cell? ⟨F, 1, none⟩ = some (.int .u8 y) := (hb6.cell (p := ⟨F, 1, none⟩) (Lw.lt_heap y1)).trans y1
            have v2 : w6.cell? ⟨F, 2, none⟩ = some (.string z) := (hb6.cell (p := ⟨F, 2, none⟩) (Lw.lt_heap y2)).trans y2
            have HB6 := Lib.hid (hb5.trans (hb6.mono hb5.size))
            clear y0 y1 y2 hb5 hb6
            go_wp2_with fail
            refine (want_any x y z hfd hfc _).mono ?_
            rintro e w7 ⟨rfl, hb7⟩
            have HB7 := Lib.hid (HB6.out.trans (hb7.mono HB6.out.size))
            clear hb7 HB6 v0 v1 v2
            cases hpb : pb with
            | true =>
              have hne : (want x y != 0) = true := by simpa using hw0.2 (HP.out.1 hpb)
              clear hw0
              go_wp2_with fail
              go_ret
              exact ⟨rfl, HB7.out⟩
            | false =>
              have hne : (want x y != 0) = false := by
                cases hq : (want x y != 0) with
                | false => rfl
                | true =>
                  have := HP.out.2 (hw0.1 (by simpa using hq))
                  rw [hpb] at this; cases this
              clear hw0
              go_wp2_with fail
              go_ret
              exact ⟨rfl, HB7.out⟩
        · obtain rfl : q = k := by omega
          have HW : Hid (want 0 0 ≠ 0 ↔ ∃ j, j < q ∧ want (Dd j) (C j) ≠ 0) := Lib.hid ⟨fun h => absurd rfl h, fun ⟨j, hj, h⟩ => absurd (HALL.out j hj) h⟩
          clear hlt X3 HALL
          have hfd : (0 : Int) ≤ 0 ∧ (0 : Int) ≤ 255 := by omega
          have hfc := hfd
          go_wp2_with fail
          have hbT := hbr
          clear hbr
          obtain ⟨WT, hWT⟩ : ∃ WT, wr = WT := ⟨_, rfl⟩
          subst hWT
          -- the tail
          have hw0 : want 0 0 ≠ 0 ↔ ∃ j, j < q ∧ want (Dd j) (C j) ≠ 0 := HW.out
          refine (ensure_any (F := .nilFunc) (L := .nilFunc) (.inl rfl) (Rf := fun e w1 => e = .returned (.tuple #[]) ∧ wr.alloc (.cells #[.nilFunc] 1) = w1) (Rl := fun _ w1 e w' => e = .returned (.tuple #[]) ∧ wr.alloc (.cells #[.nilFunc] 1) = w') (call_nil _) ?_ ?_).mono ?_
          · rintro e w1 ⟨rfl, rfl⟩
            exact ⟨.inl rfl, by go_simp, call_nil _⟩
          · exact fun _ _ e w' h => .inl h.1
          rintro e w5 ⟨e0, w0, e1, ⟨rfl, rfl⟩, ⟨rfl, rfl⟩, rfl⟩
          have y0 := alloc_cell x0 (.cells #[.nilFunc] 1)
          have y1 := alloc_cell x1 (.cells #[.nilFunc] 1)
          have y2 := alloc_cell x2 (.cells #[.nilFunc] 1)
          have hb5 : Below w.heap.size w (wr.alloc (.cells #[.nilFunc] 1)) := hbT.alloc hbT.size _
          generalize wr.alloc (.cells #[.nilFunc] 1) = w5 at *
          clear x0 x1 x2 hbT
          go_wp2_with fail
          refine (try_two (K := 48) (first := #[]) (cap := #[.pointer (some ⟨F, 0, none⟩)]) (fun w => by simp [go_sem]) (fun w1 hb1 => ?_)).mono ?_
          · rw [Array.empty_append]
            exact third_any F 0 0 ByteArray.empty hfd hfc w1 ((hb1.cell (p := ⟨F, 0, none⟩) (Lw.lt_heap y0)).trans y0) ((hb1.cell (p := ⟨F, 1, none⟩) (Lw.lt_heap y1)).trans y1) ((hb1.cell (p := ⟨F, 2, none⟩) (Lw.lt_heap y2)).trans y2)
          rintro e w6 ⟨rfl, hb6⟩
          have v0 : w6.cell? ⟨F, 0, none⟩ = some (.int .u8 0) := (hb6.cell (p := ⟨F, 0, none⟩) (Lw.lt_heap y0)).trans y0
          have v1 : w6.cell? ⟨F, 1, none⟩ = some (.int .u8 0) := (hb6.cell (p := ⟨F, 1, none⟩) (Lw.lt_heap y1)).trans y1
          have v2 : w6.cell? ⟨F, 2, none⟩ = some (.string ByteArray.empty) := (hb6.cell (p := ⟨F, 2, none⟩) (Lw.lt_heap y2)).trans y2
          have HB6 := Lib.hid (hb5.trans (hb6.mono hb5.size))
          clear y0 y1 y2 hb5 hb6
          go_wp2_with fail
          refine (want_any 0 0 ByteArray.empty hfd hfc _).mono ?_
          rintro e w7 ⟨rfl, hb7⟩
          have HB7 := Lib.hid (HB6.out.trans (hb7.mono HB6.out.size))
          clear hb7 HB6 v0 v1 v2
          cases hpb : pb with
          | true =>
            have hne : (want 0 0 != 0) = true := by simpa using hw0.2 (HP.out.1 hpb)
            clear hw0
            go_wp2_with fail
            go_ret
            exact ⟨rfl, HB7.out⟩
          | false =>
            have hne : (want 0 0 != 0) = false := by
              cases hq : (want 0 0 != 0) with
              | false => rfl
              | true =>
                have := HP.out.2 (hw0.1 (by simpa using hq))
                rw [hpb] at this; cases this
            clear hw0
            go_wp2_with fail
            go_ret
            exact ⟨rfl, HB7.out⟩
theorem ensures_long (A : Option Addr) (n c : Nat) (w : World) (hn : n ≤ 9223372036854775807) (h : 30 < n) :
    Calls Try.prog 7 #[.slice A n c] w fun e w' => e = .returned (.bool true) ∧ Below w.heap.size w w' := by
  have t0 : decide ((30 : Int) < (n : Int)) = true := decide_eq_true (by omega)
  have t0' : decide (30 < n) = true := decide_eq_true (by omega)
  go_enter Try.func7, Try.ntmps7
  go_wp2_with fail
  refine (awake7_any _).mono ?_
  rintro e w1 ⟨rfl, b1⟩
  go_wp2_with fail
  go_ret
  exact ⟨rfl, b1⟩
end Go.Proofs.Ythamnebbecmegaa.Gd
