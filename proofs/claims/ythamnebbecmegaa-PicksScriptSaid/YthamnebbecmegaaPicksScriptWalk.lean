/- The walk of hackneylaw08.PicksScript. -/
import Derived.Test.YthamnebbecmegaaPicksRef
namespace Go.Proofs.Ythamnebbecmegaa.Pi
open Go.ChangeShapes Go.WideShapes Go.ChangeAt Go.RowKit Rw
set_option linter.unusedVariables false

theorem outs_same (xs : List Int) (K : Int) (hxs : ∀ x ∈ xs, 0 ≤ x ∧ x < K) (k : Nat) (hk : k ≤ xs.length) : outs xs 0 K k = xs.take k := by
  induction k with
  | zero => rfl
  | succ k ih =>
    have hk' : k < xs.length := by omega
    rw [outs_succ, ih (by omega), List.take_add_one, List.getElem?_eq_getElem hk']
    have h1 := hxs _ (List.getElem_mem hk')
    have : val xs 0 k = xs[k] := by unfold val; rw [dif_pos hk']
    rw [this, Int.emod_eq_of_lt h1.1 h1.2]
    rfl
set_option maxRecDepth 100000 in
set_option maxHeartbeats 4000000 in
theorem script_any (A : Option Addr) (len c : Nat) (ys : List Int) (n : Int) (w : World) (h : Rd (Value.int .u8) w w.heap.size A len c ys) (hu : ∀ y ∈ ys, 0 ≤ y ∧ y ≤ 255) (hl : len ≤ 200) (hn : 0 ≤ n) (hn' : n ≤ 255) :
    Calls Try.prog 11 #[.slice A len c, .int .u8 n] w fun e w' => e = .returned (.bool true) ∧ Below w.heap.size w w' := by
  obtain ⟨i0, hi, hz0, hz1, hz2⟩ := info_parts Si.info_int
  have t0 : decide ((200 : Int) < (len : Int)) = false := decide_eq_false (by omega)
  have t0' : decide (200 < len) = false := decide_eq_false (by omega)
  have k0 : 0 ≤ n % 50 := by omega
  have k1 : n % 50 ≤ 49 := by omega
  have HR := Lib.hid h
  have HU := Lib.hid hu
  have HLEN := Lib.hid h.len
  clear h hu
  go_enter Try.func11, Try.ntmps11
  go_wp2_with fail
  refine (awake8_any _).mono ?_
  rintro e w1 ⟨rfl, b1⟩
  go_wp2_with fail
  obtain ⟨K, hK⟩ : ∃ K, n % 50 + 1 = K := ⟨_, rfl⟩
  rw [hK]
  have K0 : 1 ≤ K := by omega
  have K1 : K ≤ 50 := by omega
  clear hK k0 k1
  have hkz : (K == 0) = false := by simp; omega
  have hkm : (K == -1) = false := by simp; omega
  go_loopw [6, 24] (fun v i wr => ∃ (m c' : Nat) (A' : Option Addr), m ≤ len ∧ i = .int .i64 m ∧ v = .slice A' m c' ∧
      wr.ownsRow w.heap.size 3 1 (.slice A' m c') m (((ys.take m).map (· % K)).map (Value.int .i64)) ∧ Below w.heap.size w wr) (fun _ i _ => len - (intOf i).toNat)
  case atStart => exact ⟨0, 0, none, Nat.zero_le _, rfl, rfl, World.ownsRow_nil _ _ _ _, b1⟩
  case round =>
    obtain ⟨m, c', A', hm, rfl, rfl, hrow, hbr⟩ := hrel
    clear b1
    have HROW := Lib.hid hrow
    clear hrow
    by_cases hlt : m < len
    · obtain ⟨b, o, y, rfl, hb, hy, hcy⟩ := HR.out.get hlt
      have hcell : wr.cell? ⟨b, o + m, none⟩ = some (.int .u8 y) := (hbr.cell (p := ⟨b, o + m, none⟩) hb).trans hcy
      obtain ⟨y0, y1⟩ := HU.out y (List.mem_of_getElem? hy)
      have hmp : ((ys.take m).map (· % K)).map (Value.int .i64) ++ [y % K].map (Value.int .i64) = ((ys.take (m + 1)).map (· % K)).map (Value.int .i64) := by
        rw [Gd.take_succ' hy, List.map_append, List.map_append]; rfl
      have HMP := Lib.hid hmp
      have hrd : Rd (Value.int .i64) (wr.alloc (.cells #[.int .i64 (y % K)] 3)) (wr.heap.size + 1) (some ⟨wr.heap.size, 0, none⟩) 1 1 [y % K] := rd_one wr (y % K) 3
      have HRD := Lib.hid hrd
      have hbs := hbr.size
      have z0 : 0 ≤ y % K := Int.emod_nonneg _ (by omega)
      have z1 : y % K < K := Int.emod_lt_of_pos _ (by omega)
      clear hy hcy hmp hrd
      go_wp2_with (
        at_builtin
        refine append_rd _ rfl _ _ 80 rfl w.heap.size 3 i0 (.int .i64 0) 8 Try.underlying80 hi hz0 hz1 hz2 rfl _ m _ rfl (HROW.out.alloc _) _ _ 1 1 [y % K] rfl HRD.out Si.one_int (m + 1) rfl _ HMP.out (by unfold maxLen; omega) (by omega) (by simp; omega) ?_
        intro A3 c3 w3 hrow3 hg3 hat3
        have HROW3 := Lib.hid hrow3
        have HB3 := Lib.hid ((hbr.alloc hbs _).grown hg3 (by simp; omega) (fun j hj => (HROW.out.lt j hj).1))
        clear hrow3 hg3 hat3)
      go_roundw
      case rel => exact ⟨m + 1, c3, A3, by omega, by go_num, rfl, HROW3.out, HB3.out⟩
      case measure => simp [intOf]; omega
    · obtain rfl : m = len := by omega
      obtain ⟨xs, hxs⟩ : ∃ xs, (ys.take m).map (· % K) = xs := ⟨_, rfl⟩
      have hrd : Rd (Value.int .i64) wr wr.heap.size A' m c' xs := by have := HROW.out; rw [hxs] at this; exact Rd.own_rd this
      have hx : ∀ x ∈ xs, 0 ≤ x ∧ x < K := by
        intro x hx
        rw [← hxs] at hx
        obtain ⟨y, _, rfl⟩ := List.mem_map.1 hx
        exact ⟨Int.emod_nonneg _ (by omega), Int.emod_lt_of_pos _ (by omega)⟩
      have hxl : xs.length = m := hrd.len
      clear hlt HROW hxs HR HU HLEN
      have HRD := Lib.hid hrd
      have HX := Lib.hid hx
      clear hrd hx
      go_wp2_with fail
      refine (new_any A' m c' xs _ _ HRD.out (Nat.le_refl _) (fun x hx => by have := HX.out x hx; unfold Ok; omega) (by omega)).mono ?_
      rintro e w2 ⟨g, rfl, hp2, hg2, hb2⟩
      have HRD2 := Lib.hid (HRD.out.below hb2)
      have HB2 := Lib.hid (hbr.trans (hb2.mono hbr.size))
      have HP2 := Lib.hid hp2
      have hwg : w.heap.size ≤ g := Nat.le_trans hbr.size hg2
      have hs2 := hb2.size
      clear hb2 hp2 HRD hbr
      go_wp2_with fail
      refine (some_any g xs 0 K m K0 (by omega) (by omega) _ HP2.out (by omega) (by omega)).mono ?_
      rintro e w3 ⟨A3, c3, rfl, hrow3, hp3, hg3⟩
      have e3 : outs xs 0 K m = xs := by rw [outs_same xs K HX.out m (by omega), List.take_of_length_le (by omega)]
      rw [e3] at hrow3
      have hdr : xs.drop m = [] := List.drop_eq_nil_of_le (by omega)
      have hsub : m - xs.length = 0 := by omega
      rw [hdr, hsub] at hp3
      have HRD3 := Lib.hid (HRD2.out.grown hg3 (by omega) (fun j hj => by cases hj; exact hg2))
      have HB3 := Lib.hid (HB2.out.grown hg3 HB2.out.size (fun j hj => by cases hj; exact hwg))
      have HR3 := Lib.hid (Rd.own_rd hrow3)
      have HP3 := Lib.hid hp3
      clear hrow3 hp3 hg3 e3 hdr hsub HRD2 HB2 HP2 HX
      go_wp2_with fail
      refine (equal_true _ _ _ _ _ _ xs xs _ _ _ HR3.out HRD3.out rfl).mono ?_
      rintro e w4 ⟨rfl, hb4⟩
      have HB4 := Lib.hid (HB3.out.trans (hb4.mono HB3.out.size))
      have HP4 := Lib.hid (HP3.out.later hb4)
      clear hb4 HB3 HP3 HR3 HRD3
      go_wp2_with fail
      refine (left_any g [] _ _ HP4.out).mono ?_
      rintro e w5 ⟨rfl, rfl⟩
      go_wp2_with fail
      go_loopw [53] (fun i wr => ∃ q : Nat, (q : Int) ≤ 2 * K ∧ i = .int .i64 q ∧ Pk wr g [] q ∧ Below w.heap.size w wr) (fun i _ => (2 * K).toNat - (intOf i).toNat)
      case atStart => exact ⟨0, by omega, rfl, by simpa using HP4.out, HB4.out⟩
      case round =>
        clear HP4 HB4
        obtain ⟨q, hq, rfl, hp, hbr⟩ := hrel
        have HP := Lib.hid hp
        clear hp
        by_cases hlt : (q : Int) < 2 * K
        · have hd : decide ((q : Int) < 2 * K) = true := decide_eq_true hlt
          go_wp2_with fail
          refine (next_none g q K K0 (by omega) _ HP.out (by omega)).mono ?_
          rintro e w6 ⟨rfl, hp6, hg6⟩
          have HP6 := Lib.hid hp6
          have HB6 := Lib.hid (hbr.grown hg6 hbr.size (fun j hj => by cases hj; exact hwg))
          clear hp6 hg6 HP hbr
          go_wp2_with fail
          go_roundw
          case rel => exact ⟨q + 1, by omega, by go_num, by simpa using HP6.out, HB6.out⟩
          case measure => simp [intOf]; omega
        · have hd : decide ((q : Int) < 2 * K) = false := decide_eq_false hlt
          go_wp2_with fail
          go_ret
          exact ⟨rfl, hbr⟩
theorem script_long (A : Option Addr) (n c : Nat) (x : Int) (w : World) (hn : n ≤ 9223372036854775807) (h : 200 < n) :
    Calls Try.prog 11 #[.slice A n c, .int .u8 x] w fun e w' => e = .returned (.bool true) ∧ Below w.heap.size w w' := by
  have t0 : decide ((200 : Int) < (n : Int)) = true := decide_eq_true (by omega)
  have t0' : decide (200 < n) = true := decide_eq_true (by omega)
  go_enter Try.func11, Try.ntmps11
  go_wp2_with fail
  refine (awake8_any _).mono ?_
  rintro e w1 ⟨rfl, b1⟩
  go_wp2_with fail
  go_ret
  exact ⟨rfl, b1⟩
end Go.Proofs.Ythamnebbecmegaa.Pi
