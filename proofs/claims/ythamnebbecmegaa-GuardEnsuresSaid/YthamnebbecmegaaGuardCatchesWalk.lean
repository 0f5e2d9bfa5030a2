/- The walk of hackneylaw07.GuardCatches. -/
import Derived.Test.YthamnebbecmegaaGuardB
import Derived.Test.YthamnebbecmegaaAfter
import Derived.Laws.StructEq
namespace Go.Proofs.Ythamnebbecmegaa.Gd
open Go.ChangeShapes Go.WideShapes Go.ChangeAt Go.RowKit Rw
set_option linter.unusedVariables false

theorem iface_ne_nil (T : TypeId) (x : Value) (w : World) : (binOp BinOp.neq 20 (.iface T x) .nilIface).run Try.prog w = .ok (.bool true) w := by kernel_rfl
theorem iface_eq_nil (T : TypeId) (x : Value) (w : World) : (binOp BinOp.eql 20 (.iface T x) .nilIface).run Try.prog w = .ok (.bool false) w := by kernel_rfl
theorem niface_ne (w : World) : (binOp BinOp.neq 20 .nilIface .nilIface).run Try.prog w = .ok (.bool false) w := by kernel_rfl
theorem fail_equal (a b : Int) (w : World) : (Op.equal 20 (.iface 73 (.agg #[.int .i64 a])) (.iface 73 (.agg #[.int .i64 b]))).run Try.prog w = .ok (a == b) w := by
  have hF : Try.prog.underlying 73 = some (.struct (Try.prog.fieldsOf 73)) := by kernel_rfl
  have hc : (Try.prog.info? 73).map (·.comparable) = some true := by kernel_rfl
  obtain ⟨i, hi, hic⟩ := Option.map_eq_some_iff.1 hc
  unfold Op.equal Op.maxDepth
  rw [show (10000 : Nat) = 9999 + 1 from rfl, Op.equalIn]
  simp only [Sem.run_bind, run_underlying Try.underlying20, Result.andThen_ok]
  simp only [ne_eq, not_true, if_false, run_typeInfo w hi, Sem.run_bind, Result.andThen_ok, hic, Bool.not_true, Bool.false_eq_true]
  rw [show (9999 : Nat) = 9998 + 1 from rfl, run_equalIn_agg w 9998 73 _ _ hF (by kernel_rfl)]
  simp only [Program.fieldsOf, Try.underlying73]
  go_simp
  by_cases h : a = b <;> simp [h]
theorem fail_ne (c : Int) (w : World) : (binOp BinOp.neq 20 (.iface 73 (.agg #[.int .i64 c])) (.iface 73 (.agg #[.int .i64 c]))).run Try.prog w = .ok (.bool false) w := by
  simp [binOp, fail_equal]
theorem fail_eq (c : Int) (w : World) : (binOp BinOp.eql 20 (.iface 73 (.agg #[.int .i64 c])) (.iface 73 (.agg #[.int .i64 c]))).run Try.prog w = .ok (.bool true) w := by
  simp [binOp, fail_equal]

theorem want_b (d c : Int) (s : ByteArray) (hd : 0 ≤ d ∧ d ≤ 255) (hc : 0 ≤ c ∧ c ≤ 255) (n : Int) (hn : want d c = n) (w : World) :
    Calls Try.prog 37 #[.agg #[.int .u8 d, .int .u8 c, .string s]] w fun e w' => e = .returned (.int .i64 n) ∧ Below w.heap.size w w' := hn ▸ want_any d c s hd hc w
theorem catch_b (d c : Int) (s : ByteArray) (hd : 0 ≤ d ∧ d ≤ 255) (hc : 0 ≤ c ∧ c ≤ 255) (n : Int) (hn : want d c = n) (w : World) :
    Calls Try.prog 38 #[.func (.func 35) #[.agg #[.int .u8 d, .int .u8 c, .string s]] #[]] w fun e w' => e = .returned (.int .i64 n) ∧ Below w.heap.size w w' := hn ▸ catch_end d c s hd hc w

/-- The things that were laid so far. -/
def encD (D C : Nat → Int) (S : Nat → ByteArray) (j : Nat) : Value := doV (D j) (C j) (S j)
set_option maxRecDepth 100000 in
set_option maxHeartbeats 4000000 in
theorem catches_any (ab ao n c : Nat) (A : Option Addr) (D C : Nat → Int) (S : Nat → ByteArray) (w : World) (hn : n ≤ 60)
    (hA : 0 < n → A = some ⟨ab, ao, none⟩) (hab : 0 < n → ab < w.heap.size)
    (hc : ∀ j, j < n → w.cell? ⟨ab, ao + j * 3, none⟩ = some (.int .u8 (D j)) ∧ w.cell? ⟨ab, ao + j * 3 + 1, none⟩ = some (.int .u8 (C j)) ∧ w.cell? ⟨ab, ao + j * 3 + 2, none⟩ = some (.string (S j)))
    (hK : ∀ j, j < n → (0 ≤ D j ∧ D j ≤ 255) ∧ (0 ≤ C j ∧ C j ≤ 255)) :
    Calls Try.prog 6 #[.slice A n c] w fun e w' => e = .returned (.bool true) ∧ Below w.heap.size w w' := by
  obtain ⟨i0, hi, hz0, hz1, hz2⟩ := info_parts info_func
  have t0 : decide ((60 : Int) < (n : Int)) = false := decide_eq_false (by omega)
  have t0' : decide (60 < n) = false := decide_eq_false (by omega)
  have HA := Lib.hid hA
  have HAB := Lib.hid hab
  have HC := Lib.hid hc
  have HKK := Lib.hid hK
  clear hA hab hc hK
  go_enter Try.func6, Try.ntmps6
  go_wp2_with fail
  refine (awake7_any _).mono ?_
  rintro e w1 ⟨rfl, b1⟩
  go_wp2_with fail
  go_loopw [3, 16] (fun v i wr => ∃ (k c' : Nat) (A' : Option Addr), k ≤ n ∧ i = .int .i64 k ∧ v = .slice A' k c' ∧
      wr.ownsRow w.heap.size 1 1 (.slice A' k c') k ((List.range k).map (encD D C S)) ∧ Below w.heap.size w wr) (fun _ i _ => n - (intOf i).toNat)
  case atStart => exact ⟨0, 0, none, Nat.zero_le _, rfl, rfl, World.ownsRow_nil _ _ _ _, b1⟩
  case round =>
    obtain ⟨k, c', A', hk, rfl, rfl, hrow, hbr⟩ := hrel
    clear b1
    by_cases hlt : k < n
    · obtain ⟨d0, d1, d2⟩ := HC.out k hlt
      have hab := HAB.out (by omega)
      obtain rfl := HA.out (by omega)
      rw [← hbr.cell (p := ⟨ab, _, none⟩) hab] at d0 d1 d2
      have hKT := HKK.out k hlt
      have he : encD D C S k = .func (.func 35) #[.agg #[.int .u8 (D k), .int .u8 (C k), .string (S k)]] #[] := rfl
      have hmp : (List.range k).map (encD D C S) ++ [encD D C S k] = (List.range (k + 1)).map (encD D C S) := by rw [List.range_succ, List.map_append]; rfl
      rw [he] at hmp
      have HMP := Lib.hid hmp
      clear hmp he
      generalize D k = x at *
      generalize C k = y at *
      generalize S k = z at *
      have HX := Lib.hid hKT.1
      have HY := Lib.hid hKT.2
      have hbs := hbr.size
      clear hKT
      have hrow1 := hrow.alloc (.cells #[.int .u8 x, .int .u8 y, .string z] 69)
      have hb1 : Below w.heap.size w (wr.alloc (.cells #[.int .u8 x, .int .u8 y, .string z] 69)) := hbr.alloc hbs _
      have hrd : Rd (fun (_ : Unit) => .func (.func 35) #[.agg #[.int .u8 x, .int .u8 y, .string z]] #[]) ((wr.alloc (.cells #[.int .u8 x, .int .u8 y, .string z] 69)).alloc (.cells #[.func (.func 35) #[.agg #[.int .u8 x, .int .u8 y, .string z]] #[]] 1)) (wr.heap.size + 1 + 1) (some ⟨wr.heap.size + 1, 0, none⟩) 1 1 [()] := by
        have := rd_one (enc := fun (_ : Unit) => .func (.func 35) #[.agg #[.int .u8 x, .int .u8 y, .string z]] #[]) (wr.alloc (.cells #[.int .u8 x, .int .u8 y, .string z] 69)) () 1
        simpa using this
      have HRD := Lib.hid hrd
      have hrow2 := hrow1.alloc (.cells #[.func (.func 35) #[.agg #[.int .u8 x, .int .u8 y, .string z]] #[]] 1)
      have HROW2 := Lib.hid hrow2
      have hb2 : Below w.heap.size w ((wr.alloc (.cells #[.int .u8 x, .int .u8 y, .string z] 69)).alloc (.cells #[.func (.func 35) #[.agg #[.int .u8 x, .int .u8 y, .string z]] #[]] 1)) := hb1.alloc (by simp; omega) _
      have HB2 := Lib.hid hb2
      have HKB := Lib.hid (hrow.lt)
      clear hrd hrow hrow1 hrow2 hb1 hb2
      go_wp2_with (
        at_builtin
        refine append_rd _ rfl _ _ 67 rfl w.heap.size 1 i0 .nilFunc 8 Try.underlying67 hi hz0 hz1 hz2 rfl _ k _ rfl HROW2.out _ _ 1 1 _ rfl HRD.out (fun _ => rfl) (k + 1) rfl _ HMP.out (by unfold maxLen; omega) (by omega) (by simp; omega) ?_
        intro A3 c3 w3 hrow3 hg3 hat3
        have hne : some wr.heap.size ≠ (Value.slice A' k c').ownBlock := (fun h => by have := (HKB.out _ h.symm).2; omega)
        have HB3 := Lib.hid (HB2.out.grown hg3 (by simp; omega) (fun j hj => (HKB.out j hj).1))
        have c0 : w3.cell? ⟨wr.heap.size, 0, none⟩ = some (.int .u8 x) := hg3.cell (by go_simp) hne
        have c1 : w3.cell? ⟨wr.heap.size, 1, none⟩ = some (.int .u8 y) := hg3.cell (by go_simp) hne
        have c2 : w3.cell? ⟨wr.heap.size, 2, none⟩ = some (.string z) := hg3.cell (by go_simp) hne
        have HROW3 := Lib.hid hrow3
        clear hrow3 hg3 hat3 hne HB2 HROW2 HRD)
      refine (try_end x y z HX.out HY.out w3).mono ?_
      rintro e w4 ⟨hb4, v, p, rfl, ht⟩
      have HT := Lib.hid ht
      have HROW4 := Lib.hid (own_keep HROW3.out hb4)
      have HB4 := Lib.hid (HB3.out.trans (hb4.mono HB3.out.size))
      have e0 : w4.cell? ⟨wr.heap.size, 0, none⟩ = some (.int .u8 x) := (hb4.cell (p := ⟨wr.heap.size, 0, none⟩) (Lw.lt_heap c0)).trans c0
      have e1 : w4.cell? ⟨wr.heap.size, 1, none⟩ = some (.int .u8 y) := (hb4.cell (p := ⟨wr.heap.size, 1, none⟩) (Lw.lt_heap c1)).trans c1
      have e2 : w4.cell? ⟨wr.heap.size, 2, none⟩ = some (.string z) := (hb4.cell (p := ⟨wr.heap.size, 2, none⟩) (Lw.lt_heap c2)).trans c2
      clear c0 c1 c2 hb4 ht HROW3 HB3
      go_wp2_with fail
      have f0 : ∀ q : After w4, q.1.cell? ⟨wr.heap.size, 0, none⟩ = some (.int .u8 x) := fun q => q.cell e0
      have f1 : ∀ q : After w4, q.1.cell? ⟨wr.heap.size, 1, none⟩ = some (.int .u8 y) := fun q => q.cell e1
      have f2 : ∀ q : After w4, q.1.cell? ⟨wr.heap.size, 2, none⟩ = some (.string z) := fun q => q.cell e2
      refine region_after (by kernel_rfl) (by kernel_rfl) ?_
      have hend : ∀ (W3 : World), (∃ q : After w4, W3 = q.1) → W3.ownsRow w.heap.size 1 1 (.slice A3 (k + 1) c3) (k + 1) ((List.range (k + 1)).map (encD D C S)) ∧ Below w.heap.size w W3 := by
        rintro W3 ⟨⟨_, hb⟩, rfl⟩
        exact ⟨own_keep HROW4.out hb, HB4.out.trans (hb.mono HB4.out.size)⟩
      have HE := Lib.hid hend
      clear hend HROW4 HB4 e0 e1 e2
      have htm : x.tmod 5 = x % 5 := Int.tmod_eq_emod_of_nonneg HX.out.1
      rcases HT.out with ⟨g1, g2, rfl, rfl⟩ | ⟨g1, g2, rfl, rfl⟩ | ⟨g1, g2, T, u, rfl, rfl⟩
      · have q1 : decide ((1 : Int) < x.tmod 5) = false := decide_eq_false (by omega)
        have N := niface_ne
        have G1 := Lib.hid g1
        clear g1 g2 HT htm
        cases g2' : (x.tmod 5 == 1) <;>
        · repeat (go_big_quiet_step (first
            | (go_at_call 37; exact After.call (want_b _ _ _ HX.out HY.out _ G1.out _))
            | (go_at_call 38; exact After.call (catch_b _ _ _ HX.out HY.out _ G1.out _))))
          refine wpQuiet_nil ?_
          intro W3 hW3
          obtain ⟨h1, h2⟩ := HE.out W3 hW3
          go_wp2_with fail
          go_roundw
          case rel => exact ⟨k + 1, c3, A3, by omega, by go_num, rfl, h1, h2⟩
          case measure => simp [intOf]; omega
      · have q1 : decide ((1 : Int) < x.tmod 5) = false := decide_eq_false (by omega)
        have q2 : (x.tmod 5 == 1) = true := by simpa [htm] using g1
        obtain ⟨m, hm⟩ : ∃ m, want x y = m := ⟨_, rfl⟩
        have q3 : (m != 0) = true := by rw [hm] at g2; simpa using g2
        have N := fail_ne y
        obtain ⟨hy0, hy1⟩ := HY.out
        have N2 := iface_eq_nil
        have N3 := iface_ne_nil
        have G1 := Lib.hid hm
        clear g1 g2 HT hm htm
        repeat (go_big_quiet_step (first
            | (go_at_call 37; exact After.call (want_b _ _ _ HX.out HY.out _ G1.out _))
            | (go_at_call 38; exact After.call (catch_b _ _ _ HX.out HY.out _ G1.out _))))
        refine wpQuiet_nil ?_
        intro W3 hW3
        obtain ⟨h1, h2⟩ := HE.out W3 hW3
        go_wp2_with fail
        go_roundw
        case rel => exact ⟨k + 1, c3, A3, by omega, by go_num, rfl, h1, h2⟩
        case measure => simp [intOf]; omega
      · have q1 : decide ((1 : Int) < x.tmod 5) = true := decide_eq_true (by omega)
        have q2 : (x.tmod 5 == 1) = false := by simp; omega
        obtain ⟨m, hm⟩ : ∃ m, want x y = m := ⟨_, rfl⟩
        have q3 : (m != 0) = true := by rw [hm] at g2; simpa using g2
        have N2 := iface_eq_nil
        have N3 := iface_ne_nil
        have G1 := Lib.hid hm
        clear g1 g2 HT hm htm
        repeat (go_big_quiet_step (first
            | (go_at_call 37; exact After.call (want_b _ _ _ HX.out HY.out _ G1.out _))
            | (go_at_call 38; exact After.call (catch_b _ _ _ HX.out HY.out _ G1.out _))))
        refine wpQuiet_nil ?_
        intro W3 hW3
        obtain ⟨h1, h2⟩ := HE.out W3 hW3
        go_wp2_with fail
        go_roundw
        case rel => exact ⟨k + 1, c3, A3, by omega, by go_num, rfl, h1, h2⟩
        case measure => simp [intOf]; omega
    · have hk' : k = n := by omega
      subst hk'
      have hrd : Rd (encD D C S) wr wr.heap.size A' k c' (List.range k) := Rd.own_rd hrow
      clear hrow hlt hk
      go_wp2_with fail
      refine (all_any (encD D C S) (fun j => want (D j) (C j)) A' k c' (List.range k) wr hrd hn (fun j hj w => ?_)).mono ?_
      · have hj' := List.mem_range.1 hj
        exact catch_end _ _ _ (HKK.out j hj').1 (HKK.out j hj').2 w
      rintro e w2 ⟨A2, c2, acc, rfl, hacc, hrow2, hb2⟩
      have hr2 : Rd (Value.int .i64) w2 w2.heap.size A2 k c2 acc := Rd.own_rd hrow2
      have hbw := hbr.trans (hb2.mono hbr.size)
      clear hrd hrow2 hb2 hbr
      go_wp2_with fail
      refine (efunc_any ab ao k c2 c A2 A D C S w2 acc _ hn hr2 (Nat.le_refl _) HA.out (fun h => Nat.lt_of_lt_of_le (HAB.out h) hbw.size) (fun j hj => ?_) HKK.out (fun j x hx => ?_)).mono ?_
      · obtain ⟨d0, d1, d2⟩ := HC.out j hj
        have hab := HAB.out (by omega)
        exact ⟨(hbw.cell (p := ⟨ab, _, none⟩) hab).trans d0, (hbw.cell (p := ⟨ab, _, none⟩) hab).trans d1, (hbw.cell (p := ⟨ab, _, none⟩) hab).trans d2⟩
      · rw [hacc, List.getElem?_map] at hx
        obtain ⟨i, hi, rfl⟩ := Option.map_eq_some_iff.1 hx
        rw [List.getElem?_range (by have := (List.getElem?_eq_some_iff.1 hi).1; simpa using this)] at hi
        cases hi; rfl
      rintro e w3 ⟨rfl, hb3⟩
      have hbw3 := hbw.trans (hb3.mono hbw.size)
      clear hr2 hbw hb3 hacc
      go_wp2_with fail
      refine (catch_nil _).mono ?_
      rintro e w4 ⟨rfl, hb4⟩
      go_wp2_with fail
      go_ret
      exact ⟨rfl, hbw3.trans (hb4.mono hbw3.size)⟩
theorem catches_long (A : Option Addr) (n c : Nat) (w : World) (hn : n ≤ 9223372036854775807) (h : 60 < n) :
    Calls Try.prog 6 #[.slice A n c] w fun e w' => e = .returned (.bool true) ∧ Below w.heap.size w w' := by
  have t0 : decide ((60 : Int) < (n : Int)) = true := decide_eq_true (by omega)
  have t0' : decide (60 < n) = true := decide_eq_true (by omega)
  go_enter Try.func6, Try.ntmps6
  go_wp2_with fail
  refine (awake7_any _).mono ?_
  rintro e w1 ⟨rfl, b1⟩
  go_wp2_with fail
  go_ret
  exact ⟨rfl, b1⟩
end Go.Proofs.Ythamnebbecmegaa.Gd
