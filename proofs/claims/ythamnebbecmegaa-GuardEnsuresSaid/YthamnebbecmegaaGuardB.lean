/- Layer 7's law: what wakes it, the document's code, the things of the law's told by Try, Catch and All. -/
import Derived.Test.YthamnebbecmegaaGuard
import Derived.Test.YthamnebbecmegaaRatio
import Derived.Test.YthamnebbecmegaaSlices
namespace Go.Proofs.Ythamnebbecmegaa.Gd
open Go.ChangeShapes Go.WideShapes Go.ChangeAt Go.RowKit Rw
set_option linter.unusedVariables false

theorem Awake6_any (w : World) :
    Calls Try.prog 76 #[] w fun e w' => e = .returned (.bool true) ∧ Below w.heap.size w w' := by
  go_enter Try.func76, Try.ntmps76
  go_wp2_with fail
  refine (Fl.awake6_any _).mono ?_
  rintro e w' ⟨rfl, hb⟩
  go_wp2_with fail
  go_ret
  exact ⟨rfl, hb⟩
theorem closed_any (w : World) : Calls Try.prog 77 #[] w fun e w' => Code' e 6 ∧ Below w.heap.size w w' := by
  go_enter Try.func77, Try.ntmps77
  go_wp2_with fail
  refine (must_fail 6 (by decide) _).mono ?_
  rintro e w' ⟨rfl, rfl⟩
  exact ⟨rfl, .inr (.inl ⟨6, by decide, rfl, rfl⟩), Below.refl _ _⟩
theorem awake7_any (w : World) :
    Calls Try.prog 34 #[] w fun e w' => e = .returned (.bool true) ∧ Below w.heap.size w w' := by
  go_enter Try.func34, Try.ntmps34
  go_wp2_with fail
  refine (Awake6_any _).mono ?_
  rintro e w1 ⟨rfl, hb1⟩
  go_wp2_with fail
  refine (catch_below (K := 77) (first := #[]) (cap := #[]) (n := 6) (fun w => by simp [go_sem]) (fun w1 => by rw [Array.append_empty]; exact closed_any w1)).mono ?_
  rintro e w2 ⟨rfl, hb2⟩
  go_wp2_with fail
  go_ret
  exact ⟨rfl, hb1.trans (hb2.mono hb1.size)⟩
theorem Awake7_any (w : World) :
    Calls Try.prog 83 #[] w fun e w' => e = .returned (.bool true) ∧ Below w.heap.size w w' := by
  go_enter Try.func83, Try.ntmps83
  go_wp2_with fail
  refine (awake7_any _).mono ?_
  rintro e w' ⟨rfl, hb⟩
  go_wp2_with fail
  go_ret
  exact ⟨rfl, hb⟩

/-- The document's code of such a thing. -/
def want (d c : Int) : Int := if d % 5 = 0 then 0 else if d % 5 = 1 then c else 18
theorem rcatch_none (c : Int) (w : World) : Calls Try.prog 80 #[.int .i64 c, .bool false] w fun e w' => e = .returned (.int .i64 0) ∧ w = w' := by
  go_enter Try.func80, Try.ntmps80
  go_wp2_with fail
  go_ret
  exact ⟨rfl, rfl⟩
theorem rcatch_low (c : Int) (hc : c ≤ 0) (w : World) : Calls Try.prog 80 #[.int .i64 c, .bool true] w fun e w' => e = .returned (.int .i64 18) ∧ w = w' := by
  have h : decide (c ≤ 0) = true := decide_eq_true hc
  go_enter Try.func80, Try.ntmps80
  go_wp2_with fail
  go_ret
  exact ⟨rfl, rfl⟩
theorem rcatch_code (c : Int) (hc : 0 < c) (w : World) : Calls Try.prog 80 #[.int .i64 c, .bool true] w fun e w' => e = .returned (.int .i64 c) ∧ w = w' := by
  have h : decide (c ≤ 0) = false := decide_eq_false (by omega)
  go_enter Try.func80, Try.ntmps80
  go_wp2_with fail
  go_ret
  exact ⟨rfl, rfl⟩
/-- A thing of the law's. -/
def endV (d c : Int) (s : ByteArray) : Value := .agg #[.int .u8 d, .int .u8 c, .string s]
set_option maxRecDepth 100000 in
theorem want_any (d c : Int) (s : ByteArray) (hd : 0 ≤ d ∧ d ≤ 255) (hc : 0 ≤ c ∧ c ≤ 255) (w : World) :
    Calls Try.prog 37 #[.agg #[.int .u8 d, .int .u8 c, .string s]] w fun e w' => e = .returned (.int .i64 (want d c)) ∧ Below w.heap.size w w' := by
  have hb : Below w.heap.size w (w.alloc (.cells #[.int .u8 d, .int .u8 c, .string s] 69)) := (Below.refl w.heap.size w).alloc (Nat.le_refl _) _
  have HB := Lib.hid hb
  clear hb
  by_cases h0 : d % 5 = 0
  · have e0 : (d % 5 == 0) = true := by simpa using h0
    have hw : want d c = 0 := if_pos h0
    rw [hw]
    clear h0 hw
    go_enter Try.func37, Try.ntmps37
    go_wp2_with fail
    refine (rcatch_none _ _).mono ?_
    rintro e w' ⟨rfl, rfl⟩
    go_wp2_with fail
    go_ret
    exact ⟨rfl, HB.out⟩
  have e0 : (d % 5 == 0) = false := by simpa using h0
  by_cases h1 : d % 5 = 1
  · have e1 : (d % 5 == 1) = true := by simpa using h1
    have hw : want d c = c := by unfold want; rw [if_neg h0, if_pos h1]
    rw [hw]
    clear h0 h1 hw
    by_cases hc0 : c = 0
    · subst hc0
      go_enter Try.func37, Try.ntmps37
      go_wp2_with fail
      refine (rcatch_none _ _).mono ?_
      rintro e w' ⟨rfl, rfl⟩
      go_wp2_with fail
      go_ret
      exact ⟨rfl, HB.out⟩
    · have e2 : (c != 0) = true := by simpa using hc0
      have hc1 : 0 < c := by omega
      clear hc0
      go_enter Try.func37, Try.ntmps37
      go_wp2_with fail
      refine (rcatch_code _ hc1 _).mono ?_
      rintro e w' ⟨rfl, rfl⟩
      go_wp2_with fail
      go_ret
      exact ⟨rfl, HB.out⟩
  · have e1 : (d % 5 == 1) = false := by simpa using h1
    have hw : want d c = 18 := by unfold want; rw [if_neg h0, if_neg h1]
    rw [hw]
    clear h0 h1 hw
    go_enter Try.func37, Try.ntmps37
    go_wp2_with fail
    refine (rcatch_low _ (by decide) _).mono ?_
    rintro e w' ⟨rfl, rfl⟩
    go_wp2_with fail
    go_ret
    exact ⟨rfl, HB.out⟩
theorem Ends.code {d c : Int} {e : Ending} (h : Ends d c e) : Code' e (want d c) := by
  unfold want
  rcases h with ⟨h1, h⟩ | ⟨h1, h2, h⟩ | ⟨h1, T, v, hT, h⟩
  · refine .inl ⟨h, ?_⟩
    rcases h1 with h1 | ⟨h1, h2⟩
    · rw [if_pos h1]
    · rw [if_neg (by omega), if_pos h1, h2]
  · exact .inr (.inl ⟨c, h2, h, by rw [if_neg (by omega), if_pos h1]⟩)
  · exact .inr (.inr ⟨T, v, hT, h, by rw [if_neg (by omega), if_neg (by omega)]⟩)
def doV (d c : Int) (s : ByteArray) : Value := .func (.func 35) #[.agg #[.int .u8 d, .int .u8 c, .string s]] #[]
theorem do_enter (x : Value) (w : World) : (callFunc 35 (#[x] ++ #[])).run Try.prog w = .ok (.enter 35 (#[x] ++ #[])) w := by simp [go_sem]
theorem catch_end (d c : Int) (s : ByteArray) (hd : 0 ≤ d ∧ d ≤ 255) (hc : 0 ≤ c ∧ c ≤ 255) (w : World) :
    Calls Try.prog 38 #[doV d c s] w fun e w' => e = .returned (.int .i64 (want d c)) ∧ Below w.heap.size w w' :=
  catch_below (do_enter _) (fun w1 => (do_any d c s hd hc w1).mono fun e w' ⟨h1, h2⟩ => ⟨h1.code, h2⟩)
/-- What Try tells of such a thing. -/
def Told (d c : Int) (v : Value) (p : Bool) : Prop :=
  (want d c = 0 ∧ (d % 5 = 0 ∨ d % 5 = 1) ∧ v = .nilIface ∧ p = false) ∨ (d % 5 = 1 ∧ want d c ≠ 0 ∧ v = .iface 73 (.agg #[.int .i64 c]) ∧ p = true) ∨
  (2 ≤ d % 5 ∧ want d c ≠ 0 ∧ ∃ T x, v = .iface T x ∧ p = true)
theorem try_end (d c : Int) (s : ByteArray) (hd : 0 ≤ d ∧ d ≤ 255) (hc : 0 ≤ c ∧ c ≤ 255) (w : World) :
    Calls Try.prog 36 #[doV d c s] w fun e w' => Below w.heap.size w w' ∧ ∃ v p, e = .returned (.tuple #[v, .bool p]) ∧ Told d c v p := by
  refine (try_below (fun e he => Ends.once (d := d) (c := c) he) (do_enter _) (fun w1 => do_any d c s hd hc w1)).mono ?_
  rintro e w' ⟨hb, e0, he, ht⟩
  refine ⟨hb, ?_⟩
  unfold Told want
  rcases he with ⟨h1, rfl⟩ | ⟨h1, h2, rfl⟩ | ⟨h1, T, v, hT, rfl⟩
  · rcases ht with ⟨_, rfl⟩ | ⟨T, v, h, _⟩
    · refine ⟨_, _, rfl, .inl ⟨?_, by omega, rfl, rfl⟩⟩
      rcases h1 with h1 | ⟨h1, h2⟩
      · rw [if_pos h1]
      · rw [if_neg (by omega), if_pos h1, h2]
    · cases h
  · rcases ht with ⟨h, _⟩ | ⟨T, v, h, rfl⟩
    · cases h
    · simp only [failed, Ending.panicked.injEq, List.cons.injEq, PanicEntry.mk.injEq, Value.iface.injEq, and_true] at h
      obtain ⟨rfl, rfl⟩ := h
      exact ⟨_, _, rfl, .inr (.inl ⟨h1, by rw [if_neg (by omega), if_pos h1]; exact h2, rfl, rfl⟩)⟩
  · rcases ht with ⟨h, _⟩ | ⟨T', v', h, rfl⟩
    · cases h
    · exact ⟨_, _, rfl, .inr (.inr ⟨h1, by rw [if_neg (by omega), if_neg (by omega)]; decide, _, _, rfl, rfl⟩)⟩

theorem info_errno : (Try.prog.info? 47).map (fun i => (i.zero, i.size, i.bytes)) = some (some (.int .i64 0), 1, 8) := by kernel_rfl
theorem info_func : (Try.prog.info? 1).map (fun i => (i.zero, i.size, i.bytes)) = some (some .nilFunc, 1, 8) := by kernel_rfl
theorem grown_of_below {w w' : World} (h : Below w.heap.size w w') : w.grownBy w' none := ⟨h.os, h.tape, h.output, h.size, fun k hk _ => h.block k hk⟩
/-- What is owned stays so where all that was there is as it was. -/
theorem own_keep {w w' : World} {base e size n : Nat} {v : Value} {xs : List Value} (h : w.ownsRow base e size v n xs) (hb : Below w.heap.size w w') : w'.ownsRow base e size v n xs :=
  h.kept (grown_of_below hb) (by cases hv : v.ownBlock with | none => exact .inl rfl | some k => exact .inr (by simp))
theorem take_succ' {α : Type} {xs : List α} {k : Nat} {x : α} (h : xs[k]? = some x) : xs.take (k + 1) = xs.take k ++ [x] := by
  rw [List.take_add_one, h]; rfl
set_option maxRecDepth 100000 in
set_option maxHeartbeats 2000000 in
theorem all_any {α : Type} (enc : α → Value) (val : α → Int) (A : Option Addr) (n c : Nat) (xs : List α) (w : World) (h : Rd enc w w.heap.size A n c xs) (hn : n ≤ 60)
    (hcatch : ∀ x ∈ xs, ∀ w, Calls Try.prog 38 #[enc x] w fun e w' => e = .returned (.int .i64 (val x)) ∧ Below w.heap.size w w') :
    Calls Try.prog 39 #[.slice A n c] w fun e w' => ∃ A' c' acc, e = .returned (.slice A' n c') ∧ acc = xs.map val ∧ w'.ownsRow w.heap.size 47 1 (.slice A' n c') n (acc.map (Value.int .i64)) ∧ Below w.heap.size w w' := by
  obtain ⟨i0, hi, hz0, hz1, hz2⟩ := info_parts info_errno
  have HL := Lib.hid h.len
  have R := Lib.hid h
  have HC := Lib.hid hcatch
  clear h hcatch
  go_enter Try.func39, Try.ntmps39
  go_wp2_with (at_make; refine wpList_make_own _ rfl _ _ 75 rfl w.heap.size 47 i0 (.int .i64 0) 1 Try.underlying75 hi hz0 hz1 .i64 .i64 _ n rfl rfl rfl (by rw [hz2]; omega) (by unfold maxLen; omega) (Nat.le_refl _) ?_; intro w0 hown0 hgrow0)
  go_loopw [3, 11] (fun v i wr => ∃ (k c' : Nat) (A' : Option Addr) (acc : List Int), k ≤ n ∧ i = .int .i64 k ∧ v = .slice A' k c' ∧ acc.length = k ∧ Hid (acc = (xs.take k).map val) ∧
      wr.ownsRow w.heap.size 47 1 (.slice A' k c') k (acc.map (Value.int .i64)) ∧ Below w.heap.size w wr) (fun _ i _ => n - (intOf i).toNat)
  case atStart => exact ⟨0, n, some ⟨w.heap.size, 0, none⟩, [], Nat.zero_le _, rfl, rfl, rfl, rfl, hown0, (Below.refl _ _).grown hgrow0 (Nat.le_refl _) (fun _ h => by cases h)⟩
  case round =>
    obtain ⟨k, c', A', acc, hk, rfl, rfl, hal, hacc, hrow, hbel⟩ := hrel
    have HAL := Lib.hid hal
    clear hal hown0 hgrow0
    by_cases hlt : k < n
    · obtain ⟨b, o, x, rfl, hb, hx, hcell⟩ := R.out.get hlt
      have hcx : wr.cell? ⟨b, o + k, none⟩ = some (enc x) := (hbel.cell (p := ⟨b, o + k, none⟩) hb).trans hcell
      have e1 : acc ++ [val x] = (xs.take (k + 1)).map val := by rw [take_succ' hx, List.map_append, ← hacc.out]; rfl
      have E1 := Lib.hid e1
      have hxm : x ∈ xs := List.mem_of_getElem? hx
      have HXM := Lib.hid hxm
      clear hx hcell e1 hacc hxm
      go_wp2_with fail
      refine (HC.out x HXM.out _).mono ?_
      rintro e w1 ⟨rfl, hb1⟩
      have hrow1 := own_keep hrow hb1
      have hbel1 : Below w.heap.size w w1 := hbel.trans (hb1.mono hbel.size)
      have hrd : Rd (Value.int .i64) (w1.alloc (.cells #[.int .i64 (val x)] 47)) (w1.heap.size + 1) (some ⟨w1.heap.size, 0, none⟩) 1 1 [val x] := rd_one w1 (val x) 47
      have HRD := Lib.hid hrd
      have hmp : acc.map (Value.int .i64) ++ [val x].map (Value.int .i64) = (acc ++ [val x]).map (Value.int .i64) := List.map_append.symm
      have HMP := Lib.hid hmp
      have hbs := hbel1.size
      clear hrd hmp hrow hbel hb1 hcx
      go_wp2_with (at_builtin; refine append_rd _ rfl _ _ 75 rfl w.heap.size 47 i0 (.int .i64 0) 8 Try.underlying75 hi hz0 hz1 hz2 rfl _ k _ rfl (hrow1.alloc _) _ _ 1 1 [val x] rfl HRD.out (fun _ => rfl) (k + 1) rfl _ HMP.out (by unfold maxLen; omega) (by omega) (by simp; omega) ?_; intro A3 c3 w3 hrow3 hg3 hat3)
      go_roundw
      case rel => exact ⟨k + 1, c3, A3, _, by omega, by go_num, rfl, by simp [HAL.out], E1.out, hrow3, (hbel1.alloc hbs _).grown hg3 (by simp; omega) (fun j hj => (hrow1.lt j hj).1)⟩
      case measure => simp [intOf]; omega
    · have hk' : k = n := by omega
      subst hk'
      have e1 : acc = xs.map val := by rw [hacc.out, List.take_of_length_le (by have := HL.out; omega)]
      have E1 := Lib.hid e1
      clear e1 hacc hlt
      go_wp2_with fail
      go_ret
      exact ⟨A', c', acc, rfl, E1.out, hrow, hbel⟩

theorem told_any (e d c : Int) (s : ByteArray) (hd : 0 ≤ d ∧ d ≤ 255) (hc : 0 ≤ c ∧ c ≤ 255) (he : e = want d c) (w : World) :
    Calls Try.prog 41 #[.int .i64 e, .agg #[.int .u8 d, .int .u8 c, .string s]] w fun r w' => r = .returned (.bool true) ∧ Below w.heap.size w w' := by
  subst he
  have hb : Below w.heap.size w (w.alloc (.cells #[.int .u8 d, .int .u8 c, .string s] 69)) := (Below.refl w.heap.size w).alloc (Nat.le_refl _) _
  have HB := Lib.hid hb
  clear hb
  go_enter Try.func41, Try.ntmps41
  go_wp2_with fail
  refine (want_any d c s hd hc _).mono ?_
  rintro e w1 ⟨rfl, hb1⟩
  go_wp2_with fail
  go_ret
  refine ⟨by simp, HB.out.trans (hb1.mono HB.out.size)⟩
set_option maxRecDepth 100000 in
theorem efunc_any (ab ao n c c' : Nat) (A A' : Option Addr) (D C : Nat → Int) (S : Nat → ByteArray) (w : World) (acc : List Int) (B : Nat) (hn : n ≤ 60) (h : Rd (Value.int .i64) w B A n c acc)
    (hB : B ≤ w.heap.size) (hA : 0 < n → A' = some ⟨ab, ao, none⟩) (hab : 0 < n → ab < w.heap.size)
    (hc : ∀ j, j < n → w.cell? ⟨ab, ao + j * 3, none⟩ = some (.int .u8 (D j)) ∧ w.cell? ⟨ab, ao + j * 3 + 1, none⟩ = some (.int .u8 (C j)) ∧ w.cell? ⟨ab, ao + j * 3 + 2, none⟩ = some (.string (S j)))
    (hK : ∀ j, j < n → (0 ≤ D j ∧ D j ≤ 255) ∧ (0 ≤ C j ∧ C j ≤ 255)) (hacc : ∀ (j : Nat) (x : Int), acc[j]? = some x → x = want (D j) (C j)) :
    Calls Try.prog 40 #[.slice A n c, .slice A' n c', .func (.func 41) #[] #[]] w fun e w' => e = .returned (.bool true) ∧ Below w.heap.size w w' := by
  have HR := Lib.hid h
  have HS := Lib.hid hacc
  have HC := Lib.hid hc
  have HK := Lib.hid hK
  have HA := Lib.hid hA
  have HAB := Lib.hid hab
  clear h hacc hc hK hA hab
  go_enter Try.func40, Try.ntmps40
  go_wp2_with fail
  go_loopw [17] (fun i wr => ∃ k : Nat, k ≤ n ∧ i = .int .i64 k ∧ Below w.heap.size w wr) (fun i _ => n - (intOf i).toNat)
  case atStart => exact ⟨0, Nat.zero_le _, rfl, Below.refl _ _⟩
  case round =>
    obtain ⟨k, hk, rfl, hbel⟩ := hrel
    by_cases hlt : k < n
    · obtain ⟨b, o, x, rfl, hb, hx, hcx⟩ := HR.out.get hlt
      obtain rfl := HA.out (by omega)
      obtain ⟨c0, c1, c2⟩ := HC.out k hlt
      have hab := HAB.out (by omega)
      have d0 : wr.cell? ⟨b, o + k, none⟩ = some (.int .i64 x) := (hbel.cell (p := ⟨b, o + k, none⟩) (by simp; omega)).trans hcx
      have d1 : wr.cell? ⟨ab, ao + k * 3, none⟩ = some (.int .u8 (D k)) := (hbel.cell (p := ⟨ab, ao + k * 3, none⟩) hab).trans c0
      have d2 : wr.cell? ⟨ab, ao + k * 3 + 1, none⟩ = some (.int .u8 (C k)) := (hbel.cell (p := ⟨ab, ao + k * 3 + 1, none⟩) hab).trans c1
      have d3 : wr.cell? ⟨ab, ao + k * 3 + 2, none⟩ = some (.string (S k)) := (hbel.cell (p := ⟨ab, ao + k * 3 + 2, none⟩) hab).trans c2
      have hx' := Lib.hid (HS.out k x hx)
      obtain ⟨q1, q2⟩ := HK.out k hlt
      have Q1 := Lib.hid q1
      have Q2 := Lib.hid q2
      have hbs := hbel.size
      clear hx hcx c0 c1 c2 q1 q2
      go_wp2_with fail
      refine (told_any x _ _ _ Q1.out Q2.out hx'.out _).mono ?_
      rintro e w1 ⟨rfl, hb1⟩
      have hb2 : Below w.heap.size w w1 := (hbel.alloc hbs _).trans (hb1.mono (by simp; omega))
      clear hb1 d0 d1 d2 d3
      go_wp2_with fail
      go_roundw
      case rel => exact ⟨k + 1, by omega, by go_num, hb2⟩
      case measure => simp [intOf]; omega
    · have hk' : k = n := by omega
      go_wp2_with fail
      go_ret
      exact ⟨rfl, hbel⟩
end Go.Proofs.Ythamnebbecmegaa.Gd
