/- Layer 6 (ratio): Mean, the document's Mean, of any floats. -/
import Derived.Test.YtobilnloghofpaaGreatDoorRatioD
import Derived.Test.YtobilnloghofpaaGreatDoorFloats
namespace Go.Proofs.YtobilnloghofpaaGreatDoor.Fl
open Go.ChangeShapes Go.WideShapes Go.ChangeAt Go.RowKit Rw Ck Ieee
set_option linter.unusedVariables false

set_option maxRecDepth 100000 in
set_option maxHeartbeats 2000000 in
theorem floats_more (A : Option Addr) (n c : Nat) (xs : List Int) (w : World) (h : Rd (Value.int .u64) w w.heap.size A n c xs) (hok : Sn.U64s xs) (hn : n ≤ 1000) :
    Calls Tryz.prog 10 #[.slice A n c] w fun e w' => ∃ A' c' acc, e = .returned (.slice A' n c') ∧ acc = xs.map toF ∧ w'.ownsRow w.heap.size 25 1 (.slice A' n c') n (acc.map encF) ∧ Below w.heap.size w w' := by
  obtain ⟨i0, hi, hz0, hz1, hz2⟩ := info_parts info_f64
  have rb := fbits_run
  have hlen := h.len
  have R := Lib.hid h
  have HO := Lib.hid hok
  have HL := Lib.hid hlen
  clear h hok hlen
  go_enter Tryz.func10, Tryz.ntmps10
  go_wp2
  go_loopw [3, 8] (fun v i wr => ∃ (k c' : Nat) (A' : Option Addr) (acc : List F), k ≤ n ∧ i = .int .i64 k ∧ v = .slice A' k c' ∧ acc.length = k ∧ Hid (acc = (xs.take k).map toF) ∧
      wr.ownsRow w.heap.size 25 1 (.slice A' k c') k (acc.map encF) ∧ Below w.heap.size w wr) (fun _ i _ => n - (intOf i).toNat)
  case atStart => exact ⟨0, 0, none, [], Nat.zero_le _, rfl, rfl, rfl, rfl, World.ownsRow_nil _ _ _ _, Below.refl _ _⟩
  case round =>
    obtain ⟨k, c', A', acc, hk, rfl, rfl, hal, hacc, hrow, hbel⟩ := hrel
    have HAL := Lib.hid hal
    clear hal
    by_cases hlt : k < n
    · obtain ⟨b, o, x, rfl, hb, hx, hcell⟩ := R.out.get hlt
      have hcx : wr.cell? ⟨b, o + k, none⟩ = some (.int .u64 x) := (hbel.cell (p := ⟨b, o + k, none⟩) hb).trans hcell
      have hx64 := HO.out.get hx
      have hxf : toF x = ⟨x.toNat, by omega⟩ := by unfold toF; congr 1; exact Nat.mod_eq_of_lt (by omega)
      have e1 : acc ++ [(⟨x.toNat, by omega⟩ : F)] = (xs.take (k + 1)).map toF := by rw [Sn.take_snoc hx, List.map_append, ← hacc.out, List.map_cons, hxf]; rfl
      have E1 := Lib.hid e1
      have hrd : Rd encF (wr.alloc (.cells #[.float .f64 x.toNat] 25)) (wr.heap.size + 1) (some ⟨wr.heap.size, 0, none⟩) 1 1 [(⟨x.toNat, by omega⟩ : F)] := rd_one (enc := encF) wr (⟨x.toNat, by omega⟩ : F) 25
      have HRD := Lib.hid hrd
      have hmp : acc.map encF ++ [(⟨x.toNat, by omega⟩ : F)].map encF = (acc ++ [(⟨x.toNat, by omega⟩ : F)]).map encF := List.map_append.symm
      have HMP := Lib.hid hmp
      have hbs := hbel.size
      clear hx hcell hxf e1 hrd hmp hacc
      go_wp2_with (at_builtin; refine append_rd _ rfl _ _ 31 rfl w.heap.size 25 i0 (.float .f64 0) 8 Tryz.underlying31 hi hz0 hz1 hz2 rfl _ k _ rfl (hrow.alloc _) _ _ 1 1 [(⟨x.toNat, by omega⟩ : F)] rfl HRD.out encF_one (k + 1) rfl _ HMP.out (by unfold maxLen; omega) (by omega) (by simp; omega) ?_; intro A3 c3 w3 hrow3 hg3 hat3)
      go_roundw
      case rel => exact ⟨k + 1, c3, A3, _, by omega, by go_num, rfl, by simp [HAL.out], E1.out, hrow3, (hbel.alloc hbs _).grown hg3 (by simp; omega) (fun j hj => (hrow.lt j hj).1)⟩
      case measure => simp [intOf]; omega
    · have hk' : k = n := by omega
      subst hk'
      have e1 : acc = xs.map toF := by rw [hacc.out, List.take_of_length_le (by have := HL.out; omega)]
      have E1 := Lib.hid e1
      clear e1 hacc hlt
      go_wp2
      go_ret
      exact ⟨A', c', acc, rfl, E1.out, hrow, hbel⟩

theorem nan_left {x : Nat} (y : Nat) (hx : x < 18446744073709551616) (hn : isN x = true) : double.add x y = none := by
  have hn' : INF < rg x := by simpa [isN] using hn
  unfold Format.add
  rcases read_eq hx with ⟨lx, -⟩ | ⟨lx, -⟩ | ⟨lx, ex⟩
  · omega
  · omega
  · rw [ex]; rfl
theorem nan_over {x : Nat} (y : Nat) (hx : x < 18446744073709551616) (hn : isN x = true) : double.div x y = none := by
  have hn' : INF < rg x := by simpa [isN] using hn
  unfold Format.div
  rcases read_eq hx with ⟨lx, -⟩ | ⟨lx, -⟩ | ⟨lx, ex⟩
  · omega
  · omega
  · rw [ex]; rfl
/-- The sum of floats; none where it is no number. -/
def msum (l : List F) : Option Nat := l.foldl (fun s x => s.bind (fun s => floatBits .add .f64 s x.1)) (some 0)
theorem msum_snoc (l : List F) (x : F) : msum (l ++ [x]) = (msum l).bind (fun s => floatBits .add .f64 s x.1) := by unfold msum; rw [List.foldl_append]; rfl
/-- What a sum on its way holds. -/
def St (o : Option Nat) (v : Nat) : Prop := v < 18446744073709551616 ∧ match o with
  | some s => v = s
  | none => isN v = true
theorem bits_lt {op : BinOp} {x y r : Nat} (h : floatBits op .f64 x y = some r) : r < 18446744073709551616 := by
  have := floatBits_wf h
  simpa [Lit.wf] using this
theorem St.some_ {o : Option Nat} {v x r : Nat} (h : St o v) (hq : floatBits .add .f64 v x = some r) : St (o.bind (fun s => floatBits .add .f64 s x)) r := by
  refine ⟨bits_lt hq, ?_⟩
  cases o with
  | some s =>
    have e : v = s := h.2
    subst e
    show match floatBits .add .f64 v x with | some s => r = s | none => isN r = true
    rw [hq]
  | none =>
    have := nan_left x h.1 h.2
    have hq' : double.add v x = some r := hq
    rw [this] at hq'
    cases hq'
theorem St.none_ {o : Option Nat} {v x r : Nat} (h : St o v) (hq : floatBits .add .f64 v x = none) (hr : isN r = true) (hr2 : r < 18446744073709551616) : St (o.bind (fun s => floatBits .add .f64 s x)) r := by
  refine ⟨hr2, ?_⟩
  cases o with
  | some s =>
    have e : v = s := h.2
    subst e
    show match floatBits .add .f64 v x with | some s => r = s | none => isN r = true
    rw [hq]
    exact hr
  | none => exact hr
/-- What a mean may be. -/
def Mv (l : List F) (r : Nat) : Prop := if l = [] then St none r else St ((msum l).bind (fun s => floatBits .quo .f64 s (fl l.length))) r
theorem Mv.same {l : List F} {r q : Nat} (h : Mv l r) (h' : Mv l q) : r < 18446744073709551616 ∧ q < 18446744073709551616 ∧ sm r q = true := by
  have key : ∀ o, St o r → St o q → r < 18446744073709551616 ∧ q < 18446744073709551616 ∧ sm r q = true := by
    intro o h h'
    refine ⟨h.1, h'.1, ?_⟩
    cases o with
    | some s =>
      have e1 : r = s := h.2
      have e2 : q = s := h'.2
      unfold sm
      rw [e1, e2]
      simp
    | none =>
      have e1 : isN r = true := h.2
      have e2 : isN q = true := h'.2
      unfold sm
      rw [e1, e2]
      rfl
  unfold Mv at h h'
  split at h
  · rename_i h0; rw [if_pos h0] at h'; exact key _ h h'
  · rename_i h0; rw [if_neg h0] at h'; exact key _ h h'
theorem St.quo_some {o : Option Nat} {v n r : Nat} (h : St o v) (hq : floatBits .quo .f64 v n = some r) : St (o.bind (fun s => floatBits .quo .f64 s n)) r := by
  refine ⟨bits_lt hq, ?_⟩
  cases o with
  | some s =>
    have e : v = s := h.2
    subst e
    show match floatBits .quo .f64 v n with | some s => r = s | none => isN r = true
    rw [hq]
  | none =>
    have := nan_over n h.1 h.2
    have hq' : double.div v n = some r := hq
    rw [this] at hq'
    cases hq'
theorem St.quo_none {o : Option Nat} {v n r : Nat} (h : St o v) (hq : floatBits .quo .f64 v n = none) (hr : isN r = true) (hr2 : r < 18446744073709551616) : St (o.bind (fun s => floatBits .quo .f64 s n)) r := by
  refine ⟨hr2, ?_⟩
  cases o with
  | some s =>
    have e : v = s := h.2
    subst e
    show match floatBits .quo .f64 v n with | some s => r = s | none => isN r = true
    rw [hq]
    exact hr
  | none => exact hr
theorem nan_fn (w : World) : Calls Tryz.prog 23 #[] w fun e w' => e = .returned (.float .f64 9221120237041090561) ∧ w = w' := by
  have r1 := fun w => fbits_run w 9221120237041090561
  go_enter Tryz.func23, Tryz.ntmps23
  go_wp2
  go_ret
  exact ⟨rfl, rfl⟩
theorem nan_const' : isN 9221120237041090561 = true := by decide +kernel

set_option maxHeartbeats 2000000 in
set_option maxRecDepth 100000 in
theorem mean_any (A : Option Addr) (n c : Nat) (l : List F) (w : World) (h : Rd encF w w.heap.size A n c l) (hn : n ≤ 1000) :
    Calls Tryz.prog 9 #[.slice A n c] w fun e w' => ∃ r, e = .returned (.float .f64 r) ∧ Mv l r ∧ Below w.heap.size w w' := by
  have HR := Lib.hid h
  have HL : Hid (l.length = n) := Lib.hid h.len
  by_cases h0 : n = 0
  · have hmv : Mv l 9221120237041090561 := by
      unfold Mv
      rw [if_pos (List.eq_nil_of_length_eq_zero (by have := HL.out; omega))]
      exact ⟨by omega, nan_const'⟩
    subst h0
    have HM := Lib.hid hmv
    clear h hmv
    go_enter Tryz.func9, Tryz.ntmps9
    go_wp2_with fail
    refine (nan_fn _).mono ?_
    rintro e w' ⟨rfl, rfl⟩
    go_wp2_with fail
    go_ret
    exact ⟨_, rfl, HM.out, Below.refl _ _⟩
  · have z1 : ((n : Int) == 0) = false := by rw [beq_eq_false_iff_ne]; omega
    have z2 : (n == 0) = false := by rw [beq_eq_false_iff_ne]; omega
    have hne : ¬ l = [] := fun e => by have := HL.out; rw [e] at this; simp at this; omega
    have HNE := Lib.hid hne
    obtain ⟨N, hN⟩ : ∃ N, fl n = N := ⟨_, rfl⟩
    have hfn : floatOfInt .f64 (n : Int) = N := by rw [floatOf, hN]
    have HNN := Lib.hid hN
    clear h hne h0 hN
    go_enter Tryz.func9, Tryz.ntmps9
    go_wp2_with fail
    go_loopw [3, 5, 12] (fun v x9 i wr => ∃ (k u : Nat), k ≤ n ∧ i = .int .i64 k ∧ v = .float .f64 u ∧ Hid (St (msum (l.take k)) u) ∧ Hid (Below w.heap.size w wr)) (fun _ _ i _ => n - (intOf i).toNat)
    case atStart => exact ⟨0, 0, Nat.zero_le _, rfl, rfl, Lib.hid (by rw [List.take_zero]; exact ⟨by omega, rfl⟩), Below.refl _ _⟩
    case round =>
      obtain ⟨k, u, hk, rfl, rfl, HS, HB⟩ := hrel
      by_cases hlt : k < n
      · obtain ⟨b, o, x, rfl, hb, hx, hcell⟩ := HR.out.get hlt
        have hcx : wr.cell? ⟨b, o + k, none⟩ = some (.float .f64 x.1) := (HB.out.cell (p := ⟨b, o + k, none⟩) hb).trans hcell
        have HTK : Hid (msum (l.take (k + 1)) = (msum (l.take k)).bind (fun s => floatBits .add .f64 s x.1)) := Lib.hid (by
          obtain ⟨hl, e⟩ := List.getElem?_eq_some_iff.1 hx
          rw [List.take_succ_eq_append_getElem hl, e, msum_snoc])
        clear hx hcell
        obtain ⟨x, hx64⟩ := x
        simp only at hcx HTK
        cases hq : floatBits .add .f64 u x with
        | some r =>
          have HS2 := Lib.hid (HS.out.some_ hq)
          have r1 := fun w => run_float_arith (P := Tryz.prog) w .add 25 .f64 u x r hq
          clear hq
          go_wp2_with fail
          go_roundw
          case rel => exact ⟨k + 1, r, by omega, by go_num, rfl, Lib.hid (by rw [HTK.out]; exact HS2.out), HB⟩
          case measure => simp [intOf]; omega
        | none =>
          obtain ⟨r, hr1, hr, hr64⟩ := nan_run .add 25 u x wr (.inl rfl) hq
          have HS2 := Lib.hid (HS.out.none_ hq hr hr64)
          clear hq hr hr64
          go_wp2_with fail
          go_roundw
          case rel => exact ⟨k + 1, r, by omega, by go_num, rfl, Lib.hid (by rw [HTK.out]; exact HS2.out), Lib.hid (HB.out.drew)⟩
          case measure => simp [intOf]; omega
      · have HSN : Hid (St (msum l) u) := Lib.hid (by
          have h9 := HS.out
          rw [List.take_of_length_le (by have := HL.out; omega)] at h9
          exact h9)
        cases hq : floatBits .quo .f64 u N with
        | some r =>
          have HM : Hid (Mv l r) := Lib.hid (by
            unfold Mv
            rw [if_neg HNE.out, HL.out, HNN.out]
            exact HSN.out.quo_some hq)
          have r1 := fun w => run_float_arith (P := Tryz.prog) w .quo 25 .f64 u N r hq
          clear hq
          go_wp2_with fail
          go_ret
          exact ⟨r, rfl, HM.out, HB.out⟩
        | none =>
          obtain ⟨r, hr1, hr, hr64⟩ := nan_run .quo 25 u N wr (.inr rfl) hq
          have HM : Hid (Mv l r) := Lib.hid (by
            unfold Mv
            rw [if_neg HNE.out, HL.out, HNN.out]
            exact HSN.out.quo_none hq hr hr64)
          clear hq hr hr64
          go_wp2_with fail
          go_ret
          exact ⟨r, rfl, HM.out, HB.out.drew⟩

set_option maxHeartbeats 2000000 in
set_option maxRecDepth 100000 in
theorem rmean_any (A : Option Addr) (n c : Nat) (l : List F) (w : World) (h : Rd encF w w.heap.size A n c l) (hn : n ≤ 1000) :
    Calls Tryz.prog 11 #[.slice A n c] w fun e w' => ∃ r, e = .returned (.float .f64 r) ∧ Mv l r ∧ Below w.heap.size w w' := by
  have HR := Lib.hid h
  have HL : Hid (l.length = n) := Lib.hid h.len
  by_cases h0 : n = 0
  · have hmv : Mv l 9221120237041090561 := by
      unfold Mv
      rw [if_pos (List.eq_nil_of_length_eq_zero (by have := HL.out; omega))]
      exact ⟨by omega, nan_const'⟩
    subst h0
    have HM := Lib.hid hmv
    clear h hmv
    go_enter Tryz.func11, Tryz.ntmps11
    go_wp2_with fail
    refine (nan_fn _).mono ?_
    rintro e w' ⟨rfl, rfl⟩
    go_wp2_with fail
    go_ret
    exact ⟨_, rfl, HM.out, Below.refl _ _⟩
  · have z1 : ((n : Int) == 0) = false := by rw [beq_eq_false_iff_ne]; omega
    have z2 : (n == 0) = false := by rw [beq_eq_false_iff_ne]; omega
    have hne : ¬ l = [] := fun e => by have := HL.out; rw [e] at this; simp at this; omega
    have HNE := Lib.hid hne
    obtain ⟨N, hN⟩ : ∃ N, fl n = N := ⟨_, rfl⟩
    have hfn : floatOfInt .f64 (n : Int) = N := by rw [floatOf, hN]
    have HNN := Lib.hid hN
    clear h hne h0 hN
    go_enter Tryz.func11, Tryz.ntmps11
    go_wp2_with fail
    go_loopw [3, 4, 11] (fun v x9 i wr => ∃ (k u : Nat), k ≤ n ∧ i = .int .i64 k ∧ v = .float .f64 u ∧ Hid (St (msum (l.take k)) u) ∧ Hid (Below w.heap.size w wr)) (fun _ _ i _ => n - (intOf i).toNat)
    case atStart => exact ⟨0, 0, Nat.zero_le _, rfl, rfl, Lib.hid (by rw [List.take_zero]; exact ⟨by omega, rfl⟩), Below.refl _ _⟩
    case round =>
      obtain ⟨k, u, hk, rfl, rfl, HS, HB⟩ := hrel
      by_cases hlt : k < n
      · obtain ⟨b, o, x, rfl, hb, hx, hcell⟩ := HR.out.get hlt
        have hcx : wr.cell? ⟨b, o + k, none⟩ = some (.float .f64 x.1) := (HB.out.cell (p := ⟨b, o + k, none⟩) hb).trans hcell
        have HTK : Hid (msum (l.take (k + 1)) = (msum (l.take k)).bind (fun s => floatBits .add .f64 s x.1)) := Lib.hid (by
          obtain ⟨hl, e⟩ := List.getElem?_eq_some_iff.1 hx
          rw [List.take_succ_eq_append_getElem hl, e, msum_snoc])
        clear hx hcell
        obtain ⟨x, hx64⟩ := x
        simp only at hcx HTK
        cases hq : floatBits .add .f64 u x with
        | some r =>
          have HS2 := Lib.hid (HS.out.some_ hq)
          have r1 := fun w => run_float_arith (P := Tryz.prog) w .add 25 .f64 u x r hq
          clear hq
          go_wp2_with fail
          go_roundw
          case rel => exact ⟨k + 1, r, by omega, by go_num, rfl, Lib.hid (by rw [HTK.out]; exact HS2.out), HB⟩
          case measure => simp [intOf]; omega
        | none =>
          obtain ⟨r, hr1, hr, hr64⟩ := nan_run .add 25 u x wr (.inl rfl) hq
          have HS2 := Lib.hid (HS.out.none_ hq hr hr64)
          clear hq hr hr64
          go_wp2_with fail
          go_roundw
          case rel => exact ⟨k + 1, r, by omega, by go_num, rfl, Lib.hid (by rw [HTK.out]; exact HS2.out), Lib.hid (HB.out.drew)⟩
          case measure => simp [intOf]; omega
      · have HSN : Hid (St (msum l) u) := Lib.hid (by
          have h9 := HS.out
          rw [List.take_of_length_le (by have := HL.out; omega)] at h9
          exact h9)
        cases hq : floatBits .quo .f64 u N with
        | some r =>
          have HM : Hid (Mv l r) := Lib.hid (by
            unfold Mv
            rw [if_neg HNE.out, HL.out, HNN.out]
            exact HSN.out.quo_some hq)
          have r1 := fun w => run_float_arith (P := Tryz.prog) w .quo 25 .f64 u N r hq
          clear hq
          go_wp2_with fail
          go_ret
          exact ⟨r, rfl, HM.out, HB.out⟩
        | none =>
          obtain ⟨r, hr1, hr, hr64⟩ := nan_run .quo 25 u N wr (.inr rfl) hq
          have HM : Hid (Mv l r) := Lib.hid (by
            unfold Mv
            rw [if_neg HNE.out, HL.out, HNN.out]
            exact HSN.out.quo_none hq hr hr64)
          clear hq hr hr64
          go_wp2_with fail
          go_ret
          exact ⟨r, rfl, HM.out, HB.out.drew⟩

theorem andnot_hi {x : Nat} (h : rg x = 0) (hx : x < 18446744073709551616) : bits .andNot .u64 (x : Int) 9223372036854775808 = 0 := by
  have hSG := SG_is
  unfold rg at h
  have : x = 0 ∨ x = 9223372036854775808 := by split at h <;> omega
  rcases this with rfl | rfl <;> decide +kernel
theorem abs_nought (x : Nat) (w : World) (hx : x < 18446744073709551616) (h : rg x = 0) : Calls Tryz.prog 6 #[.float .f64 x] w fun e w' => e = .returned (.float .f64 0) ∧ w = w' := by
  have r1 := fun w => bits_run w x
  have r2 := fun w => fbits_run w 0
  have h1 := andnot_hi h hx
  clear h hx
  go_enter Tryz.func6, Tryz.ntmps6
  go_wp2
  go_ret
  exact ⟨rfl, rfl⟩
end Go.Proofs.YtobilnloghofpaaGreatDoor.Fl
