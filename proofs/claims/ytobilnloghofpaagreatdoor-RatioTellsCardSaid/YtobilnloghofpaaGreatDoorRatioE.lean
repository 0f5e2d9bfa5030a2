/- Layer 6 (ratio): Check, the document's Check, Cmp, Text; Text. -/
import Derived.Test.YtobilnloghofpaaGreatDoorRatioD
import Derived.Test.YtobilnloghofpaaGreatDoorFltJ
namespace Go.Proofs.YtobilnloghofpaaGreatDoor.Fl
open Go.ChangeShapes Go.WideShapes Go.ChangeAt Go.RowKit Rw Ck
set_option linter.unusedVariables false

def ck (x y z : Nat) : Int := if isN x = true ∨ isN y = true ∨ isN z = true then 3 else if Ko x < Ko y ∨ Ko z < Ko x then 2 else 0

theorem check_any (x y z : Nat) (w : World) (hx : x < 18446744073709551616) (hy : y < 18446744073709551616) (hz : z < 18446744073709551616) : Calls Tryz.prog 13 #[.float .f64 x, .float .f64 y, .float .f64 z] w fun e w' => e = .returned (.int .i64 (ck x y z)) ∧ w = w' := by
  have hlt := o_lt hx hy
  have hgt := o_gt hx hz
  have sx := ord_self hx
  have sy := ord_self hy
  have sz := ord_self hz
  have HX := Lib.hid hx
  have HY := Lib.hid hy
  have HZ := Lib.hid hz
  clear hx hy hz
  cases nx : isN x with
  | true =>
    have e : ck x y z = 3 := by unfold ck; rw [if_pos (.inl nx)]
    rw [e]
    rw [nx] at sx
    clear e hlt hgt sy sz
    go_enter Tryz.func13, Tryz.ntmps13
    go_wp2_with fail
    refine (isnan_any x _ HX.out).mono ?_
    rintro e w' ⟨rfl, rfl⟩
    rw [nx]
    go_wp2_with fail
    go_ret
    exact ⟨rfl, rfl⟩
  | false =>
    rw [nx] at sx
    cases ny : isN y with
    | true =>
      have e : ck x y z = 3 := by unfold ck; rw [if_pos (.inr (.inl ny))]
      rw [e]
      rw [ny] at sy
      clear e hlt hgt sz
      go_enter Tryz.func13, Tryz.ntmps13
      go_wp2_with fail
      refine (isnan_any x _ HX.out).mono ?_
      rintro e w' ⟨rfl, rfl⟩
      rw [nx]
      go_wp2_with fail
      refine (isnan_any y _ HY.out).mono ?_
      rintro e w' ⟨rfl, rfl⟩
      rw [ny]
      go_wp2_with fail
      go_ret
      exact ⟨rfl, rfl⟩
    | false =>
      rw [ny] at sy
      cases nz : isN z with
      | true =>
        have e : ck x y z = 3 := by unfold ck; rw [if_pos (.inr (.inr nz))]
        rw [e]
        rw [nz] at sz
        clear e hlt hgt
        go_enter Tryz.func13, Tryz.ntmps13
        go_wp2_with fail
        refine (isnan_any x _ HX.out).mono ?_
        rintro e w' ⟨rfl, rfl⟩
        rw [nx]
        go_wp2_with fail
        refine (isnan_any y _ HY.out).mono ?_
        rintro e w' ⟨rfl, rfl⟩
        rw [ny]
        go_wp2_with fail
        refine (isnan_any z _ HZ.out).mono ?_
        rintro e w' ⟨rfl, rfl⟩
        rw [nz]
        go_wp2_with fail
        go_ret
        exact ⟨rfl, rfl⟩
      | false =>
        rw [nz] at sz
        rw [nx, ny] at hlt
        rw [nx, nz] at hgt
        have e0 : ck x y z = if Ko x < Ko y ∨ Ko z < Ko x then 2 else 0 := by unfold ck; rw [if_neg (by rw [nx, ny, nz]; decide)]
        rw [e0]
        by_cases h1 : Ko x < Ko y
        · have e1 : (FloatKind.f64.format.order x y == some Ordering.lt) = true := by rw [hlt, decide_eq_true h1]; rfl
          rw [if_pos (.inl h1)]
          clear e0 hlt hgt h1
          go_enter Tryz.func13, Tryz.ntmps13
          go_wp2_with fail
          refine (isnan_any x _ HX.out).mono ?_
          rintro e w' ⟨rfl, rfl⟩
          rw [nx]
          go_wp2_with fail
          refine (isnan_any y _ HY.out).mono ?_
          rintro e w' ⟨rfl, rfl⟩
          rw [ny]
          go_wp2_with fail
          refine (isnan_any z _ HZ.out).mono ?_
          rintro e w' ⟨rfl, rfl⟩
          rw [nz]
          go_wp2_with fail
          go_ret
          exact ⟨rfl, rfl⟩
        · have e1 : (FloatKind.f64.format.order x y == some Ordering.lt) = false := by rw [hlt, decide_eq_false h1]; rfl
          by_cases h2 : Ko z < Ko x
          · have e2 : (FloatKind.f64.format.order x z == some Ordering.gt) = true := by rw [hgt, decide_eq_true h2]; rfl
            rw [if_pos (.inr h2)]
            clear e0 hlt hgt h1 h2
            go_enter Tryz.func13, Tryz.ntmps13
            go_wp2_with fail
            refine (isnan_any x _ HX.out).mono ?_
            rintro e w' ⟨rfl, rfl⟩
            rw [nx]
            go_wp2_with fail
            refine (isnan_any y _ HY.out).mono ?_
            rintro e w' ⟨rfl, rfl⟩
            rw [ny]
            go_wp2_with fail
            refine (isnan_any z _ HZ.out).mono ?_
            rintro e w' ⟨rfl, rfl⟩
            rw [nz]
            go_wp2_with fail
            go_ret
            exact ⟨rfl, rfl⟩
          · have e2 : (FloatKind.f64.format.order x z == some Ordering.gt) = false := by rw [hgt, decide_eq_false h2]; rfl
            rw [if_neg (by rintro (h | h); exact h1 h; exact h2 h)]
            clear e0 hlt hgt h1 h2
            go_enter Tryz.func13, Tryz.ntmps13
            go_wp2_with fail
            refine (isnan_any x _ HX.out).mono ?_
            rintro e w' ⟨rfl, rfl⟩
            rw [nx]
            go_wp2_with fail
            refine (isnan_any y _ HY.out).mono ?_
            rintro e w' ⟨rfl, rfl⟩
            rw [ny]
            go_wp2_with fail
            refine (isnan_any z _ HZ.out).mono ?_
            rintro e w' ⟨rfl, rfl⟩
            rw [nz]
            go_wp2_with fail
            go_ret
            exact ⟨rfl, rfl⟩

theorem rcheck_any (x y z : Nat) (w : World) (hx : x < 18446744073709551616) (hy : y < 18446744073709551616) (hz : z < 18446744073709551616) : Calls Tryz.prog 14 #[.float .f64 x, .float .f64 y, .float .f64 z] w fun e w' => e = .returned (.int .i64 (ck x y z)) ∧ w = w' := by
  have hlt := o_lt hx hy
  have hgt := o_lt hz hx
  have sx := ord_self hx
  have sy := ord_self hy
  have sz := ord_self hz
  have HX := Lib.hid hx
  have HY := Lib.hid hy
  have HZ := Lib.hid hz
  clear hx hy hz
  cases nx : isN x with
  | true =>
    have e : ck x y z = 3 := by unfold ck; rw [if_pos (.inl nx)]
    rw [e]
    rw [nx] at sx
    clear e hlt hgt sy sz
    go_enter Tryz.func14, Tryz.ntmps14
    go_wp2_with fail
    go_ret
    exact ⟨rfl, rfl⟩
  | false =>
    rw [nx] at sx
    cases ny : isN y with
    | true =>
      have e : ck x y z = 3 := by unfold ck; rw [if_pos (.inr (.inl ny))]
      rw [e]
      rw [ny] at sy
      clear e hlt hgt sz
      go_enter Tryz.func14, Tryz.ntmps14
      go_wp2_with fail
      go_ret
      exact ⟨rfl, rfl⟩
    | false =>
      rw [ny] at sy
      cases nz : isN z with
      | true =>
        have e : ck x y z = 3 := by unfold ck; rw [if_pos (.inr (.inr nz))]
        rw [e]
        rw [nz] at sz
        clear e hlt hgt
        go_enter Tryz.func14, Tryz.ntmps14
        go_wp2_with fail
        go_ret
        exact ⟨rfl, rfl⟩
      | false =>
        rw [nz] at sz
        rw [nx, ny] at hlt
        rw [nz, nx] at hgt
        have e0 : ck x y z = if Ko x < Ko y ∨ Ko z < Ko x then 2 else 0 := by unfold ck; rw [if_neg (by rw [nx, ny, nz]; decide)]
        rw [e0]
        by_cases h1 : Ko x < Ko y
        · have e1 : (FloatKind.f64.format.order x y == some Ordering.lt) = true := by rw [hlt, decide_eq_true h1]; rfl
          rw [if_pos (.inl h1)]
          clear e0 hlt hgt h1
          go_enter Tryz.func14, Tryz.ntmps14
          go_wp2_with fail
          go_ret
          exact ⟨rfl, rfl⟩
        · have e1 : (FloatKind.f64.format.order x y == some Ordering.lt) = false := by rw [hlt, decide_eq_false h1]; rfl
          by_cases h2 : Ko z < Ko x
          · have e2 : (FloatKind.f64.format.order z x == some Ordering.lt) = true := by rw [hgt, decide_eq_true h2]; rfl
            rw [if_pos (.inr h2)]
            clear e0 hlt hgt h1 h2
            go_enter Tryz.func14, Tryz.ntmps14
            go_wp2_with fail
            go_ret
            exact ⟨rfl, rfl⟩
          · have e2 : (FloatKind.f64.format.order z x == some Ordering.lt) = false := by rw [hgt, decide_eq_false h2]; rfl
            rw [if_neg (by rintro (h | h); exact h1 h; exact h2 h)]
            clear e0 hlt hgt h1 h2
            go_enter Tryz.func14, Tryz.ntmps14
            go_wp2_with fail
            go_ret
            exact ⟨rfl, rfl⟩

theorem signbit_any (x : Nat) (w : World) (hx : x < 18446744073709551616) : Calls Tryz.prog 33 #[.float .f64 x] w fun e w' => e = .returned (.bool (decide (SG ≤ x))) ∧ w = w' := by
  have r1 := fun w => bits_run w x
  have hSG := SG_is
  by_cases h : SG ≤ x
  · have h1 : IntKind.i64.wrap (x : Int) = (x : Int) - 18446744073709551616 := by rw [IntKind.wrap_i64]; omega
    have h2 : decide ((x : Int) - 18446744073709551616 < 0) = true := decide_eq_true (by omega)
    have e : decide (SG ≤ x) = true := decide_eq_true h
    rw [e]
    obtain ⟨v, hv⟩ : ∃ v, (x : Int) - 18446744073709551616 = v := ⟨_, rfl⟩
    rw [hv] at h1 h2
    clear h e hSG hv
    go_enter Tryz.func33, Tryz.ntmps33
    go_wp2
    go_ret
    exact ⟨rfl, rfl⟩
  · have h1 : IntKind.i64.wrap (x : Int) = (x : Int) := by rw [IntKind.wrap_i64]; omega
    have h2 : decide ((x : Int) < 0) = false := decide_eq_false (by omega)
    have e : decide (SG ≤ x) = false := decide_eq_false h
    rw [e]
    clear h e hSG
    go_enter Tryz.func33, Tryz.ntmps33
    go_wp2
    go_ret
    exact ⟨rfl, rfl⟩
theorem pl_is {x : Nat} (nx : isN x = false) : pl x = if SG ≤ x then 18446744073709551615 - x else x + SG := by unfold pl; rw [if_neg (by rw [nx]; decide)]
theorem Ko_is (x : Nat) : Ko x = if SG ≤ x then -((x - SG : Nat) : Int) else (x : Int) := by
  unfold Ko sg rg
  by_cases h : SG ≤ x
  · rw [if_pos h, if_pos (decide_eq_true h), if_pos h]
  · rw [if_neg h, if_neg (by rw [decide_eq_false h]; decide), if_neg h]
/-- How two words stand by 'pl'. -/
theorem pl_cases {x y : Nat} (hx : x < 18446744073709551616) (hy : y < 18446744073709551616) (nx : isN x = false) (ny : isN y = false) : pl x < pl y ↔ Ko x < Ko y ∨ (Ko x = Ko y ∧ SG ≤ x ∧ ¬ SG ≤ y) := by
  have hSG := SG_is
  have hI := INF_is
  rw [pl_is nx, pl_is ny, Ko_is, Ko_is]
  unfold isN at nx ny
  rw [decide_eq_false_iff_not] at nx ny
  unfold rg at nx ny
  by_cases h1 : SG ≤ x
  · rw [if_pos h1] at nx
    rw [if_pos h1, if_pos h1]
    by_cases h2 : SG ≤ y
    · rw [if_pos h2] at ny
      rw [if_pos h2, if_pos h2]
      omega
    · rw [if_neg h2] at ny
      rw [if_neg h2, if_neg h2]
      omega
  · rw [if_neg h1] at nx
    rw [if_neg h1, if_neg h1]
    by_cases h2 : SG ≤ y
    · rw [if_pos h2] at ny
      rw [if_pos h2, if_pos h2]
      omega
    · rw [if_neg h2] at ny
      rw [if_neg h2, if_neg h2]
      omega
theorem pl_nan {x : Nat} (nx : isN x = true) : pl x = 18446744073709551615 := by unfold pl; rw [if_pos nx]
theorem pl_num {x : Nat} (hx : x < 18446744073709551616) (nx : isN x = false) : pl x < 18446744073709551615 := by
  have hSG := SG_is
  have hI := INF_is
  unfold isN at nx
  rw [decide_eq_false_iff_not] at nx
  unfold pl isN
  rw [if_neg (by rw [decide_eq_true_eq]; exact nx)]
  unfold rg at nx
  split at nx <;> split <;> omega
theorem before_any (x y : Nat) (w : World) (hx : x < 18446744073709551616) (hy : y < 18446744073709551616) : Calls Tryz.prog 27 #[.float .f64 x, .float .f64 y] w fun e w' => e = .returned (.bool (decide (pl x < pl y))) ∧ w = w' := by
  have sx := ord_self hx
  have sy := ord_self hy
  have hlt := o_lt hx hy
  have heq := o_eq hx hy
  have S1 := Lib.hid (fun w => signbit_any x w hx)
  have S2 := Lib.hid (fun w => signbit_any y w hy)
  have hplx := pl_lt hx
  cases nx : isN x with
  | true =>
    rw [nx] at sx
    have e : decide (pl x < pl y) = false := decide_eq_false (by have := pl_lt hy; rw [pl_nan nx]; omega)
    rw [e]
    clear e hlt heq sy hplx hx hy
    go_enter Tryz.func27, Tryz.ntmps27
    go_wp2
    go_ret
    exact ⟨rfl, rfl⟩
  | false =>
    rw [nx] at sx
    cases ny : isN y with
    | true =>
      rw [ny] at sy
      have e : decide (pl x < pl y) = true := decide_eq_true (by have := pl_num hx nx; rw [pl_nan ny]; omega)
      rw [e]
      clear e hlt heq hplx hx hy
      go_enter Tryz.func27, Tryz.ntmps27
      go_wp2
      go_ret
      exact ⟨rfl, rfl⟩
    | false =>
      rw [ny] at sy
      have hc := pl_cases hx hy nx ny
      rw [nx, ny] at hlt heq
      by_cases h1 : Ko x < Ko y
      · have e1 : (FloatKind.f64.format.order x y == some Ordering.lt) = true := by rw [hlt, decide_eq_true h1]; rfl
        have e : decide (pl x < pl y) = true := decide_eq_true (hc.2 (.inl h1))
        rw [e]
        clear e hlt heq hplx hx hy h1 hc
        go_enter Tryz.func27, Tryz.ntmps27
        go_wp2
        go_ret
        exact ⟨rfl, rfl⟩
      · have e1 : (FloatKind.f64.format.order x y == some Ordering.lt) = false := by rw [hlt, decide_eq_false h1]; rfl
        by_cases h2 : Ko x = Ko y
        · have e2 : (FloatKind.f64.format.order x y == some Ordering.eq) = true := by rw [heq, decide_eq_true h2]; rfl
          by_cases h3 : SG ≤ x
          · have d3 : decide (SG ≤ x) = true := decide_eq_true h3
            by_cases h4 : SG ≤ y
            · have d4 : decide (SG ≤ y) = true := decide_eq_true h4
              have e : decide (pl x < pl y) = false := decide_eq_false (fun h => by rcases hc.1 h with h | ⟨_, _, h⟩; exact h1 h; exact h h4)
              rw [e]
              rw [d3] at S1
              rw [d4] at S2
              clear e hlt heq hplx hx hy h1 hc h2 h3 h4 d3 d4
              go_enter Tryz.func27, Tryz.ntmps27
              go_wp2_with fail
              refine (S1.out _).mono ?_
              rintro e w' ⟨rfl, rfl⟩
              go_wp2_with fail
              refine (S2.out _).mono ?_
              rintro e w' ⟨rfl, rfl⟩
              go_wp2_with fail
              go_ret
              exact ⟨rfl, rfl⟩
            · have d4 : decide (SG ≤ y) = false := decide_eq_false h4
              have e : decide (pl x < pl y) = true := decide_eq_true (hc.2 (.inr ⟨h2, h3, h4⟩))
              rw [e]
              rw [d3] at S1
              rw [d4] at S2
              clear e hlt heq hplx hx hy h1 hc h2 h3 h4 d3 d4
              go_enter Tryz.func27, Tryz.ntmps27
              go_wp2_with fail
              refine (S1.out _).mono ?_
              rintro e w' ⟨rfl, rfl⟩
              go_wp2_with fail
              refine (S2.out _).mono ?_
              rintro e w' ⟨rfl, rfl⟩
              go_wp2_with fail
              go_ret
              exact ⟨rfl, rfl⟩
          · have d3 : decide (SG ≤ x) = false := decide_eq_false h3
            have e : decide (pl x < pl y) = false := decide_eq_false (fun h => by rcases hc.1 h with h | ⟨_, h, _⟩; exact h1 h; exact h3 h)
            rw [e]
            rw [d3] at S1
            clear e hlt heq hplx hx hy h1 hc h2 h3 d3
            go_enter Tryz.func27, Tryz.ntmps27
            go_wp2_with fail
            refine (S1.out _).mono ?_
            rintro e w' ⟨rfl, rfl⟩
            go_wp2_with fail
            go_ret
            exact ⟨rfl, rfl⟩
        · have e2 : (FloatKind.f64.format.order x y == some Ordering.eq) = false := by rw [heq, decide_eq_false h2]; rfl
          have e : decide (pl x < pl y) = false := decide_eq_false (fun h => by rcases hc.1 h with h | ⟨h, _, _⟩; exact h1 h; exact h2 h)
          rw [e]
          clear e hlt heq hplx hx hy h1 hc h2
          go_enter Tryz.func27, Tryz.ntmps27
          go_wp2
          go_ret
          exact ⟨rfl, rfl⟩
theorem rcmp_any (x y : Nat) (w : World) (hx : x < 18446744073709551616) (hy : y < 18446744073709551616) : Calls Tryz.prog 16 #[.float .f64 x, .float .f64 y] w fun e w' => e = .returned (.int .i64 (Wl.cmpI (pl x : Nat) (pl y : Nat))) ∧ w = w' := by
  have B1 := Lib.hid (fun w => before_any x y w hx hy)
  have B2 := Lib.hid (fun w => before_any y x w hy hx)
  clear hx hy
  by_cases h1 : pl x < pl y
  · have e : Wl.cmpI (pl x : Nat) (pl y : Nat) = -1 := by unfold Wl.cmpI; rw [if_pos (by omega)]
    rw [decide_eq_true h1] at B1
    rw [e]
    clear e h1 B2
    go_enter Tryz.func16, Tryz.ntmps16
    go_wp2_with fail
    refine (B1.out _).mono ?_
    rintro e w' ⟨rfl, rfl⟩
    go_wp2_with fail
    go_ret
    exact ⟨rfl, rfl⟩
  · rw [decide_eq_false h1] at B1
    by_cases h2 : pl y < pl x
    · have e : Wl.cmpI (pl x : Nat) (pl y : Nat) = 1 := by unfold Wl.cmpI; rw [if_neg (by omega), if_pos (by omega)]
      rw [decide_eq_true h2] at B2
      rw [e]
      clear e h1 h2
      go_enter Tryz.func16, Tryz.ntmps16
      go_wp2_with fail
      refine (B1.out _).mono ?_
      rintro e w' ⟨rfl, rfl⟩
      go_wp2_with fail
      refine (B2.out _).mono ?_
      rintro e w' ⟨rfl, rfl⟩
      go_wp2_with fail
      go_ret
      exact ⟨rfl, rfl⟩
    · have e : Wl.cmpI (pl x : Nat) (pl y : Nat) = 0 := by unfold Wl.cmpI; rw [if_neg (by omega), if_neg (by omega)]
      rw [decide_eq_false h2] at B2
      rw [e]
      clear e h1 h2
      go_enter Tryz.func16, Tryz.ntmps16
      go_wp2_with fail
      refine (B1.out _).mono ?_
      rintro e w' ⟨rfl, rfl⟩
      go_wp2_with fail
      refine (B2.out _).mono ?_
      rintro e w' ⟨rfl, rfl⟩
      go_wp2_with fail
      go_ret
      exact ⟨rfl, rfl⟩
/-- A word with its sign turned. -/
abbrev ng (x : Nat) : Nat := Op.negFloat .f64 x
theorem ng_facts {x : Nat} (hx : x < 18446744073709551616) : ng x < 18446744073709551616 ∧ rg (ng x) = rg x := by
  have hSG := SG_is
  have e : ng x = x ^^^ 2 ^ 63 := rfl
  have h1 : ng x < 2 ^ 64 := by rw [e]; exact Nat.xor_lt_two_pow hx (by decide)
  have h2 : ng x % 2 ^ 63 = x % 2 ^ 63 := by
    rw [e, Nat.xor_mod_two_pow]
    simp
  have hr : ∀ z, z < 18446744073709551616 → rg z = z % 2 ^ 63 := fun z hz => by
    unfold rg
    split <;> omega
  exact ⟨h1, by rw [hr _ h1, hr _ hx, h2]⟩
theorem isinf_m (x : Nat) (w : World) : Calls Tryz.prog 29 #[.float .f64 x, .int .i64 (-1)] w fun e w' => e = .returned (.bool (isI (ng x))) ∧ w = w' := by
  have hneg : ∀ w, (Op.unary UnOp.neg (Value.float FloatKind.f64 x)).run Tryz.prog w = .ok (.float .f64 (ng x)) w := fun w => rfl
  unfold isI
  go_enter Tryz.func29, Tryz.ntmps29
  go_wp2
  go_ret
  exact ⟨rfl, rfl⟩
/-- What is neither NaN nor infinite. -/
theorem num_facts {x : Nat} (hx : x < 18446744073709551616) (h : rg x < INF) : isN x = false ∧ isI x = false ∧ isI (ng x) = false ∧ (FloatKind.f64.format.order x 18442240474082181119 == some Ordering.lt) = false ∧ x / 4503599627370496 % 2048 ≠ 2047 := by
  have hSG := SG_is
  have hI := INF_is
  obtain ⟨g1, g2⟩ := ng_facts hx
  have n1 : isN x = false := by unfold isN; rw [decide_eq_false]; omega
  have n2 : isN (ng x) = false := by unfold isN; rw [g2, decide_eq_false]; omega
  have k : ∀ z, Ko z ≤ (rg z : Int) ∧ -(rg z : Int) ≤ Ko z := fun z => by unfold Ko; split <;> omega
  have m1 : isN 9218868437227405311 = false ∧ Ko 9218868437227405311 = 9218868437227405311 := by decide +kernel
  have m2 : isN 18442240474082181119 = false ∧ Ko 18442240474082181119 = -9218868437227405311 := by decide +kernel
  refine ⟨n1, ?_, ?_, ?_, ?_⟩
  · unfold isI
    rw [o_gt hx (by omega), n1, m1.1, m1.2, decide_eq_false (by have := k x; omega)]; rfl
  · unfold isI
    rw [o_gt g1 (by omega), n2, m1.1, m1.2, decide_eq_false (by have := k (ng x); rw [g2] at this; omega)]; rfl
  · rw [o_lt hx (by omega), n1, m2.1, m2.2, decide_eq_false (by have := k x; omega)]; rfl
  · unfold rg at h
    split at h <;> omega

/-- Text, and the document's, of a float: one text. -/
theorem text_two (x : Nat) (hx : x < 18446744073709551616) : ∃ s : ByteArray,
    (∀ w, Ff.Ft w → Calls Tryz.prog 19 #[.float .f64 x] w fun e w' => e = .returned (.string s) ∧ Below w.heap.size w w') ∧
    (∀ w, Ff.Ft w → Calls Tryz.prog 20 #[.float .f64 x] w fun e w' => e = .returned (.string s) ∧ Below w.heap.size w w') := by
  have hself := ord_self hx
  have HN := Lib.hid (fun w => isnan_any x w hx)
  cases nx : isN x with
  | true =>
    rw [nx] at hself HN
    clear hx
    refine ⟨⟨#[110, 97, 110]⟩, fun w hT => ?_, fun w hT => ?_⟩
    · clear hself
      go_enter Tryz.func19, Tryz.ntmps19
      go_wp2_with fail
      refine (HN.out _).mono ?_
      rintro e w1 ⟨rfl, rfl⟩
      go_wp2_with fail
      go_ret
      exact ⟨rfl, Below.refl _ _⟩
    · go_enter Tryz.func20, Tryz.ntmps20
      go_wp2_with fail
      go_ret
      exact ⟨rfl, Below.refl _ _⟩
  | false =>
    rw [nx] at hself HN
    by_cases hi : x = 9218868437227405312
    · subst hi
      have h1 : isI 9218868437227405312 = true := by decide +kernel
      have h2 : (FloatKind.f64.format.order 9218868437227405312 9218868437227405311 == some Ordering.gt) = true := by decide +kernel
      clear hx nx
      refine ⟨⟨#[43, 105, 110, 102]⟩, fun w hT => ?_, fun w hT => ?_⟩
      · clear hself h2
        go_enter Tryz.func19, Tryz.ntmps19
        go_wp2_with fail
        refine (HN.out _).mono ?_
        rintro e w1 ⟨rfl, rfl⟩
        go_wp2_with fail
        refine (isinf_any _ _).mono ?_
        rw [h1]
        rintro e w1 ⟨rfl, rfl⟩
        go_wp2_with fail
        go_ret
        exact ⟨rfl, Below.refl _ _⟩
      · go_enter Tryz.func20, Tryz.ntmps20
        go_wp2_with fail
        go_ret
        exact ⟨rfl, Below.refl _ _⟩
    by_cases hj : x = 18442240474082181120
    · subst hj
      have h1 : isI 18442240474082181120 = false := by decide +kernel
      have h3 : isI (ng 18442240474082181120) = true := by decide +kernel
      have h2 : (FloatKind.f64.format.order 18442240474082181120 9218868437227405311 == some Ordering.gt) = false := by decide +kernel
      have h4 : (FloatKind.f64.format.order 18442240474082181120 18442240474082181119 == some Ordering.lt) = true := by decide +kernel
      clear hx nx hi
      refine ⟨⟨#[45, 105, 110, 102]⟩, fun w hT => ?_, fun w hT => ?_⟩
      · clear hself h2 h4
        go_enter Tryz.func19, Tryz.ntmps19
        go_wp2_with fail
        refine (HN.out _).mono ?_
        rintro e w1 ⟨rfl, rfl⟩
        go_wp2_with fail
        refine (isinf_any _ _).mono ?_
        rw [h1]
        rintro e w1 ⟨rfl, rfl⟩
        go_wp2_with fail
        refine (isinf_m _ _).mono ?_
        rw [h3]
        rintro e w1 ⟨rfl, rfl⟩
        go_wp2_with fail
        go_ret
        exact ⟨rfl, Below.refl _ _⟩
      · go_enter Tryz.func20, Tryz.ntmps20
        go_wp2_with fail
        go_ret
        exact ⟨rfl, Below.refl _ _⟩
    have hr : rg x < INF := by
      have hSG := SG_is
      have hI := INF_is
      unfold isN at nx
      rw [decide_eq_false_iff_not] at nx
      unfold rg at nx ⊢
      split at nx <;> split <;> omega
    obtain ⟨-, f1, f2, f3, f4⟩ := num_facts hx hr
    have f5 : (FloatKind.f64.format.order x 9218868437227405311 == some Ordering.gt) = false := f1
    obtain ⟨s, hs⟩ := Ff.format_any x hx f4
    have HS := Lib.hid hs
    have F1 := Lib.hid f1
    have F2 := Lib.hid f2
    clear hx nx hi hj hr f1 f2 f4 hs
    refine ⟨s, fun w hT => ?_, fun w hT => ?_⟩
    · have HT := Lib.hid hT
      clear hself f3 f5 hT
      go_enter Tryz.func19, Tryz.ntmps19
      go_wp2_with fail
      refine (HN.out _).mono ?_
      rintro e w1 ⟨rfl, rfl⟩
      go_wp2_with fail
      refine (isinf_any _ _).mono ?_
      rw [F1.out]
      rintro e w1 ⟨rfl, rfl⟩
      go_wp2_with fail
      refine (isinf_m _ _).mono ?_
      rw [F2.out]
      rintro e w1 ⟨rfl, rfl⟩
      go_wp2_with fail
      refine (HS.out _ HT.out).mono ?_
      rintro e w1 ⟨rfl, hb⟩
      go_wp2_with fail
      go_ret
      exact ⟨rfl, hb⟩
    · have HT := Lib.hid hT
      clear hT
      go_enter Tryz.func20, Tryz.ntmps20
      go_wp2_with fail
      refine (HS.out _ HT.out).mono ?_
      rintro e w1 ⟨rfl, hb⟩
      go_wp2_with fail
      go_ret
      exact ⟨rfl, hb⟩
end Go.Proofs.YtobilnloghofpaaGreatDoor.Fl
