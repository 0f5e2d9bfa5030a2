/- Layer 6 (ratio): Check, the document's Check, Cmp, Text; Text. -/
import Derived.Test.YtnclbnbjmgbonaaGreatDoorRatioD
import Derived.Test.YtnclbnbjmgbonaaGreatDoorFltJ
namespace Go.Proofs.YtnclbnbjmgbonaaGreatDoor.Fl
open Go.ChangeShapes Go.WideShapes Go.ChangeAt Go.RowKit Rw Ck
set_option linter.unusedVariables false

def ck (x y z : Nat) : Int := if isN x = true ∨ isN y = true ∨ isN z = true then 3 else if Ko x < Ko y ∨ Ko z < Ko x then 2 else 0

theorem check_any (x y z : Nat) (w : World) (hx : x < 18446744073709551616) (hy : y < 18446744073709551616) (hz : z < 18446744073709551616) : Calls Tryz.prog 138 #[.float .f64 x, .float .f64 y, .float .f64 z] w fun e w' => e = .returned (.int .i64 (ck x y z)) ∧ w = w' := by
  have hlt := o_lt hx hy
  have hgt := o_gt hx hz
  have sx := ord_self hx
  have sy := ord_self hy
  have sz := ord_self hz
  have HX := Lib.hid hx
  have HY := Lib.hid hy
  have HZ := Lib.hid hz
  clear hx hy hz
  cases nx : isN x with
  | true =>
    have e : ck x y z = 3 := by unfold ck; rw [if_pos (.inl nx)]
    rw [e]
    rw [nx] at sx
    clear e hlt hgt sy sz
    go_enter Tryz.func138, Tryz.ntmps138
    go_wp2_with fail
    refine (isnan_any x _ HX.out).mono ?_
    rintro e w' ⟨rfl, rfl⟩
    rw [nx]
    go_wp2_with fail
    go_ret
    exact ⟨rfl, rfl⟩
  | false =>
    rw [nx] at sx
    cases ny : isN y with
    | true =>
      have e : ck x y z = 3 := by unfold ck; rw [if_pos (.inr (.inl ny))]
      rw [e]
      rw [ny] at sy
      clear e hlt hgt sz
      go_enter Tryz.func138, Tryz.ntmps138
      go_wp2_with fail
      refine (isnan_any x _ HX.out).mono ?_
      rintro e w' ⟨rfl, rfl⟩
      rw [nx]
      go_wp2_with fail
      refine (isnan_any y _ HY.out).mono ?_
      rintro e w' ⟨rfl, rfl⟩
      rw [ny]
      go_wp2_with fail
      go_ret
      exact ⟨rfl, rfl⟩
    | false =>
      rw [ny] at sy
      cases nz : isN z with
      | true =>
        have e : ck x y z = 3 := by unfold ck; rw [if_pos (.inr (.inr nz))]
        rw [e]
        rw [nz] at sz
        clear e hlt hgt
        go_enter Tryz.func138, Tryz.ntmps138
        go_wp2_with fail
        refine (isnan_any x _ HX.out).mono ?_
        rintro e w' ⟨rfl, rfl⟩
        rw [nx]
        go_wp2_with fail
        refine (isnan_any y _ HY.out).mono ?_
        rintro e w' ⟨rfl, rfl⟩
        rw [ny]
        go_wp2_with fail
        refine (isnan_any z _ HZ.out).mono ?_
        rintro e w' ⟨rfl, rfl⟩
        rw [nz]
        go_wp2_with fail
        go_ret
        exact ⟨rfl, rfl⟩
      | false =>
        rw [nz] at sz
        rw [nx, ny] at hlt
        rw [nx, nz] at hgt
        have e0 : ck x y z = if Ko x < Ko y ∨ Ko z < Ko x then 2 else 0 := by unfold ck; rw [if_neg (by rw [nx, ny, nz]; decide)]
        rw [e0]
        by_cases h1 : Ko x < Ko y
        · have e1 : (FloatKind.f64.format.order x y == some Ordering.lt) = true := by rw [hlt, decide_eq_true h1]; rfl
          rw [if_pos (.inl h1)]
          clear e0 hlt hgt h1
          go_enter Tryz.func138, Tryz.ntmps138
          go_wp2_with fail
          refine (isnan_any x _ HX.out).mono ?_
          rintro e w' ⟨rfl, rfl⟩
          rw [nx]
          go_wp2_with fail
          refine (isnan_any y _ HY.out).mono ?_
          rintro e w' ⟨rfl, rfl⟩
          rw [ny]
          go_wp2_with fail
          refine (isnan_any z _ HZ.out).mono ?_
          rintro e w' ⟨rfl, rfl⟩
          rw [nz]
          go_wp2_with fail
          go_ret
          exact ⟨rfl, rfl⟩
        · have e1 : (FloatKind.f64.format.order x y == some Ordering.lt) = false := by rw [hlt, decide_eq_false h1]; rfl
          by_cases h2 : Ko z < Ko x
          · have e2 : (FloatKind.f64.format.order x z == some Ordering.gt) = true := by rw [hgt, decide_eq_true h2]; rfl
            rw [if_pos (.inr h2)]
            clear e0 hlt hgt h1 h2
            go_enter Tryz.func138, Tryz.ntmps138
            go_wp2_with fail
            refine (isnan_any x _ HX.out).mono ?_
            rintro e w' ⟨rfl, rfl⟩
            rw [nx]
            go_wp2_with fail
            refine (isnan_any y _ HY.out).mono ?_
            rintro e w' ⟨rfl, rfl⟩
            rw [ny]
            go_wp2_with fail
            refine (isnan_any z _ HZ.out).mono ?_
            rintro e w' ⟨rfl, rfl⟩
            rw [nz]
            go_wp2_with fail
            go_ret
            exact ⟨rfl, rfl⟩
          · have e2 : (FloatKind.f64.format.order x z == some Ordering.gt) = false := by rw [hgt, decide_eq_false h2]; rfl
            rw [if_neg (by rintro (h | h); exact h1 h; exact h2 h)]
            clear e0 hlt hgt h1 h2
            go_enter Tryz.func138, Tryz.ntmps138
            go_wp2_with fail
            refine (isnan_any x _ HX.out).mono ?_
            rintro e w' ⟨rfl, rfl⟩
            rw [nx]
            go_wp2_with fail
            refine (isnan_any y _ HY.out).mono ?_
            rintro e w' ⟨rfl, rfl⟩
            rw [ny]
            go_wp2_with fail
            refine (isnan_any z _ HZ.out).mono ?_
            rintro e w' ⟨rfl, rfl⟩
            rw [nz]
            go_wp2_with fail
            go_ret
            exact ⟨rfl, rfl⟩

theorem rcheck_any (x y z : Nat) (w : World) (hx : x < 18446744073709551616) (hy : y < 18446744073709551616) (hz : z < 18446744073709551616) : Calls Tryz.prog 141 #[.float .f64 x, .float .f64 y, .float .f64 z] w fun e w' => e = .returned (.int .i64 (ck x y z)) ∧ w = w' := by
  have hlt := o_lt hx hy
  have hgt := o_lt hz hx
  have sx := ord_self hx
  have sy := ord_self hy
  have sz := ord_self hz
  have HX := Lib.hid hx
  have HY := Lib.hid hy
  have HZ := Lib.hid hz
  clear hx hy hz
  cases nx : isN x with
  | true =>
    have e : ck x y z = 3 := by unfold ck; rw [if_pos (.inl nx)]
    rw [e]
    rw [nx] at sx
    clear e hlt hgt sy sz
    go_enter Tryz.func141, Tryz.ntmps141
    go_wp2_with fail
    go_ret
    exact ⟨rfl, rfl⟩
  | false =>
    rw [nx] at sx
    cases ny : isN y with
    | true =>
      have e : ck x y z = 3 := by unfold ck; rw [if_pos (.inr (.inl ny))]
      rw [e]
      rw [ny] at sy
      clear e hlt hgt sz
      go_enter Tryz.func141, Tryz.ntmps141
      go_wp2_with fail
      go_ret
      exact ⟨rfl, rfl⟩
    | false =>
      rw [ny] at sy
      cases nz : isN z with
      | true =>
        have e : ck x y z = 3 := by unfold ck; rw [if_pos (.inr (.inr nz))]
        rw [e]
        rw [nz] at sz
        clear e hlt hgt
        go_enter Tryz.func141, Tryz.ntmps141
        go_wp2_with fail
        go_ret
        exact ⟨rfl, rfl⟩
      | false =>
        rw [nz] at sz
        rw [nx, ny] at hlt
        rw [nz, nx] at hgt
        have e0 : ck x y z = if Ko x < Ko y ∨ Ko z < Ko x then 2 else 0 := by unfold ck; rw [if_neg (by rw [nx, ny, nz]; decide)]
        rw [e0]
        by_cases h1 : Ko x < Ko y
        · have e1 : (FloatKind.f64.format.order x y == some Ordering.lt) = true := by rw [hlt, decide_eq_true h1]; rfl
          rw [if_pos (.inl h1)]
          clear e0 hlt hgt h1
          go_enter Tryz.func141, Tryz.ntmps141
          go_wp2_with fail
          go_ret
          exact ⟨rfl, rfl⟩
        · have e1 : (FloatKind.f64.format.order x y == some Ordering.lt) = false := by rw [hlt, decide_eq_false h1]; rfl
          by_cases h2 : Ko z < Ko x
          · have e2 : (FloatKind.f64.format.order z x == some Ordering.lt) = true := by rw [hgt, decide_eq_true h2]; rfl
            rw [if_pos (.inr h2)]
            clear e0 hlt hgt h1 h2
            go_enter Tryz.func141, Tryz.ntmps141
            go_wp2_with fail
            go_ret
            exact ⟨rfl, rfl⟩
          · have e2 : (FloatKind.f64.format.order z x == some Ordering.lt) = false := by rw [hgt, decide_eq_false h2]; rfl
            rw [if_neg (by rintro (h | h); exact h1 h; exact h2 h)]
            clear e0 hlt hgt h1 h2
            go_enter Tryz.func141, Tryz.ntmps141
            go_wp2_with fail
            go_ret
            exact ⟨rfl, rfl⟩

theorem pl_is {x : Nat} (nx : isN x = false) : pl x = if SG ≤ x then 18446744073709551615 - x else x + SG := by unfold pl; rw [if_neg (by rw [nx]; decide)]
theorem Ko_is (x : Nat) : Ko x = if SG ≤ x then -((x - SG : Nat) : Int) else (x : Int) := by
  unfold Ko sg rg
  by_cases h : SG ≤ x
  · rw [if_pos h, if_pos (decide_eq_true h), if_pos h]
  · rw [if_neg h, if_neg (by rw [decide_eq_false h]; decide), if_neg h]
/-- How two words stand by 'pl'. -/
theorem pl_cases {x y : Nat} (hx : x < 18446744073709551616) (hy : y < 18446744073709551616) (nx : isN x = false) (ny : isN y = false) : pl x < pl y ↔ Ko x < Ko y ∨ (Ko x = Ko y ∧ SG ≤ x ∧ ¬ SG ≤ y) := by
  have hSG := SG_is
  have hI := INF_is
  rw [pl_is nx, pl_is ny, Ko_is, Ko_is]
  unfold isN at nx ny
  rw [decide_eq_false_iff_not] at nx ny
  unfold rg at nx ny
  by_cases h1 : SG ≤ x
  · rw [if_pos h1] at nx
    rw [if_pos h1, if_pos h1]
    by_cases h2 : SG ≤ y
    · rw [if_pos h2] at ny
      rw [if_pos h2, if_pos h2]
      omega
    · rw [if_neg h2] at ny
      rw [if_neg h2, if_neg h2]
      omega
  · rw [if_neg h1] at nx
    rw [if_neg h1, if_neg h1]
    by_cases h2 : SG ≤ y
    · rw [if_pos h2] at ny
      rw [if_pos h2, if_pos h2]
      omega
    · rw [if_neg h2] at ny
      rw [if_neg h2, if_neg h2]
      omega
theorem pl_nan {x : Nat} (nx : isN x = true) : pl x = 18446744073709551615 := by unfold pl; rw [if_pos nx]
theorem pl_num {x : Nat} (hx : x < 18446744073709551616) (nx : isN x = false) : pl x < 18446744073709551615 := by
  have hSG := SG_is
  have hI := INF_is
  unfold isN at nx
  rw [decide_eq_false_iff_not] at nx
  unfold pl isN
  rw [if_neg (by rw [decide_eq_true_eq]; exact nx)]
  unfold rg at nx
  split at nx <;> split <;> omega
/-- A word with its sign turned. -/
abbrev ng (x : Nat) : Nat := Op.negFloat .f64 x
theorem ng_facts {x : Nat} (hx : x < 18446744073709551616) : ng x < 18446744073709551616 ∧ rg (ng x) = rg x := by
  have hSG := SG_is
  have e : ng x = x ^^^ 2 ^ 63 := rfl
  have h1 : ng x < 2 ^ 64 := by rw [e]; exact Nat.xor_lt_two_pow hx (by decide)
  have h2 : ng x % 2 ^ 63 = x % 2 ^ 63 := by
    rw [e, Nat.xor_mod_two_pow]
    simp
  have hr : ∀ z, z < 18446744073709551616 → rg z = z % 2 ^ 63 := fun z hz => by
    unfold rg
    split <;> omega
  exact ⟨h1, by rw [hr _ h1, hr _ hx, h2]⟩
theorem isinf_m (x : Nat) (w : World) : Calls Tryz.prog 242 #[.float .f64 x, .int .i64 (-1)] w fun e w' => e = .returned (.bool (isI (ng x))) ∧ w = w' := by
  have hneg : ∀ w, (Op.unary UnOp.neg (Value.float FloatKind.f64 x)).run Tryz.prog w = .ok (.float .f64 (ng x)) w := fun w => rfl
  unfold isI
  go_enter Tryz.func242, Tryz.ntmps242
  go_wp2
  go_ret
  exact ⟨rfl, rfl⟩
/-- What is neither NaN nor infinite. -/
theorem num_facts {x : Nat} (hx : x < 18446744073709551616) (h : rg x < INF) : isN x = false ∧ isI x = false ∧ isI (ng x) = false ∧ (FloatKind.f64.format.order x 18442240474082181119 == some Ordering.lt) = false ∧ x / 4503599627370496 % 2048 ≠ 2047 := by
  have hSG := SG_is
  have hI := INF_is
  obtain ⟨g1, g2⟩ := ng_facts hx
  have n1 : isN x = false := by unfold isN; rw [decide_eq_false]; omega
  have n2 : isN (ng x) = false := by unfold isN; rw [g2, decide_eq_false]; omega
  have k : ∀ z, Ko z ≤ (rg z : Int) ∧ -(rg z : Int) ≤ Ko z := fun z => by unfold Ko; split <;> omega
  have m1 : isN 9218868437227405311 = false ∧ Ko 9218868437227405311 = 9218868437227405311 := by decide +kernel
  have m2 : isN 18442240474082181119 = false ∧ Ko 18442240474082181119 = -9218868437227405311 := by decide +kernel
  refine ⟨n1, ?_, ?_, ?_, ?_⟩
  · unfold isI
    rw [o_gt hx (by omega), n1, m1.1, m1.2, decide_eq_false (by have := k x; omega)]; rfl
  · unfold isI
    rw [o_gt g1 (by omega), n2, m1.1, m1.2, decide_eq_false (by have := k (ng x); rw [g2] at this; omega)]; rfl
  · rw [o_lt hx (by omega), n1, m2.1, m2.2, decide_eq_false (by have := k x; omega)]; rfl
  · unfold rg at h
    split at h <;> omega

end Go.Proofs.YtnclbnbjmgbonaaGreatDoor.Fl
