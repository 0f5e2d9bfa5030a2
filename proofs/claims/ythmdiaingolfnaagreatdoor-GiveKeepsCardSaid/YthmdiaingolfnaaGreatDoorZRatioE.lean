/- A part of the claim: the texts RatioE. -/
import Derived.Test.YthmdiaingolfnaaGreatDoorZRatioD
import Derived.Test.YthmdiaingolfnaaGreatDoorZFltB
import Derived.Test.YthmdiaingolfnaaGreatDoorZFltC
import Derived.Test.YthmdiaingolfnaaGreatDoorZTabs
import Derived.Test.YthmdiaingolfnaaGreatDoorZFltI
import Derived.Laws.MakeOwn
namespace Go.Proofs.YthmdiaingolfnaaGreatDoor.Fl
open Go.ChangeShapes Go.WideShapes Go.ChangeAt Go.RowKit Rw Ck
set_option linter.unusedVariables false
def ck (x y z : Nat) : Int := if isN x = true ∨ isN y = true ∨ isN z = true then 3 else if Ko x < Ko y ∨ Ko z < Ko x then 2 else 0
theorem check_any (x y z : Nat) (w : World) (hx : x < 18446744073709551616) (hy : y < 18446744073709551616) (hz : z < 18446744073709551616) : Calls Tryz.prog 76 #[.float .f64 x, .float .f64 y, .float .f64 z] w fun e w' => e = .returned (.int .i64 (ck x y z)) ∧ w = w' := by
  have hlt := o_lt hx hy
  have hgt := o_gt hx hz
  have sx := ord_self hx
  have sy := ord_self hy
  have sz := ord_self hz
  have HX := Lib.hid hx
  have HY := Lib.hid hy
  have HZ := Lib.hid hz
  clear hx hy hz
  cases nx : isN x with
  | true =>
    have e : ck x y z = 3 := by unfold ck; rw [if_pos (.inl nx)]
    rw [e]
    rw [nx] at sx
    clear e hlt hgt sy sz
    go_enter Tryz.func76, Tryz.ntmps76
    go_wp2_with fail
    refine (isnan_any x _ HX.out).mono ?_
    rintro e w' ⟨rfl, rfl⟩
    rw [nx]
    go_wp2_with fail
    go_ret
    exact ⟨rfl, rfl⟩
  | false =>
    rw [nx] at sx
    cases ny : isN y with
    | true =>
      have e : ck x y z = 3 := by unfold ck; rw [if_pos (.inr (.inl ny))]
      rw [e]
      rw [ny] at sy
      clear e hlt hgt sz
      go_enter Tryz.func76, Tryz.ntmps76
      go_wp2_with fail
      refine (isnan_any x _ HX.out).mono ?_
      rintro e w' ⟨rfl, rfl⟩
      rw [nx]
      go_wp2_with fail
      refine (isnan_any y _ HY.out).mono ?_
      rintro e w' ⟨rfl, rfl⟩
      rw [ny]
      go_wp2_with fail
      go_ret
      exact ⟨rfl, rfl⟩
    | false =>
      rw [ny] at sy
      cases nz : isN z with
      | true =>
        have e : ck x y z = 3 := by unfold ck; rw [if_pos (.inr (.inr nz))]
        rw [e]
        rw [nz] at sz
        clear e hlt hgt
        go_enter Tryz.func76, Tryz.ntmps76
        go_wp2_with fail
        refine (isnan_any x _ HX.out).mono ?_
        rintro e w' ⟨rfl, rfl⟩
        rw [nx]
        go_wp2_with fail
        refine (isnan_any y _ HY.out).mono ?_
        rintro e w' ⟨rfl, rfl⟩
        rw [ny]
        go_wp2_with fail
        refine (isnan_any z _ HZ.out).mono ?_
        rintro e w' ⟨rfl, rfl⟩
        rw [nz]
        go_wp2_with fail
        go_ret
        exact ⟨rfl, rfl⟩
      | false =>
        rw [nz] at sz
        rw [nx, ny] at hlt
        rw [nx, nz] at hgt
        have e0 : ck x y z = if Ko x < Ko y ∨ Ko z < Ko x then 2 else 0 := by unfold ck; rw [if_neg (by rw [nx, ny, nz]; decide)]
        rw [e0]
        by_cases h1 : Ko x < Ko y
        · have e1 : (FloatKind.f64.format.order x y == some Ordering.lt) = true := by rw [hlt, decide_eq_true h1]; rfl
          rw [if_pos (.inl h1)]
          clear e0 hlt hgt h1
          go_enter Tryz.func76, Tryz.ntmps76
          go_wp2_with fail
          refine (isnan_any x _ HX.out).mono ?_
          rintro e w' ⟨rfl, rfl⟩
          rw [nx]
          go_wp2_with fail
          refine (isnan_any y _ HY.out).mono ?_
          rintro e w' ⟨rfl, rfl⟩
          rw [ny]
          go_wp2_with fail
          refine (isnan_any z _ HZ.out).mono ?_
          rintro e w' ⟨rfl, rfl⟩
          rw [nz]
          go_wp2_with fail
          go_ret
          exact ⟨rfl, rfl⟩
        · have e1 : (FloatKind.f64.format.order x y == some Ordering.lt) = false := by rw [hlt, decide_eq_false h1]; rfl
          by_cases h2 : Ko z < Ko x
          · have e2 : (FloatKind.f64.format.order x z == some Ordering.gt) = true := by rw [hgt, decide_eq_true h2]; rfl
            rw [if_pos (.inr h2)]
            clear e0 hlt hgt h1 h2
            go_enter Tryz.func76, Tryz.ntmps76
            go_wp2_with fail
            refine (isnan_any x _ HX.out).mono ?_
            rintro e w' ⟨rfl, rfl⟩
            rw [nx]
            go_wp2_with fail
            refine (isnan_any y _ HY.out).mono ?_
            rintro e w' ⟨rfl, rfl⟩
            rw [ny]
            go_wp2_with fail
            refine (isnan_any z _ HZ.out).mono ?_
            rintro e w' ⟨rfl, rfl⟩
            rw [nz]
            go_wp2_with fail
            go_ret
            exact ⟨rfl, rfl⟩
          · have e2 : (FloatKind.f64.format.order x z == some Ordering.gt) = false := by rw [hgt, decide_eq_false h2]; rfl
            rw [if_neg (by rintro (h | h); exact h1 h; exact h2 h)]
            clear e0 hlt hgt h1 h2
            go_enter Tryz.func76, Tryz.ntmps76
            go_wp2_with fail
            refine (isnan_any x _ HX.out).mono ?_
            rintro e w' ⟨rfl, rfl⟩
            rw [nx]
            go_wp2_with fail
            refine (isnan_any y _ HY.out).mono ?_
            rintro e w' ⟨rfl, rfl⟩
            rw [ny]
            go_wp2_with fail
            refine (isnan_any z _ HZ.out).mono ?_
            rintro e w' ⟨rfl, rfl⟩
            rw [nz]
            go_wp2_with fail
            go_ret
            exact ⟨rfl, rfl⟩
theorem rcheck_any (x y z : Nat) (w : World) (hx : x < 18446744073709551616) (hy : y < 18446744073709551616) (hz : z < 18446744073709551616) : Calls Tryz.prog 126 #[.float .f64 x, .float .f64 y, .float .f64 z] w fun e w' => e = .returned (.int .i64 (ck x y z)) ∧ w = w' := by
  have hlt := o_lt hx hy
  have hgt := o_lt hz hx
  have sx := ord_self hx
  have sy := ord_self hy
  have sz := ord_self hz
  have HX := Lib.hid hx
  have HY := Lib.hid hy
  have HZ := Lib.hid hz
  clear hx hy hz
  cases nx : isN x with
  | true =>
    have e : ck x y z = 3 := by unfold ck; rw [if_pos (.inl nx)]
    rw [e]
    rw [nx] at sx
    clear e hlt hgt sy sz
    go_enter Tryz.func126, Tryz.ntmps126
    go_wp2_with fail
    go_ret
    exact ⟨rfl, rfl⟩
  | false =>
    rw [nx] at sx
    cases ny : isN y with
    | true =>
      have e : ck x y z = 3 := by unfold ck; rw [if_pos (.inr (.inl ny))]
      rw [e]
      rw [ny] at sy
      clear e hlt hgt sz
      go_enter Tryz.func126, Tryz.ntmps126
      go_wp2_with fail
      go_ret
      exact ⟨rfl, rfl⟩
    | false =>
      rw [ny] at sy
      cases nz : isN z with
      | true =>
        have e : ck x y z = 3 := by unfold ck; rw [if_pos (.inr (.inr nz))]
        rw [e]
        rw [nz] at sz
        clear e hlt hgt
        go_enter Tryz.func126, Tryz.ntmps126
        go_wp2_with fail
        go_ret
        exact ⟨rfl, rfl⟩
      | false =>
        rw [nz] at sz
        rw [nx, ny] at hlt
        rw [nz, nx] at hgt
        have e0 : ck x y z = if Ko x < Ko y ∨ Ko z < Ko x then 2 else 0 := by unfold ck; rw [if_neg (by rw [nx, ny, nz]; decide)]
        rw [e0]
        by_cases h1 : Ko x < Ko y
        · have e1 : (FloatKind.f64.format.order x y == some Ordering.lt) = true := by rw [hlt, decide_eq_true h1]; rfl
          rw [if_pos (.inl h1)]
          clear e0 hlt hgt h1
          go_enter Tryz.func126, Tryz.ntmps126
          go_wp2_with fail
          go_ret
          exact ⟨rfl, rfl⟩
        · have e1 : (FloatKind.f64.format.order x y == some Ordering.lt) = false := by rw [hlt, decide_eq_false h1]; rfl
          by_cases h2 : Ko z < Ko x
          · have e2 : (FloatKind.f64.format.order z x == some Ordering.lt) = true := by rw [hgt, decide_eq_true h2]; rfl
            rw [if_pos (.inr h2)]
            clear e0 hlt hgt h1 h2
            go_enter Tryz.func126, Tryz.ntmps126
            go_wp2_with fail
            go_ret
            exact ⟨rfl, rfl⟩
          · have e2 : (FloatKind.f64.format.order z x == some Ordering.lt) = false := by rw [hgt, decide_eq_false h2]; rfl
            rw [if_neg (by rintro (h | h); exact h1 h; exact h2 h)]
            clear e0 hlt hgt h1 h2
            go_enter Tryz.func126, Tryz.ntmps126
            go_wp2_with fail
            go_ret
            exact ⟨rfl, rfl⟩
end Go.Proofs.YthmdiaingolfnaaGreatDoor.Fl
