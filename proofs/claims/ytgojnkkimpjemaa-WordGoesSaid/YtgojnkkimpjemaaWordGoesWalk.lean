/- The walk of hackneylaw01.WordGoes. -/
import Derived.Test.YtgojnkkimpjemaaWord
import Derived.Deep.QuietTactic
import Derived.BigQuiet
namespace Go.Proofs.Ytgojnkkimpjemaa.Wd
open Go.ChangeShapes Go.WideShapes Go.ChangeAt Go.RowKit
set_option linter.unusedVariables false

set_option maxHeartbeats 1000000 in
theorem goes_no (r t : Int) (w : World) (h0 : 0 ≤ r) (h1 : r ≤ 18446744073709551615) (t0 : 0 ≤ t) (t1 : t ≤ 255) (hm : wMay (r % 4) (t % 4) = false) :
    Calls Try.prog 4 #[.int .u64 r, .int .u8 t] w fun e w' => e = .returned (.bool true) ∧ w = w' := by
  have H := Lib.hid hm
  clear hm
  go_enter Try.func4, Try.ntmps4
  go_wp2_with fail
  refine (awake_any _).mono ?_
  rintro e w' ⟨rfl, rfl⟩
  go_wp2_with fail
  refine (to_any _ _ _ h0 h1).mono ?_
  rintro e w' ⟨rfl, rfl⟩
  rw [wTo_no H.out, H.out]
  go_wp2_with fail
  go_ret
  exact ⟨rfl, rfl⟩

set_option maxHeartbeats 1000000 in
theorem goes_yes (r t : Int) (w : World) (h0 : 0 ≤ r) (h1 : r ≤ 18446744073709551615) (t0 : 0 ≤ t) (t1 : t ≤ 255) (hm : wMay (r % 4) (t % 4) = true) :
    Calls Try.prog 4 #[.int .u64 r, .int .u8 t] w fun e w' => e = .returned (.bool true) ∧ w = w' := by
  have H := Lib.hid hm
  have hml := wMay_lo hm
  have hr3 : (r % 4 != 3) = true := by rw [bne_iff_ne]; omega
  have hne : (wTo r (t % 4) != r) = true := by rw [bne_iff_ne]; exact wTo_ne hm
  have x0 := wTo_lo r (t % 4) h0
  have x1 := wTo_hi r (t % 4) h1
  have xs : wTo r (t % 4) % 4 = t % 4 := by rw [wTo_yes hm, wOf_state]; omega
  have xv : wTo r (t % 4) / 4 = (r / 4 + 1) % 4611686018427387904 := by rw [wTo_yes hm, wOf_version]
  clear hm hml
  generalize hx : wTo r (t % 4) = x at *
  have HX := Lib.hid hx
  clear hx
  have XS := Lib.hid xs
  have XV := Lib.hid xv
  clear xs xv
  go_enter Try.func4, Try.ntmps4
  go_wp2_with fail
  refine (awake_any _).mono ?_
  rintro e w' ⟨rfl, rfl⟩
  go_wp2_with fail
  refine (to_any _ _ _ h0 h1).mono ?_
  rintro e w' ⟨rfl, rfl⟩
  rw [H.out, HX.out]
  go_wp2_with fail
  refine (state_any _ _ x0 x1).mono ?_
  rintro e w' ⟨rfl, rfl⟩
  rw [XS.out]
  go_wp2_with fail
  refine (version_any _ _ x0 x1).mono ?_
  rintro e w' ⟨rfl, rfl⟩
  rw [XV.out]
  go_wp2_with fail
  refine (version_any _ _ h0 h1).mono ?_
  rintro e w' ⟨rfl, rfl⟩
  go_wp2_with fail
  refine (state_any _ _ h0 h1).mono ?_
  rintro e w' ⟨rfl, rfl⟩
  go_wp2_with fail
  go_ret
  exact ⟨rfl, rfl⟩

theorem goes_walk (a0 : Int) (a1 : Int) (w0 : (Lit.int .u64 a0).wf = true) (w1 : (Lit.int .u8 a1).wf = true) (w : World) :
    Calls Try.prog 4 #[.int .u64 a0, .int .u8 a1] w fun e w' => e = .returned (.bool true) ∧ Grown w w' := by
  have b0 := lo_u64 w0
  have b1 := lo_u8 w1
  cases hm : wMay (a0 % 4) (a1 % 4)
  · exact (goes_no a0 a1 w b0.1 b0.2 b1.1 b1.2 hm).mono fun e w' ⟨he, hw⟩ => ⟨he, hw ▸ Grown.refl _⟩
  · exact (goes_yes a0 a1 w b0.1 b0.2 b1.1 b1.2 hm).mono fun e w' ⟨he, hw⟩ => ⟨he, hw ▸ Grown.refl _⟩
end Go.Proofs.Ytgojnkkimpjemaa.Wd
