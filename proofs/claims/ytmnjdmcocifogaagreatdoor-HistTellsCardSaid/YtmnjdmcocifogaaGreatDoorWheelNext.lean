/- The contract of a wheel's Next. -/
import Derived.Test.YtmnjdmcocifogaaGreatDoorWheel
import Derived.WalkLawsBesides
namespace Go.Proofs.YtmnjdmcocifogaaGreatDoor.Wl
open Go.ChangeShapes Go.WideShapes Go.ChangeAt Go.RowKit Go.Maps Rw Sl Sn Ck
set_option linter.unusedVariables false

/-- The tick of the first. -/
def first : List (Int × Int) → Int
  | [] => 0
  | a :: _ => a.2
theorem first_least {l : List (Int × Int)} (h : Tms l) (hl : l ≠ []) {x : Int} (h1 : ∀ a ∈ l, x ≤ a.2) (h2 : x = 1152921504606846976 ∨ ∃ a ∈ l, a.2 = x) : x = first l := by
  cases l with
  | nil => exact absurd rfl hl
  | cons a r =>
    have h3 := h1 a (by simp)
    have h4 := h.least (a := a) rfl
    have h5 := (h.ok a (by simp)).2.2.2
    show x = a.2
    rcases h2 with h2 | ⟨b, hb, h2⟩
    · omega
    · have := h4 b hb; omega

theorem left_struck {left : Lit → Bool} {x k : Int} : (left (.int .u64 k) && !(Lit.int .u64 k).sameKey (.int .u64 x)) = false ↔ left (.int .u64 k) = false ∨ k = x := by
  have : (Lit.int .u64 k).sameKey (.int .u64 x) = decide (k = x) := by simp [Lit.sameKey]
  rw [this]
  cases left (.int .u64 k) <;> simp
theorem Tel.of_at {D : DataW Unit} {l : List (Int × Int)} (h : Tel D l) (ht : Tms l) {x c : Int} (hat : ∀ zd, D.atKey (.int .u64 x) zd = .lit (.int .u64 c)) : (x, c) ∈ l := by
  by_cases hx : x ∈ l.map Prod.fst
  · obtain ⟨t, hm⟩ := Tms.mem_key.1 hx
    have := h.hit x t hm (.lit (.int .u64 0))
    rw [hat] at this
    obtain rfl := lit_inj this
    exact hm
  · have h1 := h.miss hx (.lit (.int .u64 (c + 1)))
    rw [hat] at h1
    have := lit_inj h1
    omega

end Go.Proofs.YtmnjdmcocifogaaGreatDoor.Wl
