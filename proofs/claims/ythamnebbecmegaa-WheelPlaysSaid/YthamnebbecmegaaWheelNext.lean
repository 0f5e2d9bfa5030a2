/- The contract of a wheel's Next. -/
import Derived.Test.YthamnebbecmegaaWheel
import Derived.WalkLawsBesides
namespace Go.Proofs.Ythamnebbecmegaa.Wl
open Go.ChangeShapes Go.WideShapes Go.ChangeAt Go.RowKit Go.Maps Rw Sl Sn Ck
set_option linter.unusedVariables false

/-- The tick of the first. -/
def first : List (Int × Int) → Int
  | [] => 0
  | a :: _ => a.2
theorem first_least {l : List (Int × Int)} (h : Tms l) (hl : l ≠ []) {x : Int} (h1 : ∀ a ∈ l, x ≤ a.2) (h2 : x = 1152921504606846976 ∨ ∃ a ∈ l, a.2 = x) : x = first l := by
  cases l with
  | nil => exact absurd rfl hl
  | cons a r =>
    have h3 := h1 a (by simp)
    have h4 := h.least (a := a) rfl
    have h5 := (h.ok a (by simp)).2.2.2
    show x = a.2
    rcases h2 with h2 | ⟨b, hb, h2⟩
    · omega
    · have := h4 b hb; omega

theorem next_nil (w : World) :
    Calls Try.prog 31 #[.pointer none] w fun e w' => e = .returned (.tuple #[.int .u64 0, .bool false]) ∧ w = w' := by
  go_enter Try.func31, Try.ntmps31
  go_wp2_with (go_at_call 32; refine (len_nil _).mono ?_; rintro e w' ⟨rfl, rfl⟩)
  go_ret2
  exact ⟨rfl, rfl⟩
theorem next_none (w : World) (p m : Nat) (h : Wh w p m []) :
    Calls Try.prog 31 #[.pointer (some ⟨p, 0, none⟩)] w fun e w' => e = .returned (.tuple #[.int .u64 0, .bool false]) ∧ w = w' := by
  have H := Lib.hid h
  clear h
  go_enter Try.func31, Try.ntmps31
  go_wp2_with (go_at_call 32; refine (len_any _ _ _ _ H.out).mono ?_; rintro e w' ⟨rfl, rfl⟩)
  go_ret2
  exact ⟨rfl, rfl⟩

theorem left_struck {left : Lit → Bool} {x k : Int} : (left (.int .u64 k) && !(Lit.int .u64 k).sameKey (.int .u64 x)) = false ↔ left (.int .u64 k) = false ∨ k = x := by
  have : (Lit.int .u64 k).sameKey (.int .u64 x) = decide (k = x) := by simp [Lit.sameKey]
  rw [this]
  cases left (.int .u64 k) <;> simp
theorem Tel.of_at {D : DataW Unit} {l : List (Int × Int)} (h : Tel D l) (ht : Tms l) {x c : Int} (hat : ∀ zd, D.atKey (.int .u64 x) zd = .lit (.int .u64 c)) : (x, c) ∈ l := by
  by_cases hx : x ∈ l.map Prod.fst
  · obtain ⟨t, hm⟩ := Tms.mem_key.1 hx
    have := h.hit x t hm (.lit (.int .u64 0))
    rw [hat] at this
    obtain rfl := lit_inj this
    exact hm
  · have h1 := h.miss hx (.lit (.int .u64 (c + 1)))
    rw [hat] at h1
    have := lit_inj h1
    omega

set_option maxRecDepth 100000 in
set_option maxHeartbeats 1000000 in
theorem next_some (w : World) (p m : Nat) (l : List (Int × Int)) (h : Wh w p m l) (hl : l ≠ []) :
    Calls Try.prog 31 #[.pointer (some ⟨p, 0, none⟩)] w fun e w' => e = .returned (.tuple #[.int .u64 (first l), .bool true]) ∧ w.grownBy w' none := by
  have H := Lib.hid h
  have HL := Lib.hid hl
  obtain ⟨hc, ⟨D, ho, ht⟩, tms⟩ := h
  have hn : ((l.length : Int) == 0) = false := by
    have : l.length ≠ 0 := fun e => hl (List.eq_nil_of_length_eq_zero e)
    simpa using this
  have hn2 : (l.length == 0) = false := by
    have : l.length ≠ 0 := fun e => hl (List.eq_nil_of_length_eq_zero e)
    simpa using this
  have HT := Lib.hid ht
  have HM := Lib.hid tms
  clear ht tms hl
  go_enter Try.func31, Try.ntmps31
  go_wp2_with (first
    | (go_at_call 32; refine (len_any _ _ _ _ H.out).mono ?_; rintro e w' ⟨rfl, rfl⟩)
    | (at_range; refine wpList_range_own _ rfl _ 63 rfl 31 31 law Try.underlying63 _ m l.length D rfl ho ?_; intro w0 hrg0 hg0 hs0))
  go_frame
  go_loopw [4] (fun v wr => ∃ (left : Lit → Bool) (cnt : Nat) (x : Int), v = .int .u64 x ∧ wr.ranges Try.prog 31 (plainElem Try.prog 31) m w.heap.size l.length D left cnt ∧ w.grownBy wr none ∧
      Hid ((∀ a ∈ l, left (.int .u64 a.1) = false → x ≤ a.2) ∧ (x = 1152921504606846976 ∨ ∃ a ∈ l, a.2 = x)))
    (fun _ wr => wr.rangeLeft m w.heap.size)
  case atStart => 
    refine ⟨_, _, 1152921504606846976, rfl, hrg0, hg0, ⟨fun a ha hf => ?_, .inl rfl⟩⟩
    rw [HT.out.has, decide_eq_true (List.mem_map.2 ⟨a, ha, rfl⟩)] at hf
    cases hf
  case round =>
    obtain ⟨left, cnt, x, rfl, hrg, hgw, hx⟩ := hrel
    go_wp2_with (at_next; refine wpList_next_ranges_ii _ rfl _ rfl 31 31 .u64 .u64 law Try.underlying31 Try.underlying31 m w.heap.size l.length _ _ _ rfl hrg ?_ ?_)
    · intro _ hl0
      have e1 : x = first l := first_least HM.out HL.out (fun a ha => hx.out.1 a ha (hl0 _)) hx.out.2
      have E1 := Lib.hid e1
      clear e1 hx
      go_wp2
      go_ret2
      exact ⟨by rw [← E1.out]; rfl, hgw⟩
    · intro y c w1 cnt1 hwx hwc hlx hat hrg1 hlt hg1 hs1 hen
      have hm := HT.out.of_at HM.out hat
      have hgw1 : w.grownBy w1 none := hgw.andThen hg1 (fun j hj => by cases hj; exact Or.inl (Nat.le_refl _))
      have HX : Hid ((∀ a ∈ l, (left (.int .u64 a.1) && !(Lit.int .u64 a.1).sameKey (.int .u64 y)) = false → min x c ≤ a.2) ∧ (min x c = 1152921504606846976 ∨ ∃ a ∈ l, a.2 = min x c)) := by
        refine ⟨fun a ha hf => ?_, ?_⟩
        · rcases left_struck.1 hf with h1 | h1
          · have := hx.out.1 a ha h1; omega
          · have : a.2 = c := HM.out.uniq (k := y) (by rw [← h1]; exact ha) hm
            omega
        · by_cases hxc : x ≤ c
          · rw [Int.min_eq_left hxc]; exact hx.out.2
          · rw [Int.min_eq_right (by omega)]; exact .inr ⟨_, hm, rfl⟩
      clear hx
      have HH := Lib.hid hm
      clear hm hat
      go_wp2
      go_roundw
      case rel => exact ⟨_, cnt1, min x c, by (simp; split <;> omega), hrg1, hgw1, HX⟩
      case measure => rw [hrg1.left_eq, hrg.left_eq]; exact hlt
theorem next_any (w : World) (p m : Nat) (l : List (Int × Int)) (h : Wh w p m l) :
    Calls Try.prog 31 #[.pointer (some ⟨p, 0, none⟩)] w fun e w' => e = .returned (.tuple #[.int .u64 (first l), .bool (decide (0 < l.length))]) ∧ w.grownBy w' none := by
  cases l with
  | nil => exact (next_none w p m h).mono fun e w' ⟨h1, h2⟩ => ⟨h1, h2 ▸ World.grownBy.refl _ _⟩
  | cons a r => exact next_some w p m _ h (by simp)
end Go.Proofs.Ythamnebbecmegaa.Wl
