/- A part of the claim: the texts SlotsRef SlotsOrderWalk SlotsF. -/
import Derived.Test.YthmdiaingolfnaaGreatDoorZBase5
import Derived.Test.YthmdiaingolfnaaGreatDoorZBase1
import Derived.Test.YthmdiaingolfnaaGreatDoorZBase3
import Derived.BigQuiet
import Derived.RegionTactic
namespace Go.Proofs.YthmdiaingolfnaaGreatDoor.St
open Go.ChangeShapes Go.WideShapes Go.ChangeAt Go.RowKit Rw Hi
set_option linter.unusedVariables false
theorem info_rslot : (Tryz.prog.info? 230).map (fun i => (i.zero, i.size, i.bytes)) = some (some (.agg #[.int .i64 0, .int .u64 0, .int .u64 0]), 3, 24) := by kernel_rfl
def New1 (w w' : World) (v v' : Value) : Prop := v'.ownBlock = v.ownBlock ∨ ∀ g, v'.ownBlock = some g → w.heap.size ≤ g ∧ g < w'.heap.size
set_option maxHeartbeats 1000000 in
theorem rof_any (A : Option Addr) (n c B : Nat) (l : List Sx) (t : Int) (w : World) (h : Rs enc3 3 w B A n c l) (hB : B ≤ w.heap.size) :
    Calls Tryz.prog 129 #[.slice A n c, .int .i64 t] w fun e w' => e = .returned (.int .i64 (ixZ (hit t) l)) ∧ Below w.heap.size w w' := by
  have hn : n ≤ 9223372036854775807 := by have := h.cap; have := h.top; omega
  have HR := Lib.hid h
  clear h
  go_enter Tryz.func129, Tryz.ntmps129
  go_wp2_with fail
  go_loopw [9] (fun i wr => ∃ k : Nat, k ≤ n ∧ i = .int .i64 k ∧ Miss (hit t) l k ∧ Below w.heap.size w wr) (fun i _ => n - (intOf i).toNat)
  case atStart => exact ⟨0, Nat.zero_le _, rfl, Miss.zero _ _, Below.refl _ _⟩
  case round =>
    obtain ⟨k, hk, rfl, hm, hbr⟩ := hrel
    have HM := Lib.hid hm
    have hbs := hbr.size
    clear hm
    by_cases hlt : k < n
    · obtain ⟨b, o, x, rfl, hb, hx, c0, c1, c2⟩ := three_at HR.out hlt
      have d0 := (hbr.cell (p := ⟨b, o + k * 3, none⟩) (by simp only; omega)).trans c0
      have d1 := (hbr.cell (p := ⟨b, o + k * 3 + 1, none⟩) (by simp only; omega)).trans c1
      have d2 := (hbr.cell (p := ⟨b, o + k * 3 + 2, none⟩) (by simp only; omega)).trans c2
      obtain ⟨x0, x1, x2⟩ := x
      have HX := Lib.hid hx
      simp only at d0 d1 d2
      have HB2 := Lib.hid (hbr.alloc hbs (.cells #[.int .i64 x0, .int .u64 x1, .int .u64 x2] 230))
      clear c0 c1 c2 hx
      cases hq : (x0 == t : Bool) with
      | true =>
        have HI := Lib.hid (ixZ_some (ix_some HM.out HX.out hq))
        go_wp2_with fail
        go_ret
        exact ⟨by rw [HI.out]; rfl, HB2.out⟩
      | false =>
        have HM2 := Lib.hid (HM.out.succ HX.out hq)
        go_wp2_with fail
        go_roundw
        case rel => exact ⟨k + 1, by omega, by go_num, HM2.out, HB2.out⟩
        case measure => simp [intOf]; omega
    · have hk' : k = n := by omega
      have HI := Lib.hid (ixZ_none (ix_none (p := hit t) (l := l) (by rw [HR.out.len, ← hk']; exact HM.out)))
      go_wp2_with fail
      go_ret
      exact ⟨by rw [HI.out]; rfl, hbr⟩
end Go.Proofs.YthmdiaingolfnaaGreatDoor.St
namespace Go.Proofs.YthmdiaingolfnaaGreatDoor.St
open Go.ChangeShapes Go.WideShapes Go.ChangeAt Go.RowKit Rw Hi
set_option linter.unusedVariables false
def Apart (v : Value) (p : Nat) (r : Option Nat) : Prop := ∀ g, v.ownBlock = some g → g ≠ p ∧ r ≠ some g
theorem Apart.next {v : Value} {p h : Nat} {r r' : Option Nat} (ha : Apart v p r) (hv : ∀ g, v.ownBlock = some g → g < h) (hr : ∀ g, r' = some g → r = some g ∨ h ≤ g) : Apart v p r' := fun g hg => by
  refine ⟨(ha g hg).1, fun e => ?_⟩
  rcases hr g e with e2 | e2
  · exact (ha g hg).2 e2
  · have := hv g hg; omega
theorem Ss.grown {w w' : World} {B p : Nat} {r : Option Nat} {l : List Sx} {v : Value} (h : Ss w B p r l) (hg : w.grownBy w' v.ownBlock) (ha : Apart v p r) : Ss w' B p r l :=
  h.same (hg.block p h.lt (fun e => (ha p e.symm).1 rfl)) (fun g hg' => hg.block g (h.rowlt g hg').2 (fun e => (ha g e.symm).2 hg'))
theorem Apart.grown {w : World} {B p : Nat} {r : Option Nat} {l : List Sx} {v v' : Value} (ha : Apart v p r) (h : Ss w B p r l) (hv : v'.ownBlock = v.ownBlock ∨ ∃ g, v'.ownBlock = some g ∧ w.heap.size ≤ g) : Apart v' p r := fun g hg => by
  rcases hv with e | ⟨g2, e, h2⟩
  · exact ha g (e.symm.trans hg)
  · rw [e] at hg
    injection hg with hg
    subst hg
    exact ⟨fun e2 => by have := h.lt; omega, fun e2 => by have := (h.rowlt _ e2).2; omega⟩
end Go.Proofs.YthmdiaingolfnaaGreatDoor.St
namespace Go.Proofs.YthmdiaingolfnaaGreatDoor.St
open Go.ChangeShapes Go.WideShapes Go.ChangeAt Go.RowKit Go.Deep Rw Hi
set_option linter.unusedVariables false
def fillR (L : List Sx) (i : Int) : List Sx × Int × Bool := if i = 0 then (L, 0, false) else match L.findIdx? free with
  | some k => (match L[k]? with | some x => (fillAt L k x i, x.1, true) | none => (L, 0, false))
  | none => (L, 0, false)
theorem fillR_len (L : List Sx) (i : Int) : (fillR L i).1.length = L.length := by
  unfold fillR
  split
  · rfl
  · split
    · split
      · exact fillAt_len _ _ _ _
      · rfl
    · rfl
theorem Fr.of_below {w w' : World} {a b : Option Nat} (h : Below w.heap.size w w') : Fr a b w w' := ⟨h.os, h.tape, h.output, h.size, fun k hk _ _ => h.block k hk⟩
theorem fillU (w : World) (B p : Nat) (r : Option Nat) (L : List Sx) (i : Int) (h : Ss w B p r L) :
    Calls Tryz.prog 132 #[.pointer (some ⟨p, 0, none⟩), .int .u64 i] w fun e w' => e = .returned (.tuple #[.int .i64 (fillR L i).2.1, .bool (fillR L i).2.2]) ∧ Ss w' B p r (fillR L i).1 ∧ Fr (some p) r w w' := by
  unfold fillR
  by_cases hi : i = 0
  · subst hi
    simp only [if_true]
    refine (fill_zero_any w p).mono ?_
    rintro e w' ⟨rfl, rfl⟩
    exact ⟨rfl, h, Fr.refl _ _ _⟩
  · rw [if_neg hi]
    cases hf : L.findIdx? free with
    | none =>
      refine (fill_miss_any w B p r L i h hf hi).mono ?_
      rintro e w' ⟨rfl, hb⟩
      exact ⟨rfl, h.later hb, Fr.of_below hb⟩
    | some k =>
      obtain ⟨x, hx, _, _⟩ := ix_hit hf
      simp only [hx]
      exact fill_hit_any w B p r L i k x h hf hx hi
theorem parkU (w : World) (B p : Nat) (r : Option Nat) (L : List Sx) (t d : Int) (h : Ss w B p r L) (hn : L.length ≤ 1000) :
    Calls Tryz.prog 67 #[.pointer (some ⟨p, 0, none⟩), .int .i64 t, .int .u64 d] w fun e w' => e = .returned (.int .i64 (parkE L t)) ∧ ∃ r', Ss w' B p r' (parkL L t d) ∧ Fr (some p) r w w' ∧ (∀ g, r' = some g → r = some g ∨ w.heap.size ≤ g) := by
  cases hf : L.findIdx? (hit t) with
  | none =>
    obtain ⟨e1, e2⟩ := park_miss (d := d) hf
    rw [e1, e2]
    exact park_miss_any w B p r L t d h hf hn
  | some k =>
    obtain ⟨e1, e2⟩ := park_hit (d := d) hf
    rw [e1, e2]
    refine (park_hit_any w B p r L t d k h hf).mono ?_
    rintro e w' ⟨rfl, hb⟩
    exact ⟨rfl, r, h.later hb, Fr.of_below hb, fun g hg => .inl hg⟩
theorem Apart.new {w w' : World} {A A' : Option Addr} {n c n' c' : Nat} {p : Nat} {r : Option Nat} (ha : Apart (.slice A n c) p r) (h : New1 w w' (.slice A n c) (.slice A' n' c')) (hp : p < w.heap.size) (hr : ∀ g, r = some g → g < w.heap.size) : Apart (.slice A' n' c') p r := fun g hg => by
  rcases h with e | e
  · exact ha g (e.symm.trans hg)
  · have := (e g hg).1
    exact ⟨by omega, fun e2 => by have := hr g e2; omega⟩
end Go.Proofs.YthmdiaingolfnaaGreatDoor.St
