/- The document's answer of layer 8, what wakes it, and PicksNone. -/
import Derived.Test.YtmnjdmcocifogaaGreatDoorPicksSome
import Derived.Test.YtmnjdmcocifogaaGreatDoorGuardB
import Derived.RegionTactic
namespace Go.Proofs.YtmnjdmcocifogaaGreatDoor.Pi
open Go.ChangeShapes Go.WideShapes Go.ChangeAt Go.RowKit Rw
set_option linter.unusedVariables false

theorem rd_lit {w : World} {xs : List Int} {n : Nat} (hn : xs.length = n) (hs : n ≤ 9223372036854775807) (t : TypeId) {cs : Array Value} (hc : cs = (xs.map (Value.int .i64)).toArray) : Rd (Value.int .i64) (w.alloc (.cells cs t)) (w.heap.size + 1) (some ⟨w.heap.size, 0, none⟩) n n xs := by
  subst hc
  refine ⟨hn, Nat.le_refl _, hs, fun _ => ⟨w.heap.size, 0, rfl, by omega, fun j x hx => ?_⟩⟩
  simp [hx]
theorem grown_below {w w' : World} {B g : Nat} (hg : w.grownBy w' (some g)) (hB : B ≤ w.heap.size) (hgB : B ≤ g) : Below B w w' := (Below.refl B w).grown hg hB (fun j hj => by cases hj; exact hgB)
theorem equal_true (A A' : Option Addr) (n c m c' : Nat) (ys zs : List Int) (B B' : Nat) (w : World) (h : Rd (Value.int .i64) w B A n c ys) (h' : Rd (Value.int .i64) w B' A' m c' zs) (he : ys = zs) :
    Calls Tryz.prog 18 #[.slice A n c, .slice A' m c'] w fun e w' => e = .returned (.bool true) ∧ Below w.heap.size w w' :=
  (Si.equal_any A A' n c m c' ys zs B B' w h h').mono fun e w' ⟨h1, q, h2⟩ => ⟨by rw [h1, decide_eq_true he], h2 ▸ below_drewN (Below.refl _ _) q⟩
set_option maxRecDepth 100000 in
theorem awake8_any (w : World) :
    Calls Tryz.prog 58 #[] w fun e w' => e = .returned (.bool true) ∧ Below w.heap.size w w' := by
  go_enter Tryz.func58, Tryz.ntmps58
  go_wp2_with fail
  refine (Gd.Awake7_any _).mono ?_
  rintro e w1 ⟨rfl, hb1⟩
  go_wp2_with fail
  refine (new_any _ 2 2 [7, -1] _ _ (rd_lit (xs := [7, -1]) rfl (by simp) _ rfl) (by simp) (by intro x hx; unfold Ok; simp at hx; omega) (by omega)).mono ?_
  rintro e w2 ⟨g, rfl, hp2, hg2, hb2⟩
  have b2 : Below w.heap.size w w2 := (hb1.alloc hb1.size _).trans (hb2.mono (by have := hb1.size; simp; omega))
  have hs2 := hb2.size
  have hwg : w.heap.size ≤ g := by have := hb1.size; simp at hg2; omega
  clear hb1 hb2 hg2 hs2
  go_wp2_with fail
  refine (some_any g [7, -1] 0 3 6 (by omega) (by omega) (by omega) _ hp2 (by omega) (by omega)).mono ?_
  rintro e w3 ⟨A3, c3, rfl, hrow3, hp3, hg3⟩
  have e3 : outs [7, -1] 0 3 6 = [1, 2, 0, 1, 2, 0] := by decide
  rw [e3] at hrow3
  have b3 : Below w.heap.size w w3 := b2.grown hg3 b2.size (fun j hj => by cases hj; exact hwg)
  clear hp2 hp3 hg3 e3 b2
  go_wp2_with fail
  refine (equal_true _ _ _ _ _ _ [1, 2, 0, 1, 2, 0] [1, 2, 0, 1, 2, 0] _ _ _ ((Rd.own_rd hrow3).alloc (Nat.le_refl _) _) (rd_lit (xs := [1, 2, 0, 1, 2, 0]) rfl (by simp) _ rfl) rfl).mono ?_
  rintro e w4 ⟨rfl, hb4⟩
  go_wp2_with fail
  go_ret
  refine ⟨rfl, (b3.alloc b3.size _).trans (hb4.mono (by have := b3.size; simp; omega))⟩
theorem Awake8_any (w : World) :
    Calls Tryz.prog 38 #[] w fun e w' => e = .returned (.bool true) ∧ Below w.heap.size w w' := by
  go_enter Tryz.func38, Tryz.ntmps38
  go_wp2_with fail
  refine (awake8_any _).mono ?_
  rintro e w' ⟨rfl, hb⟩
  go_wp2_with fail
  go_ret
  exact ⟨rfl, hb⟩
end Go.Proofs.YtmnjdmcocifogaaGreatDoor.Pi
