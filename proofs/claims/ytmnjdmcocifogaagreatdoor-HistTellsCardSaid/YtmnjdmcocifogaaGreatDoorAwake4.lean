/- What wakes the laws of layers 2, 3, 4. -/
import Derived.Test.YtmnjdmcocifogaaGreatDoorClock
namespace Go.Proofs.YtmnjdmcocifogaaGreatDoor.Ck
open Go.ChangeShapes Go.WideShapes Go.ChangeAt Go.RowKit Rw Sl Sn
set_option linter.unusedVariables false

theorem Awake2_any (w : World) :
    Calls Tryz.prog 149 #[] w fun e w' => e = .returned (.bool true) ∧ Below w.heap.size w w' := by
  go_enter Tryz.func149, Tryz.ntmps149
  go_wp2_with fail
  refine (Wd.awake2_any _).mono ?_
  rintro e w' ⟨rfl, rfl⟩
  go_wp2_with fail
  go_ret
  exact ⟨rfl, (Below.refl _ _).alloc (Nat.le_refl _) _⟩
theorem rd_lit {w : World} {xs : List Int} {n : Nat} (hn : xs.length = n) (hs : n ≤ 9223372036854775807) (t : TypeId) {cs : Array Value} (hc : cs = (xs.map (Value.int .u64)).toArray) : Rd (Value.int .u64) (w.alloc (.cells cs t)) (w.heap.size + 1) (some ⟨w.heap.size, 0, none⟩) n n xs := by
  subst hc
  refine ⟨hn, Nat.le_refl _, hs, fun _ => ⟨w.heap.size, 0, rfl, by omega, fun j x hx => ?_⟩⟩
  simp [hx]
theorem awake3_any (w : World) :
    Calls Tryz.prog 139 #[] w fun e w' => e = .returned (.bool true) ∧ Below w.heap.size w w' := by
  go_enter Tryz.func139, Tryz.ntmps139
  go_wp2_with fail
  refine (Awake2_any _).mono ?_
  rintro e w1 ⟨rfl, hb1⟩
  go_wp2_with fail
  refine (of_any _ 3 3 [1, 2, 1] _ ((rd_lit (xs := [1, 2, 1]) rfl (by simp) _ rfl).more (by simp)) (by unfold U64s; decide) (by omega)).mono ?_
  rintro e w2 ⟨u, rfl, hs2, hb2⟩
  have e2 : sOf [1, 2, 1] = [1, 2] := by decide
  rw [e2] at hs2
  clear e2
  go_wp2_with fail
  refine (all_any _ _ _ hs2 (by decide)).mono ?_
  rintro e w3 ⟨A3, c3, rfl, hown3, hb3⟩
  go_wp2_with fail
  refine (equal_any _ _ _ _ _ _ [1, 2] [1, 2] _ _ _ ((Rd.own_rd hown3).alloc (Nat.le_refl _) _) (rd_lit (xs := [1, 2]) rfl (by simp) _ rfl)).mono ?_
  rintro e w4 ⟨rfl, q, rfl⟩
  go_wp2_with fail
  go_ret
  refine ⟨rfl, below_drewN (((((hb1.alloc hb1.size _).trans (hb2.mono ?_)).trans (hb3.mono ?_))).alloc ?_ _) _⟩
  all_goals
    have s1 := hb1.size
    have s2 := hb2.size
    have s3 := hb3.size
    simp at s2 ⊢
    omega
theorem Awake3_any (w : World) :
    Calls Tryz.prog 134 #[] w fun e w' => e = .returned (.bool true) ∧ Below w.heap.size w w' := by
  go_enter Tryz.func134, Tryz.ntmps134
  go_wp2_with fail
  refine (awake3_any _).mono ?_
  rintro e w' ⟨rfl, hb⟩
  go_wp2_with fail
  go_ret
  exact ⟨rfl, hb⟩
theorem awake4_any (w : World) :
    Calls Tryz.prog 128 #[] w fun e w' => e = .returned (.bool true) ∧ Below w.heap.size w w' := by
  go_enter Tryz.func128, Tryz.ntmps128
  go_wp2_with fail
  refine (at_any _ _ (by decide) (by decide)).mono ?_
  rintro e w1 ⟨rfl, rfl⟩
  rw [show cAdd 5 0 = 5 by decide]
  go_wp2_with fail
  refine (Awake3_any _).mono ?_
  rintro e w2 ⟨rfl, hb2⟩
  have c1 : w2.cell? ⟨w.heap.size + 1, 0, none⟩ = some (.int .u64 5) := (hb2.cell (p := ⟨w.heap.size + 1, 0, none⟩) (by simp)).trans (by go_simp)
  have s2 : w.heap.size + 1 < w2.heap.size := by have := hb2.size; simp at this; omega
  have s3 : w.heap.size < w2.heap.size := by omega
  have s4 : w.heap.size < w2.heap.size + 1 := by omega
  go_wp2_with fail
  refine (after_any _ _ _ (by decide) (by decide) (by decide) (by decide)).mono ?_
  rintro e w3 ⟨rfl, rfl⟩
  rw [show cAdd 5 3 = 8 by decide]
  go_wp2_with fail
  refine (reached_any _ _ _).mono ?_
  rintro e w3 ⟨rfl, rfl⟩
  go_wp2_with fail
  refine (tick_any _ _ _ (by decide) (by decide) (by decide) (by decide)).mono ?_
  rintro e w3 ⟨rfl, rfl⟩
  rw [show cAdd 5 3 = 8 by decide]
  go_wp2_with fail
  refine (reached_any _ _ _).mono ?_
  rintro e w3 ⟨rfl, rfl⟩
  go_wp2_with fail
  go_ret
  refine ⟨rfl, ?_⟩
  have hb : Below w.heap.size w w2 := (((Below.refl _ _).alloc (Nat.le_refl _) _).alloc (by simp) _).trans (hb2.mono (by simp; omega))
  refine ((((((hb.alloc ?_ _).alloc ?_ _).alloc ?_ _).alloc ?_ _).alloc ?_ _).alloc ?_ _)
  all_goals (first | omega | (simp; omega))
end Go.Proofs.YtmnjdmcocifogaaGreatDoor.Ck
