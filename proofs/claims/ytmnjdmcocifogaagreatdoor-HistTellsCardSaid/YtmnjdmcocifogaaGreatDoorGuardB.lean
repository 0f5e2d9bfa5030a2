/- Layer 7's law: what wakes it, the document's code, the things of the law's told by Try, Catch and All. -/
import Derived.Test.YtmnjdmcocifogaaGreatDoorGuard
import Derived.Test.YtmnjdmcocifogaaGreatDoorRatio
import Derived.Test.YtmnjdmcocifogaaGreatDoorSlices
namespace Go.Proofs.YtmnjdmcocifogaaGreatDoor.Gd
open Go.ChangeShapes Go.WideShapes Go.ChangeAt Go.RowKit Rw
set_option linter.unusedVariables false

theorem Awake6_any (w : World) :
    Calls Tryz.prog 102 #[] w fun e w' => e = .returned (.bool true) ∧ Below w.heap.size w w' := by
  go_enter Tryz.func102, Tryz.ntmps102
  go_wp2_with fail
  refine (Fl.awake6_any _).mono ?_
  rintro e w' ⟨rfl, hb⟩
  go_wp2_with fail
  go_ret
  exact ⟨rfl, hb⟩
theorem closed_any (w : World) : Calls Tryz.prog 104 #[] w fun e w' => Code' e 6 ∧ Below w.heap.size w w' := by
  go_enter Tryz.func104, Tryz.ntmps104
  go_wp2_with fail
  refine (must_fail 6 (by decide) _).mono ?_
  rintro e w' ⟨rfl, rfl⟩
  exact ⟨rfl, .inr (.inl ⟨6, by decide, rfl, rfl⟩), Below.refl _ _⟩
theorem awake7_any (w : World) :
    Calls Tryz.prog 87 #[] w fun e w' => e = .returned (.bool true) ∧ Below w.heap.size w w' := by
  go_enter Tryz.func87, Tryz.ntmps87
  go_wp2_with fail
  refine (Awake6_any _).mono ?_
  rintro e w1 ⟨rfl, hb1⟩
  go_wp2_with fail
  refine (catch_below (K := 104) (first := #[]) (cap := #[]) (n := 6) (fun w => by simp [go_sem]) (fun w1 => by rw [Array.append_empty]; exact closed_any w1)).mono ?_
  rintro e w2 ⟨rfl, hb2⟩
  go_wp2_with fail
  go_ret
  exact ⟨rfl, hb1.trans (hb2.mono hb1.size)⟩
theorem Awake7_any (w : World) :
    Calls Tryz.prog 65 #[] w fun e w' => e = .returned (.bool true) ∧ Below w.heap.size w w' := by
  go_enter Tryz.func65, Tryz.ntmps65
  go_wp2_with fail
  refine (awake7_any _).mono ?_
  rintro e w' ⟨rfl, hb⟩
  go_wp2_with fail
  go_ret
  exact ⟨rfl, hb⟩

/-- The document's code of such a thing. -/
def want (d c : Int) : Int := if d % 5 = 0 then 0 else if d % 5 = 1 then c else 18
/-- A thing of the law's. -/
def endV (d c : Int) (s : ByteArray) : Value := .agg #[.int .u8 d, .int .u8 c, .string s]
theorem Ends.code {d c : Int} {e : Ending} (h : Ends d c e) : Code' e (want d c) := by
  unfold want
  rcases h with ⟨h1, h⟩ | ⟨h1, h2, h⟩ | ⟨h1, T, v, hT, h⟩
  · refine .inl ⟨h, ?_⟩
    rcases h1 with h1 | ⟨h1, h2⟩
    · rw [if_pos h1]
    · rw [if_neg (by omega), if_pos h1, h2]
  · exact .inr (.inl ⟨c, h2, h, by rw [if_neg (by omega), if_pos h1]⟩)
  · exact .inr (.inr ⟨T, v, hT, h, by rw [if_neg (by omega), if_neg (by omega)]⟩)
/-- What Try tells of such a thing. -/
def Told (d c : Int) (v : Value) (p : Bool) : Prop :=
  (want d c = 0 ∧ (d % 5 = 0 ∨ d % 5 = 1) ∧ v = .nilIface ∧ p = false) ∨ (d % 5 = 1 ∧ want d c ≠ 0 ∧ v = .iface 165 (.agg #[.int .i64 c]) ∧ p = true) ∨
  (2 ≤ d % 5 ∧ want d c ≠ 0 ∧ ∃ T x, v = .iface T x ∧ p = true)
theorem info_errno : (Tryz.prog.info? 24).map (fun i => (i.zero, i.size, i.bytes)) = some (some (.int .i64 0), 1, 8) := by kernel_rfl
theorem info_func : (Tryz.prog.info? 1).map (fun i => (i.zero, i.size, i.bytes)) = some (some .nilFunc, 1, 8) := by kernel_rfl
theorem grown_of_below {w w' : World} (h : Below w.heap.size w w') : w.grownBy w' none := ⟨h.os, h.tape, h.output, h.size, fun k hk _ => h.block k hk⟩
/-- What is owned stays so where all that was there is as it was. -/
theorem own_keep {w w' : World} {base e size n : Nat} {v : Value} {xs : List Value} (h : w.ownsRow base e size v n xs) (hb : Below w.heap.size w w') : w'.ownsRow base e size v n xs :=
  h.kept (grown_of_below hb) (by cases hv : v.ownBlock with | none => exact .inl rfl | some k => exact .inr (by simp))
theorem take_succ' {α : Type} {xs : List α} {k : Nat} {x : α} (h : xs[k]? = some x) : xs.take (k + 1) = xs.take k ++ [x] := by
  rw [List.take_add_one, h]; rfl
end Go.Proofs.YtmnjdmcocifogaaGreatDoor.Gd
