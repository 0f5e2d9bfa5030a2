/- A part of the claim: the texts ConfRef RawMake. -/
import Derived.Test.YtoiklelghfckgaaGreatDoorZGFltE
import Derived.Test.YtoiklelghfckgaaGreatDoorZBase1
import Derived.Deep.CutRange
import Derived.Deep.MidRow
set_option maxRecDepth 100000
set_option linter.unusedVariables false
namespace Go.Proofs.YtoiklelghfckgaaGreatDoor.Cn
open Go Go.ChangeShapes Go.WideShapes Go.ChangeAt Go.RowKit Rw
theorem mx2_le {a b M:Int} : mx2 a b≤M↔a≤M∧b≤M:=by unfold mx2; split <;> omega
theorem rcheck13_any (c:Cf) (h:c.ok) (w:World) :
  Calls Tryz.prog 64 #[c.v] w fun e w'=>e=.returned (.int .i64 (cfE c))∧Below w.heap.size w w':=by
 obtain ⟨mx,G,u,F,z,lk,J⟩:=c
 have Q:=Lh (fun w=>Fl.rcheck_any J 0 4607182418800017408 w h.var (by decide) (by decide))
 have I:Cf.hi ⟨mx,G,u,F,z,lk,J⟩=mx2 (mx2 (mx2 u F) z) lk:=rfl
 unfold cfE
 simp only [I]
 clear h I
 by_cases h1:mx < 1
 ·have W:decide (mx < 1)=true:=decide_eq_true h1
  rw [if_pos (.inl h1)]
  clear h1
  go_enter Tryz.func64,Tryz.ntmps64
  go_wp2_with fail
  go_ret
  exact ⟨rfl,(Below.refl _ _).alloc (Nat.le_refl _) _⟩
 have W:decide (mx < 1)=false:=decide_eq_false h1
 by_cases h2:16 < mx
 ·have Y:decide (16 < mx)=true:=decide_eq_true h2
  rw [if_pos (.inr (.inl h2))]
  clear h1 h2
  go_enter Tryz.func64,Tryz.ntmps64
  go_wp2_with fail
  go_ret
  exact ⟨rfl,(Below.refl _ _).alloc (Nat.le_refl _) _⟩
 have Y:decide (16 < mx)=false:=decide_eq_false h2
 by_cases h3:G < 0
 ·have q3:decide (G < 0)=true:=decide_eq_true h3
  rw [if_pos (.inr (.inr (.inl h3)))]
  clear h1 h2 h3
  go_enter Tryz.func64,Tryz.ntmps64
  go_wp2_with fail
  go_ret
  exact ⟨rfl,(Below.refl _ _).alloc (Nat.le_refl _) _⟩
 have q3:decide (G < 0)=false:=decide_eq_false h3
 by_cases h4:mx < G
 ·have q4:decide (mx < G)=true:=decide_eq_true h4
  rw [if_pos (.inr (.inr (.inr h4)))]
  clear h1 h2 h3 h4
  go_enter Tryz.func64,Tryz.ntmps64
  go_wp2_with fail
  go_ret
  exact ⟨rfl,(Below.refl _ _).alloc (Nat.le_refl _) _⟩
 have q4:decide (mx < G)=false:=decide_eq_false h4
 rw [if_neg (by omega)]
 clear h1 h2 h3 h4
 unfold hiE
 by_cases h5:1152921504606846976 < u
 ·have q5:decide (1152921504606846976 < u)=true:=decide_eq_true h5
  rw [if_pos (by rcases Int.lt_or_le 1152921504606846976 (mx2 (mx2 (mx2 u F) z) lk) with h | h; exact h; rw [mx2_le,mx2_le,mx2_le] at h; omega)]
  clear h5
  go_enter Tryz.func64,Tryz.ntmps64
  go_wp2_with fail
  go_ret
  exact ⟨rfl,(Below.refl _ _).alloc (Nat.le_refl _) _⟩
 have q5:decide (1152921504606846976 < u)=false:=decide_eq_false h5
 by_cases h6:1152921504606846976 < F
 ·have q6:decide (1152921504606846976 < F)=true:=decide_eq_true h6
  rw [if_pos (by rcases Int.lt_or_le 1152921504606846976 (mx2 (mx2 (mx2 u F) z) lk) with h | h; exact h; rw [mx2_le,mx2_le,mx2_le] at h; omega)]
  clear h5 h6
  go_enter Tryz.func64,Tryz.ntmps64
  go_wp2_with fail
  go_ret
  exact ⟨rfl,(Below.refl _ _).alloc (Nat.le_refl _) _⟩
 have q6:decide (1152921504606846976 < F)=false:=decide_eq_false h6
 by_cases h7:1152921504606846976 < z
 ·have q7:decide (1152921504606846976 < z)=true:=decide_eq_true h7
  rw [if_pos (by rcases Int.lt_or_le 1152921504606846976 (mx2 (mx2 (mx2 u F) z) lk) with h | h; exact h; rw [mx2_le,mx2_le,mx2_le] at h; omega)]
  clear h5 h6 h7
  go_enter Tryz.func64,Tryz.ntmps64
  go_wp2_with fail
  go_ret
  exact ⟨rfl,(Below.refl _ _).alloc (Nat.le_refl _) _⟩
 have q7:decide (1152921504606846976 < z)=false:=decide_eq_false h7
 by_cases h8:1152921504606846976 < lk
 ·have q8:decide (1152921504606846976 < lk)=true:=decide_eq_true h8
  rw [if_pos (by rcases Int.lt_or_le 1152921504606846976 (mx2 (mx2 (mx2 u F) z) lk) with h | h; exact h; rw [mx2_le,mx2_le,mx2_le] at h; omega)]
  clear h5 h6 h7 h8
  go_enter Tryz.func64,Tryz.ntmps64
  go_wp2_with fail
  go_ret
  exact ⟨rfl,(Below.refl _ _).alloc (Nat.le_refl _) _⟩
 have q8:decide (1152921504606846976 < lk)=false:=decide_eq_false h8
 rw [if_neg (by rw [Int.not_lt,mx2_le,mx2_le,mx2_le]; omega)]
 clear h5 h6 h7 h8
 go_enter Tryz.func64,Tryz.ntmps64
 go_wp2_with fail
 refine (Q.out _).mono ?_
 rintro e w1 ⟨rfl,rfl⟩
 go_wp2_with fail
 go_ret
 exact ⟨rfl,(Below.refl _ _).alloc (Nat.le_refl _) _⟩
theorem under_c:Tryz.prog.underlying 50=some (Tryz.prog.underlying 50).get!:=by kernel_rfl
theorem row_c:((Tryz.prog.underlying 50).get!).isRow=true:=by kernel_rfl
end Go.Proofs.YtoiklelghfckgaaGreatDoor.Cn
