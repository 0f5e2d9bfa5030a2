/- Layer 15 (bag): contracts of the calls that look for one entry, and turn it. -/
import Derived.Test.YtlpjlphofjghhaaGreatDoorBag
import Derived.WalkKit
import Derived.ProofKit
namespace Go.Proofs.YtlpjlphofjghhaaGreatDoor.Ba
open Go Go.ChangeShapes Go.WideShapes Go.ChangeAt Go.RowKit Go.Maps Rw Hi Mt
set_option linter.unusedVariables false

section
variable (w : World) {ops : Array Oper} {rest : List Oper} {o : Oper} {a : Act} {Q : Exit → Act → World → Prop}
/-- 'b.entries[id]' -/
theorem lookP (hg : o.guard = none) (m x : Operand) (hop : o.op = Op.lookup 108 m x false) (b : Nat) (L : List (Int × Option Nat)) (hm : a.eval m = .map (some b)) (h : MP w b L) (y : Int) (hy : U64 y) (hx : a.eval x = .int .u64 y)
    (q : Option Nat) (hq : (fnd L y).getD none = q)
    (hK : wpList Tryz.prog ops Q rest (a.put o.dst (.pointer (q.map fun b => ⟨b, 0, none⟩))) w) : wpList Tryz.prog ops Q (o :: rest) a w := by
  refine look1 w hg m x 108 hop 30 113 Tryz.underlying30 Tryz.underlying108 none (zeroP w) b L hm h y hy hx ?_
  rw [hq]
  exact hK
end
section
variable {C R : Nat → Prop} (w : World) (p a : Nat) (L : List (Int × En)) (S : List Int) (id : Int)
theorem of_nil : Calls Tryz.prog 45 #[.pointer none, .int .u64 id] w fun e w' => e = .returned (.pointer none) ∧ w = w' := by
  go_enter Tryz.func45, Tryz.ntmps45
  go_wp2_with fail
  go_ret
  exact ⟨rfl, rfl⟩
theorem of_miss (h : Bt C R w p a L S) (hid : U64 id) (hn : fnd L id = none) :
    Calls Tryz.prog 45 #[ptr p, .int .u64 id] w fun e w' => e = .returned (.pointer none) ∧ w = w' := by
  have c0 := h.c0
  have hf : (fnd (bl L) id).getD none = none := by rw [h.find, hn]; rfl
  have HM := Lib.hid h.mo
  have HI := Lib.hid hid
  have HF := Lib.hid hf
  clear h hid hn hf
  go_enter Tryz.func45, Tryz.ntmps45
  go_wp2_with (at_lookup; refine lookP _ rfl _ _ rfl a _ rfl HM.out id HI.out rfl none HF.out ?_)
  go_ret
  exact ⟨rfl, rfl⟩
theorem of_hit (h : Bt C R w p a L S) (hid : U64 id) {x : En} (hx : fnd L id = some x) :
    Calls Tryz.prog 45 #[ptr p, .int .u64 id] w fun e w' => e = .returned (ptr x.e) ∧ w = w' := by
  have c0 := h.c0
  have hf : (fnd (bl L) id).getD none = some x.e := by rw [h.find, hx]; rfl
  have HM := Lib.hid h.mo
  have HI := Lib.hid hid
  have HF := Lib.hid hf
  clear h hid hx hf
  go_enter Tryz.func45, Tryz.ntmps45
  go_wp2_with (at_lookup; refine lookP _ rfl _ _ rfl a _ rfl HM.out id HI.out rfl (some x.e) HF.out ?_)
  go_ret
  exact ⟨rfl, rfl⟩
theorem wrong_nil : Calls Tryz.prog 48 #[.pointer none, .int .u64 id] w fun e w' => e = .returned (.int .i64 1) ∧ w = w' := by
  go_enter Tryz.func48, Tryz.ntmps48
  go_wp2_with fail
  go_ret
  exact ⟨rfl, rfl⟩
theorem wrong_any (h : Bt C R w p a L S) (hid : U64 id) :
    Calls Tryz.prog 48 #[ptr p, .int .u64 id] w fun e w' => e = .returned (.int .i64 (if (fnd L id).isSome then 0 else 9)) ∧ w = w' := by
  cases hf : fnd L id with
  | none =>
    have H := Lib.hid (of_miss w p a L S id h hid hf)
    clear h hid hf
    go_enter Tryz.func48, Tryz.ntmps48
    go_wp2_with fail
    refine H.out.mono ?_
    rintro e w1 ⟨rfl, rfl⟩
    go_wp2_with fail
    go_ret
    exact ⟨rfl, rfl⟩
  | some x =>
    have H := Lib.hid (of_hit w p a L S id h hid hf)
    clear h hid hf
    go_enter Tryz.func48, Tryz.ntmps48
    go_wp2_with fail
    refine H.out.mono ?_
    rintro e w1 ⟨rfl, rfl⟩
    go_wp2_with fail
    go_ret
    exact ⟨rfl, rfl⟩
theorem load_nil : Calls Tryz.prog 9 #[.pointer none, .int .u64 id] w fun e w' => e = .returned (.tuple #[.int .u64 0, .bool false]) ∧ w = w' := by
  go_enter Tryz.func9, Tryz.ntmps9
  go_wp2_with fail
  refine (of_nil _ id).mono ?_
  rintro e w1 ⟨rfl, rfl⟩
  go_wp2_with fail
  go_ret2
  exact ⟨rfl, rfl⟩
theorem loadT_any (h : Bt C R w p a L S) (hid : U64 id) :
    Calls Tryz.prog 9 #[ptr p, .int .u64 id] w fun e w' => e = .returned (.tuple #[.int .u64 (((fnd L id).map En.word).getD 0), .bool (fnd L id).isSome]) ∧ w = w' := by
  cases hf : fnd L id with
  | none =>
    have H := Lib.hid (of_miss w p a L S id h hid hf)
    clear h hid hf
    go_enter Tryz.func9, Tryz.ntmps9
    go_wp2_with fail
    refine H.out.mono ?_
    rintro e w1 ⟨rfl, rfl⟩
    go_wp2_with fail
    go_ret2
    exact ⟨rfl, rfl⟩
  | some x =>
    have H := Lib.hid (of_hit w p a L S id h hid hf)
    have hok := (h.get hf).1
    have k0 := hok.k0
    have kc := hok.kc
    clear h hid hf hok
    go_enter Tryz.func9, Tryz.ntmps9
    go_wp2_with fail
    refine H.out.mono ?_
    rintro e w1 ⟨rfl, rfl⟩
    go_wp2_with fail
    refine (Wd.load_any _ _ _ kc).mono ?_
    rintro e w2 ⟨rfl, rfl⟩
    go_wp2_with fail
    go_ret2
    exact ⟨rfl, rfl⟩
theorem entry_nil : Calls Tryz.prog 21 #[.pointer none, .int .u64 id] w fun e w' => e = .returned (.tuple #[.agg #[.int .u64 0, .int .u64 0, .int .u64 0, .int .u64 0, .int .u64 0], .bool false]) ∧ Below w.heap.size w w' := by
  go_enter Tryz.func21, Tryz.ntmps21
  go_wp2_with fail
  refine (of_nil _ id).mono ?_
  rintro e w1 ⟨rfl, rfl⟩
  go_wp2_with fail
  refine bodyPost_ret (v := .tuple #[.agg #[.int .u64 0, .int .u64 0, .int .u64 0, .int .u64 0, .int .u64 0], .bool false]) (by simp [results, Tryz.results21, go_sem]) rfl ⟨rfl, ?_⟩
  repeat' (first | exact Below.refl _ _ | apply Below.setCell | apply Below.alloc)
  all_goals (first | (simp; done) | (simp; omega))
theorem entry_miss (h : Bt C R w p a L S) (hid : U64 id) (hf : fnd L id = none) :
    Calls Tryz.prog 21 #[ptr p, .int .u64 id] w fun e w' => e = .returned (.tuple #[.agg #[.int .u64 0, .int .u64 0, .int .u64 0, .int .u64 0, .int .u64 0], .bool false]) ∧ Below w.heap.size w w' := by
  have b1 : Below w.heap.size w (w.alloc (.cells #[.int .u64 0, .int .u64 0, .int .u64 0, .int .u64 0, .int .u64 0] 49)) := (Below.refl _ _).alloc (Nat.le_refl _) _
  have H := Lib.hid (of_miss (w.alloc (.cells #[.int .u64 0, .int .u64 0, .int .u64 0, .int .u64 0, .int .u64 0] 49)) p a L S id (h.later b1) hid hf)
  clear h hid hf
  go_enter Tryz.func21, Tryz.ntmps21
  go_wp2_with fail
  refine H.out.mono ?_
  rintro e w1 ⟨rfl, rfl⟩
  go_wp2_with fail
  refine bodyPost_ret (v := .tuple #[.agg #[.int .u64 0, .int .u64 0, .int .u64 0, .int .u64 0, .int .u64 0], .bool false]) (by simp [results, Tryz.results21, go_sem]) rfl ⟨rfl, ?_⟩
  repeat' (first | exact Below.refl _ _ | apply Below.setCell | apply Below.alloc)
  all_goals (first | (simp; done) | (simp; omega))
theorem list_nil : Calls Tryz.prog 62 #[.pointer none] w fun e w' => e = .returned (.agg #[.slice none 0 0]) ∧ Below w.heap.size w w' := by
  go_enter Tryz.func62, Tryz.ntmps62
  go_wp2_with fail
  refine bodyPost_ret (v := .agg #[.slice none 0 0]) (by simp [results, Tryz.results62, go_sem]) rfl ⟨rfl, ?_⟩
  repeat' (first | exact Below.refl _ _ | apply Below.setCell | apply Below.alloc)
  all_goals (first | (simp; done) | (simp; omega))
theorem list_any (h : Bt C R w p a L S) : Calls Tryz.prog 62 #[ptr p] w fun e w' => ∃ A n c, e = .returned (.agg #[.slice A n c]) ∧ Rd (Value.int .u64) w w.heap.size A n c S ∧ (0 < n → ∀ b o, A = some ⟨b, o, none⟩ → R b) ∧ Below w.heap.size w w' := by
  obtain ⟨A, n, c, c1, h2, h3⟩ := h.row
  have H2 := Lib.hid h2
  have H3 := Lib.hid h3
  clear h h2 h3
  have hl := Lw.lt_heap c1
  go_enter Tryz.func62, Tryz.ntmps62
  go_wp2_with fail
  refine bodyPost_ret (v := .agg #[.slice A n c]) (by simp [results, Tryz.results62, go_sem]) rfl ⟨A, n, c, rfl, H2.out, H3.out, ?_⟩
  repeat' (first | exact Below.refl _ _ | apply Below.setCell | apply Below.alloc)
  all_goals (first | (simp; done) | (simp; omega))
theorem new_any : Calls Tryz.prog 7 #[] w fun e w' => e = .returned (ptr (w.heap.size + 1)) ∧ Bt (fresh w) (fun _ => False) w' (w.heap.size + 1) w.heap.size [] [] ∧ Below w.heap.size w w' := by
  have hmm := @run_makeMap Tryz.prog
  go_enter Tryz.func7, Tryz.ntmps7
  go_wp2_with fail
  go_ret
  refine ⟨rfl, ⟨by go_simp, by go_simp, ⟨none, 0, 0, by go_simp, Rd.nil_, fun h => absurd h (by omega)⟩, List.nodup_nil, fun x hx => (by cases hx), ?_, fun q hq => (by cases hq), fun q hq => (by cases hq), List.Pairwise.nil, fun q hq => (by cases hq), (show w.heap.size ≤ w.heap.size + 1 by omega), Nat.le_refl _, fun _ _ h => h⟩, ((Below.refl _ _).alloc (Nat.le_refl _) _).alloc (by simp) _⟩
  exact (Mo.made w Tryz.prog 30 eP).alloc _
end
end Go.Proofs.YtlpjlphofjghhaaGreatDoor.Ba
