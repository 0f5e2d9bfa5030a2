/- Contracts of layer 7 (guard). -/
import Derived.Test.YtmnjdmcocifogaaGreatDoorChecked
import Derived.Test.YtmnjdmcocifogaaGreatDoorRow
import Derived.WalkKit
import Derived.Defers
import Derived.Recover
import Derived.WalkLawsBesides
import Derived.Laws.Pointers
import Derived.Lib.Hide
namespace Go.Proofs.YtmnjdmcocifogaaGreatDoor.Gd
open Go.ChangeShapes Go.WideShapes Go.ChangeAt Go.RowKit
set_option linter.unusedVariables false

theorem makeFunc_run (fn : Fn) (first cap : Array Value) (w : World) : (Instr.makeFunc fn first cap).run Tryz.prog w = .ok (.func fn first cap) w := rfl
theorem nil_ne (w : World) : (binOp BinOp.neq 1 .nilFunc .nilFunc).run Tryz.prog w = .ok (.bool false) w := by kernel_rfl
theorem func_ne (fn : Fn) (first cap : Array Value) (w : World) : (binOp BinOp.neq 1 (.func fn first cap) .nilFunc).run Tryz.prog w = .ok (.bool true) w := by kernel_rfl

/-- It comes back without a result, or it panics. -/
def Plain (e : Ending) : Prop := e = .returned (.tuple #[]) ∨ ∃ c, e = .panicked c

theorem call_nil (w : World) : Calls Tryz.prog 119 #[.nilFunc] w fun e w' => e = .returned (.tuple #[]) ∧ w = w' := by
  have hn := nil_ne
  go_enter Tryz.func119, Tryz.ntmps119
  go_wp2_with fail
  first | go_end0 | refine bodyPost_ret (results_none rfl _ _ _) rfl ?_
  exact ⟨rfl, rfl⟩
theorem call_fn {K : FuncId} {first cap : Array Value} {w : World} {R : Ending → World → Prop} (hR : ∀ e w', R e w' → Plain e) (hK : ∀ w, (callFunc K (first ++ cap)).run Tryz.prog w = .ok (.enter K (first ++ cap)) w) (h : Calls Tryz.prog K (first ++ cap) w R) :
    Calls Tryz.prog 119 #[.func (.func K) first cap] w R := by
  have hn := func_ne
  go_enter Tryz.func119, Tryz.ntmps119
  go_wp2_with fail
  refine h.mono ?_
  rintro e w' hr
  rcases hR e w' hr with rfl | ⟨c, rfl⟩
  · go_wp2_with fail
    go_end0
    exact hr
  · exact ⟨rfl, hr⟩

/-- Try's deferred function, of a call that panicked. -/
theorem tried_panic (p q : Addr) (u : TypeId) (pv v0 : Value) (older : List PanicEntry) (w : World) (hp : w.cell? p = some (.bool true)) (hq : w.cell? q = some v0) (hz : w.frozen? q = false) :
    CallsD Tryz.prog 118 #[.pointer (some p), .pointer (some q)] (.panicking ({ v := .iface u pv, recovered := false } :: older)) w fun e u' w' =>
      e = .returned (.tuple #[]) ∧ u' = .panicking ({ v := .iface u pv, recovered := true } :: older) ∧ w' = w.setCell q (.iface u pv) := by
  refine callsD_of_wpS Tryz.func118 rfl fun c₀ cs hu => ?_
  apply wpS_seq
  apply wpS_region
  simp [wpOpsS, go_sem, Tryz.ntmps118, Exit.thenS, hp]
  refine wpS_cond (t := true) (by simp [Act.eval, Array.replicate]) ?_
  simp only [if_true]
  apply wpS_region
  simp [wpOpsS, go_sem, recoverD, hu, hq, hz, bodyPostS, results, Tryz.results118]
/-- .. of one that came back. -/
theorem tried_idle (p q : Addr) (w : World) (hp : w.cell? p = some (.bool false)) :
    CallsD Tryz.prog 118 #[.pointer (some p), .pointer (some q)] .returning w fun e u' w' =>
      e = .returned (.tuple #[]) ∧ u' = .returning ∧ w' = w := by
  refine callsD_of_wpS Tryz.func118 rfl fun c₀ cs hu => ?_
  apply wpS_seq
  apply wpS_region
  simp [wpOpsS, go_sem, Tryz.ntmps118, Exit.thenS, hp]
  refine wpS_cond (t := false) (by simp [Act.eval, Array.replicate]) ?_
  simp only [Bool.false_eq_true, if_false]
  refine wpS_of_wp (wp_skip ?_)
  cases c₀
  simp_all [bodyPostS, results, Tryz.results118]

/-- The world in which Try calls. -/
def tryWorld (w : World) : World := (w.alloc (.cells #[.nilIface] 20)).alloc (.cells #[.bool true] 4)
/-- Its own two cells are as they were. -/
def TryKept (w w0 : World) : Prop := w0.cell? ⟨w.heap.size, 0, none⟩ = some .nilIface ∧ w0.cell? ⟨w.heap.size + 1, 0, none⟩ = some (.bool true) ∧ w0.frozen? ⟨w.heap.size, 0, none⟩ = false ∧ w0.frozen? ⟨w.heap.size + 1, 0, none⟩ = false
def Once (e : Ending) : Prop := e = .returned (.tuple #[]) ∨ ∃ T v, e = .panicked [{ v := .iface T v, recovered := false }]
/-- What Try answers behind such an end, and in which world. -/
def Tries (w : World) (e0 : Ending) (w0 : World) (e : Ending) (w' : World) : Prop :=
  (e0 = .returned (.tuple #[]) ∧ e = .returned (.tuple #[.nilIface, .bool false]) ∧ w' = (w0.setCell ⟨w.heap.size, 0, none⟩ .nilIface).setCell ⟨w.heap.size + 1, 0, none⟩ (.bool false)) ∨
  (∃ T v, e0 = .panicked [{ v := .iface T v, recovered := false }] ∧ e = .returned (.tuple #[.iface T v, .bool true]) ∧ w' = w0.setCell ⟨w.heap.size, 0, none⟩ (.iface T v))

theorem try_fn {K : FuncId} {first cap : Array Value} {w : World} {R : Ending → World → Prop} (hR : ∀ e w', R e w' → Once e ∧ TryKept w w')
    (hK : ∀ w, (callFunc K (first ++ cap)).run Tryz.prog w = .ok (.enter K (first ++ cap)) w) (h : Calls Tryz.prog K (first ++ cap) (tryWorld w) R) :
    Calls Tryz.prog 114 #[.func (.func K) first cap] w fun e w' => ∃ e0 w0, R e0 w0 ∧ Tries w e0 w0 e w' := by
  have hmf := makeFunc_run
  go_enter_defers Tryz.func114, Tryz.ntmps114
  go_wp2_with fail
  refine (call_fn (R := R) (fun e w' hr => ?_) hK h).mono ?_
  · rcases (hR e w' hr).1 with h | ⟨T, v, h⟩
    · exact .inl h
    · exact .inr ⟨_, h⟩
  rintro e w0 hr
  obtain ⟨ho, h1, h2, h3, h4⟩ := hR e w0 hr
  have hne : (⟨w.heap.size, 0, none⟩ : Addr) ≠ ⟨w.heap.size + 1, 0, none⟩ := fun e => by injection e with e; omega
  rcases ho with rfl | ⟨T, v, rfl⟩
  · go_wp2_with fail
    have a1 : (w0.setCell ⟨w.heap.size, 0, none⟩ .nilIface).cell? ⟨w.heap.size, 0, none⟩ = some .nilIface := World.cell?_setCell_same _ _ _ h1
    have b1 : (w0.setCell ⟨w.heap.size, 0, none⟩ .nilIface).cell? ⟨w.heap.size + 1, 0, none⟩ = some (.bool true) := (World.cell?_setCell_other _ _ _ _ hne).trans h2
    have b2 : ((w0.setCell ⟨w.heap.size, 0, none⟩ .nilIface).setCell ⟨w.heap.size + 1, 0, none⟩ (.bool false)).cell? ⟨w.heap.size + 1, 0, none⟩ = some (.bool false) := World.cell?_setCell_same _ _ _ b1
    have a2 : ((w0.setCell ⟨w.heap.size, 0, none⟩ .nilIface).setCell ⟨w.heap.size + 1, 0, none⟩ (.bool false)).cell? ⟨w.heap.size, 0, none⟩ = some .nilIface := (World.cell?_setCell_other _ _ _ _ hne.symm).trans a1
    refine leaves_cons (f := 118) (args := #[.pointer (some ⟨w.heap.size + 1, 0, none⟩), .pointer (some ⟨w.heap.size, 0, none⟩)]) (by simp) (by simp [go_sem]) ?_
    refine (tried_idle _ _ _ b2).mono ?_
    rintro e u' w'' ⟨rfl, rfl, rfl⟩
    refine ⟨.tuple #[.nilIface, .bool false], ?_, _, w0, hr, .inl ⟨rfl, rfl, rfl⟩⟩
    simp [results, Tryz.results114, go_sem, a1, b2]
  · have a1 : (w0.setCell ⟨w.heap.size, 0, none⟩ (.iface T v)).cell? ⟨w.heap.size, 0, none⟩ = some (.iface T v) := World.cell?_setCell_same _ _ _ h1
    have b1 : (w0.setCell ⟨w.heap.size, 0, none⟩ (.iface T v)).cell? ⟨w.heap.size + 1, 0, none⟩ = some (.bool true) := (World.cell?_setCell_other _ _ _ _ hne).trans h2
    refine leaves_cons (f := 118) (args := #[.pointer (some ⟨w.heap.size + 1, 0, none⟩), .pointer (some ⟨w.heap.size, 0, none⟩)]) (by simp) (by simp [go_sem]) ?_
    refine (tried_panic _ _ _ _ _ _ _ h2 h1 h3).mono ?_
    rintro e u' w'' ⟨rfl, rfl, rfl⟩
    refine ⟨.tuple #[.iface T v, .bool true], ?_, _, w0, hr, .inr ⟨T, v, rfl, rfl, rfl⟩⟩
    simp [results, Tryz.results114, go_sem, a1, b1]

theorem try_nil (w : World) : Calls Tryz.prog 114 #[.nilFunc] w fun e w' => e = .returned (.tuple #[.nilIface, .bool false]) ∧ Below w.heap.size w w' := by
  have hmf := makeFunc_run
  go_enter_defers Tryz.func114, Tryz.ntmps114
  go_wp2_with fail
  refine (call_nil _).mono ?_
  rintro e w0 ⟨rfl, rfl⟩
  go_wp2_with fail
  refine leaves_cons (f := 118) (args := #[.pointer (some ⟨w.heap.size + 1, 0, none⟩), .pointer (some ⟨w.heap.size, 0, none⟩)]) (by simp) (by simp [go_sem]) ?_
  refine (tried_idle _ _ _ ?_).mono ?_
  · simp [go_sem]
  rintro e u' w'' ⟨rfl, rfl, rfl⟩
  refine ⟨.tuple #[.nilIface, .bool false], ?_, rfl, ?_⟩
  · simp [results, Tryz.results114, go_sem]
  · exact ((Below.refl w.heap.size w).alloc (Nat.le_refl _) _).alloc (by simp) _
def Tried (e0 e : Ending) : Prop :=
  (e0 = .returned (.tuple #[]) ∧ e = .returned (.tuple #[.nilIface, .bool false])) ∨
  (∃ T v, e0 = .panicked [{ v := .iface T v, recovered := false }] ∧ e = .returned (.tuple #[.iface T v, .bool true]))
theorem try_below {K : FuncId} {first cap : Array Value} {w : World} {E : Ending → Prop} (hE : ∀ e, E e → Once e)
    (hK : ∀ w, (callFunc K (first ++ cap)).run Tryz.prog w = .ok (.enter K (first ++ cap)) w) (h : ∀ w1, Calls Tryz.prog K (first ++ cap) w1 fun e w' => E e ∧ Below w1.heap.size w1 w') :
    Calls Tryz.prog 114 #[.func (.func K) first cap] w fun e w' => Below w.heap.size w w' ∧ ∃ e0, E e0 ∧ Tried e0 e := by
  refine (try_fn (fun e w' hr => ?_) hK (h (tryWorld w))).mono ?_
  · refine ⟨hE e hr.1, ?_⟩
    obtain ⟨_, hb⟩ := hr
    have hs : (tryWorld w).heap.size = w.heap.size + 2 := by simp [tryWorld]
    rw [hs] at hb
    refine ⟨(hb.cell (by simp)).trans ?_, (hb.cell (by simp)).trans ?_, (hb.frozen (by simp)).trans ?_, (hb.frozen (by simp)).trans ?_⟩ <;> simp [tryWorld]
  · rintro e w' ⟨e0, w0, ⟨he, hb⟩, ht⟩
    have hs : (tryWorld w).heap.size = w.heap.size + 2 := by simp [tryWorld]
    have hb0 : Below w.heap.size w w0 := by
      refine Below.trans (b := tryWorld w) ?_ (hb.mono (by omega))
      exact ((Below.refl w.heap.size w).alloc (Nat.le_refl _) _).alloc (by simp) _
    rcases ht with ⟨h1, h2, rfl⟩ | ⟨T, v, h1, h2, rfl⟩
    · exact ⟨(hb0.setCell (Nat.le_refl _) _).setCell (Nat.le_succ _) _, e0, he, .inl ⟨h1, h2⟩⟩
    · exact ⟨hb0.setCell (Nat.le_refl _) _, e0, he, .inr ⟨T, v, h1, h2⟩⟩

theorem must_ok (w : World) : Calls Tryz.prog 105 #[.int .i64 0] w fun e w' => e = .returned (.tuple #[]) ∧ w = w' := by
  go_enter Tryz.func105, Tryz.ntmps105
  go_wp2_with fail
  go_end0
  exact ⟨rfl, rfl⟩
def failed (c : Int) : Ending := .panicked [{ v := .iface 165 (.agg #[.int .i64 c]), recovered := false }]
theorem must_fail (c : Int) (hc : c ≠ 0) (w : World) : Calls Tryz.prog 105 #[.int .i64 c] w fun e w' => e = failed c ∧ w = w' := by
  have h1 : (c != 0) = true := by simpa using hc
  go_enter Tryz.func105, Tryz.ntmps105
  go_wp2_with fail
  exact ⟨rfl, rfl, rfl⟩
/-- How a thing of the law's ends. -/
def Ends (d c : Int) (e : Ending) : Prop :=
  ((d % 5 = 0 ∨ (d % 5 = 1 ∧ c = 0)) ∧ e = .returned (.tuple #[])) ∨ (d % 5 = 1 ∧ c ≠ 0 ∧ e = failed c) ∨
  (2 ≤ d % 5 ∧ ∃ T v, T ≠ 165 ∧ e = .panicked [{ v := .iface T v, recovered := false }])
theorem Ends.once {d c : Int} {e : Ending} (h : Ends d c e) : Once e := by
  rcases h with ⟨_, h⟩ | ⟨_, _, h⟩ | ⟨_, T, v, _, h⟩
  · exact .inl h
  · exact .inr ⟨_, _, h⟩
  · exact .inr ⟨_, _, h⟩
theorem plain_ne : Tryz.prog.rt.plainError ≠ 165 := by decide +kernel
theorem bounds_ne : Tryz.prog.rt.boundsError ≠ 165 := by decide +kernel
theorem indexnil_run (c : Int) (w : World) : ∃ v w', (Instr.indexAt 42 (.slice none 0 0) (.int .i64 c)).run Tryz.prog w = .halt (.panic (.iface Tryz.prog.rt.boundsError v)) w' ∧ Below w.heap.size w w' := by
  have e : (Instr.indexAt 42 (.slice none 0 0) (.int .i64 c)).run Tryz.prog w = (boundsPanic .i64 c 0 .index).run Tryz.prog w := by
    simp [Instr.indexAt, run_underlying Tryz.underlying42, asIntOf]
  rw [e]
  unfold boundsPanic
  split
  · simp [runtimePanic, goPanic, go_sem]
    exact ⟨_, _, ⟨rfl, rfl⟩, (Below.refl _ _).drew⟩
  · simp [runtimePanic, goPanic, go_sem]
    exact ⟨_, _, ⟨rfl, rfl⟩, Below.refl _ _⟩
theorem assert_yes (v : Value) (w : World) : (Instr.typeAssert (.iface 165 v) 20 165 true).run Tryz.prog w = .ok (.tuple #[v, .bool true]) w := by
  simp [Instr.typeAssert, run_underlying Tryz.underlying165]
theorem assert_no (T : TypeId) (hT : T ≠ 165) (v : Value) (w : World) : (Instr.typeAssert (.iface T v) 20 165 true).run Tryz.prog w = .ok (.tuple #[.agg #[.int .i64 0], .bool false]) w := by
  have hz : (zeroValue 165).run Tryz.prog w = .ok (.agg #[.int .i64 0]) w := by kernel_rfl
  simp [Instr.typeAssert, run_underlying Tryz.underlying165, hT, hz]
/-- The code of such an end. -/
def Code' (e0 : Ending) (n : Int) : Prop :=
  (e0 = .returned (.tuple #[]) ∧ n = 0) ∨ (∃ c, c ≠ 0 ∧ e0 = failed c ∧ n = c) ∨ (∃ T v, T ≠ 165 ∧ e0 = .panicked [{ v := .iface T v, recovered := false }] ∧ n = 18)
theorem Code'.once {e : Ending} {n : Int} (h : Code' e n) : Once e := by
  rcases h with ⟨h, _⟩ | ⟨c, _, h, _⟩ | ⟨T, v, _, h, _⟩
  · exact .inl h
  · exact .inr ⟨_, _, h⟩
  · exact .inr ⟨_, _, h⟩
set_option maxRecDepth 100000 in
theorem catch_below {K : FuncId} {first cap : Array Value} {w : World} {n : Int} (hK : ∀ w, (callFunc K (first ++ cap)).run Tryz.prog w = .ok (.enter K (first ++ cap)) w)
    (h : ∀ w1, Calls Tryz.prog K (first ++ cap) w1 fun e w' => Code' e n ∧ Below w1.heap.size w1 w') :
    Calls Tryz.prog 103 #[.func (.func K) first cap] w fun e w' => e = .returned (.int .i64 n) ∧ Below w.heap.size w w' := by
  go_enter Tryz.func103, Tryz.ntmps103
  go_wp2_with fail
  refine (try_below (fun e he => he.once) hK h).mono ?_
  rintro e w' ⟨hb, e0, hc, ht⟩
  rcases ht with ⟨rfl, rfl⟩ | ⟨T, v, rfl, rfl⟩
  · obtain rfl : n = 0 := by
      rcases hc with ⟨_, h⟩ | ⟨c, _, h, _⟩ | ⟨T, v, _, h, _⟩
      · exact h
      · cases h
      · cases h
    go_wp2_with fail
    go_ret
    exact ⟨rfl, hb⟩
  · rcases hc with ⟨q, _⟩ | ⟨c, hc0, q, rfl⟩ | ⟨T', v', hT, q, rfl⟩
    · cases q
    · simp only [failed, Ending.panicked.injEq, List.cons.injEq, PanicEntry.mk.injEq, Value.iface.injEq, and_true] at q
      obtain ⟨rfl, rfl⟩ := q
      have h1 : (n != 0) = true := by simpa using hc0
      have ha := assert_yes (.agg #[.int .i64 n])
      go_wp2_with fail
      go_ret
      exact ⟨rfl, hb.alloc hb.size _⟩
    · simp only [Ending.panicked.injEq, List.cons.injEq, PanicEntry.mk.injEq, Value.iface.injEq, and_true] at q
      obtain ⟨rfl, rfl⟩ := q
      have ha := assert_no T hT v
      go_wp2_with fail
      go_ret
      exact ⟨rfl, hb.alloc hb.size _⟩
theorem catch_nil (w : World) : Calls Tryz.prog 103 #[.nilFunc] w fun e w' => e = .returned (.int .i64 0) ∧ Below w.heap.size w w' := by
  go_enter Tryz.func103, Tryz.ntmps103
  go_wp2_with fail
  refine (try_nil _).mono ?_
  rintro e w' ⟨rfl, hb⟩
  go_wp2_with fail
  go_ret
  exact ⟨rfl, hb⟩
end Go.Proofs.YtmnjdmcocifogaaGreatDoor.Gd
