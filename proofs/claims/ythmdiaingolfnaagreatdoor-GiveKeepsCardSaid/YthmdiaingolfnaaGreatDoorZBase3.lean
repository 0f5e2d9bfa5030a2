/- A part of the claim: the texts Base3. -/
import Derived.Test.YthmdiaingolfnaaGreatDoorChecked
import Derived.Test.YthmdiaingolfnaaGreatDoorZBase1
import Derived.Test.YthmdiaingolfnaaGreatDoorZBase2
import Derived.Test.YthmdiaingolfnaaGreatDoorRows
import Derived.WalkKit
import Derived.Defers
import Derived.Recover
import Derived.WalkLawsBesides
import Derived.Laws.Pointers
import Derived.Lib.Hide
import Derived.ProofKit
import Derived.BigGuardPart
import Derived.Outline
import Derived.WalkSpells
import Derived.Deep.QuietTactic
import Derived.BigQuiet
import Derived.RegionTactic
import Derived.Maps.Range
import Derived.Shelf.Strconv.Itoa3
import Derived.Shelf.Strings.OnBuilder
namespace Go.Proofs.YthmdiaingolfnaaGreatDoor.Gd
open Go.ChangeShapes Go.WideShapes Go.ChangeAt Go.RowKit
set_option linter.unusedVariables false
theorem makeFunc_run (fn : Fn) (first cap : Array Value) (w : World) : (Instr.makeFunc fn first cap).run Tryz.prog w = .ok (.func fn first cap) w := rfl
theorem func_ne (fn : Fn) (first cap : Array Value) (w : World) : (binOp BinOp.neq 1 (.func fn first cap) .nilFunc).run Tryz.prog w = .ok (.bool true) w := by kernel_rfl
def Plain (e : Ending) : Prop := e = .returned (.tuple #[]) ∨ ∃ c, e = .panicked c
theorem call_fn {K : FuncId} {first cap : Array Value} {w : World} {R : Ending → World → Prop} (hR : ∀ e w', R e w' → Plain e) (hK : ∀ w, (callFunc K (first ++ cap)).run Tryz.prog w = .ok (.enter K (first ++ cap)) w) (h : Calls Tryz.prog K (first ++ cap) w R) :
    Calls Tryz.prog 287 #[.func (.func K) first cap] w R := by
  have hn := func_ne
  go_enter Tryz.func287, Tryz.ntmps287
  go_wp2_with fail
  refine h.mono ?_
  rintro e w' hr
  rcases hR e w' hr with rfl | ⟨c, rfl⟩
  · go_wp2_with fail
    go_end0
    exact hr
  · exact ⟨rfl, hr⟩
theorem tried_panic (p q : Addr) (u : TypeId) (pv v0 : Value) (older : List PanicEntry) (w : World) (hp : w.cell? p = some (.bool true)) (hq : w.cell? q = some v0) (hz : w.frozen? q = false) :
    CallsD Tryz.prog 286 #[.pointer (some p), .pointer (some q)] (.panicking ({ v := .iface u pv, recovered := false } :: older)) w fun e u' w' =>
      e = .returned (.tuple #[]) ∧ u' = .panicking ({ v := .iface u pv, recovered := true } :: older) ∧ w' = w.setCell q (.iface u pv) := by
  refine callsD_of_wpS Tryz.func286 rfl fun c₀ cs hu => ?_
  apply wpS_seq
  apply wpS_region
  simp [wpOpsS, go_sem, Tryz.ntmps286, Exit.thenS, hp]
  refine wpS_cond (t := true) (by simp [Act.eval, Array.replicate]) ?_
  simp only [if_true]
  apply wpS_region
  simp [wpOpsS, go_sem, recoverD, hu, hq, hz, bodyPostS, results, Tryz.results286]
theorem tried_idle (p q : Addr) (w : World) (hp : w.cell? p = some (.bool false)) :
    CallsD Tryz.prog 286 #[.pointer (some p), .pointer (some q)] .returning w fun e u' w' =>
      e = .returned (.tuple #[]) ∧ u' = .returning ∧ w' = w := by
  refine callsD_of_wpS Tryz.func286 rfl fun c₀ cs hu => ?_
  apply wpS_seq
  apply wpS_region
  simp [wpOpsS, go_sem, Tryz.ntmps286, Exit.thenS, hp]
  refine wpS_cond (t := false) (by simp [Act.eval, Array.replicate]) ?_
  simp only [Bool.false_eq_true, if_false]
  refine wpS_of_wp (wp_skip ?_)
  cases c₀
  simp_all [bodyPostS, results, Tryz.results286]
def tryWorld (w : World) : World := (w.alloc (.cells #[.nilIface] 20)).alloc (.cells #[.bool true] 4)
def TryKept (w w0 : World) : Prop := w0.cell? ⟨w.heap.size, 0, none⟩ = some .nilIface ∧ w0.cell? ⟨w.heap.size + 1, 0, none⟩ = some (.bool true) ∧ w0.frozen? ⟨w.heap.size, 0, none⟩ = false ∧ w0.frozen? ⟨w.heap.size + 1, 0, none⟩ = false
def Once (e : Ending) : Prop := e = .returned (.tuple #[]) ∨ ∃ T v, e = .panicked [{ v := .iface T v, recovered := false }]
def Tries (w : World) (e0 : Ending) (w0 : World) (e : Ending) (w' : World) : Prop :=
  (e0 = .returned (.tuple #[]) ∧ e = .returned (.tuple #[.nilIface, .bool false]) ∧ w' = (w0.setCell ⟨w.heap.size, 0, none⟩ .nilIface).setCell ⟨w.heap.size + 1, 0, none⟩ (.bool false)) ∨
  (∃ T v, e0 = .panicked [{ v := .iface T v, recovered := false }] ∧ e = .returned (.tuple #[.iface T v, .bool true]) ∧ w' = w0.setCell ⟨w.heap.size, 0, none⟩ (.iface T v))
theorem try_fn {K : FuncId} {first cap : Array Value} {w : World} {R : Ending → World → Prop} (hR : ∀ e w', R e w' → Once e ∧ TryKept w w')
    (hK : ∀ w, (callFunc K (first ++ cap)).run Tryz.prog w = .ok (.enter K (first ++ cap)) w) (h : Calls Tryz.prog K (first ++ cap) (tryWorld w) R) :
    Calls Tryz.prog 282 #[.func (.func K) first cap] w fun e w' => ∃ e0 w0, R e0 w0 ∧ Tries w e0 w0 e w' := by
  have hmf := makeFunc_run
  go_enter_defers Tryz.func282, Tryz.ntmps282
  go_wp2_with fail
  refine (call_fn (R := R) (fun e w' hr => ?_) hK h).mono ?_
  · rcases (hR e w' hr).1 with h | ⟨T, v, h⟩
    · exact .inl h
    · exact .inr ⟨_, h⟩
  rintro e w0 hr
  obtain ⟨ho, h1, h2, h3, h4⟩ := hR e w0 hr
  have hne : (⟨w.heap.size, 0, none⟩ : Addr) ≠ ⟨w.heap.size + 1, 0, none⟩ := fun e => by injection e with e; omega
  rcases ho with rfl | ⟨T, v, rfl⟩
  · go_wp2_with fail
    have a1 : (w0.setCell ⟨w.heap.size, 0, none⟩ .nilIface).cell? ⟨w.heap.size, 0, none⟩ = some .nilIface := World.cell?_setCell_same _ _ _ h1
    have b1 : (w0.setCell ⟨w.heap.size, 0, none⟩ .nilIface).cell? ⟨w.heap.size + 1, 0, none⟩ = some (.bool true) := (World.cell?_setCell_other _ _ _ _ hne).trans h2
    have b2 : ((w0.setCell ⟨w.heap.size, 0, none⟩ .nilIface).setCell ⟨w.heap.size + 1, 0, none⟩ (.bool false)).cell? ⟨w.heap.size + 1, 0, none⟩ = some (.bool false) := World.cell?_setCell_same _ _ _ b1
    have a2 : ((w0.setCell ⟨w.heap.size, 0, none⟩ .nilIface).setCell ⟨w.heap.size + 1, 0, none⟩ (.bool false)).cell? ⟨w.heap.size, 0, none⟩ = some .nilIface := (World.cell?_setCell_other _ _ _ _ hne.symm).trans a1
    refine leaves_cons (f := 286) (args := #[.pointer (some ⟨w.heap.size + 1, 0, none⟩), .pointer (some ⟨w.heap.size, 0, none⟩)]) (by simp) (by simp [go_sem]) ?_
    refine (tried_idle _ _ _ b2).mono ?_
    rintro e u' w'' ⟨rfl, rfl, rfl⟩
    refine ⟨.tuple #[.nilIface, .bool false], ?_, _, w0, hr, .inl ⟨rfl, rfl, rfl⟩⟩
    simp [results, Tryz.results282, go_sem, a1, b2]
  · have a1 : (w0.setCell ⟨w.heap.size, 0, none⟩ (.iface T v)).cell? ⟨w.heap.size, 0, none⟩ = some (.iface T v) := World.cell?_setCell_same _ _ _ h1
    have b1 : (w0.setCell ⟨w.heap.size, 0, none⟩ (.iface T v)).cell? ⟨w.heap.size + 1, 0, none⟩ = some (.bool true) := (World.cell?_setCell_other _ _ _ _ hne).trans h2
    refine leaves_cons (f := 286) (args := #[.pointer (some ⟨w.heap.size + 1, 0, none⟩), .pointer (some ⟨w.heap.size, 0, none⟩)]) (by simp) (by simp [go_sem]) ?_
    refine (tried_panic _ _ _ _ _ _ _ h2 h1 h3).mono ?_
    rintro e u' w'' ⟨rfl, rfl, rfl⟩
    refine ⟨.tuple #[.iface T v, .bool true], ?_, _, w0, hr, .inr ⟨T, v, rfl, rfl, rfl⟩⟩
    simp [results, Tryz.results282, go_sem, a1, b1]
def Tried (e0 e : Ending) : Prop :=
  (e0 = .returned (.tuple #[]) ∧ e = .returned (.tuple #[.nilIface, .bool false])) ∨
  (∃ T v, e0 = .panicked [{ v := .iface T v, recovered := false }] ∧ e = .returned (.tuple #[.iface T v, .bool true]))
theorem try_below {K : FuncId} {first cap : Array Value} {w : World} {E : Ending → Prop} (hE : ∀ e, E e → Once e)
    (hK : ∀ w, (callFunc K (first ++ cap)).run Tryz.prog w = .ok (.enter K (first ++ cap)) w) (h : ∀ w1, Calls Tryz.prog K (first ++ cap) w1 fun e w' => E e ∧ Below w1.heap.size w1 w') :
    Calls Tryz.prog 282 #[.func (.func K) first cap] w fun e w' => Below w.heap.size w w' ∧ ∃ e0, E e0 ∧ Tried e0 e := by
  refine (try_fn (fun e w' hr => ?_) hK (h (tryWorld w))).mono ?_
  · refine ⟨hE e hr.1, ?_⟩
    obtain ⟨_, hb⟩ := hr
    have hs : (tryWorld w).heap.size = w.heap.size + 2 := by simp [tryWorld]
    rw [hs] at hb
    refine ⟨(hb.cell (by simp)).trans ?_, (hb.cell (by simp)).trans ?_, (hb.frozen (by simp)).trans ?_, (hb.frozen (by simp)).trans ?_⟩ <;> simp [tryWorld]
  · rintro e w' ⟨e0, w0, ⟨he, hb⟩, ht⟩
    have hs : (tryWorld w).heap.size = w.heap.size + 2 := by simp [tryWorld]
    have hb0 : Below w.heap.size w w0 := by
      refine Below.trans (b := tryWorld w) ?_ (hb.mono (by omega))
      exact ((Below.refl w.heap.size w).alloc (Nat.le_refl _) _).alloc (by simp) _
    rcases ht with ⟨h1, h2, rfl⟩ | ⟨T, v, h1, h2, rfl⟩
    · exact ⟨(hb0.setCell (Nat.le_refl _) _).setCell (Nat.le_succ _) _, e0, he, .inl ⟨h1, h2⟩⟩
    · exact ⟨hb0.setCell (Nat.le_refl _) _, e0, he, .inr ⟨T, v, h1, h2⟩⟩
def failed (c : Int) : Ending := .panicked [{ v := .iface 368 (.agg #[.int .i64 c]), recovered := false }]
theorem must_fail (c : Int) (hc : c ≠ 0) (w : World) : Calls Tryz.prog 278 #[.int .i64 c] w fun e w' => e = failed c ∧ w = w' := by
  have h1 : (c != 0) = true := by simpa using hc
  go_enter Tryz.func278, Tryz.ntmps278
  go_wp2_with fail
  exact ⟨rfl, rfl, rfl⟩
theorem assert_yes (v : Value) (w : World) : (Instr.typeAssert (.iface 368 v) 20 368 true).run Tryz.prog w = .ok (.tuple #[v, .bool true]) w := by
  simp [Instr.typeAssert, run_underlying Tryz.underlying368]
theorem assert_no (T : TypeId) (hT : T ≠ 368) (v : Value) (w : World) : (Instr.typeAssert (.iface T v) 20 368 true).run Tryz.prog w = .ok (.tuple #[.agg #[.int .i64 0], .bool false]) w := by
  have hz : (zeroValue 368).run Tryz.prog w = .ok (.agg #[.int .i64 0]) w := by kernel_rfl
  simp [Instr.typeAssert, run_underlying Tryz.underlying368, hT, hz]
def Code' (e0 : Ending) (n : Int) : Prop :=
  (e0 = .returned (.tuple #[]) ∧ n = 0) ∨ (∃ c, c ≠ 0 ∧ e0 = failed c ∧ n = c) ∨ (∃ T v, T ≠ 368 ∧ e0 = .panicked [{ v := .iface T v, recovered := false }] ∧ n = 18)
theorem Code'.once {e : Ending} {n : Int} (h : Code' e n) : Once e := by
  rcases h with ⟨h, _⟩ | ⟨c, _, h, _⟩ | ⟨T, v, _, h, _⟩
  · exact .inl h
  · exact .inr ⟨_, _, h⟩
  · exact .inr ⟨_, _, h⟩
set_option maxRecDepth 100000 in
theorem catch_below {K : FuncId} {first cap : Array Value} {w : World} {n : Int} (hK : ∀ w, (callFunc K (first ++ cap)).run Tryz.prog w = .ok (.enter K (first ++ cap)) w)
    (h : ∀ w1, Calls Tryz.prog K (first ++ cap) w1 fun e w' => Code' e n ∧ Below w1.heap.size w1 w') :
    Calls Tryz.prog 276 #[.func (.func K) first cap] w fun e w' => e = .returned (.int .i64 n) ∧ Below w.heap.size w w' := by
  go_enter Tryz.func276, Tryz.ntmps276
  go_wp2_with fail
  refine (try_below (fun e he => he.once) hK h).mono ?_
  rintro e w' ⟨hb, e0, hc, ht⟩
  rcases ht with ⟨rfl, rfl⟩ | ⟨T, v, rfl, rfl⟩
  · obtain rfl : n = 0 := by
      rcases hc with ⟨_, h⟩ | ⟨c, _, h, _⟩ | ⟨T, v, _, h, _⟩
      · exact h
      · cases h
      · cases h
    go_wp2_with fail
    go_ret
    exact ⟨rfl, hb⟩
  · rcases hc with ⟨q, _⟩ | ⟨c, hc0, q, rfl⟩ | ⟨T', v', hT, q, rfl⟩
    · cases q
    · simp only [failed, Ending.panicked.injEq, List.cons.injEq, PanicEntry.mk.injEq, Value.iface.injEq, and_true] at q
      obtain ⟨rfl, rfl⟩ := q
      have h1 : (n != 0) = true := by simpa using hc0
      have ha := assert_yes (.agg #[.int .i64 n])
      go_wp2_with fail
      go_ret
      exact ⟨rfl, hb.alloc hb.size _⟩
    · simp only [Ending.panicked.injEq, List.cons.injEq, PanicEntry.mk.injEq, Value.iface.injEq, and_true] at q
      obtain ⟨rfl, rfl⟩ := q
      have ha := assert_no T hT v
      go_wp2_with fail
      go_ret
      exact ⟨rfl, hb.alloc hb.size _⟩
end Go.Proofs.YthmdiaingolfnaaGreatDoor.Gd
namespace Go.Proofs.YthmdiaingolfnaaGreatDoor.Gd
open Go.ChangeShapes Go.WideShapes Go.ChangeAt Go.RowKit Rw
set_option linter.unusedVariables false
theorem Awake6_any (w : World) :
    Calls Tryz.prog 275 #[] w fun e w' => e = .returned (.bool true) ∧ Below w.heap.size w w' := by
  go_enter Tryz.func275, Tryz.ntmps275
  go_wp2_with fail
  refine (Fl.awake6_any _).mono ?_
  rintro e w' ⟨rfl, hb⟩
  go_wp2_with fail
  go_ret
  exact ⟨rfl, hb⟩
theorem closed_any (w : World) : Calls Tryz.prog 277 #[] w fun e w' => Code' e 6 ∧ Below w.heap.size w w' := by
  go_enter Tryz.func277, Tryz.ntmps277
  go_wp2_with fail
  refine (must_fail 6 (by decide) _).mono ?_
  rintro e w' ⟨rfl, rfl⟩
  exact ⟨rfl, .inr (.inl ⟨6, by decide, rfl, rfl⟩), Below.refl _ _⟩
theorem awake7_any (w : World) :
    Calls Tryz.prog 272 #[] w fun e w' => e = .returned (.bool true) ∧ Below w.heap.size w w' := by
  go_enter Tryz.func272, Tryz.ntmps272
  go_wp2_with fail
  refine (Awake6_any _).mono ?_
  rintro e w1 ⟨rfl, hb1⟩
  go_wp2_with fail
  refine (catch_below (K := 277) (first := #[]) (cap := #[]) (n := 6) (fun w => by simp [go_sem]) (fun w1 => by rw [Array.append_empty]; exact closed_any w1)).mono ?_
  rintro e w2 ⟨rfl, hb2⟩
  go_wp2_with fail
  go_ret
  exact ⟨rfl, hb1.trans (hb2.mono hb1.size)⟩
theorem Awake7_any (w : World) :
    Calls Tryz.prog 268 #[] w fun e w' => e = .returned (.bool true) ∧ Below w.heap.size w w' := by
  go_enter Tryz.func268, Tryz.ntmps268
  go_wp2_with fail
  refine (awake7_any _).mono ?_
  rintro e w' ⟨rfl, hb⟩
  go_wp2_with fail
  go_ret
  exact ⟨rfl, hb⟩
end Go.Proofs.YthmdiaingolfnaaGreatDoor.Gd
namespace Go.Proofs.YthmdiaingolfnaaGreatDoor.Si
open Go.ChangeShapes Go.WideShapes Go.ChangeAt Go.RowKit Rw Sn
set_option linter.unusedVariables false
theorem info_int : (Tryz.prog.info? 3).map (fun i => (i.zero, i.size, i.bytes)) = some (some (.int .i64 0), 1, 8) := by kernel_rfl
theorem take_eq_snoc {xs ys : List Int} {k : Nat} {x : Int} (h : xs.take k = ys.take k) (hx : xs[k]? = some x) (hy : ys[k]? = some x) : xs.take (k + 1) = ys.take (k + 1) := by rw [take_snoc hx, take_snoc hy, h]
theorem ne_of_at {xs ys : List Int} {k : Nat} {x y : Int} (hx : xs[k]? = some x) (hy : ys[k]? = some y) (hne : x ≠ y) : xs ≠ ys := fun e => by subst e; rw [hx] at hy; injection hy with hy; exact hne hy
set_option maxHeartbeats 400000 in
theorem equal_any (A A' : Option Addr) (n c m c' : Nat) (xs ys : List Int) (B B' : Nat) (w : World) (h : Rd (Value.int .i64) w B A n c xs) (h' : Rd (Value.int .i64) w B' A' m c' ys) :
    Calls Tryz.prog 269 #[.slice A n c, .slice A' m c'] w fun e w' => e = .returned (.bool (decide (xs = ys))) ∧ ∃ q, w.drewN q = w' := by
  have hn : n ≤ 9223372036854775807 := by have := h.cap; have := h.top; omega
  have hm : m ≤ 9223372036854775807 := by have := h'.cap; have := h'.top; omega
  have HL := Lib.hid h.len
  have HL' := Lib.hid h'.len
  have HR := Lib.hid h
  have HR' := Lib.hid h'
  clear h h'
  by_cases hnm : n = m
  · subst hnm
    go_enter Tryz.func269, Tryz.ntmps269
    go_wp2
    go_loopw [5, 13] (fun _ i wr => ∃ k q : Nat, k ≤ n ∧ i = .int .i64 k ∧ wr = w.drewN q ∧ xs.take k = ys.take k) (fun _ i _ => n - (intOf i).toNat)
    case atStart => exact ⟨0, 0, Nat.zero_le _, rfl, rfl, rfl⟩
    case round =>
      obtain ⟨k, q, hk, rfl, rfl, heq⟩ := hrel
      have HE := Lib.hid heq
      clear heq
      by_cases hlt : k < n
      · obtain ⟨b, o, x, rfl, hb, hx, hcell⟩ := HR.out.get hlt
        obtain ⟨b', o', y, rfl, hb', hy, hcell'⟩ := HR'.out.get hlt
        have HX := Lib.hid hx
        have HY := Lib.hid hy
        clear hx hy
        by_cases hxy : x = y
        · subst hxy
          go_wp2
          go_quiet (fail)
          go_wp2
          go_roundw
          case rel => exact ⟨k + 1, _, by omega, by go_num, rfl, take_eq_snoc HE.out HX.out HY.out⟩
          case measure => simp [intOf]; omega
        · have hq : (x != y) = true := by simpa using hxy
          have HN := Lib.hid hxy
          clear hxy
          go_wp2
          go_quiet (fail)
          go_wp2
          go_ret
          exact ⟨by rw [decide_eq_false (ne_of_at HX.out HY.out HN.out)]; rfl, _, (World.drewN_drewN _ _ _).symm⟩
      · have hk' : k = n := by omega
        go_wp2
        go_ret
        refine ⟨?_, _, rfl⟩
        have e := HE.out
        have hl := HL.out
        have hl' := HL'.out
        rw [List.take_of_length_le (by omega), List.take_of_length_le (by omega)] at e
        rw [decide_eq_true e]
        rfl
  · have hb : ((n : Int) != (m : Int)) = true := by rw [bne_iff_ne]; omega
    have hb2 : (n != m) = true := by simpa using hnm
    have HN := Lib.hid hnm
    clear hnm
    go_enter Tryz.func269, Tryz.ntmps269
    go_wp2
    go_ret
    exact ⟨by rw [decide_eq_false (fun e => HN.out (by rw [← HL.out, ← HL'.out, e]))]; rfl, 0, rfl⟩
theorem one_int (y : Int) : (Value.int .i64 y).oneCell' = true := rfl
theorem clone_any (A : Option Addr) (n c : Nat) (xs : List Int) (B : Nat) (w : World) (h : Rd (Value.int .i64) w B A n c xs) (hB : B ≤ w.heap.size) (hreach : n * 8 ≤ 140737488355328) :
    Calls Tryz.prog 273 #[.slice A n c] w fun e w' => ∃ A' c', e = .returned (.slice A' n c') ∧ w'.ownsRow w.heap.size 3 1 (.slice A' n c') n (xs.map (Value.int .i64)) ∧ Below w.heap.size w w' := by
  have hn : n ≤ 9223372036854775807 := by have := h.cap; have := h.top; omega
  obtain ⟨i0, hi, hz0, hz1, hz2⟩ := info_parts info_int
  cases A with
  | none =>
    have h0 : n = 0 := by
      rcases Nat.eq_zero_or_pos n with h0 | h0
      · exact h0
      · obtain ⟨b, o, e, _⟩ := h.at_ h0
        cases e
    subst h0
    obtain rfl := List.eq_nil_of_length_eq_zero h.len
    clear h
    have hk := @Lib.run_eql_slice_nil Tryz.prog
    go_enter Tryz.func273, Tryz.ntmps273
    go_wp2
    go_ret
    exact ⟨_, _, rfl, World.ownsRow_nil _ _ _ _, Below.refl _ _⟩
  | some a =>
    have HR := Lib.hid h
    clear h
    have hk := @Lib.run_eql_slice_nil Tryz.prog
    go_enter Tryz.func273, Tryz.ntmps273
    go_wp2_with (at_builtin; refine append_rd _ rfl _ _ 264 rfl w.heap.size 3 i0 (.int .i64 0) 8 Tryz.underlying264 hi hz0 hz1 hz2 rfl _ 0 [] rfl (World.ownsRow_lit _ #[] 0 (Nat.le_refl _) (by decide) rfl) B (some a) n c xs rfl (HR.out.alloc hB _) one_int n (Nat.zero_add _) (xs.map (Value.int .i64)) rfl ?_ ?_ ?_ ?_)
    · unfold maxLen; omega
    · omega
    · simp
    · intro A' c' w' hown hg hat
      go_wp2
      go_ret
      refine ⟨A', c', rfl, hown, ((Below.refl _ _).alloc (Nat.le_refl _) _).grown hg (by simp) (fun k hk => ?_)⟩
      simp [Value.ownBlock] at hk
      omega
end Go.Proofs.YthmdiaingolfnaaGreatDoor.Si
namespace Go.Proofs.YthmdiaingolfnaaGreatDoor.Pi
open Go.ChangeShapes Go.WideShapes Go.ChangeAt Go.RowKit Rw
set_option linter.unusedVariables false
def Ok (x : Int) : Prop := -9223372036854775808 ≤ x ∧ x ≤ 9223372036854775807
structure Pk (w : World) (g : Nat) (l : List Int) (t : Int) : Prop where
  script : ∃ A n c, w.cell? ⟨g, 0, none⟩ = some (.slice A n c) ∧ Rd (Value.int .i64) w g A n c l
  turn : w.cell? ⟨g, 1, none⟩ = some (.int .i64 t)
  free0 : w.frozen? ⟨g, 0, none⟩ = false
  free1 : w.frozen? ⟨g, 1, none⟩ = false
  lo : ∀ x ∈ l, Ok x
theorem Pk.lt {w : World} {g : Nat} {l : List Int} {t : Int} (h : Pk w g l t) : g < w.heap.size := Lw.lt_heap h.turn
theorem Pk.kept {w w' : World} {g g' : Nat} {l : List Int} {t : Int} (h : Pk w g l t) (hg : w.grownBy w' (some g')) (hlt : g < g') : Pk w' g l t := by
  have hl := h.lt
  obtain ⟨A, n, c, h0, hr⟩ := h.script
  have hne : some g ≠ some g' := by intro e; injection e; omega
  refine ⟨⟨A, n, c, hg.cell h0 hne, ?_⟩, hg.cell h.turn hne, grown_frozen hg h.free0 hl hne, grown_frozen hg h.free1 hl hne, h.lo⟩
  exact hr.grown hg (by omega) (fun j hj => by cases hj; omega)
theorem Pk.below {w w' : World} {g B : Nat} {l : List Int} {t : Int} (h : Pk w g l t) (hb : Below B w w') (hB : g < B) : Pk w' g l t := by
  obtain ⟨A, n, c, h0, hr⟩ := h.script
  exact ⟨⟨A, n, c, (hb.cell (p := ⟨g, 0, none⟩) hB).trans h0, hr.keep fun p hp => hb.cell (by omega)⟩, (hb.cell (p := ⟨g, 1, none⟩) hB).trans h.turn, (hb.frozen (p := ⟨g, 0, none⟩) hB).trans h.free0, (hb.frozen (p := ⟨g, 1, none⟩) hB).trans h.free1, h.lo⟩
theorem Pk.later {w w' : World} {g : Nat} {l : List Int} {t : Int} (h : Pk w g l t) (hb : Below w.heap.size w w') : Pk w' g l t := h.below hb h.lt
theorem emod_tmod (a n : Int) (hn : 1 ≤ n) : (0 ≤ a.tmod n ∧ a % n = a.tmod n) ∨ (a.tmod n < 0 ∧ a % n = a.tmod n + n) := by
  have h := Int.tmod_eq_emod (a := a) (b := n)
  have h1 := Int.emod_nonneg a (b := n) (by omega)
  have h2 := Int.emod_lt_of_pos a (b := n) (by omega)
  split at h
  · left; omega
  · right; omega
theorem modulo_any (a n : Int) (hn : 1 ≤ n) (hn' : n ≤ 9223372036854775807) (w : World) :
    Calls Tryz.prog 279 #[.int .i64 a, .int .i64 n] w fun e w' => e = .returned (.int .i64 (a % n)) ∧ w = w' := by
  have h1 := Int.emod_nonneg a (b := n) (by omega)
  have h2 := Int.emod_lt_of_pos a (b := n) (by omega)
  have hz : (n == 0) = false := by simp; omega
  have hm : (n == -1) = false := by simp; omega
  rcases emod_tmod a n hn with ⟨h, e⟩ | ⟨h, e⟩
  · rw [e] at h1 h2 ⊢
    have hd : decide (a.tmod n < 0) = false := decide_eq_false (by omega)
    go_enter Tryz.func279, Tryz.ntmps279
    go_wp2_with fail
    go_ret
    exact ⟨rfl, rfl⟩
  · rw [e] at h1 h2 ⊢
    have hd : decide (a.tmod n < 0) = true := decide_eq_true h
    go_enter Tryz.func279, Tryz.ntmps279
    go_wp2_with fail
    go_ret
    exact ⟨rfl, rfl⟩
theorem grown_setCell (w : World) (a : Addr) (u : Value) : w.grownBy (w.setCell a u) (some a.block) :=
  ⟨rfl, rfl, rfl, by simp, fun k _ hk => heap_setCell_other w a k u (fun e => hk (by rw [e]))⟩
theorem Pk.put0 {w : World} {g : Nat} {L l : List Int} {t : Int} (h : Pk w g L t) (A : Option Addr) (n c : Nat) (hr : Rd (Value.int .i64) w g A n c l) (hlo : ∀ x ∈ l, Ok x) :
    Pk (w.setCell ⟨g, 0, none⟩ (.slice A n c)) g l t ∧ w.grownBy (w.setCell ⟨g, 0, none⟩ (.slice A n c)) (some g) := by
  obtain ⟨A0, n0, c0, h0, hr0⟩ := h.script
  have hne : (⟨g, 0, none⟩ : Addr) ≠ ⟨g, 1, none⟩ := fun e => by injection e with _ e; omega
  refine ⟨⟨⟨A, n, c, World.cell?_setCell_same _ _ _ h0, hr.setCell (Nat.le_refl _) _⟩, (World.cell?_setCell_other _ _ _ _ hne).trans h.turn, ?_, ?_, hlo⟩, grown_setCell _ _ _⟩
  · simpa using h.free0
  · simpa using h.free1
theorem Pk.put1 {w : World} {g : Nat} {l : List Int} {t : Int} (h : Pk w g l t) (u : Int) :
    Pk (w.setCell ⟨g, 1, none⟩ (.int .i64 u)) g l u ∧ w.grownBy (w.setCell ⟨g, 1, none⟩ (.int .i64 u)) (some g) := by
  obtain ⟨A, n, c, h0, hr⟩ := h.script
  have hne : (⟨g, 1, none⟩ : Addr) ≠ ⟨g, 0, none⟩ := fun e => by injection e with _ e; omega
  refine ⟨⟨⟨A, n, c, (World.cell?_setCell_other _ _ _ _ hne).trans h0, hr.setCell (Nat.le_refl _) _⟩, World.cell?_setCell_same _ _ _ h.turn, ?_, ?_, h.lo⟩, grown_setCell _ _ _⟩
  · simpa using h.free0
  · simpa using h.free1
def tk : List Int → Int → Int × List Int × Int
  | [], t => (t, [], t + 1)
  | x :: l, t => (x, l, t)
theorem take_some (g : Nat) (x : Int) (l : List Int) (t : Int) (w : World) (h : Pk w g (x :: l) t) :
    Calls Tryz.prog 280 #[.pointer (some ⟨g, 0, none⟩)] w fun e w' => e = .returned (.int .i64 x) ∧ Pk w' g l t ∧ w.grownBy w' (some g) := by
  obtain ⟨A, n, c, h0, hr⟩ := h.script
  have hn : (x :: l).length = n := hr.len
  simp at hn
  have hnc := hr.cap
  have htop := hr.top
  obtain ⟨b, o, y, rfl, hb, hx, hcx⟩ := hr.get (k := 0) (by omega)
  obtain rfl : x = y := by simpa using hx
  have hp : decide ((0 : Int) < (n : Int)) = true := decide_eq_true (by omega)
  have hp' : decide (0 < n) = true := decide_eq_true (by omega)
  have hf0 := h.free0
  have HR := Lib.hid hr
  have HH := Lib.hid h
  have hl := h.lt
  have hn1 : 1 ≤ n := by omega
  simp only [Nat.add_zero] at hcx
  have HN := Lib.hid hn
  clear h hr hx hn
  by_cases hc1 : c = 1
  · subst hc1
    obtain rfl : n = 1 := by omega
    go_enter Tryz.func280, Tryz.ntmps280
    go_wp2_with fail
    go_ret
    have hb := (HR.out.back (i := 1) (A' := some ⟨b, o, none⟩) (by omega) rfl (by omega))
    exact ⟨rfl, HH.out.put0 _ _ _ hb (fun y hy => HH.out.lo y (List.mem_cons_of_mem _ hy))⟩
  · have hc2 : 1 < c := by omega
    go_enter Tryz.func280, Tryz.ntmps280
    go_wp2_with fail
    go_ret
    have hb := (HR.out.back (i := 1) (A' := some ⟨b, o + 1, none⟩) (by omega) rfl (fun _ => rfl))
    exact ⟨rfl, HH.out.put0 _ _ _ hb (fun y hy => HH.out.lo y (List.mem_cons_of_mem _ hy))⟩
theorem take_none (g : Nat) (t : Int) (w : World) (h : Pk w g [] t) (ht : 0 ≤ t ∧ t < 9223372036854775807) :
    Calls Tryz.prog 280 #[.pointer (some ⟨g, 0, none⟩)] w fun e w' => e = .returned (.int .i64 t) ∧ Pk w' g [] (t + 1) ∧ w.grownBy w' (some g) := by
  obtain ⟨A, n, c, h0, hr⟩ := h.script
  obtain rfl : 0 = n := hr.len
  have h1 := h.turn
  have hf1 := h.free1
  have hl := h.lt
  have HR := Lib.hid hr
  have HH := Lib.hid h
  clear h hr
  go_enter Tryz.func280, Tryz.ntmps280
  go_wp2_with fail
  go_ret
  exact ⟨rfl, HH.out.put1 _⟩
theorem next_some (g : Nat) (x : Int) (l : List Int) (t n : Int) (hn : 1 ≤ n) (hn' : n ≤ 9223372036854775807) (w : World) (h : Pk w g (x :: l) t) :
    Calls Tryz.prog 274 #[.pointer (some ⟨g, 0, none⟩), .int .i64 n] w fun e w' => e = .returned (.tuple #[.int .i64 (x % n), .bool true]) ∧ Pk w' g l t ∧ w.grownBy w' (some g) := by
  have hd : decide (n < 1) = false := decide_eq_false (by omega)
  have HH := Lib.hid h
  clear h
  go_enter Tryz.func274, Tryz.ntmps274
  go_wp2_with fail
  refine (take_some g x l t _ HH.out).mono ?_
  rintro e w1 ⟨rfl, h1, hg1⟩
  have H1 := Lib.hid h1
  have HG := Lib.hid hg1
  clear h1 hg1
  go_wp2_with fail
  refine (modulo_any x n hn hn' _).mono ?_
  rintro e w2 ⟨rfl, rfl⟩
  go_wp2_with fail
  exact bodyPost_ret (v := .tuple #[.int .i64 (x % n), .bool true]) (by simp [results, Tryz.results274, go_sem]) rfl ⟨rfl, H1.out, HG.out⟩
theorem next_none (g : Nat) (t n : Int) (hn : 1 ≤ n) (hn' : n ≤ 9223372036854775807) (w : World) (h : Pk w g [] t) (ht : 0 ≤ t ∧ t < 9223372036854775807) :
    Calls Tryz.prog 274 #[.pointer (some ⟨g, 0, none⟩), .int .i64 n] w fun e w' => e = .returned (.tuple #[.int .i64 (t % n), .bool true]) ∧ Pk w' g [] (t + 1) ∧ w.grownBy w' (some g) := by
  have hd : decide (n < 1) = false := decide_eq_false (by omega)
  have HH := Lib.hid h
  have HT := Lib.hid ht
  clear h ht
  go_enter Tryz.func274, Tryz.ntmps274
  go_wp2_with fail
  refine (take_none g t _ HH.out HT.out).mono ?_
  rintro e w1 ⟨rfl, h1, hg1⟩
  have H1 := Lib.hid h1
  have HG := Lib.hid hg1
  clear h1 hg1
  go_wp2_with fail
  refine (modulo_any t n hn hn' _).mono ?_
  rintro e w2 ⟨rfl, rfl⟩
  go_wp2_with fail
  exact bodyPost_ret (v := .tuple #[.int .i64 (t % n), .bool true]) (by simp [results, Tryz.results274, go_sem]) rfl ⟨rfl, H1.out, HG.out⟩
theorem next_any (g : Nat) (l : List Int) (t n : Int) (hn : 1 ≤ n) (hn' : n ≤ 9223372036854775807) (w : World) (h : Pk w g l t) (ht : 0 ≤ t ∧ t < 9223372036854775807) :
    Calls Tryz.prog 274 #[.pointer (some ⟨g, 0, none⟩), .int .i64 n] w fun e w' => e = .returned (.tuple #[.int .i64 ((tk l t).1 % n), .bool true]) ∧ Pk w' g (tk l t).2.1 (tk l t).2.2 ∧ w.grownBy w' (some g) := by
  cases l with
  | nil => exact next_none g t n hn hn' w h ht
  | cons x l => exact next_some g x l t n hn hn' w h
theorem next_nil (n : Int) (w : World) :
    Calls Tryz.prog 274 #[.pointer none, .int .i64 n] w fun e w' => e = .returned (.tuple #[.int .i64 0, .bool false]) ∧ w = w' := by
  go_enter Tryz.func274, Tryz.ntmps274
  go_wp2_with fail
  exact bodyPost_ret (v := .tuple #[.int .i64 0, .bool false]) (by simp [results, Tryz.results274, go_sem]) rfl ⟨rfl, rfl⟩
theorem new_any (A : Option Addr) (n c : Nat) (l : List Int) (B : Nat) (w : World) (h : Rd (Value.int .i64) w B A n c l) (hB : B ≤ w.heap.size) (hlo : ∀ x ∈ l, Ok x) (hreach : n * 8 ≤ 140737488355328) :
    Calls Tryz.prog 270 #[.slice A n c] w fun e w' => ∃ g, e = .returned (.pointer (some ⟨g, 0, none⟩)) ∧ Pk w' g l 0 ∧ w.heap.size ≤ g ∧ Below w.heap.size w w' := by
  have HR := Lib.hid h
  have HL := Lib.hid hlo
  clear h hlo
  go_enter Tryz.func270, Tryz.ntmps270
  go_wp2_with fail
  refine (Si.clone_any A n c l B _ HR.out hB hreach).mono ?_
  rintro e w1 ⟨A1, c1, rfl, hrow, hb⟩
  have hr1 : Rd (Value.int .i64) w1 w1.heap.size A1 n c1 l := Rd.own_rd hrow
  have HR1 := Lib.hid hr1
  have HB1 := Lib.hid hb
  clear hrow hr1 hb
  go_wp2_with fail
  go_ret
  refine ⟨w1.heap.size, rfl, ⟨⟨A1, n, c1, by go_simp, HR1.out.alloc (Nat.le_refl _) _⟩, by go_simp, by go_simp, by go_simp, HL.out⟩, HB1.out.size, HB1.out.alloc HB1.out.size _⟩
end Go.Proofs.YthmdiaingolfnaaGreatDoor.Pi
namespace Go.Proofs.YthmdiaingolfnaaGreatDoor.Pi
open Go.ChangeShapes Go.WideShapes Go.ChangeAt Go.RowKit Rw
set_option linter.unusedVariables false
theorem Pk.grown {w w' : World} {g : Nat} {l : List Int} {t : Int} {row : Option Nat} (h : Pk w g l t) (hg : w.grownBy w' row) (hlt : ∀ j, row = some j → g < j) : Pk w' g l t := by
  have hl := h.lt
  obtain ⟨A, n, c, h0, hr⟩ := h.script
  have hne : some g ≠ row := by intro e; have := hlt g e.symm; omega
  refine ⟨⟨A, n, c, hg.cell h0 hne, ?_⟩, hg.cell h.turn hne, grown_frozen hg h.free0 hl hne, grown_frozen hg h.free1 hl hne, h.lo⟩
  exact hr.grown hg (by omega) (fun j hj => by have := hlt j hj; omega)
def val (l : List Int) (t : Int) (k : Nat) : Int := if h : k < l.length then l[k] else t + ((k - l.length : Nat) : Int)
theorem tk_drop (l : List Int) (t : Int) (k : Nat) : tk (l.drop k) (t + ((k - l.length : Nat) : Int)) = (val l t k, l.drop (k + 1), t + ((k + 1 - l.length : Nat) : Int)) := by
  unfold val
  by_cases h : k < l.length
  · rw [List.drop_eq_getElem_cons h, dif_pos h]
    have h1 : k - l.length = 0 := by omega
    have h2 : k + 1 - l.length = 0 := by omega
    simp [tk, h1, h2]
  · rw [List.drop_eq_nil_of_le (by omega), List.drop_eq_nil_of_le (by omega), dif_neg h]
    have h2 : k + 1 - l.length = (k - l.length) + 1 := by omega
    simp only [tk, h2]
    congr 2
    push_cast
    omega
def outs (l : List Int) (t n : Int) (k : Nat) : List Int := (List.range k).map fun j => val l t j % n
theorem outs_succ (l : List Int) (t n : Int) (k : Nat) : outs l t n (k + 1) = outs l t n k ++ [val l t k % n] := by
  unfold outs; rw [List.range_succ, List.map_append]; rfl
set_option maxRecDepth 100000 in
set_option maxHeartbeats 2000000 in
theorem some_any (g : Nat) (l : List Int) (t n : Int) (k : Nat) (hn : 1 ≤ n) (hn' : n ≤ 9223372036854775807) (hk : k ≤ 10000) (w : World) (h : Pk w g l t) (ht : 0 ≤ t) (ht' : t + k ≤ 9223372036854775807) :
    Calls Tryz.prog 271 #[.pointer (some ⟨g, 0, none⟩), .int .i64 n, .int .i64 k] w fun e w' => ∃ A' c', e = .returned (.slice A' k c') ∧
      w'.ownsRow w.heap.size 3 1 (.slice A' k c') k ((outs l t n k).map (Value.int .i64)) ∧ Pk w' g (l.drop k) (t + ((k - l.length : Nat) : Int)) ∧ w.grownBy w' (some g) := by
  obtain ⟨i0, hi, hz0, hz1, hz2⟩ := info_parts Si.info_int
  have hm : min (k : Int) 10000 = k := by omega
  have hl := h.lt
  have HH := Lib.hid h
  clear h
  go_enter Tryz.func271, Tryz.ntmps271
  go_wp2_with fail
  go_loopw [7, 12] (fun v i wr => ∃ (m c' : Nat) (A' : Option Addr), m ≤ k ∧ i = .int .i64 m ∧ v = .slice A' m c' ∧
      wr.ownsRow w.heap.size 3 1 (.slice A' m c') m ((outs l t n m).map (Value.int .i64)) ∧ Pk wr g (l.drop m) (t + ((m - l.length : Nat) : Int)) ∧ w.grownBy wr (some g)) (fun _ i _ => k - (intOf i).toNat)
  case atStart => exact ⟨0, 0, none, Nat.zero_le _, rfl, rfl, World.ownsRow_nil _ _ _ _, by simpa using HH.out, World.grownBy.refl _ _⟩
  case round =>
    obtain ⟨m, c', A', hmk, rfl, rfl, hrow, hpk, hg⟩ := hrel
    clear HH
    have HROW := Lib.hid hrow
    have HPK := Lib.hid hpk
    have HG := Lib.hid hg
    clear hrow hpk hg
    by_cases hlt : m < k
    · go_wp2_with fail
      refine (next_any g (l.drop m) _ n hn hn' _ HPK.out ⟨by omega, by omega⟩).mono ?_
      rw [tk_drop]
      rintro e w1 ⟨rfl, hpk1, hg1⟩
      have hne : (Value.slice A' m c').ownBlock ≠ some g := by
        intro e
        have := (HROW.out.lt g e).1
        omega
      have hrow1 : w1.ownsRow w.heap.size 3 1 (.slice A' m c') m ((outs l t n m).map (Value.int .i64)) := HROW.out.kept hg1 (by
        cases hv : (Value.slice A' m c').ownBlock with
        | none => exact .inl rfl
        | some j => exact .inr (fun e => hne (by rw [hv]; exact e)))
      have HROW1 := Lib.hid hrow1
      have HG1 := Lib.hid (HG.out.trans hg1)
      have HPK1 := Lib.hid hpk1
      have hs1 := HG1.out.size
      have hmp : (outs l t n m).map (Value.int .i64) ++ [val l t m % n].map (Value.int .i64) = (outs l t n (m + 1)).map (Value.int .i64) := by rw [outs_succ, List.map_append]
      have HMP := Lib.hid hmp
      generalize val l t m % n = y at *
      have hrd : Rd (Value.int .i64) (w1.alloc (.cells #[.int .i64 y] 3)) (w1.heap.size + 1) (some ⟨w1.heap.size, 0, none⟩) 1 1 [y] := rd_one w1 y 3
      have HRD := Lib.hid hrd
      clear hrow1 hpk1 hg1 hmp hrd hne HROW HPK HG
      go_wp2_with (
        at_builtin
        refine append_rd _ rfl _ _ 264 rfl w.heap.size 3 i0 (.int .i64 0) 8 Tryz.underlying264 hi hz0 hz1 hz2 rfl _ m _ rfl (HROW1.out.alloc _) _ _ 1 1 [y] rfl HRD.out Si.one_int (m + 1) rfl _ HMP.out (by unfold maxLen; omega) (by omega) (by simp; omega) ?_
        intro A3 c3 w3 hrow3 hg3 hat3
        have HROW3 := Lib.hid hrow3
        have hpk3 : Pk w3 g (l.drop (m + 1)) (t + ((m + 1 - l.length : Nat) : Int)) := (HPK1.out.later ((Below.refl _ _).alloc (Nat.le_refl _) _)).grown hg3 (fun j hj => by have := (HROW1.out.lt j hj).1; omega)
        have hg4 : w.grownBy w3 (some g) := (HG1.out.trans (World.grownBy_alloc _ _ _)).andThen hg3 (fun j hj => .inl (HROW1.out.lt j hj).1)
        have HPK3 := Lib.hid hpk3
        have HG3 := Lib.hid hg4
        clear hrow3 hpk3 hg3 hg4 hat3)
      go_roundw
      case rel => exact ⟨m + 1, c3, A3, by omega, by go_num, rfl, HROW3.out, HPK3.out, HG3.out⟩
      case measure => simp [intOf]; omega
    · obtain rfl : m = k := by omega
      go_wp2_with fail
      go_ret
      exact ⟨_, _, rfl, HROW.out, HPK.out, HG.out⟩
end Go.Proofs.YthmdiaingolfnaaGreatDoor.Pi
namespace Go.Proofs.YthmdiaingolfnaaGreatDoor.Pi
open Go.ChangeShapes Go.WideShapes Go.ChangeAt Go.RowKit Rw
set_option linter.unusedVariables false
theorem rd_lit {w : World} {xs : List Int} {n : Nat} (hn : xs.length = n) (hs : n ≤ 9223372036854775807) (t : TypeId) {cs : Array Value} (hc : cs = (xs.map (Value.int .i64)).toArray) : Rd (Value.int .i64) (w.alloc (.cells cs t)) (w.heap.size + 1) (some ⟨w.heap.size, 0, none⟩) n n xs := by
  subst hc
  refine ⟨hn, Nat.le_refl _, hs, fun _ => ⟨w.heap.size, 0, rfl, by omega, fun j x hx => ?_⟩⟩
  simp [hx]
theorem equal_true (A A' : Option Addr) (n c m c' : Nat) (ys zs : List Int) (B B' : Nat) (w : World) (h : Rd (Value.int .i64) w B A n c ys) (h' : Rd (Value.int .i64) w B' A' m c' zs) (he : ys = zs) :
    Calls Tryz.prog 269 #[.slice A n c, .slice A' m c'] w fun e w' => e = .returned (.bool true) ∧ Below w.heap.size w w' :=
  (Si.equal_any A A' n c m c' ys zs B B' w h h').mono fun e w' ⟨h1, q, h2⟩ => ⟨by rw [h1, decide_eq_true he], h2 ▸ below_drewN (Below.refl _ _) q⟩
set_option maxRecDepth 100000 in
theorem awake8_any (w : World) :
    Calls Tryz.prog 265 #[] w fun e w' => e = .returned (.bool true) ∧ Below w.heap.size w w' := by
  go_enter Tryz.func265, Tryz.ntmps265
  go_wp2_with fail
  refine (Gd.Awake7_any _).mono ?_
  rintro e w1 ⟨rfl, hb1⟩
  go_wp2_with fail
  refine (new_any _ 2 2 [7, -1] _ _ (rd_lit (xs := [7, -1]) rfl (by simp) _ rfl) (by simp) (by intro x hx; unfold Ok; simp at hx; omega) (by omega)).mono ?_
  rintro e w2 ⟨g, rfl, hp2, hg2, hb2⟩
  have b2 : Below w.heap.size w w2 := (hb1.alloc hb1.size _).trans (hb2.mono (by have := hb1.size; simp; omega))
  have hs2 := hb2.size
  have hwg : w.heap.size ≤ g := by have := hb1.size; simp at hg2; omega
  clear hb1 hb2 hg2 hs2
  go_wp2_with fail
  refine (some_any g [7, -1] 0 3 6 (by omega) (by omega) (by omega) _ hp2 (by omega) (by omega)).mono ?_
  rintro e w3 ⟨A3, c3, rfl, hrow3, hp3, hg3⟩
  have e3 : outs [7, -1] 0 3 6 = [1, 2, 0, 1, 2, 0] := by decide
  rw [e3] at hrow3
  have b3 : Below w.heap.size w w3 := b2.grown hg3 b2.size (fun j hj => by cases hj; exact hwg)
  clear hp2 hp3 hg3 e3 b2
  go_wp2_with fail
  refine (equal_true _ _ _ _ _ _ [1, 2, 0, 1, 2, 0] [1, 2, 0, 1, 2, 0] _ _ _ ((Rd.own_rd hrow3).alloc (Nat.le_refl _) _) (rd_lit (xs := [1, 2, 0, 1, 2, 0]) rfl (by simp) _ rfl) rfl).mono ?_
  rintro e w4 ⟨rfl, hb4⟩
  go_wp2_with fail
  go_ret
  refine ⟨rfl, (b3.alloc b3.size _).trans (hb4.mono (by have := b3.size; simp; omega))⟩
theorem Awake8_any (w : World) :
    Calls Tryz.prog 262 #[] w fun e w' => e = .returned (.bool true) ∧ Below w.heap.size w w' := by
  go_enter Tryz.func262, Tryz.ntmps262
  go_wp2_with fail
  refine (awake8_any _).mono ?_
  rintro e w' ⟨rfl, hb⟩
  go_wp2_with fail
  go_ret
  exact ⟨rfl, hb⟩
end Go.Proofs.YthmdiaingolfnaaGreatDoor.Pi
namespace Go.Proofs.YthmdiaingolfnaaGreatDoor.Tx
open Go.ChangeShapes Go.WideShapes Go.ChangeAt Go.RowKit Rw Go.Shelf Go.Sort
set_option linter.unusedVariables false
def txF (k : Nat) : Nat := if k = 129 then 192 else if k = 171 then 164 else if k = 243 then 173 else if k = 246 then 193 else if k = 283 then 194 else if k = 284 then 195 else if k = 285 then 196 else if k = 286 then 197 else if k = 317 then 209 else if k = 318 then 210 else if k = 319 then 211 else if k = 320 then 212 else if k = 337 then 220 else if k = 338 then 221 else if k = 156 then 168 else if k = 165 then 177 else if k = 166 then 178 else if k = 169 then 179 else if k = 240 then 200 else if k = 241 then 201 else if k = 276 then 216 else if k = 277 then 217 else 0
def txT (k : Nat) : Nat := if k = 0 then 0 else if k = 2 then 2 else if k = 3 then 3 else if k = 4 then 4 else if k = 5 then 5 else if k = 9 then 9 else if k = 20 then 20 else if k = 37 then 79 else if k = 46 then 173 else if k = 51 then 286 else if k = 53 then 22 else if k = 171 then 288 else if k = 173 then 290 else if k = 212 then 299 else if k = 213 then 300 else if k = 232 then 315 else if k = 233 then 324 else if k = 31 then 261 else if k = 70 then 267 else if k = 72 then 269 else if k = 75 then 272 else if k = 76 then 273 else if k = 127 then 292 else if k = 164 then 305 else if k = 80 then 275 else 0
def txG (k : Nat) : Nat := if k = 17 then 2 else if k = 18 then 5 else if k = 19 then 6 else 0
def txRen : Ren := { f := txF, t := txT, g := txG }
theorem txItoa : LaysM.n171 Tryz.prog txRen := {
  mixed := by kernel_rfl
  f129 := by kernel_rfl
  f171 := by kernel_rfl
  f243 := by kernel_rfl
  f246 := by kernel_rfl
  f283 := by kernel_rfl
  f284 := by kernel_rfl
  f285 := by kernel_rfl
  f286 := by kernel_rfl
  f317 := by kernel_rfl
  f318 := by kernel_rfl
  f319 := by kernel_rfl
  f320 := by kernel_rfl
  f337 := by kernel_rfl
  f338 := by kernel_rfl
  t0 := by kernel_rfl
  a0 := fun w => by kernel_rfl
  z0 := fun w => by kernel_rfl
  v0 := fun w => by kernel_rfl
  t2 := by kernel_rfl
  a2 := fun w => by kernel_rfl
  z2 := fun w => by kernel_rfl
  v2 := fun w => by kernel_rfl
  t3 := by kernel_rfl
  a3 := fun w => by kernel_rfl
  z3 := fun w => by kernel_rfl
  v3 := fun w => by kernel_rfl
  t4 := by kernel_rfl
  a4 := fun w => by kernel_rfl
  z4 := fun w => by kernel_rfl
  v4 := fun w => by kernel_rfl
  t5 := by kernel_rfl
  a5 := fun w => by kernel_rfl
  z5 := fun w => by kernel_rfl
  v5 := fun w => by kernel_rfl
  t9 := by kernel_rfl
  a9 := fun w => by kernel_rfl
  z9 := fun w => by kernel_rfl
  v9 := fun w => by kernel_rfl
  t20 := by kernel_rfl
  a20 := fun w => by kernel_rfl
  z20 := fun w => by kernel_rfl
  v20 := fun w => by kernel_rfl
  t37 := by kernel_rfl
  a37 := fun w => by kernel_rfl
  z37 := fun w => by kernel_rfl
  v37 := fun w => by kernel_rfl
  t46 := by kernel_rfl
  a46 := fun w => by kernel_rfl
  z46 := fun w => by kernel_rfl
  v46 := fun w => by kernel_rfl
  t51 := by kernel_rfl
  a51 := fun w => by kernel_rfl
  z51 := fun w => by kernel_rfl
  v51 := fun w => by kernel_rfl
  t53 := by kernel_rfl
  a53 := fun w => by kernel_rfl
  z53 := fun w => by kernel_rfl
  v53 := fun w => by kernel_rfl
  t171 := by kernel_rfl
  a171 := fun w => by kernel_rfl
  z171 := fun w => by kernel_rfl
  v171 := fun w => by kernel_rfl
  t173 := by kernel_rfl
  a173 := fun w => by kernel_rfl
  z173 := fun w => by kernel_rfl
  v173 := fun w => by kernel_rfl
  t212 := by kernel_rfl
  a212 := fun w => by kernel_rfl
  z212 := fun w => by kernel_rfl
  v212 := fun w => by kernel_rfl
  t213 := by kernel_rfl
  a213 := fun w => by kernel_rfl
  z213 := fun w => by kernel_rfl
  t232 := by kernel_rfl
  a232 := fun w => by kernel_rfl
  z232 := fun w => by kernel_rfl
  v232 := fun w => by kernel_rfl
  t233 := by kernel_rfl
  a233 := fun w => by kernel_rfl
  z233 := fun w => by kernel_rfl
  v233 := fun w => by kernel_rfl
  g17 := by kernel_rfl
  g18 := by kernel_rfl
  g19 := by kernel_rfl
  i0 := by kernel_rfl
  i2 := by kernel_rfl
  i3 := by kernel_rfl
  i4 := by kernel_rfl
  i5 := by kernel_rfl
  i9 := by kernel_rfl
  i20 := by kernel_rfl
  i37 := by kernel_rfl
  i46 := by kernel_rfl
  i51 := by kernel_rfl
  i53 := by kernel_rfl
  i171 := by kernel_rfl
  i173 := by kernel_rfl
  i212 := by kernel_rfl
  i232 := by kernel_rfl
  i233 := by kernel_rfl
  m17 := by kernel_rfl
  m18 := by kernel_rfl
  m19 := by kernel_rfl }
theorem txJoin : Lays.n156 Tryz.prog txRen := {
  mixed := by kernel_rfl
  f156 := by kernel_rfl
  f165 := by kernel_rfl
  f166 := by kernel_rfl
  f169 := by kernel_rfl
  f240 := by kernel_rfl
  f241 := by kernel_rfl
  f276 := by kernel_rfl
  f277 := by kernel_rfl
  t0 := by kernel_rfl
  a0 := fun w => by kernel_rfl
  z0 := fun w => by kernel_rfl
  v0 := fun w => by kernel_rfl
  t3 := by kernel_rfl
  a3 := fun w => by kernel_rfl
  z3 := fun w => by kernel_rfl
  v3 := fun w => by kernel_rfl
  t4 := by kernel_rfl
  a4 := fun w => by kernel_rfl
  z4 := fun w => by kernel_rfl
  v4 := fun w => by kernel_rfl
  t9 := by kernel_rfl
  a9 := fun w => by kernel_rfl
  z9 := fun w => by kernel_rfl
  v9 := fun w => by kernel_rfl
  t20 := by kernel_rfl
  a20 := fun w => by kernel_rfl
  z20 := fun w => by kernel_rfl
  v20 := fun w => by kernel_rfl
  t31 := by kernel_rfl
  a31 := fun w => by kernel_rfl
  z31 := fun w => by kernel_rfl
  v31 := fun w => by kernel_rfl
  t37 := by kernel_rfl
  a37 := fun w => by kernel_rfl
  z37 := fun w => by kernel_rfl
  v37 := fun w => by kernel_rfl
  t70 := by kernel_rfl
  a70 := fun w => by kernel_rfl
  z70 := fun w => by kernel_rfl
  v70 := fun w => by kernel_rfl
  t72 := by kernel_rfl
  a72 := fun w => by kernel_rfl
  z72 := fun w => by kernel_rfl
  v72 := fun w => by kernel_rfl
  t75 := by kernel_rfl
  a75 := fun w => by kernel_rfl
  z75 := fun w => by kernel_rfl
  v75 := fun w => by kernel_rfl
  t76 := by kernel_rfl
  a76 := fun w => by kernel_rfl
  z76 := fun w => by kernel_rfl
  v76 := fun w => by kernel_rfl
  t127 := by kernel_rfl
  a127 := fun w => by kernel_rfl
  z127 := fun w => by kernel_rfl
  v127 := fun w => by kernel_rfl
  t164 := by kernel_rfl
  a164 := fun w => by kernel_rfl
  z164 := fun w => by kernel_rfl
  v164 := fun w => by kernel_rfl }
theorem txExtra : Builder.Extra Tryz.prog txRen := {
  sizeBuilder := by kernel_rfl
  liesBuilder := by kernel_rfl
  t5 := by kernel_rfl
  a5 := fun w => by kernel_rfl
  z5 := fun w => by kernel_rfl
  v5 := fun w => by kernel_rfl
  infoByte := by kernel_rfl
  cellsByte := by kernel_rfl
  sizeByte := by kernel_rfl
  neB5 := by decide +kernel }
end Go.Proofs.YthmdiaingolfnaaGreatDoor.Tx
namespace Go.Proofs.YthmdiaingolfnaaGreatDoor.Tx
open Go.ChangeShapes Go.WideShapes Go.ChangeAt Go.RowKit Rw Go.Shelf Go.Sort
set_option linter.unusedVariables false
def Tab (w : World) : Prop := Lib.TabIs Tryz.prog w "internal/strconv.uint64pow10" .u64 Lib.pow10Tab
theorem Tab.below {w w' : World} (h : Tab w) (hb : Below w.heap.size w w') : Tab w' := by
  unfold Tab Lib.TabIs World.var? at *
  cases hg : Tryz.prog.globalNamed "internal/strconv.uint64pow10" with
  | none => simp [hg] at h
  | some g =>
    simp only [hg, Option.bind_some] at h ⊢
    have hlt : g < w.heap.size := by
      rcases Nat.lt_or_ge g w.heap.size with h' | h'
      · exact h'
      · rw [Array.getElem?_eq_none h'] at h; simp at h
    rw [hb.block g hlt]
    exact h
theorem below_grow (w : World) (k : Nat) (os : Array Obj) : Below w.heap.size w (grow (w.drewN k) os) :=
  ⟨rfl, rfl, rfl, by simp, fun j hj => heap_grow_old (w.drewN k) os hj⟩
def bts (l : List UInt8) : ByteArray := ⟨l.toArray⟩
theorem itoa_any (n : Int) (h0 : -9223372036854775808 ≤ n) (h1 : n ≤ 9223372036854775807) (w : World) (hT : Tab w) :
    Calls Tryz.prog 164 #[.int .i64 n] w fun e w' => e = .returned (.string (bts (Lib.itoa n))) ∧ Below w.heap.size w w' :=
  (Any.strconv_Itoa txItoa n h0 h1 w hT).mono fun e w' ⟨h, k, os, hw⟩ => ⟨h, hw ▸ below_grow w k os⟩
set_option maxHeartbeats 4000000 in
set_option maxRecDepth 100000 in
theorem fu_any (u : Nat) (hu64 : u < 18446744073709551616) (w : World) (hT : Tab w) :
    Calls Tryz.prog 174 #[.int .u64 u, .int .i64 10] w fun e w' => e = .returned (.string (bts (Lib.itoa u))) ∧ Below w.heap.size w w' := by
  by_cases hs : u < 100
  · have hd : decide ((u : Int) < 100) = true := decide_eq_true (by omega)
    go_enter Tryz.func174, Tryz.ntmps174
    go_wp2_with fail
    refine (Any.internal_strconv_small (P := Tryz.prog) (ρ := txRen) { txItoa with } u hs _).mono ?_
    rintro e w' ⟨rfl, rfl⟩
    go_wp2_with fail
    go_ret
    exact ⟨by rw [Lib.itoa_nonneg]; rfl, Below.refl _ _⟩
  · have hu1 : 1 ≤ u := by omega
    have hd : decide ((u : Int) < 100) = false := decide_eq_false (by omega)
    have hnd20 : Lib.nDigits u ≤ 20 := by have := Lib.numDigits_eq u hu1 hu64; split at this <;> omega
    have hb3 : Lib.nDigits u ≤ 24 := by omega
    have hal : Tryz.prog.arrayLen 288 = 24 := by kernel_rfl
    have hsl : ∀ W, (Instr.sliceAt 288 (.pointer (some ⟨w.heap.size, 0, none⟩)) none (some (.int .i64 (Lib.nDigits u : Int))) none).run Tryz.prog W = .ok (.slice (some ⟨w.heap.size, 0, none⟩) (Lib.nDigits u) 24) W := fun W => by
      rw [run_sliceAt_array_h W 288 ⟨w.heap.size, 0, none⟩ (by simp [Program.arrayLen, Program.elem, Tryz.underlying288]) .i64 (Lib.nDigits u : Int) (by omega) (by rw [hal]; omega)]
      go_simp
    have hH0 : Holds (fun (b : UInt8) => Value.int .u8 (b.toNat : Int)) (w.alloc (.cells Lib.zeros24 288)) w.heap.size 0 (Array.replicate (Lib.nDigits u) (0 : UInt8)) := fun j hj => by
      have hj' : j < Lib.nDigits u := by simpa using hj
      refine ⟨?_, World.frozen?_alloc_new _ _ _ _⟩
      rw [World.cell?_alloc_new, Nat.zero_add, Lib.zeros24_at j (by omega), getElem!_pos _ j hj]
      simp
    have hfmt := Any.internal_strconv_formatBase10 (P := Tryz.prog) (ρ := txRen) { txItoa with } w.heap.size 0 24 u (Array.replicate (Lib.nDigits u) 0) (w.alloc (.cells Lib.zeros24 288)) hH0 (by rw [Array.size_replicate]; exact Lib.lt_pow_nDigits u) hu64 (by rw [Array.size_replicate]; omega)
    rw [Array.size_replicate] at hfmt
    have HH0 := Lib.hid hH0
    clear hH0 hal
    go_enter Tryz.func174, Tryz.ntmps174
    go_wp2_with fail
    refine (Any.internal_strconv_numDigits (P := Tryz.prog) (ρ := txRen) { txItoa with } u hu1 hu64 _ (Lib.tabIs_alloc hT _)).mono ?_
    rintro e w' ⟨rfl, rfl⟩
    go_wp2_with fail
    refine hfmt.mono ?_
    rintro e w' ⟨rfl, k, v', dk, rfl, hF⟩
    have hcv : (convert 79 9 (.slice (some ⟨w.heap.size, 0, none⟩) (Lib.nDigits u) 24)).run Tryz.prog ((putRow (fun (b : UInt8) => Value.int .u8 (b.toNat : Int)) (w.alloc (.cells Lib.zeros24 288)) w.heap.size 0 dk).drewN k) = .ok (.string ⟨(Lib.decDigits u).toArray⟩) ((putRow (fun (b : UInt8) => Value.int .u8 (b.toNat : Int)) (w.alloc (.cells Lib.zeros24 288)) w.heap.size 0 dk).drewN k) := by
      have h := run_convert_bytes_back (P := Tryz.prog) ((putRow (fun (b : UInt8) => Value.int .u8 (b.toNat : Int)) (w.alloc (.cells Lib.zeros24 288)) w.heap.size 0 dk).drewN k) 79 9 5 ⟨w.heap.size, 0, none⟩ 24 (Lib.decDigits u) Tryz.underlying79 Tryz.underlying5 Tryz.underlying9 (fun j hj => by
        rw [Lib.row_is_numeral hF j hj, Lib.add_plain, World.cell?_drewN]
        exact cell?_putRow (fun (b : UInt8) => Value.int .u8 (b.toNat : Int)) _ w.heap.size 0 _ dk HH0.out (by rw [hF.size, Array.size_replicate]) j (by rw [hF.size]; rw [Lib.decDigits_length] at hj; exact hj))
      rw [Lib.decDigits_length] at h
      exact h
    go_wp2
    go_ret
    refine ⟨by rw [Lib.itoa_nonneg]; rfl, ?_⟩
    obtain ⟨os', _, e⟩ := putRow_grow_new (fun (b : UInt8) => Value.int .u8 (b.toNat : Int)) w #[.cells Lib.zeros24 288] w.heap.size 0 dk (Nat.le_refl _)
    rw [alloc_eq_grow, e]
    exact below_grow w k os'
theorem funit_any (n : Int) (h0 : 0 ≤ n) (h1 : n ≤ 18446744073709551615) (w : World) (hT : Tab w) :
    Calls Tryz.prog 165 #[.int .u64 n, .int .i64 10] w fun e w' => e = .returned (.string (bts (Lib.itoa n))) ∧ Below w.heap.size w w' := by
  obtain ⟨u, rfl⟩ : ∃ u : Nat, n = u := ⟨n.toNat, by omega⟩
  have hu : u < 18446744073709551616 := by omega
  go_enter Tryz.func165, Tryz.ntmps165
  go_wp2_with fail
  refine (fu_any u hu _ hT).mono ?_
  rintro e w' ⟨rfl, hb⟩
  go_wp2_with fail
  go_ret
  exact ⟨rfl, hb⟩
def pickw (n : Int) (ws : List ByteArray) : ByteArray := if n < 0 then bts [63] else ws.getD n.toNat (bts [63])
theorem named_any (n : Int) (A : Option Addr) (m c : Nat) (ws : List ByteArray) (B : Nat) (w : World) (h : Rd Value.string w B A m c ws) :
    Calls Tryz.prog 267 #[.int .i64 n, .slice A m c] w fun e w' => e = .returned (.string (pickw n ws)) ∧ w = w' := by
  have hl := h.len
  by_cases h0 : n < 0
  · have hd : decide (n < 0) = true := decide_eq_true h0
    have hp : pickw n ws = bts [63] := by unfold pickw; rw [if_pos h0]
    rw [hp]
    have HP := Lib.hid h
    clear h hl hp
    go_enter Tryz.func267, Tryz.ntmps267
    go_wp2_with fail
    go_ret
    exact ⟨rfl, rfl⟩
  · obtain ⟨k, rfl⟩ : ∃ k : Nat, n = k := ⟨n.toNat, by omega⟩
    have hd : decide ((k : Int) < 0) = false := decide_eq_false h0
    by_cases h1 : k < m
    · have hge : decide ((m : Int) ≤ (k : Int)) = false := decide_eq_false (by omega)
      obtain ⟨b, o, x, rfl, hb, hx, hc⟩ := h.get h1
      have hp : pickw k ws = x := by unfold pickw; rw [if_neg h0]; simp [hx]
      rw [hp]
      have HP := Lib.hid h
      clear h hl hp hx h0
      go_enter Tryz.func267, Tryz.ntmps267
      go_wp2_with fail
      go_ret
      exact ⟨rfl, rfl⟩
    · have hge : decide ((m : Int) ≤ (k : Int)) = true := decide_eq_true (by omega)
      have hp : pickw k ws = bts [63] := by unfold pickw; rw [if_neg h0]; simp [List.getElem?_eq_none (show ws.length ≤ k by omega)]
      rw [hp]
      have HP := Lib.hid h
      clear h hl hp h0
      go_enter Tryz.func267, Tryz.ntmps267
      go_wp2_with fail
      go_ret
      exact ⟨rfl, rfl⟩
theorem line_any (A : Option Addr) (m c : Nat) (ws : List ByteArray) (w : World) (h : Rd Value.string w w.heap.size A m c ws) (hm : 0 < m)
    (hlen : (Lib.join (ws.map (·.data.toList)) [32]).length ≤ 140737488355328) (hm2 : m ≤ 100) :
    Calls Tryz.prog 266 #[.slice A m c] w fun e w' => e = .returned (.string (bts (Lib.join (ws.map (·.data.toList)) [32]))) ∧ Below w.heap.size w w' := by
  obtain ⟨b, o, rfl, hb, hc⟩ := h.at_ hm
  have hl := h.len
  have hcap := h.cap
  have J := Any.strings_Join (P := Tryz.prog) (ρ := txRen) txJoin txExtra b o c ws (bts [32]) w hc hb (by omega) (by omega) hlen
  rw [hl] at J
  have HJ := Lib.hid J
  clear J h hc hl hlen
  go_enter Tryz.func266, Tryz.ntmps266
  go_wp2_with fail
  refine HJ.out.mono ?_
  rintro e w' ⟨rfl, hb'⟩
  go_wp2_with fail
  go_ret
  exact ⟨rfl, hb'⟩
end Go.Proofs.YthmdiaingolfnaaGreatDoor.Tx
namespace Go.Proofs.YthmdiaingolfnaaGreatDoor.Tx
open Go.ChangeShapes Go.WideShapes Go.ChangeAt Go.RowKit Rw Go.Shelf Go.Sort
set_option linter.unusedVariables false
structure Ev where
  step : Int
  thread : Int
  kind : Int
  op : Int
  id : Int
  err : Int
deriving DecidableEq
def encE (e : Ev) : List Value := [.int .u64 e.step, .int .i64 e.thread, .int .i64 e.kind, .int .i64 e.op, .int .u64 e.id, .int .i64 e.err]
def Ev.val (e : Ev) : Value := .agg #[.int .u64 e.step, .int .i64 e.thread, .int .i64 e.kind, .int .i64 e.op, .int .u64 e.id, .int .i64 e.err]
def I64 (x : Int) : Prop := -9223372036854775808 ≤ x ∧ x ≤ 9223372036854775807
def U64 (x : Int) : Prop := 0 ≤ x ∧ x ≤ 18446744073709551615
structure Ev.ok (e : Ev) : Prop where
  step : U64 e.step
  thread : I64 e.thread
  kind : I64 e.kind
  op : I64 e.op
  id : U64 e.id
  err : I64 e.err
def kws : List ByteArray := [bts [99, 97, 108, 108], bts [112, 111, 105, 110, 116], bts [97, 110, 115, 119, 101, 114], bts [114, 101, 116, 105, 114, 101]]
def ows : List ByteArray := [bts [103, 101, 116], bts [112, 117, 116], bts [101, 118, 105, 99, 116], bts [99, 108, 111, 115, 101], bts [104, 111, 117, 115, 101]]
def six (e : Ev) : List ByteArray := [bts (Lib.itoa e.step), bts (Lib.itoa e.thread), pickw e.kind kws, pickw e.op ows, bts (Lib.itoa e.id), bts (Lib.itoa e.err)]
def txt (e : Ev) : ByteArray := bts (Lib.join ((six e).map (·.data.toList)) [32])
theorem itoa_le (n : Int) (h0 : -9223372036854775808 ≤ n) (h1 : n ≤ 18446744073709551615) : (Lib.itoa n).length ≤ 21 := by
  have key : ∀ u : Nat, u < 18446744073709551616 → Lib.nDigits u ≤ 20 := by
    intro u hu
    rcases Nat.eq_zero_or_pos u with rfl | h
    · rw [← Lib.decDigits_length]; simp [Lib.decDigits]
    · have := Lib.numDigits_eq u h hu
      split at this <;> omega
  by_cases hneg : n < 0
  · obtain ⟨u, rfl⟩ : ∃ u : Nat, n = -(u : Int) := ⟨n.natAbs, by omega⟩
    rw [Lib.itoa_neg u (by omega), List.length_cons, Lib.decDigits_length]
    have := key u (by omega)
    omega
  · obtain ⟨u, rfl⟩ : ∃ u : Nat, n = u := ⟨n.toNat, by omega⟩
    rw [Lib.itoa_nonneg, Lib.decDigits_length]
    have := key u (by omega)
    omega
theorem pickw_le (n : Int) (ws : List ByteArray) (h : ∀ x ∈ ws, x.data.toList.length ≤ 10) : (pickw n ws).data.toList.length ≤ 10 := by
  unfold pickw
  split
  · decide
  · rw [List.getD_eq_getElem?_getD]
    cases hx : ws[n.toNat]? with
    | none => decide
    | some x => exact h x (List.mem_of_getElem? hx)
theorem txt_le (e : Ev) (h : e.ok) : (Lib.join ((six e).map (·.data.toList)) [32]).length ≤ 140737488355328 := by
  have h1 := itoa_le e.step (by have := h.step.1; omega) h.step.2
  have h2 := itoa_le e.thread h.thread.1 (by have := h.thread.2; omega)
  have h3 := itoa_le e.id (by have := h.id.1; omega) h.id.2
  have h4 := itoa_le e.err h.err.1 (by have := h.err.2; omega)
  have h5 := pickw_le e.kind kws (by decide)
  have h6 := pickw_le e.op ows (by decide)
  simp only [six, List.map_cons, List.map_nil, Lib.join_cons, Lib.joinTail, List.flatten_cons, List.flatten_nil, List.length_append, List.length_cons, List.length_nil, bts] at *
  omega
def Six (g : Nat) (e : Ev) (w : World) : Prop :=
  w.cell? ⟨g, 0, none⟩ = some (.int .u64 e.step) ∧ w.cell? ⟨g, 1, none⟩ = some (.int .i64 e.thread) ∧ w.cell? ⟨g, 2, none⟩ = some (.int .i64 e.kind) ∧
  w.cell? ⟨g, 3, none⟩ = some (.int .i64 e.op) ∧ w.cell? ⟨g, 4, none⟩ = some (.int .u64 e.id) ∧ w.cell? ⟨g, 5, none⟩ = some (.int .i64 e.err)
theorem Six.below {g : Nat} {e : Ev} {w w' : World} (h : Six g e w) (hb : Below w.heap.size w w') : Six g e w' :=
  ⟨(hb.cell (p := ⟨g, 0, none⟩) (Lw.lt_heap h.1)).trans h.1, (hb.cell (p := ⟨g, 1, none⟩) (Lw.lt_heap h.2.1)).trans h.2.1, (hb.cell (p := ⟨g, 2, none⟩) (Lw.lt_heap h.2.2.1)).trans h.2.2.1,
   (hb.cell (p := ⟨g, 3, none⟩) (Lw.lt_heap h.2.2.2.1)).trans h.2.2.2.1, (hb.cell (p := ⟨g, 4, none⟩) (Lw.lt_heap h.2.2.2.2.1)).trans h.2.2.2.2.1, (hb.cell (p := ⟨g, 5, none⟩) (Lw.lt_heap h.2.2.2.2.2)).trans h.2.2.2.2.2⟩
theorem rd_strs {w : World} {xs : List ByteArray} {n : Nat} (hn : xs.length = n) (hs : n ≤ 9223372036854775807) (t : TypeId) {cs : Array Value} (hc : cs = (xs.map Value.string).toArray) : Rd Value.string (w.alloc (.cells cs t)) (w.heap.size + 1) (some ⟨w.heap.size, 0, none⟩) n n xs := by
  subst hc
  refine ⟨hn, Nat.le_refl _, hs, fun _ => ⟨w.heap.size, 0, rfl, by omega, fun j x hx => ?_⟩⟩
  simp [hx]
def tT (e : Ev) : Nat → Value → World → Prop
  | 2, v, _ => v = .string (bts (Lib.itoa e.step))
  | 5, v, _ => v = .string (bts (Lib.itoa e.thread))
  | 8, v, w => ∃ A c, v = .slice A 4 c ∧ Rd Value.string w w.heap.size A 4 c kws
  | 9, v, _ => v = .string (pickw e.kind kws)
  | 12, v, w => ∃ A c, v = .slice A 5 c ∧ Rd Value.string w w.heap.size A 5 c ows
  | 13, v, _ => v = .string (pickw e.op ows)
  | 16, v, _ => v = .string (bts (Lib.itoa e.id))
  | 19, v, _ => v = .string (bts (Lib.itoa e.err))
  | 20, v, w => ∃ A c, v = .slice A 6 c ∧ Rd Value.string w w.heap.size A 6 c (six e)
  | 21, v, _ => v = .string (txt e)
  | 22, v, _ => v = .string (txt e)
  | _, _, _ => True
theorem tT_mono (e : Ev) (i : Nat) (v : Value) (w w' : World) (h : tT e i v w) (hb : Below w.heap.size w w') : tT e i v w' := by
  unfold tT at *
  split at h
  all_goals first
    | exact h
    | (obtain ⟨A, c, e1, e2⟩ := h; exact ⟨A, c, e1, e2.later hb⟩)
set_option maxHeartbeats 4000000 in
set_option maxRecDepth 100000 in
theorem text_any (e : Ev) (h : e.ok) (w : World) (hT : Tab w) :
    Calls Tryz.prog 263 #[e.val] w fun x w' => x = .returned (.string (txt e)) ∧ Below w.heap.size w w' := by
  have HK := Lib.hid h
  have HT := Lib.hid hT
  clear h hT
  unfold Ev.val
  go_enter Tryz.func263, Tryz.ntmps263
  go_wp2_with fail
  have d0 : Six w.heap.size e ((w.alloc (.cells #[.int .u64 e.step, .int .i64 e.thread, .int .i64 e.kind, .int .i64 e.op, .int .u64 e.id, .int .i64 e.err] 193)).drew) := by
    refine ⟨?_, ?_, ?_, ?_, ?_, ?_⟩ <;> simp
  have b0 : Below w.heap.size w (w.alloc (.cells #[.int .u64 e.step, .int .i64 e.thread, .int .i64 e.kind, .int .i64 e.op, .int .u64 e.id, .int .i64 e.err] 193)).drew := ((Below.refl _ _).alloc (Nat.le_refl _) _).drew
  refine reg_start 23 (Six w.heap.size e) (by kernel_rfl) (by kernel_rfl) ?_
  intro hA
  generalize (w.alloc (.cells #[.int .u64 e.step, .int .i64 e.thread, .int .i64 e.kind, .int .i64 e.op, .int .u64 e.id, .int .i64 e.err] 193)).drew = W at *
  have HA := Lib.hid hA
  clear hA
  refine reg_load 0 HA.out rfl (by kernel_rfl) (by decide) (fun _ _ _ _ h => h) d0 rfl ?_
  apply Exists.intro
  refine ⟨fun w' hw => by (obtain ⟨h0, h1, h2, h3, h4, h5⟩ := hw; go_simp; exact rfl), ?_⟩
  refine reg_load 1 HA.out rfl (by kernel_rfl) (by decide) (fun _ _ _ _ h => h) d0 rfl ?_
  apply Exists.intro
  refine ⟨fun w' hw => by (obtain ⟨h0, h1, h2, h3, h4, h5⟩ := hw; go_simp; exact rfl), ?_⟩
  refine reg_load 3 HA.out rfl (by kernel_rfl) (by decide) (fun _ _ _ _ h => h) d0 rfl ?_
  apply Exists.intro
  refine ⟨fun w' hw => by (obtain ⟨h0, h1, h2, h3, h4, h5⟩ := hw; go_simp; exact rfl), ?_⟩
  refine reg_load 4 HA.out rfl (by kernel_rfl) (by decide) (fun _ _ _ _ h => h) d0 rfl ?_
  apply Exists.intro
  refine ⟨fun w' hw => by (obtain ⟨h0, h1, h2, h3, h4, h5⟩ := hw; go_simp; exact rfl), ?_⟩
  refine reg_load 6 HA.out rfl (by kernel_rfl) (by decide) (fun _ _ _ _ h => h) d0 rfl ?_
  apply Exists.intro
  refine ⟨fun w' hw => by (obtain ⟨h0, h1, h2, h3, h4, h5⟩ := hw; go_simp; exact rfl), ?_⟩
  refine reg_load 7 HA.out rfl (by kernel_rfl) (by decide) (fun _ _ _ _ h => h) d0 rfl ?_
  apply Exists.intro
  refine ⟨fun w' hw => by (obtain ⟨h0, h1, h2, h3, h4, h5⟩ := hw; go_simp; exact rfl), ?_⟩
  refine reg_load 10 HA.out rfl (by kernel_rfl) (by decide) (fun _ _ _ _ h => h) d0 rfl ?_
  apply Exists.intro
  refine ⟨fun w' hw => by (obtain ⟨h0, h1, h2, h3, h4, h5⟩ := hw; go_simp; exact rfl), ?_⟩
  refine reg_load 11 HA.out rfl (by kernel_rfl) (by decide) (fun _ _ _ _ h => h) d0 rfl ?_
  apply Exists.intro
  refine ⟨fun w' hw => by (obtain ⟨h0, h1, h2, h3, h4, h5⟩ := hw; go_simp; exact rfl), ?_⟩
  refine reg_load 14 HA.out rfl (by kernel_rfl) (by decide) (fun _ _ _ _ h => h) d0 rfl ?_
  apply Exists.intro
  refine ⟨fun w' hw => by (obtain ⟨h0, h1, h2, h3, h4, h5⟩ := hw; go_simp; exact rfl), ?_⟩
  refine reg_load 15 HA.out rfl (by kernel_rfl) (by decide) (fun _ _ _ _ h => h) d0 rfl ?_
  apply Exists.intro
  refine ⟨fun w' hw => by (obtain ⟨h0, h1, h2, h3, h4, h5⟩ := hw; go_simp; exact rfl), ?_⟩
  refine reg_load 17 HA.out rfl (by kernel_rfl) (by decide) (fun _ _ _ _ h => h) d0 rfl ?_
  apply Exists.intro
  refine ⟨fun w' hw => by (obtain ⟨h0, h1, h2, h3, h4, h5⟩ := hw; go_simp; exact rfl), ?_⟩
  refine reg_load 18 HA.out rfl (by kernel_rfl) (by decide) (fun _ _ _ _ h => h) d0 rfl ?_
  apply Exists.intro
  refine ⟨fun w' hw => by (obtain ⟨h0, h1, h2, h3, h4, h5⟩ := hw; go_simp; exact rfl), ?_⟩
  refine reg_stable [2, 5, 8, 9, 12, 13, 16, 19, 20, 21, 22] (fun w w' => Below w.heap.size w w') (tT e) ?_ ?_ ?_ ?_ ?_ ?_ ?_ (fun _ => Below.refl _ _) (fun _ _ _ h1 h2 => h1.trans (h2.mono h1.size)) (tT_mono e) (fun _ h => d0.below h) ?_ ?_
  · kernel_rfl
  · kernel_rfl
  · kernel_rfl
  · kernel_rfl
  · kernel_rfl
  · kernel_rfl
  · kernel_rfl
  · refine ⟨?_, ?_, ?_, ?_, ?_, ?_, ?_, ?_, ?_, ?_, ?_, trivial⟩
    · intro a' w' val hb hfr hd
      have e4 : a'.tmps[4]?.getD undef = .int .u64 e.step := (hfr 4 (by kernel_rfl)).trans (by kernel_rfl)
      clear hfr hd
      refine ⟨_, rfl, ?_⟩
      unfold Oper.wp
      go_simp
      refine (funit_any e.step HK.out.step.1 HK.out.step.2 w' (HT.out.below (b0.trans (hb.mono b0.size)))).mono ?_
      rintro x w2 ⟨rfl, hb2⟩
      exact ⟨_, rfl, rfl, hb2⟩
    · intro a' w' val hb hfr hd
      have e7 : a'.tmps[7]?.getD undef = .int .i64 e.thread := (hfr 7 (by kernel_rfl)).trans (by kernel_rfl)
      clear hfr hd
      refine ⟨_, rfl, ?_⟩
      unfold Oper.wp
      go_simp
      refine (itoa_any e.thread HK.out.thread.1 HK.out.thread.2 w' (HT.out.below (b0.trans (hb.mono b0.size)))).mono ?_
      rintro x w2 ⟨rfl, hb2⟩
      exact ⟨_, rfl, rfl, hb2⟩
    · intro a' w' val hb hfr hd
      clear hfr hd
      refine ⟨_, rfl, ?_⟩
      unfold Oper.wp
      go_simp
      refine ⟨_, rfl, ⟨_, _, rfl, ?_⟩, (Below.refl _ _).alloc (Nat.le_refl _) _⟩
      exact (rd_strs (xs := kws) rfl (by simp [kws]) _ rfl).more (by simp)
    · intro a' w' val hb hfr hd
      have e10 : a'.tmps[10]?.getD undef = .int .i64 e.kind := (hfr 10 (by kernel_rfl)).trans (by kernel_rfl)
      obtain ⟨q8, s8⟩ := hd 8 (by decide) (by kernel_rfl)
      have e11 := s8 11 (by kernel_rfl)
      clear hfr hd
      obtain ⟨A, c, hv, hr⟩ : ∃ A c, val 8 = .slice A 4 c ∧ Rd Value.string w' w'.heap.size A 4 c kws := q8
      rw [hv] at e11
      refine ⟨_, rfl, ?_⟩
      unfold Oper.wp
      go_simp
      refine (named_any e.kind A 4 c kws _ w' hr).mono ?_
      rintro x w2 ⟨rfl, rfl⟩
      exact ⟨_, rfl, rfl, Below.refl _ _⟩
    · intro a' w' val hb hfr hd
      clear hfr hd
      refine ⟨_, rfl, ?_⟩
      unfold Oper.wp
      go_simp
      refine ⟨_, rfl, ⟨_, _, rfl, ?_⟩, (Below.refl _ _).alloc (Nat.le_refl _) _⟩
      exact (rd_strs (xs := ows) rfl (by simp [ows]) _ rfl).more (by simp)
    · intro a' w' val hb hfr hd
      have e14 : a'.tmps[14]?.getD undef = .int .i64 e.op := (hfr 14 (by kernel_rfl)).trans (by kernel_rfl)
      obtain ⟨q12, s12⟩ := hd 12 (by decide) (by kernel_rfl)
      have e15 := s12 15 (by kernel_rfl)
      clear hfr hd
      obtain ⟨A, c, hv, hr⟩ : ∃ A c, val 12 = .slice A 5 c ∧ Rd Value.string w' w'.heap.size A 5 c ows := q12
      rw [hv] at e15
      refine ⟨_, rfl, ?_⟩
      unfold Oper.wp
      go_simp
      refine (named_any e.op A 5 c ows _ w' hr).mono ?_
      rintro x w2 ⟨rfl, rfl⟩
      exact ⟨_, rfl, rfl, Below.refl _ _⟩
    · intro a' w' val hb hfr hd
      have e18 : a'.tmps[18]?.getD undef = .int .u64 e.id := (hfr 18 (by kernel_rfl)).trans (by kernel_rfl)
      clear hfr hd
      refine ⟨_, rfl, ?_⟩
      unfold Oper.wp
      go_simp
      refine (funit_any e.id HK.out.id.1 HK.out.id.2 w' (HT.out.below (b0.trans (hb.mono b0.size)))).mono ?_
      rintro x w2 ⟨rfl, hb2⟩
      exact ⟨_, rfl, rfl, hb2⟩
    · intro a' w' val hb hfr hd
      have e21 : a'.tmps[21]?.getD undef = .int .i64 e.err := (hfr 21 (by kernel_rfl)).trans (by kernel_rfl)
      clear hfr hd
      refine ⟨_, rfl, ?_⟩
      unfold Oper.wp
      go_simp
      refine (itoa_any e.err HK.out.err.1 HK.out.err.2 w' (HT.out.below (b0.trans (hb.mono b0.size)))).mono ?_
      rintro x w2 ⟨rfl, hb2⟩
      exact ⟨_, rfl, rfl, hb2⟩
    · intro a' w' val hb hfr hd
      obtain ⟨q2, s2⟩ := hd 2 (by decide) (by kernel_rfl)
      have e5 := s2 5 (by kernel_rfl)
      obtain ⟨q5, s5⟩ := hd 5 (by decide) (by kernel_rfl)
      have e8 := s5 8 (by kernel_rfl)
      obtain ⟨q9, s9⟩ := hd 9 (by decide) (by kernel_rfl)
      have e12 := s9 12 (by kernel_rfl)
      obtain ⟨q13, s13⟩ := hd 13 (by decide) (by kernel_rfl)
      have e16 := s13 16 (by kernel_rfl)
      obtain ⟨q16, s16⟩ := hd 16 (by decide) (by kernel_rfl)
      have e19 := s16 19 (by kernel_rfl)
      obtain ⟨q19, s19⟩ := hd 19 (by decide) (by kernel_rfl)
      have e22 := s19 22 (by kernel_rfl)
      clear hfr hd
      rw [show val 2 = .string (bts (Lib.itoa e.step)) from q2] at e5
      rw [show val 5 = .string (bts (Lib.itoa e.thread)) from q5] at e8
      rw [show val 9 = .string (pickw e.kind kws) from q9] at e12
      rw [show val 13 = .string (pickw e.op ows) from q13] at e16
      rw [show val 16 = .string (bts (Lib.itoa e.id)) from q16] at e19
      rw [show val 19 = .string (bts (Lib.itoa e.err)) from q19] at e22
      refine ⟨_, rfl, ?_⟩
      unfold Oper.wp
      go_simp
      refine ⟨_, rfl, ⟨_, _, rfl, ?_⟩, (Below.refl _ _).alloc (Nat.le_refl _) _⟩
      exact (rd_strs (xs := six e) rfl (by simp [six]) _ rfl).more (by simp)
    · intro a' w' val hb hfr hd
      obtain ⟨q20, s20⟩ := hd 20 (by decide) (by kernel_rfl)
      have e23 := s20 23 (by kernel_rfl)
      clear hfr hd
      obtain ⟨A, c, hv, hr⟩ : ∃ A c, val 20 = .slice A 6 c ∧ Rd Value.string w' w'.heap.size A 6 c (six e) := q20
      rw [hv] at e23
      refine ⟨_, rfl, ?_⟩
      unfold Oper.wp
      go_simp
      refine (line_any A 6 c (six e) w' hr (by omega) (txt_le e HK.out) (by omega)).mono ?_
      rintro x w2 ⟨rfl, hb2⟩
      exact ⟨_, rfl, rfl, hb2⟩
    · intro a' w' val hb hfr hd
      obtain ⟨q21, s21⟩ := hd 21 (by decide) (by kernel_rfl)
      have e24 := s21 24 (by kernel_rfl)
      clear hfr hd
      rw [show val 21 = .string (txt e) from q21] at e24
      refine ⟨_, rfl, ?_⟩
      unfold Oper.wp
      go_simp
      exact ⟨_, rfl, rfl, Below.refl _ _⟩
  intro val w' hE hb
  obtain ⟨p2, p5, p8, p9, p12, p13, p16, p19, p20, p21, p22, -⟩ := hE
  have e22 : val 22 = .string (txt e) := p22
  simp only [puts, dstOf]
  go_simp
  go_wp2_with fail
  go_ret
  exact ⟨rfl, b0.trans (hb.mono b0.size)⟩
end Go.Proofs.YthmdiaingolfnaaGreatDoor.Tx
namespace Go.Proofs.YthmdiaingolfnaaGreatDoor.Hi
open Go.ChangeShapes Go.WideShapes Go.ChangeAt Go.RowKit Rw Tx
set_option linter.unusedVariables false
theorem encE_len (e : Ev) : (encE e).length = 6 := rfl
theorem encE_one (e : Ev) : ∀ u ∈ encE e, u.oneCell' = true := by
  intro u hu
  simp [encE] at hu
  rcases hu with rfl | rfl | rfl | rfl | rfl | rfl <;> rfl
theorem info_ev : (Tryz.prog.info? 193).map (fun i => (i.zero, i.size, i.bytes)) = some (some (.agg #[.int .u64 0, .int .i64 0, .int .i64 0, .int .i64 0, .int .u64 0, .int .i64 0]), 6, 48) := by kernel_rfl
structure Hs (w : World) (B p : Nat) (r : Option Nat) (s : Int) (l : List Ev) : Prop where
  step : w.cell? ⟨p, 0, none⟩ = some (.int .u64 s)
  evs : ∃ A c, w.cell? ⟨p, 1, none⟩ = some (.slice A l.length c) ∧ w.ownsRow B 193 6 (.slice A l.length c) l.length (flat encE l) ∧ (Value.slice A l.length c).ownBlock = r
  free0 : w.frozen? ⟨p, 0, none⟩ = false
  free1 : w.frozen? ⟨p, 1, none⟩ = false
  lo : B ≤ p
  ne : r ≠ some p
theorem Hs.lt {w : World} {B p : Nat} {r : Option Nat} {s : Int} {l : List Ev} (h : Hs w B p r s l) : p < w.heap.size := Lw.lt_heap h.step
theorem Hs.row {w : World} {B p : Nat} {r : Option Nat} {s : Int} {l : List Ev} (h : Hs w B p r s l) : ∀ g, r = some g → B ≤ g ∧ g < w.heap.size := by
  intro g hg
  obtain ⟨A, c, _, ho, e⟩ := h.evs
  exact ho.lt g (e.trans hg)
theorem Hs.same {w w' : World} {B p : Nat} {r : Option Nat} {s : Int} {l : List Ev} (h : Hs w B p r s l) (hp : w'.heap[p]? = w.heap[p]?) (hr : ∀ g, r = some g → w'.heap[g]? = w.heap[g]?) : Hs w' B p r s l := by
  obtain ⟨A, c, h1, h2, h3⟩ := h.evs
  have hc : ∀ o, w'.cell? ⟨p, o, none⟩ = w.cell? ⟨p, o, none⟩ := fun o => by unfold World.cell?; simp only [hp]
  have hf : ∀ o, w'.frozen? ⟨p, o, none⟩ = w.frozen? ⟨p, o, none⟩ := fun o => by unfold World.frozen?; simp only [hp]
  exact ⟨(hc 0).trans h.step, ⟨A, c, (hc 1).trans h1, own_same h2 (fun g hg => hr g (h3.symm.trans hg)), h3⟩, (hf 0).trans h.free0, (hf 1).trans h.free1, h.lo, h.ne⟩
theorem Hs.fr {w w' : World} {B p : Nat} {r a b : Option Nat} {s : Int} {l : List Ev} (h : Hs w B p r s l) (hf : Fr a b w w') (h1 : some p ≠ a) (h2 : some p ≠ b) (h3 : ∀ g, r = some g → some g ≠ a ∧ some g ≠ b) : Hs w' B p r s l :=
  h.same (hf.block p h.lt h1 h2) (fun g hg => hf.block g (h.row g hg).2 (h3 g hg).1 (h3 g hg).2)
theorem Hs.later {w w' : World} {B p : Nat} {r : Option Nat} {s : Int} {l : List Ev} (h : Hs w B p r s l) (hb : Below w.heap.size w w') : Hs w' B p r s l :=
  h.same (hb.block p h.lt) (fun g hg => hb.block g (h.row g hg).2)
theorem Hs.rs {w : World} {B p : Nat} {r : Option Nat} {s : Int} {l : List Ev} (h : Hs w B p r s l) : ∃ A c, w.cell? ⟨p, 1, none⟩ = some (.slice A l.length c) ∧ Rs encE 6 w w.heap.size A l.length c l := by
  obtain ⟨A, c, h1, h2, _⟩ := h.evs
  exact ⟨A, c, h1, Rs.own_rs encE_len rfl h2⟩
theorem new_any (w : World) (B : Nat) (hB : B ≤ w.heap.size) :
    Calls Tryz.prog 38 #[] w fun e w' => ∃ p, e = .returned (.pointer (some ⟨p, 0, none⟩)) ∧ Hs w' B p none 0 [] ∧ w.heap.size ≤ p ∧ Below w.heap.size w w' := by
  go_enter Tryz.func38, Tryz.ntmps38
  go_wp2_with fail
  go_ret
  refine ⟨w.heap.size, rfl, ⟨by go_simp, ⟨none, 0, by go_simp, World.ownsRow_nil _ _ _ _, rfl⟩, by go_simp, by go_simp, hB, by simp⟩, Nat.le_refl _, (Below.refl _ _).alloc (Nat.le_refl _) _⟩
theorem Hs.put0 {w : World} {B p : Nat} {r : Option Nat} {s : Int} {l : List Ev} (h : Hs w B p r s l) (u : Int) :
    Hs (w.setCell ⟨p, 0, none⟩ (.int .u64 u)) B p r u l ∧ Fr (some p) r w (w.setCell ⟨p, 0, none⟩ (.int .u64 u)) := by
  obtain ⟨A, c, h1, h2, h3⟩ := h.evs
  refine ⟨⟨World.cell?_setCell_same _ _ _ h.step, ⟨A, c, (World.cell?_setCell_other _ _ _ _ (fun e => by injection e with _ e; omega)).trans h1, own_same h2 (fun g hg => heap_setCell_other w _ g _ (fun e => h.ne (by rw [← h3, hg, show g = p from e]))), h3⟩, by simpa using h.free0, by simpa using h.free1, h.lo, h.ne⟩, Fr.of_grown (grown_setCell _ _ _) (.inr (.inl rfl))⟩
theorem advance_any (w : World) (B p : Nat) (r : Option Nat) (s : Int) (l : List Ev) (h : Hs w B p r s l) (hs : 0 ≤ s ∧ s < 18446744073709551615) :
    Calls Tryz.prog 260 #[.pointer (some ⟨p, 0, none⟩)] w fun e w' => e = .returned (.int .u64 (s + 1)) ∧ Hs w' B p r (s + 1) l ∧ Fr (some p) r w w' := by
  have h0 := h.step
  have f0 := h.free0
  have hl := h.lt
  have HH := Lib.hid h
  clear h
  go_enter Tryz.func260, Tryz.ntmps260
  go_wp2_with fail
  go_ret
  exact ⟨rfl, HH.out.put0 _⟩
theorem eclone_any (A : Option Addr) (n c : Nat) (xs : List Ev) (B : Nat) (w : World) (h : Rs encE 6 w B A n c xs) (hB : B ≤ w.heap.size) (hreach : n * 48 ≤ 140737488355328) :
    Calls Tryz.prog 264 #[.slice A n c] w fun e w' => ∃ A' c', e = .returned (.slice A' n c') ∧ w'.ownsRow w.heap.size 193 6 (.slice A' n c') n (flat encE xs) ∧ Below w.heap.size w w' := by
  have hn : n ≤ 9223372036854775807 := by have := h.cap; have := h.top; omega
  obtain ⟨i0, hi, hz0, hz1, hz2⟩ := info_parts info_ev
  cases A with
  | none =>
    have h0 : n = 0 := by
      rcases Nat.eq_zero_or_pos n with h0 | h0
      · exact h0
      · obtain ⟨b, o, e, _⟩ := h.at_ h0
        cases e
    subst h0
    obtain rfl := List.eq_nil_of_length_eq_zero h.len
    clear h
    have hk := @Lib.run_eql_slice_nil Tryz.prog
    go_enter Tryz.func264, Tryz.ntmps264
    go_wp2
    go_ret
    exact ⟨_, _, rfl, World.ownsRow_nil _ _ _ _, Below.refl _ _⟩
  | some a =>
    have HR := Lib.hid h
    clear h
    have hk := @Lib.run_eql_slice_nil Tryz.prog
    go_enter Tryz.func264, Tryz.ntmps264
    go_wp2_with (at_builtin; refine append_rs encE_len rfl _ _ 162 rfl w.heap.size 193 i0 _ 48 Tryz.underlying162 hi hz0 hz1 hz2 rfl (by omega) _ 0 [] rfl (World.ownsRow_lit _ #[] 0 (Nat.le_refl _) (by decide) rfl) B (some a) n c xs rfl (HR.out.alloc hB _) encE_one n (Nat.zero_add _) (flat encE xs) rfl ?_ ?_ ?_ ?_)
    · unfold maxLen; omega
    · omega
    · simp
    · intro A' c' w' hown hg hat
      go_wp2
      go_ret
      refine ⟨A', c', rfl, hown, ((Below.refl _ _).alloc (Nat.le_refl _) _).grown hg (by simp) (fun k hk => ?_)⟩
      simp [Value.ownBlock] at hk
      omega
theorem all_any (w : World) (B p : Nat) (r : Option Nat) (s : Int) (l : List Ev) (h : Hs w B p r s l) (hreach : l.length * 48 ≤ 140737488355328) :
    Calls Tryz.prog 261 #[.pointer (some ⟨p, 0, none⟩)] w fun e w' => ∃ A c, e = .returned (.slice A l.length c) ∧ w'.ownsRow w.heap.size 193 6 (.slice A l.length c) l.length (flat encE l) ∧ Below w.heap.size w w' := by
  obtain ⟨A, c, h1, hr⟩ := h.rs
  have HR := Lib.hid hr
  clear h hr
  generalize hn : l.length = n at *
  have HN := Lib.hid hn
  clear hn
  go_enter Tryz.func261, Tryz.ntmps261
  go_wp2_with fail
  refine (eclone_any A n c l _ w HR.out (Nat.le_refl _) hreach).mono ?_
  rintro e w1 ⟨A1, c1, rfl, ho, hb⟩
  have HO := Lib.hid ho
  clear ho
  go_wp2_with fail
  go_ret
  exact ⟨_, _, rfl, HO.out, hb⟩
end Go.Proofs.YthmdiaingolfnaaGreatDoor.Hi
namespace Go.Proofs.YthmdiaingolfnaaGreatDoor.Hi
open Go.ChangeShapes Go.WideShapes Go.ChangeAt Go.RowKit Rw Tx
set_option linter.unusedVariables false
section
variable {P : Program} {w : World} {α : Type} {enc : α → List Value} {sz : Nat}
theorem wp_append_rs (he : ∀ x, (enc x).length = sz) {o : Oper} {a : Act} {next : Act → World → Prop} {Q : Exit → Act → World → Prop} (s x : Operand) (t : TypeId)
    (ho : o.op = .call { callee := .builtin .append, args := #[s, x], argTypes := #[t, t] })
    (base : Nat) (e : TypeId) (i : TypeInfo) (z : Value) (bytes : Nat) (ht : P.underlying t = some (.slice e)) (hi : P.info? e = some i) (hz : i.zero = some z)
    (hsize : i.size = sz) (hby : i.bytes = bytes) (hzs : z.cells.size = sz) (hsz : 0 < sz)
    (v : Value) (n : Nat) (xs : List Value) (hs : a.eval s = v) (hown : w.ownsRow base e sz v n xs)
    (B : Nat) (A : Option Addr) (m c : Nat) (ys : List α) (hx : a.eval x = .slice A m c) (hr : Rs enc sz w B A m c ys) (h1 : ∀ y, ∀ u ∈ enc y, u.oneCell' = true)
    (k : Nat) (hk : n + m = k) (zs : List Value) (hzs' : xs ++ flat enc ys = zs) (h63 : n + m ≤ maxLen) (hbytes : (n + m) * bytes ≤ 140737488355328) (hbase : base ≤ w.heap.size)
    (h : ∀ A' c' w', w'.ownsRow base e sz (.slice A' k c') k zs → w.grownBy w' v.ownBlock → ((Value.slice A' k c').ownBlock = v.ownBlock ∨ (Value.slice A' k c').ownBlock = some w.heap.size) → next (a.put o.dst (.slice A' k c')) w') : o.wp P a w next Q := by
  subst hk hzs'
  obtain ⟨v', w', hrun, h2, h3, h4⟩ := run_append_rs (P := P) he base t o.type e i z bytes ht hi hz hsize hby hzs hsz v n xs hown B A m c ys hr h1 h63 hbytes hbase
  obtain ⟨A', c', rfl⟩ := own_slice h2
  exact Lib.wp_append_run w s x t t ho v _ hs hx _ w' hrun (h A' c' w' h2 h3 h4)
end
theorem Hs.put1 {w w1 : World} {B p : Nat} {r : Option Nat} {s : Int} {l l' : List Ev} {A' : Option Addr} {n' c' : Nat} (h : Hs w B p r s l) (hn : l'.length = n') (hg : w.grownBy w1 r) (ho : w1.ownsRow B 193 6 (.slice A' n' c') n' (flat encE l'))
    (hr : (Value.slice A' n' c').ownBlock = r ∨ ∃ g, (Value.slice A' n' c').ownBlock = some g ∧ w.heap.size ≤ g) :
    ∃ r', Hs (w1.setCell ⟨p, 1, none⟩ (.slice A' n' c')) B p r' s l' ∧ Fr (some p) r w (w1.setCell ⟨p, 1, none⟩ (.slice A' n' c')) ∧ (r' = r ∨ ∃ g, r' = some g ∧ w.heap.size ≤ g) := by
  subst hn
  have hpl := h.lt
  have hne : some p ≠ r := fun e => h.ne e.symm
  have hnp : (Value.slice A' l'.length c').ownBlock ≠ some p := by
    rcases hr with e | ⟨g, e, hg'⟩
    · rw [e]; exact h.ne
    · rw [e]; intro e2; injection e2; omega
  obtain ⟨A, c, h1, h2, h3⟩ := h.evs
  refine ⟨_, ⟨(World.cell?_setCell_other _ _ _ _ (fun e => by injection e with _ e; omega)).trans (hg.cell h.step hne), ⟨A', c', World.cell?_setCell_same _ _ _ (hg.cell h1 hne), own_same ho (fun g hg2 => heap_setCell_other w1 _ g _ (fun e => hnp (by rw [hg2, show g = p from e]))), rfl⟩, by simpa using grown_frozen hg h.free0 hpl hne, by simpa using grown_frozen hg h.free1 hpl hne, h.lo, hnp⟩, ?_, hr⟩
  exact (Fr.of_grown (a := some p) (b := r) hg (.inr (.inr rfl))).then (Fr.of_grown (a := some p) (b := r) (grown_setCell w1 ⟨p, 1, none⟩ _) (.inr (.inl rfl))) (fun k e _ => .inl e.symm) (fun k e _ => .inr e.symm)
set_option maxRecDepth 100000 in
theorem add_any (w : World) (B p : Nat) (r : Option Nat) (s : Int) (l : List Ev) (th ki op id er : Int) (h : Hs w B p r s l) (hreach : l.length ≤ 1000) :
    Calls Tryz.prog 61 #[.pointer (some ⟨p, 0, none⟩), .int .i64 th, .int .i64 ki, .int .i64 op, .int .u64 id, .int .i64 er] w fun e w' => e = .returned (.tuple #[]) ∧
      ∃ r', Hs w' B p r' s (l ++ [⟨s, th, ki, op, id, er⟩]) ∧ Fr (some p) r w w' ∧ (r' = r ∨ ∃ g, r' = some g ∧ w.heap.size ≤ g) := by
  obtain ⟨A, c, h1, h2, h3⟩ := h.evs
  have d0 := h.step
  have f1 := h.free1
  have hl := h.lt
  have hlo := h.lo
  have HH := Lib.hid h
  have HO := Lib.hid h2
  have H3 := Lib.hid h3
  obtain ⟨i0, hi, hz0, hz1, hz2⟩ := info_parts info_ev
  have HI := Lib.hid (show Tryz.prog.info? 193 = some i0 ∧ _ ∧ _ ∧ _ from ⟨hi, hz0, hz1, hz2⟩)
  clear h h2 h3 hi hz0 hz1 hz2
  generalize hn : l.length = n at *
  have HN := Lib.hid hn
  clear hn
  go_enter Tryz.func61, Tryz.ntmps61
  go_wp2_with fail
  refine reg_start 19 (fun w' => w'.cell? ⟨p, 0, none⟩ = some (.int .u64 s) ∧ w'.cell? ⟨p, 1, none⟩ = some (.slice A n c)) (by kernel_rfl) (by kernel_rfl) ?_
  intro hT
  have HT := Lib.hid hT
  clear hT
  refine reg_load 0 HT.out rfl (by kernel_rfl) (by decide) (fun _ _ _ _ h => h) ⟨d0, h1⟩ rfl ?_
  apply Exists.intro
  refine ⟨fun w' hw => by (obtain ⟨g1, g2⟩ := hw; go_simp; exact rfl), ?_⟩
  refine reg_load 1 HT.out rfl (by kernel_rfl) (by decide) (fun _ _ _ _ h => h) ⟨d0, h1⟩ rfl ?_
  apply Exists.intro
  refine ⟨fun w' hw => by (obtain ⟨g1, g2⟩ := hw; go_simp; exact rfl), ?_⟩
  refine reg_load 2 HT.out rfl (by kernel_rfl) (by decide) (fun _ _ _ _ h => h) ⟨d0, h1⟩ rfl ?_
  apply Exists.intro
  refine ⟨fun w' hw => by (obtain ⟨g1, g2⟩ := hw; go_simp; exact rfl), ?_⟩
  refine reg_load 3 HT.out rfl (by kernel_rfl) (by decide) (fun _ _ _ _ h => h) ⟨d0, h1⟩ rfl ?_
  apply Exists.intro
  refine ⟨fun w' hw => by (obtain ⟨g1, g2⟩ := hw; go_simp; exact rfl), ?_⟩
  refine reg_load 4 HT.out rfl (by kernel_rfl) (by decide) (fun _ _ _ _ h => h) ⟨d0, h1⟩ rfl ?_
  apply Exists.intro
  refine ⟨fun w' hw => by (obtain ⟨g1, g2⟩ := hw; go_simp; exact rfl), ?_⟩
  refine reg_load 5 HT.out rfl (by kernel_rfl) (by decide) (fun _ _ _ _ h => h) ⟨d0, h1⟩ rfl ?_
  apply Exists.intro
  refine ⟨fun w' hw => by (obtain ⟨g1, g2⟩ := hw; go_simp; exact rfl), ?_⟩
  refine reg_load 6 HT.out rfl (by kernel_rfl) (by decide) (fun _ _ _ _ h => h) ⟨d0, h1⟩ rfl ?_
  apply Exists.intro
  refine ⟨fun w' hw => by (obtain ⟨g1, g2⟩ := hw; go_simp; exact rfl), ?_⟩
  refine reg_load 7 HT.out rfl (by kernel_rfl) (by decide) (fun _ _ _ _ h => h) ⟨d0, h1⟩ rfl ?_
  apply Exists.intro
  refine ⟨fun w' hw => by (obtain ⟨g1, g2⟩ := hw; go_simp; exact rfl), ?_⟩
  refine reg_load 8 HT.out rfl (by kernel_rfl) (by decide) (fun _ _ _ _ h => h) ⟨d0, h1⟩ rfl ?_
  apply Exists.intro
  refine ⟨fun w' hw => by (obtain ⟨g1, g2⟩ := hw; go_simp; exact rfl), ?_⟩
  refine reg_load 9 HT.out rfl (by kernel_rfl) (by decide) (fun _ _ _ _ h => h) ⟨d0, h1⟩ rfl ?_
  apply Exists.intro
  refine ⟨fun w' hw => by (obtain ⟨g1, g2⟩ := hw; go_simp; exact rfl), ?_⟩
  refine reg_load 10 HT.out rfl (by kernel_rfl) (by decide) (fun _ _ _ _ h => h) ⟨d0, h1⟩ rfl ?_
  apply Exists.intro
  refine ⟨fun w' hw => by (obtain ⟨g1, g2⟩ := hw; go_simp; exact rfl), ?_⟩
  refine reg_load 11 HT.out rfl (by kernel_rfl) (by decide) (fun _ _ _ _ h => h) ⟨d0, h1⟩ rfl ?_
  apply Exists.intro
  refine ⟨fun w' hw => by (obtain ⟨g1, g2⟩ := hw; go_simp; exact rfl), ?_⟩
  refine reg_load 12 HT.out rfl (by kernel_rfl) (by decide) (fun _ _ _ _ h => h) ⟨d0, h1⟩ rfl ?_
  apply Exists.intro
  refine ⟨fun w' hw => by (obtain ⟨g1, g2⟩ := hw; go_simp; exact rfl), ?_⟩
  refine reg_load 13 HT.out rfl (by kernel_rfl) (by decide) (fun _ _ _ _ h => h) ⟨d0, h1⟩ rfl ?_
  apply Exists.intro
  refine ⟨fun w' hw => by (obtain ⟨g1, g2⟩ := hw; go_simp; exact rfl), ?_⟩
  refine reg_load 14 HT.out rfl (by kernel_rfl) (by decide) (fun _ _ _ _ h => h) ⟨d0, h1⟩ rfl ?_
  apply Exists.intro
  refine ⟨fun w' hw => by (obtain ⟨g1, g2⟩ := hw; go_simp; exact rfl), ?_⟩
  refine reg_only 15 rfl (by kernel_rfl) rfl ?_
  unfold Oper.wp
  go_simp
  refine reg_only 16 rfl (by kernel_rfl) rfl ?_
  refine wp_append_rs (enc := encE) encE_len _ _ 162 rfl B 193 i0 _ 48 Tryz.underlying162 HI.out.1 HI.out.2.1 HI.out.2.2.1 HI.out.2.2.2 rfl (by omega) (.slice A n c) n (flat encE l) rfl (own_same HO.out (fun g hg => RowKit.Below.heap_alloc w.drew _ g (by have := (HO.out.lt g hg).2; exact this))) (w.heap.size + 1) _ 1 1 [⟨s, th, ki, op, id, er⟩] rfl (rs_one encE_len w.drew ⟨s, th, ki, op, id, er⟩ _ rfl) encE_one (n + 1) rfl (flat encE (l ++ [⟨s, th, ki, op, id, er⟩])) (flat_append l _).symm ?_ ?_ ?_ ?_
  · unfold maxLen; omega
  · omega
  · simp; omega
  intro A' c' w1 ho hg hat
  rw [H3.out] at hg hat
  have hgw : w.grownBy w1 r := ⟨hg.os, hg.tape, hg.output, Nat.le_trans (by simp) hg.size, fun k hk hne => (hg.block k (by simp; omega) hne).trans (RowKit.Below.heap_alloc w.drew _ k hk)⟩
  have hne : some p ≠ r := fun e => HH.out.ne e.symm
  have e0 := hgw.cell d0 hne
  have e1 := hgw.cell h1 hne
  have ef := grown_frozen hgw f1 hl hne
  have hpl : p < w1.heap.size := Lw.lt_heap e0
  refine ⟨fun _ => ⟨e0, e1⟩, ?_⟩
  refine reg_load 17 HT.out rfl (by kernel_rfl) (by decide) (fun _ _ _ _ h => h) ⟨e0, e1⟩ rfl ?_
  apply Exists.intro
  refine ⟨fun w' hw => by (obtain ⟨g1, g2⟩ := hw; go_simp; exact rfl), ?_⟩
  refine reg_load 18 HT.out rfl (by kernel_rfl) (by decide) (fun _ _ _ _ h => h) ⟨e0, e1⟩ rfl ?_
  apply Exists.intro
  refine ⟨fun w' hw => by (obtain ⟨g1, g2⟩ := hw; go_simp; exact rfl), ?_⟩
  refine reg_only 19 rfl (by kernel_rfl) rfl ?_
  have HG := Lib.hid hgw
  have HO' := Lib.hid ho
  have HA' : Hid ((Value.slice A' (n + 1) c').ownBlock = r ∨ ∃ g, (Value.slice A' (n + 1) c').ownBlock = some g ∧ w.heap.size ≤ g) := Lib.hid (by
    rcases hat with e | e
    · exact .inl e
    · exact .inr ⟨_, e, by simp⟩)
  clear hgw ho hat hg
  unfold Oper.wp
  go_simp
  refine reg_done (by kernel_rfl) ?_
  obtain ⟨r', q1, q2, q3⟩ := HH.out.put1 (by simp [HN.out]) HG.out HO'.out HA'.out
  have Q := Lib.hid (show _ ∧ _ ∧ _ from ⟨q1, q2, q3⟩)
  clear q1 q2 q3
  go_wp2_with fail
  exact bodyPost_end (v := .tuple #[]) (by simp [results, Tryz.results61]) rfl ⟨rfl, r', Q.out⟩
end Go.Proofs.YthmdiaingolfnaaGreatDoor.Hi
namespace Go.Proofs.YthmdiaingolfnaaGreatDoor.Hi
open Go.ChangeShapes Go.WideShapes Go.ChangeAt Go.RowKit Rw Tx
set_option linter.unusedVariables false
theorem txt_first : txt ⟨1, 2, 0, 0, 0, 0⟩ = { data := #[49, 32, 50, 32, 99, 97, 108, 108, 32, 103, 101, 116, 32, 48, 32, 48] } := by decide +kernel
theorem first_ok : (⟨1, 2, 0, 0, 0, 0⟩ : Ev).ok := by constructor <;> simp [U64, I64]
theorem six_at {w : World} {B : Nat} {A : Option Addr} {n c k : Nat} {l : List Ev} (h : Rs encE 6 w B A n c l) (hk : k < n) : ∃ b o e, A = some ⟨b, o, none⟩ ∧ b < B ∧ l[k]? = some e ∧
    w.cell? ⟨b, o + k * 6, none⟩ = some (.int .u64 e.step) ∧ w.cell? ⟨b, o + k * 6 + 1, none⟩ = some (.int .i64 e.thread) ∧ w.cell? ⟨b, o + k * 6 + 2, none⟩ = some (.int .i64 e.kind) ∧
    w.cell? ⟨b, o + k * 6 + 3, none⟩ = some (.int .i64 e.op) ∧ w.cell? ⟨b, o + k * 6 + 4, none⟩ = some (.int .u64 e.id) ∧ w.cell? ⟨b, o + k * 6 + 5, none⟩ = some (.int .i64 e.err) := by
  obtain ⟨b, o, e, h1, h2, h3, hc⟩ := h.get hk
  exact ⟨b, o, e, h1, h2, h3, hc 0 _ (by omega) rfl, hc 1 _ (by omega) rfl, hc 2 _ (by omega) rfl, hc 3 _ (by omega) rfl, hc 4 _ (by omega) rfl, hc 5 _ (by omega) rfl⟩
set_option maxHeartbeats 1000000 in
set_option maxRecDepth 100000 in
theorem awake9_any (w : World) (hT : Tab w) :
    Calls Tryz.prog 259 #[] w fun e w' => e = .returned (.bool true) ∧ Below w.heap.size w w' := by
  have HT := Lib.hid hT
  clear hT
  go_enter Tryz.func259, Tryz.ntmps259
  go_wp2_with fail
  refine (new_any _ w.heap.size (Nat.le_refl _)).mono ?_
  rintro e w1 ⟨p, rfl, h1, hp1, hb1⟩
  go_wp2_with fail
  refine (advance_any _ _ _ _ _ _ h1 (by omega)).mono ?_
  rintro e w2 ⟨rfl, h2, hf2⟩
  have b2 : Below w.heap.size w w2 := hb1.trans (hf2.below hb1.size (fun k hk => by cases hk; omega) (fun k hk => by cases hk))
  clear h1 hb1 hf2
  go_wp2_with fail
  refine (add_any _ _ _ _ _ _ 2 0 0 0 0 h2 (by simp)).mono ?_
  rintro e w3 ⟨rfl, r3, h3, hf3, hr3⟩
  have b3 : Below w.heap.size w w3 := b2.trans (hf3.below b2.size (fun k hk => by cases hk; omega) (fun k hk => by cases hk))
  clear h2 b2 hf3 hr3
  go_wp2_with fail
  refine (all_any _ _ _ _ _ _ h3 (by simp)).mono ?_
  rintro e w4 ⟨A, c, rfl, ho, hb4⟩
  have b4 : Below w.heap.size w w4 := b3.trans (hb4.mono b3.size)
  have hr : Rs encE 6 w4 w4.heap.size A 1 c [⟨1, 2, 0, 0, 0, 0⟩] := Rs.own_rs encE_len rfl ho
  have HR := Lib.hid hr
  clear h3 b3 ho hb4 hr
  simp only [List.nil_append, List.length_cons, List.length_nil, Nat.zero_add]
  go_wp2_with fail
  refine (Pi.Awake8_any _).mono ?_
  rintro e w5 ⟨rfl, hb5⟩
  obtain ⟨b, o, e, rfl, hlt, hx, c0, c1, c2, c3, c4, c5⟩ := six_at (HR.out.later hb5) (k := 0) (by omega)
  obtain rfl : (⟨1, 2, 0, 0, 0, 0⟩ : Ev) = e := by simpa using hx
  have b5 : Below w.heap.size w w5 := b4.trans (hb5.mono b4.size)
  have HB := Lib.hid b5
  clear b4 hb5 b5 hx HR
  simp only [Nat.zero_mul, Nat.add_zero] at c0 c1 c2 c3 c4 c5
  go_wp2_with fail
  refine (text_any ⟨1, 2, 0, 0, 0, 0⟩ first_ok _ (HT.out.below HB.out)).mono ?_
  rintro e w6 ⟨rfl, hb6⟩
  rw [txt_first]
  go_wp2_with fail
  go_ret
  exact ⟨rfl, HB.out.trans (hb6.mono HB.out.size)⟩
theorem Awake9_any (w : World) (hT : Tab w) :
    Calls Tryz.prog 254 #[] w fun e w' => e = .returned (.bool true) ∧ Below w.heap.size w w' := by
  go_enter Tryz.func254, Tryz.ntmps254
  go_wp2_with fail
  refine (awake9_any _ hT).mono ?_
  rintro e w' ⟨rfl, hb⟩
  go_wp2_with fail
  go_ret
  exact ⟨rfl, hb⟩
end Go.Proofs.YthmdiaingolfnaaGreatDoor.Hi
