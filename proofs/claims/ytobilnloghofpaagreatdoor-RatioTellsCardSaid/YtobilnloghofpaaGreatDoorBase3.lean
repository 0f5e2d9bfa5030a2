/- Base3: texts on the program's lower layers, one behind the other. -/
import Derived.Test.YtobilnloghofpaaGreatDoorChecked
import Derived.Test.YtobilnloghofpaaGreatDoorBase1
import Derived.WalkKit
import Derived.Defers
import Derived.Recover
import Derived.WalkLawsBesides
import Derived.Laws.Pointers
import Derived.Lib.Hide
import Derived.Test.YtobilnloghofpaaGreatDoorBase2
import Derived.Test.YtobilnloghofpaaGreatDoorRows
import Derived.ProofKit
import Derived.BigGuardPart
import Derived.Outline
import Derived.WalkSpells
import Derived.Deep.QuietTactic
import Derived.BigQuiet
import Derived.RegionTactic
import Derived.Maps.Range
import Derived.Shelf.Strconv.Itoa3
import Derived.Shelf.Strings.OnBuilder
/- Contracts of layer 7 (guard). -/

namespace Go.Proofs.YtobilnloghofpaaGreatDoor.Gd
open Go.ChangeShapes Go.WideShapes Go.ChangeAt Go.RowKit
set_option linter.unusedVariables false

theorem makeFunc_run (fn : Fn) (first cap : Array Value) (w : World) : (Instr.makeFunc fn first cap).run Tryz.prog w = .ok (.func fn first cap) w := rfl
theorem nil_ne (w : World) : (binOp BinOp.neq 1 .nilFunc .nilFunc).run Tryz.prog w = .ok (.bool false) w := by kernel_rfl
theorem func_ne (fn : Fn) (first cap : Array Value) (w : World) : (binOp BinOp.neq 1 (.func fn first cap) .nilFunc).run Tryz.prog w = .ok (.bool true) w := by kernel_rfl

/-- It comes back without a result, or it panics. -/
def Plain (e : Ending) : Prop := e = .returned (.tuple #[]) ∨ ∃ c, e = .panicked c

/-- The world in which Try calls. -/
def tryWorld (w : World) : World := (w.alloc (.cells #[.nilIface] 20)).alloc (.cells #[.bool true] 4)
/-- Its own two cells are as they were. -/
def TryKept (w w0 : World) : Prop := w0.cell? ⟨w.heap.size, 0, none⟩ = some .nilIface ∧ w0.cell? ⟨w.heap.size + 1, 0, none⟩ = some (.bool true) ∧ w0.frozen? ⟨w.heap.size, 0, none⟩ = false ∧ w0.frozen? ⟨w.heap.size + 1, 0, none⟩ = false
def Once (e : Ending) : Prop := e = .returned (.tuple #[]) ∨ ∃ T v, e = .panicked [{ v := .iface T v, recovered := false }]
/-- What Try answers behind such an end, and in which world. -/
def Tries (w : World) (e0 : Ending) (w0 : World) (e : Ending) (w' : World) : Prop :=
  (e0 = .returned (.tuple #[]) ∧ e = .returned (.tuple #[.nilIface, .bool false]) ∧ w' = (w0.setCell ⟨w.heap.size, 0, none⟩ .nilIface).setCell ⟨w.heap.size + 1, 0, none⟩ (.bool false)) ∨
  (∃ T v, e0 = .panicked [{ v := .iface T v, recovered := false }] ∧ e = .returned (.tuple #[.iface T v, .bool true]) ∧ w' = w0.setCell ⟨w.heap.size, 0, none⟩ (.iface T v))

def Tried (e0 e : Ending) : Prop :=
  (e0 = .returned (.tuple #[]) ∧ e = .returned (.tuple #[.nilIface, .bool false])) ∨
  (∃ T v, e0 = .panicked [{ v := .iface T v, recovered := false }] ∧ e = .returned (.tuple #[.iface T v, .bool true]))
theorem indexnil_run (c : Int) (w : World) : ∃ v w', (Instr.indexAt 95 (.slice none 0 0) (.int .i64 c)).run Tryz.prog w = .halt (.panic (.iface Tryz.prog.rt.boundsError v)) w' ∧ Below w.heap.size w w' := by
  have e : (Instr.indexAt 95 (.slice none 0 0) (.int .i64 c)).run Tryz.prog w = (boundsPanic .i64 c 0 .index).run Tryz.prog w := by
    simp [Instr.indexAt, run_underlying Tryz.underlying95, asIntOf]
  rw [e]
  unfold boundsPanic
  split
  · simp [runtimePanic, goPanic, go_sem]
    exact ⟨_, _, ⟨rfl, rfl⟩, (Below.refl _ _).drew⟩
  · simp [runtimePanic, goPanic, go_sem]
    exact ⟨_, _, ⟨rfl, rfl⟩, Below.refl _ _⟩
end Go.Proofs.YtobilnloghofpaaGreatDoor.Gd
/- Layer 7's law: what wakes it, the document's code, the things of the law's told by Try, Catch and All. -/

namespace Go.Proofs.YtobilnloghofpaaGreatDoor.Gd
open Go.ChangeShapes Go.WideShapes Go.ChangeAt Go.RowKit Rw
set_option linter.unusedVariables false

/-- The document's code of such a thing. -/
def want (d c : Int) : Int := if d % 5 = 0 then 0 else if d % 5 = 1 then c else 18
/-- A thing of the law's. -/
def endV (d c : Int) (s : ByteArray) : Value := .agg #[.int .u8 d, .int .u8 c, .string s]
theorem info_errno : (Tryz.prog.info? 34).map (fun i => (i.zero, i.size, i.bytes)) = some (some (.int .i64 0), 1, 8) := by kernel_rfl
theorem info_func : (Tryz.prog.info? 1).map (fun i => (i.zero, i.size, i.bytes)) = some (some .nilFunc, 1, 8) := by kernel_rfl
theorem grown_of_below {w w' : World} (h : Below w.heap.size w w') : w.grownBy w' none := ⟨h.os, h.tape, h.output, h.size, fun k hk _ => h.block k hk⟩
/-- What is owned stays so where all that was there is as it was. -/
theorem own_keep {w w' : World} {base e size n : Nat} {v : Value} {xs : List Value} (h : w.ownsRow base e size v n xs) (hb : Below w.heap.size w w') : w'.ownsRow base e size v n xs :=
  h.kept (grown_of_below hb) (by cases hv : v.ownBlock with | none => exact .inl rfl | some k => exact .inr (by simp))
theorem take_succ' {α : Type} {xs : List α} {k : Nat} {x : α} (h : xs[k]? = some x) : xs.take (k + 1) = xs.take k ++ [x] := by
  rw [List.take_add_one, h]; rfl
end Go.Proofs.YtobilnloghofpaaGreatDoor.Gd
/- Contracts of slices.Equal and Clone at []int (made of XSlices' text). -/

namespace Go.Proofs.YtobilnloghofpaaGreatDoor.Si
open Go.ChangeShapes Go.WideShapes Go.ChangeAt Go.RowKit Rw Sn
set_option linter.unusedVariables false
theorem info_int : (Tryz.prog.info? 3).map (fun i => (i.zero, i.size, i.bytes)) = some (some (.int .i64 0), 1, 8) := by kernel_rfl
theorem take_eq_snoc {xs ys : List Int} {k : Nat} {x : Int} (h : xs.take k = ys.take k) (hx : xs[k]? = some x) (hy : ys[k]? = some x) : xs.take (k + 1) = ys.take (k + 1) := by rw [take_snoc hx, take_snoc hy, h]
theorem ne_of_at {xs ys : List Int} {k : Nat} {x y : Int} (hx : xs[k]? = some x) (hy : ys[k]? = some y) (hne : x ≠ y) : xs ≠ ys := fun e => by subst e; rw [hx] at hy; injection hy with hy; exact hne hy

theorem one_int (y : Int) : (Value.int .i64 y).oneCell' = true := rfl

end Go.Proofs.YtobilnloghofpaaGreatDoor.Si
/- Contracts of layer 8 (picks). -/

namespace Go.Proofs.YtobilnloghofpaaGreatDoor.Pi
open Go.ChangeShapes Go.WideShapes Go.ChangeAt Go.RowKit Rw
set_option linter.unusedVariables false

def Ok (x : Int) : Prop := -9223372036854775808 ≤ x ∧ x ≤ 9223372036854775807
/-- The picks at block g: what is left of the script, and the turns. -/
structure Pk (w : World) (g : Nat) (l : List Int) (t : Int) : Prop where
  script : ∃ A n c, w.cell? ⟨g, 0, none⟩ = some (.slice A n c) ∧ Rd (Value.int .i64) w g A n c l
  turn : w.cell? ⟨g, 1, none⟩ = some (.int .i64 t)
  free0 : w.frozen? ⟨g, 0, none⟩ = false
  free1 : w.frozen? ⟨g, 1, none⟩ = false
  lo : ∀ x ∈ l, Ok x
theorem Pk.lt {w : World} {g : Nat} {l : List Int} {t : Int} (h : Pk w g l t) : g < w.heap.size := Lw.lt_heap h.turn
theorem Pk.kept {w w' : World} {g g' : Nat} {l : List Int} {t : Int} (h : Pk w g l t) (hg : w.grownBy w' (some g')) (hlt : g < g') : Pk w' g l t := by
  have hl := h.lt
  obtain ⟨A, n, c, h0, hr⟩ := h.script
  have hne : some g ≠ some g' := by intro e; injection e; omega
  refine ⟨⟨A, n, c, hg.cell h0 hne, ?_⟩, hg.cell h.turn hne, grown_frozen hg h.free0 hl hne, grown_frozen hg h.free1 hl hne, h.lo⟩
  exact hr.grown hg (by omega) (fun j hj => by cases hj; omega)
theorem Pk.below {w w' : World} {g B : Nat} {l : List Int} {t : Int} (h : Pk w g l t) (hb : Below B w w') (hB : g < B) : Pk w' g l t := by
  obtain ⟨A, n, c, h0, hr⟩ := h.script
  exact ⟨⟨A, n, c, (hb.cell (p := ⟨g, 0, none⟩) hB).trans h0, hr.keep fun p hp => hb.cell (by omega)⟩, (hb.cell (p := ⟨g, 1, none⟩) hB).trans h.turn, (hb.frozen (p := ⟨g, 0, none⟩) hB).trans h.free0, (hb.frozen (p := ⟨g, 1, none⟩) hB).trans h.free1, h.lo⟩
theorem Pk.later {w w' : World} {g : Nat} {l : List Int} {t : Int} (h : Pk w g l t) (hb : Below w.heap.size w w') : Pk w' g l t := h.below hb h.lt

theorem emod_tmod (a n : Int) (hn : 1 ≤ n) : (0 ≤ a.tmod n ∧ a % n = a.tmod n) ∨ (a.tmod n < 0 ∧ a % n = a.tmod n + n) := by
  have h := Int.tmod_eq_emod (a := a) (b := n)
  have h1 := Int.emod_nonneg a (b := n) (by omega)
  have h2 := Int.emod_lt_of_pos a (b := n) (by omega)
  split at h
  · left; omega
  · right; omega
theorem grown_setCell (w : World) (a : Addr) (u : Value) : w.grownBy (w.setCell a u) (some a.block) :=
  ⟨rfl, rfl, rfl, by simp, fun k _ hk => heap_setCell_other w a k u (fun e => hk (by rw [e]))⟩
theorem Pk.put0 {w : World} {g : Nat} {L l : List Int} {t : Int} (h : Pk w g L t) (A : Option Addr) (n c : Nat) (hr : Rd (Value.int .i64) w g A n c l) (hlo : ∀ x ∈ l, Ok x) :
    Pk (w.setCell ⟨g, 0, none⟩ (.slice A n c)) g l t ∧ w.grownBy (w.setCell ⟨g, 0, none⟩ (.slice A n c)) (some g) := by
  obtain ⟨A0, n0, c0, h0, hr0⟩ := h.script
  have hne : (⟨g, 0, none⟩ : Addr) ≠ ⟨g, 1, none⟩ := fun e => by injection e with _ e; omega
  refine ⟨⟨⟨A, n, c, World.cell?_setCell_same _ _ _ h0, hr.setCell (Nat.le_refl _) _⟩, (World.cell?_setCell_other _ _ _ _ hne).trans h.turn, ?_, ?_, hlo⟩, grown_setCell _ _ _⟩
  · simpa using h.free0
  · simpa using h.free1
theorem Pk.put1 {w : World} {g : Nat} {l : List Int} {t : Int} (h : Pk w g l t) (u : Int) :
    Pk (w.setCell ⟨g, 1, none⟩ (.int .i64 u)) g l u ∧ w.grownBy (w.setCell ⟨g, 1, none⟩ (.int .i64 u)) (some g) := by
  obtain ⟨A, n, c, h0, hr⟩ := h.script
  have hne : (⟨g, 1, none⟩ : Addr) ≠ ⟨g, 0, none⟩ := fun e => by injection e with _ e; omega
  refine ⟨⟨⟨A, n, c, (World.cell?_setCell_other _ _ _ _ hne).trans h0, hr.setCell (Nat.le_refl _) _⟩, World.cell?_setCell_same _ _ _ h.turn, ?_, ?_, h.lo⟩, grown_setCell _ _ _⟩
  · simpa using h.free0
  · simpa using h.free1

/-- What is taken next, and what is left then. -/
def tk : List Int → Int → Int × List Int × Int
  | [], t => (t, [], t + 1)
  | x :: l, t => (x, l, t)

end Go.Proofs.YtobilnloghofpaaGreatDoor.Pi
/- Picks' Some. -/

namespace Go.Proofs.YtobilnloghofpaaGreatDoor.Pi
open Go.ChangeShapes Go.WideShapes Go.ChangeAt Go.RowKit Rw
set_option linter.unusedVariables false

theorem Pk.grown {w w' : World} {g : Nat} {l : List Int} {t : Int} {row : Option Nat} (h : Pk w g l t) (hg : w.grownBy w' row) (hlt : ∀ j, row = some j → g < j) : Pk w' g l t := by
  have hl := h.lt
  obtain ⟨A, n, c, h0, hr⟩ := h.script
  have hne : some g ≠ row := by intro e; have := hlt g e.symm; omega
  refine ⟨⟨A, n, c, hg.cell h0 hne, ?_⟩, hg.cell h.turn hne, grown_frozen hg h.free0 hl hne, grown_frozen hg h.free1 hl hne, h.lo⟩
  exact hr.grown hg (by omega) (fun j hj => by have := hlt j hj; omega)
/-- The k-th that is taken. -/
def val (l : List Int) (t : Int) (k : Nat) : Int := if h : k < l.length then l[k] else t + ((k - l.length : Nat) : Int)
theorem tk_drop (l : List Int) (t : Int) (k : Nat) : tk (l.drop k) (t + ((k - l.length : Nat) : Int)) = (val l t k, l.drop (k + 1), t + ((k + 1 - l.length : Nat) : Int)) := by
  unfold val
  by_cases h : k < l.length
  · rw [List.drop_eq_getElem_cons h, dif_pos h]
    have h1 : k - l.length = 0 := by omega
    have h2 : k + 1 - l.length = 0 := by omega
    simp [tk, h1, h2]
  · rw [List.drop_eq_nil_of_le (by omega), List.drop_eq_nil_of_le (by omega), dif_neg h]
    have h2 : k + 1 - l.length = (k - l.length) + 1 := by omega
    simp only [tk, h2]
    congr 2
    push_cast
    omega
/-- What is taken, so many times of n. -/
def outs (l : List Int) (t n : Int) (k : Nat) : List Int := (List.range k).map fun j => val l t j % n
theorem outs_succ (l : List Int) (t n : Int) (k : Nat) : outs l t n (k + 1) = outs l t n k ++ [val l t k % n] := by
  unfold outs; rw [List.range_succ, List.map_append]; rfl
end Go.Proofs.YtobilnloghofpaaGreatDoor.Pi
/- The document's answer of layer 8, what wakes it, and PicksNone. -/

namespace Go.Proofs.YtobilnloghofpaaGreatDoor.Pi
open Go.ChangeShapes Go.WideShapes Go.ChangeAt Go.RowKit Rw
set_option linter.unusedVariables false

theorem rd_lit {w : World} {xs : List Int} {n : Nat} (hn : xs.length = n) (hs : n ≤ 9223372036854775807) (t : TypeId) {cs : Array Value} (hc : cs = (xs.map (Value.int .i64)).toArray) : Rd (Value.int .i64) (w.alloc (.cells cs t)) (w.heap.size + 1) (some ⟨w.heap.size, 0, none⟩) n n xs := by
  subst hc
  refine ⟨hn, Nat.le_refl _, hs, fun _ => ⟨w.heap.size, 0, rfl, by omega, fun j x hx => ?_⟩⟩
  simp [hx]
theorem grown_below {w w' : World} {B g : Nat} (hg : w.grownBy w' (some g)) (hB : B ≤ w.heap.size) (hgB : B ≤ g) : Below B w w' := (Below.refl B w).grown hg hB (fun j hj => by cases hj; exact hgB)
end Go.Proofs.YtobilnloghofpaaGreatDoor.Pi
/- The shelf's contracts of strconv.Itoa, of what internal/strconv.FormatUint calls, and of strings.Join, laid by hand. -/

namespace Go.Proofs.YtobilnloghofpaaGreatDoor.Tx
open Go.ChangeShapes Go.WideShapes Go.ChangeAt Go.RowKit Rw Go.Shelf Go.Sort
set_option linter.unusedVariables false

def txG (k : Nat) : Nat := if k = 17 then 2 else if k = 18 then 5 else if k = 19 then 6 else 0
end Go.Proofs.YtobilnloghofpaaGreatDoor.Tx
/- The text of an event. -/

namespace Go.Proofs.YtobilnloghofpaaGreatDoor.Tx
open Go.ChangeShapes Go.WideShapes Go.ChangeAt Go.RowKit Rw Go.Shelf Go.Sort
set_option linter.unusedVariables false

/-- The table of powers of ten lies where the program laid it. -/
def Tab (w : World) : Prop := Lib.TabIs Tryz.prog w "internal/strconv.uint64pow10" .u64 Lib.pow10Tab
theorem Tab.below {w w' : World} (h : Tab w) (hb : Below w.heap.size w w') : Tab w' := by
  unfold Tab Lib.TabIs World.var? at *
  cases hg : Tryz.prog.globalNamed "internal/strconv.uint64pow10" with
  | none => simp [hg] at h
  | some g =>
    simp only [hg, Option.bind_some] at h ⊢
    have hlt : g < w.heap.size := by
      rcases Nat.lt_or_ge g w.heap.size with h' | h'
      · exact h'
      · rw [Array.getElem?_eq_none h'] at h; simp at h
    rw [hb.block g hlt]
    exact h
theorem below_grow (w : World) (k : Nat) (os : Array Obj) : Below w.heap.size w (grow (w.drewN k) os) :=
  ⟨rfl, rfl, rfl, by simp, fun j hj => heap_grow_old (w.drewN k) os hj⟩
def bts (l : List UInt8) : ByteArray := ⟨l.toArray⟩

def pickw (n : Int) (ws : List ByteArray) : ByteArray := if n < 0 then bts [63] else ws.getD n.toNat (bts [63])
end Go.Proofs.YtobilnloghofpaaGreatDoor.Tx
/- The text of an event, whole. -/
namespace Go.Proofs.YtobilnloghofpaaGreatDoor.Tx
open Go.ChangeShapes Go.WideShapes Go.ChangeAt Go.RowKit Rw Go.Shelf Go.Sort
set_option linter.unusedVariables false

structure Ev where
  step : Int
  thread : Int
  kind : Int
  op : Int
  id : Int
  err : Int
deriving DecidableEq
def encE (e : Ev) : List Value := [.int .u64 e.step, .int .i64 e.thread, .int .i64 e.kind, .int .i64 e.op, .int .u64 e.id, .int .i64 e.err]
def Ev.val (e : Ev) : Value := .agg #[.int .u64 e.step, .int .i64 e.thread, .int .i64 e.kind, .int .i64 e.op, .int .u64 e.id, .int .i64 e.err]
def I64 (x : Int) : Prop := -9223372036854775808 ≤ x ∧ x ≤ 9223372036854775807
def U64 (x : Int) : Prop := 0 ≤ x ∧ x ≤ 18446744073709551615
structure Ev.ok (e : Ev) : Prop where
  step : U64 e.step
  thread : I64 e.thread
  kind : I64 e.kind
  op : I64 e.op
  id : U64 e.id
  err : I64 e.err
def kws : List ByteArray := [bts [99, 97, 108, 108], bts [112, 111, 105, 110, 116], bts [97, 110, 115, 119, 101, 114], bts [114, 101, 116, 105, 114, 101]]
def ows : List ByteArray := [bts [103, 101, 116], bts [112, 117, 116], bts [101, 118, 105, 99, 116], bts [99, 108, 111, 115, 101], bts [104, 111, 117, 115, 101]]
def six (e : Ev) : List ByteArray := [bts (Lib.itoa e.step), bts (Lib.itoa e.thread), pickw e.kind kws, pickw e.op ows, bts (Lib.itoa e.id), bts (Lib.itoa e.err)]
def txt (e : Ev) : ByteArray := bts (Lib.join ((six e).map (·.data.toList)) [32])
theorem itoa_le (n : Int) (h0 : -9223372036854775808 ≤ n) (h1 : n ≤ 18446744073709551615) : (Lib.itoa n).length ≤ 21 := by
  have key : ∀ u : Nat, u < 18446744073709551616 → Lib.nDigits u ≤ 20 := by
    intro u hu
    rcases Nat.eq_zero_or_pos u with rfl | h
    · rw [← Lib.decDigits_length]; simp [Lib.decDigits]
    · have := Lib.numDigits_eq u h hu
      split at this <;> omega
  by_cases hneg : n < 0
  · obtain ⟨u, rfl⟩ : ∃ u : Nat, n = -(u : Int) := ⟨n.natAbs, by omega⟩
    rw [Lib.itoa_neg u (by omega), List.length_cons, Lib.decDigits_length]
    have := key u (by omega)
    omega
  · obtain ⟨u, rfl⟩ : ∃ u : Nat, n = u := ⟨n.toNat, by omega⟩
    rw [Lib.itoa_nonneg, Lib.decDigits_length]
    have := key u (by omega)
    omega
theorem pickw_le (n : Int) (ws : List ByteArray) (h : ∀ x ∈ ws, x.data.toList.length ≤ 10) : (pickw n ws).data.toList.length ≤ 10 := by
  unfold pickw
  split
  · decide
  · rw [List.getD_eq_getElem?_getD]
    cases hx : ws[n.toNat]? with
    | none => decide
    | some x => exact h x (List.mem_of_getElem? hx)
theorem txt_le (e : Ev) (h : e.ok) : (Lib.join ((six e).map (·.data.toList)) [32]).length ≤ 140737488355328 := by
  have h1 := itoa_le e.step (by have := h.step.1; omega) h.step.2
  have h2 := itoa_le e.thread h.thread.1 (by have := h.thread.2; omega)
  have h3 := itoa_le e.id (by have := h.id.1; omega) h.id.2
  have h4 := itoa_le e.err h.err.1 (by have := h.err.2; omega)
  have h5 := pickw_le e.kind kws (by decide)
  have h6 := pickw_le e.op ows (by decide)
  simp only [six, List.map_cons, List.map_nil, Lib.join_cons, Lib.joinTail, List.flatten_cons, List.flatten_nil, List.length_append, List.length_cons, List.length_nil, bts] at *
  omega
def Six (g : Nat) (e : Ev) (w : World) : Prop :=
  w.cell? ⟨g, 0, none⟩ = some (.int .u64 e.step) ∧ w.cell? ⟨g, 1, none⟩ = some (.int .i64 e.thread) ∧ w.cell? ⟨g, 2, none⟩ = some (.int .i64 e.kind) ∧
  w.cell? ⟨g, 3, none⟩ = some (.int .i64 e.op) ∧ w.cell? ⟨g, 4, none⟩ = some (.int .u64 e.id) ∧ w.cell? ⟨g, 5, none⟩ = some (.int .i64 e.err)
theorem Six.below {g : Nat} {e : Ev} {w w' : World} (h : Six g e w) (hb : Below w.heap.size w w') : Six g e w' :=
  ⟨(hb.cell (p := ⟨g, 0, none⟩) (Lw.lt_heap h.1)).trans h.1, (hb.cell (p := ⟨g, 1, none⟩) (Lw.lt_heap h.2.1)).trans h.2.1, (hb.cell (p := ⟨g, 2, none⟩) (Lw.lt_heap h.2.2.1)).trans h.2.2.1,
   (hb.cell (p := ⟨g, 3, none⟩) (Lw.lt_heap h.2.2.2.1)).trans h.2.2.2.1, (hb.cell (p := ⟨g, 4, none⟩) (Lw.lt_heap h.2.2.2.2.1)).trans h.2.2.2.2.1, (hb.cell (p := ⟨g, 5, none⟩) (Lw.lt_heap h.2.2.2.2.2)).trans h.2.2.2.2.2⟩
theorem rd_strs {w : World} {xs : List ByteArray} {n : Nat} (hn : xs.length = n) (hs : n ≤ 9223372036854775807) (t : TypeId) {cs : Array Value} (hc : cs = (xs.map Value.string).toArray) : Rd Value.string (w.alloc (.cells cs t)) (w.heap.size + 1) (some ⟨w.heap.size, 0, none⟩) n n xs := by
  subst hc
  refine ⟨hn, Nat.le_refl _, hs, fun _ => ⟨w.heap.size, 0, rfl, by omega, fun j x hx => ?_⟩⟩
  simp [hx]
/-- What is known behind each operation that makes something. -/
def tT (e : Ev) : Nat → Value → World → Prop
  | 2, v, _ => v = .string (bts (Lib.itoa e.step))
  | 5, v, _ => v = .string (bts (Lib.itoa e.thread))
  | 8, v, w => ∃ A c, v = .slice A 4 c ∧ Rd Value.string w w.heap.size A 4 c kws
  | 9, v, _ => v = .string (pickw e.kind kws)
  | 12, v, w => ∃ A c, v = .slice A 5 c ∧ Rd Value.string w w.heap.size A 5 c ows
  | 13, v, _ => v = .string (pickw e.op ows)
  | 16, v, _ => v = .string (bts (Lib.itoa e.id))
  | 19, v, _ => v = .string (bts (Lib.itoa e.err))
  | 20, v, w => ∃ A c, v = .slice A 6 c ∧ Rd Value.string w w.heap.size A 6 c (six e)
  | 21, v, _ => v = .string (txt e)
  | 22, v, _ => v = .string (txt e)
  | _, _, _ => True
theorem tT_mono (e : Ev) (i : Nat) (v : Value) (w w' : World) (h : tT e i v w) (hb : Below w.heap.size w w') : tT e i v w' := by
  unfold tT at *
  split at h
  all_goals first
    | exact h
    | (obtain ⟨A, c, e1, e2⟩ := h; exact ⟨A, c, e1, e2.later hb⟩)
end Go.Proofs.YtobilnloghofpaaGreatDoor.Tx
/- Contracts of layer 9 (hist). -/

namespace Go.Proofs.YtobilnloghofpaaGreatDoor.Hi
open Go.ChangeShapes Go.WideShapes Go.ChangeAt Go.RowKit Rw Tx
set_option linter.unusedVariables false

theorem encE_len (e : Ev) : (encE e).length = 6 := rfl
theorem encE_one (e : Ev) : ∀ u ∈ encE e, u.oneCell' = true := by
  intro u hu
  simp [encE] at hu
  rcases hu with rfl | rfl | rfl | rfl | rfl | rfl <;> rfl
end Go.Proofs.YtobilnloghofpaaGreatDoor.Hi
/- Add and Clone of layer 9 (hist). -/
namespace Go.Proofs.YtobilnloghofpaaGreatDoor.Hi
open Go.ChangeShapes Go.WideShapes Go.ChangeAt Go.RowKit Rw Tx
set_option linter.unusedVariables false

section
variable {P : Program} {w : World} {α : Type} {enc : α → List Value} {sz : Nat}
theorem wp_append_rs (he : ∀ x, (enc x).length = sz) {o : Oper} {a : Act} {next : Act → World → Prop} {Q : Exit → Act → World → Prop} (s x : Operand) (t : TypeId)
    (ho : o.op = .call { callee := .builtin .append, args := #[s, x], argTypes := #[t, t] })
    (base : Nat) (e : TypeId) (i : TypeInfo) (z : Value) (bytes : Nat) (ht : P.underlying t = some (.slice e)) (hi : P.info? e = some i) (hz : i.zero = some z)
    (hsize : i.size = sz) (hby : i.bytes = bytes) (hzs : z.cells.size = sz) (hsz : 0 < sz)
    (v : Value) (n : Nat) (xs : List Value) (hs : a.eval s = v) (hown : w.ownsRow base e sz v n xs)
    (B : Nat) (A : Option Addr) (m c : Nat) (ys : List α) (hx : a.eval x = .slice A m c) (hr : Rs enc sz w B A m c ys) (h1 : ∀ y, ∀ u ∈ enc y, u.oneCell' = true)
    (k : Nat) (hk : n + m = k) (zs : List Value) (hzs' : xs ++ flat enc ys = zs) (h63 : n + m ≤ maxLen) (hbytes : (n + m) * bytes ≤ 140737488355328) (hbase : base ≤ w.heap.size)
    (h : ∀ A' c' w', w'.ownsRow base e sz (.slice A' k c') k zs → w.grownBy w' v.ownBlock → ((Value.slice A' k c').ownBlock = v.ownBlock ∨ (Value.slice A' k c').ownBlock = some w.heap.size) → next (a.put o.dst (.slice A' k c')) w') : o.wp P a w next Q := by
  subst hk hzs'
  obtain ⟨v', w', hrun, h2, h3, h4⟩ := run_append_rs (P := P) he base t o.type e i z bytes ht hi hz hsize hby hzs hsz v n xs hown B A m c ys hr h1 h63 hbytes hbase
  obtain ⟨A', c', rfl⟩ := own_slice h2
  exact Lib.wp_append_run w s x t t ho v _ hs hx _ w' hrun (h A' c' w' h2 h3 h4)
end

end Go.Proofs.YtobilnloghofpaaGreatDoor.Hi
/- What wakes layer 9. -/
namespace Go.Proofs.YtobilnloghofpaaGreatDoor.Hi
open Go.ChangeShapes Go.WideShapes Go.ChangeAt Go.RowKit Rw Tx
set_option linter.unusedVariables false

theorem txt_first : txt ⟨1, 2, 0, 0, 0, 0⟩ = { data := #[49, 32, 50, 32, 99, 97, 108, 108, 32, 103, 101, 116, 32, 48, 32, 48] } := by decide +kernel
theorem first_ok : (⟨1, 2, 0, 0, 0, 0⟩ : Ev).ok := by constructor <;> simp [U64, I64]
theorem six_at {w : World} {B : Nat} {A : Option Addr} {n c k : Nat} {l : List Ev} (h : Rs encE 6 w B A n c l) (hk : k < n) : ∃ b o e, A = some ⟨b, o, none⟩ ∧ b < B ∧ l[k]? = some e ∧
    w.cell? ⟨b, o + k * 6, none⟩ = some (.int .u64 e.step) ∧ w.cell? ⟨b, o + k * 6 + 1, none⟩ = some (.int .i64 e.thread) ∧ w.cell? ⟨b, o + k * 6 + 2, none⟩ = some (.int .i64 e.kind) ∧
    w.cell? ⟨b, o + k * 6 + 3, none⟩ = some (.int .i64 e.op) ∧ w.cell? ⟨b, o + k * 6 + 4, none⟩ = some (.int .u64 e.id) ∧ w.cell? ⟨b, o + k * 6 + 5, none⟩ = some (.int .i64 e.err) := by
  obtain ⟨b, o, e, h1, h2, h3, hc⟩ := h.get hk
  exact ⟨b, o, e, h1, h2, h3, hc 0 _ (by omega) rfl, hc 1 _ (by omega) rfl, hc 2 _ (by omega) rfl, hc 3 _ (by omega) rfl, hc 4 _ (by omega) rfl, hc 5 _ (by omega) rfl⟩
end Go.Proofs.YtobilnloghofpaaGreatDoor.Hi
