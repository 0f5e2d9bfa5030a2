/- A part of the claim: the texts Tabs. -/
import Derived.Test.YthmdiaingolfnaaGreatDoorZBase3
import Derived.Test.YthmdiaingolfnaaGreatDoorZFlt
import Derived.Lib.LaidU8
import GoSem.PinnedTables
namespace Go.Proofs.YthmdiaingolfnaaGreatDoor.Tb
open Go.ChangeShapes Go.WideShapes Go.ChangeAt Go.RowKit Rw
set_option linter.unusedVariables false
set_option maxRecDepth 100000
def hiT (i : Nat) : Nat := (Pinned.pow10Rows.getD i (0, 0)).1
def loT (i : Nat) : Nat := (Pinned.pow10Rows.getD i (0, 0)).2
theorem rows_ok : (Pinned.pow10Rows.all fun x => decide (x.1 < 18446744073709551616) && decide (x.2 < 18446744073709551616)) = true := by kernel_rfl
theorem pow_of_reads {w : World} (h4 : Lib.VarReads Tryz.prog w "internal/strconv.pow10Tab" Pinned.pow10Tab) : Ff.Pw hiT loT w := by
  intro i hi
  obtain ⟨g, t, cs, fuel, p, hg, hty, hvar, hd⟩ := h4
  obtain rfl := Option.some.inj ((show Tryz.prog.globalNamed "internal/strconv.pow10Tab" = some 7 by kernel_rfl).symm.trans hg)
  obtain rfl := Option.some.inj ((show (Tryz.prog.globals[7]?).map (·.type) = some 341 by kernel_rfl).symm.trans hty)
  obtain ⟨fuel', d, q, hdi, he⟩ := Lib.array_elem Tryz.underlying341 hd i hi
  rw [List.getElem?_map] at hdi
  obtain ⟨x, hx, rfl⟩ := Option.map_eq_some_iff.1 hdi
  have c2 : Tryz.prog.cellsOf 340 = 2 := by kernel_rfl
  have c1 : Tryz.prog.cellsOf 22 = 1 := by kernel_rfl
  rw [c2] at he
  have hcs := Lib.ints_of_struct (k := .u64) (zs := [(x.1 : Int), (x.2 : Int)]) Tryz.underlying340 (fun j f hj => by
    match j, hj with
    | 0, hj => simp at hj; subst hj; exact ⟨Tryz.underlying22, rfl, c1⟩
    | 1, hj => simp at hj; subst hj; exact ⟨Tryz.underlying22, rfl, c1⟩
    | j + 2, hj => simp at hj) (by rw [c2]; rfl) he
  have e0 := congrArg (·[0]?) hcs
  have e1 := congrArg (·[1]?) hcs
  simp only [List.getElem?_take, List.getElem?_drop] at e0 e1
  have hb := List.all_eq_true.1 rows_ok x (List.mem_of_getElem? hx)
  simp only [Bool.and_eq_true, decide_eq_true_eq] at hb
  have hh : hiT i = x.1 := by unfold hiT; rw [List.getD_eq_getElem?_getD, hx]; rfl
  have hl : loT i = x.2 := by unfold loT; rw [List.getD_eq_getElem?_getD, hx]; rfl
  have q0 : w.cell? ⟨7, i * 2, none⟩ = some (.int .u64 (hiT i)) := by
    rw [World.var?_cell hg hvar (i * 2), ← Array.getElem?_toList, hh]
    simpa using e0
  have q1 : w.cell? ⟨7, i * 2 + 1, none⟩ = some (.int .u64 (loT i)) := by
    rw [World.var?_cell hg hvar (i * 2 + 1), ← Array.getElem?_toList, hl]
    simpa using e1
  exact ⟨by rw [hh]; exact hb.1, by rw [hl]; exact hb.2, Lw.lt_heap q0, q0, q1⟩
theorem tab_of_reads {w : World} (h : Lib.VarReads Tryz.prog w "internal/strconv.uint64pow10" (Lib.tabData .u64 Lib.pow10Tab)) : Tx.Tab w := by
  obtain ⟨g, t, cs, fuel, p, hg, hty, hvar, hd⟩ := h
  obtain rfl := Option.some.inj ((show Tryz.prog.globalNamed "internal/strconv.uint64pow10" = some 2 by kernel_rfl).symm.trans hg)
  obtain rfl := Option.some.inj ((show (Tryz.prog.globals[2]?).map (·.type) = some 299 by kernel_rfl).symm.trans hty)
  unfold Tx.Tab Lib.TabIs
  rw [hvar, ← Lib.cells_of_tab Tryz.underlying299 Tryz.underlying22 (by kernel_rfl) (by kernel_rfl) hd]
def keyT : List (List UInt8) := [[109, 97, 120, 61], [109, 105, 110, 61], [105, 100, 108, 101, 61], [108, 105, 102, 101, 61], [107, 101, 101, 112, 61], [108, 101, 97, 107, 61], [118, 97, 114, 105, 97, 110, 99, 101, 61]]
def keyD : DataW Unit := .agg (keyT.map fun s => .lit (.string s))
def Keys (w : World) : Prop := ∀ i s, keyT[i]? = some s → 1 < w.heap.size ∧ w.cell? ⟨1, i, none⟩ = some (.string (Tx.bts s))
theorem Keys.below {w w' : World} (h : Keys w) (hb : Below w.heap.size w w') : Keys w' := fun i s hs => by
  obtain ⟨a, b⟩ := h i s hs
  exact ⟨Nat.lt_of_lt_of_le a hb.size, (hb.cell (p := ⟨1, i, none⟩) a).trans b⟩
theorem keys_of_reads {w : World} (h : Lib.VarReads Tryz.prog w "hackney/conf.keys" keyD) : Keys w := by
  intro i s hs
  obtain ⟨g, t, cs, fuel, p, hg, hty, hvar, hd⟩ := h
  obtain rfl := Option.some.inj ((show Tryz.prog.globalNamed "hackney/conf.keys" = some 1 by kernel_rfl).symm.trans hg)
  obtain rfl := Option.some.inj ((show (Tryz.prog.globals[1]?).map (·.type) = some 259 by kernel_rfl).symm.trans hty)
  have hi : i < 7 := (List.getElem?_eq_some_iff.1 hs).1
  obtain ⟨fuel', d, q, hdi, he⟩ := Lib.array_elem Tryz.underlying259 hd i hi
  rw [List.getElem?_map, hs] at hdi
  injection hdi with hdi
  subst hdi
  have c1 : Tryz.prog.cellsOf 9 = 1 := by kernel_rfl
  rw [c1] at he
  obtain ⟨b, hb, hd2, _⟩ := DataW.trod_string Tryz.underlying9 he
  injection hd2 with hd2 _
  injection hd2 with hd2
  injection hd2 with hd2
  have e0 := congrArg (·[0]?) hb
  simp only [List.getElem?_take, List.getElem?_drop] at e0
  have q0 : w.cell? ⟨1, i, none⟩ = some (.string (Tx.bts s)) := by
    rw [World.var?_cell hg hvar i, ← Array.getElem?_toList]
    have : Tx.bts s = b := by unfold Tx.bts; rw [hd2]
    rw [this]
    simpa using e0
  exact ⟨Lw.lt_heap q0, q0⟩
structure Tabs (w : World) : Prop where
  tab : Tx.Tab w
  pow : Ff.Pw hiT loT w
  keys : Keys w
theorem Tabs.below {w w' : World} (h : Tabs w) (hb : Below w.heap.size w w') : Tabs w' := ⟨h.tab.below hb, h.pow.below hb, h.keys.below hb⟩
theorem tabs_of {l : List (String × DataW Unit)} {W : World} (h : laidMet Tryz.prog l W) (h1 : ("internal/strconv.uint64pow10", Lib.tabData .u64 Lib.pow10Tab) ∈ l) (h2 : ("internal/strconv.pow10Tab", Pinned.pow10Tab) ∈ l) (h3 : ("hackney/conf.keys", keyD) ∈ l) : Tabs W :=
  ⟨tab_of_reads (Lib.laidMet.reads h h1), pow_of_reads (Lib.laidMet.reads h h2), keys_of_reads (Lib.laidMet.reads h h3)⟩
end Go.Proofs.YthmdiaingolfnaaGreatDoor.Tb
