/- The tables that the program reads: powers of ten, twice, and the keys of a configuration. -/
import Derived.Test.YtobilnloghofpaaGreatDoorBase3
import Derived.Test.YtobilnloghofpaaGreatDoorFlt
import Derived.Lib.LaidU8
import GoSem.PinnedTables
namespace Go.Proofs.YtobilnloghofpaaGreatDoor.Tb
open Go.ChangeShapes Go.WideShapes Go.ChangeAt Go.RowKit Rw
set_option linter.unusedVariables false
set_option maxRecDepth 100000

def hiT (i : Nat) : Nat := (Pinned.pow10Rows.getD i (0, 0)).1
def loT (i : Nat) : Nat := (Pinned.pow10Rows.getD i (0, 0)).2
theorem rows_ok : (Pinned.pow10Rows.all fun x => decide (x.1 < 18446744073709551616) && decide (x.2 < 18446744073709551616)) = true := by kernel_rfl
theorem pow_of_reads {w : World} (h4 : Lib.VarReads Tryz.prog w "internal/strconv.pow10Tab" Pinned.pow10Tab) : Ff.Pw hiT loT w := by
  intro i hi
  obtain ⟨g, t, cs, fuel, p, hg, hty, hvar, hd⟩ := h4
  obtain rfl := Option.some.inj ((show Tryz.prog.globalNamed "internal/strconv.pow10Tab" = some 3 by kernel_rfl).symm.trans hg)
  obtain rfl := Option.some.inj ((show (Tryz.prog.globals[3]?).map (·.type) = some 128 by kernel_rfl).symm.trans hty)
  obtain ⟨fuel', d, q, hdi, he⟩ := Lib.array_elem Tryz.underlying128 hd i hi
  rw [List.getElem?_map] at hdi
  obtain ⟨x, hx, rfl⟩ := Option.map_eq_some_iff.1 hdi
  have c2 : Tryz.prog.cellsOf 127 = 2 := by kernel_rfl
  have c1 : Tryz.prog.cellsOf 22 = 1 := by kernel_rfl
  rw [c2] at he
  have hcs := Lib.ints_of_struct (k := .u64) (zs := [(x.1 : Int), (x.2 : Int)]) Tryz.underlying127 (fun j f hj => by
    match j, hj with
    | 0, hj => simp at hj; subst hj; exact ⟨Tryz.underlying22, rfl, c1⟩
    | 1, hj => simp at hj; subst hj; exact ⟨Tryz.underlying22, rfl, c1⟩
    | j + 2, hj => simp at hj) (by rw [c2]; rfl) he
  have e0 := congrArg (·[0]?) hcs
  have e1 := congrArg (·[1]?) hcs
  simp only [List.getElem?_take, List.getElem?_drop] at e0 e1
  have hb := List.all_eq_true.1 rows_ok x (List.mem_of_getElem? hx)
  simp only [Bool.and_eq_true, decide_eq_true_eq] at hb
  have hh : hiT i = x.1 := by unfold hiT; rw [List.getD_eq_getElem?_getD, hx]; rfl
  have hl : loT i = x.2 := by unfold loT; rw [List.getD_eq_getElem?_getD, hx]; rfl
  have q0 : w.cell? ⟨3, i * 2, none⟩ = some (.int .u64 (hiT i)) := by
    rw [World.var?_cell hg hvar (i * 2), ← Array.getElem?_toList, hh]
    simpa using e0
  have q1 : w.cell? ⟨3, i * 2 + 1, none⟩ = some (.int .u64 (loT i)) := by
    rw [World.var?_cell hg hvar (i * 2 + 1), ← Array.getElem?_toList, hl]
    simpa using e1
  exact ⟨by rw [hh]; exact hb.1, by rw [hl]; exact hb.2, Lw.lt_heap q0, q0, q1⟩

theorem tab_of_reads {w : World} (h : Lib.VarReads Tryz.prog w "internal/strconv.uint64pow10" (Lib.tabData .u64 Lib.pow10Tab)) : Tx.Tab w := by
  obtain ⟨g, t, cs, fuel, p, hg, hty, hvar, hd⟩ := h
  obtain rfl := Option.some.inj ((show Tryz.prog.globalNamed "internal/strconv.uint64pow10" = some 2 by kernel_rfl).symm.trans hg)
  obtain rfl := Option.some.inj ((show (Tryz.prog.globals[2]?).map (·.type) = some 108 by kernel_rfl).symm.trans hty)
  unfold Tx.Tab Lib.TabIs
  rw [hvar, ← Lib.cells_of_tab Tryz.underlying108 Tryz.underlying22 (by kernel_rfl) (by kernel_rfl) hd]

/-- How the words of a configuration begin. -/
def keyT : List (List UInt8) := [[109, 97, 120, 61], [109, 105, 110, 61], [105, 100, 108, 101, 61], [108, 105, 102, 101, 61], [107, 101, 101, 112, 61], [108, 101, 97, 107, 61], [118, 97, 114, 105, 97, 110, 99, 101, 61]]
def keyD : DataW Unit := .agg (keyT.map fun s => .lit (.string s))
end Go.Proofs.YtobilnloghofpaaGreatDoor.Tb
