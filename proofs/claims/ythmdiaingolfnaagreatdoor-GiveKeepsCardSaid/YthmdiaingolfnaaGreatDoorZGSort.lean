/- A part of the claim: the texts Base8 IterU. -/
import Derived.Test.YthmdiaingolfnaaGreatDoorZBase1
import Derived.Test.YthmdiaingolfnaaGreatDoorZGBag
import Derived.Shelf.Small.Bits
import Derived.Laws.Closers25b
import Derived.Laws.Bits64b
import Derived.Sort.LotA
import Derived.Sort.LotB
import Derived.Sort.LotC
import Derived.Deep.DeepCutAuto
import Derived.Shelf.SlIterI.Sorted
import Derived.Sort.MapsRangeIn
namespace Go.Proofs.YthmdiaingolfnaaGreatDoor.So
open Go.ChangeShapes Go.WideShapes Go.ChangeAt Go.RowKit Rw
set_option linter.unusedVariables false
structure Row (w : World) (g n : Nat) (d : List Int) : Prop where
  len : d.length = n
  cell : ∀ j x, d[j]? = some x → w.cell? ⟨g, j, none⟩ = some (.int .u64 x)
  free : ∀ j, j < n → w.frozen? ⟨g, j, none⟩ = false
def Pm (g n : Nat) (d : List Int) (w w' : World) : Prop := ∃ d', d'.Perm d ∧ Row w' g n d' ∧ w.grownBy w' (some g)
theorem Row.get {w : World} {g n : Nat} {d : List Int} (h : Row w g n d) {j : Nat} (hj : j < n) : ∃ x, d[j]? = some x ∧ w.cell? ⟨g, j, none⟩ = some (.int .u64 x) := by
  have hl : j < d.length := by rw [h.len]; exact hj
  exact ⟨d[j], List.getElem?_eq_getElem hl, h.cell j _ (List.getElem?_eq_getElem hl)⟩
theorem Row.lt {w : World} {g n : Nat} {d : List Int} (h : Row w g n d) (hn : 0 < n) : g < w.heap.size := by
  obtain ⟨x, _, hc⟩ := h.get hn
  exact Lw.lt_heap hc
theorem Row.drewN {w : World} {g n : Nat} {d : List Int} (h : Row w g n d) (k : Nat) : Row (w.drewN k) g n d := ⟨h.len, h.cell, h.free⟩
theorem Row.drew {w : World} {g n : Nat} {d : List Int} (h : Row w g n d) : Row w.drew g n d := ⟨h.len, h.cell, h.free⟩
theorem Row.set {w : World} {g n : Nat} {d : List Int} (h : Row w g n d) {i : Nat} (hi : i < n) (x : Int) : Row (w.setCell ⟨g, i, none⟩ (.int .u64 x)) g n (d.set i x) := by
  refine ⟨by rw [List.length_set]; exact h.len, fun j y hy => ?_, fun j hj => by rw [World.frozen?_setCell]; exact h.free j hj⟩
  rw [List.getElem?_set] at hy
  obtain ⟨z, _, hz⟩ := h.get hi
  split at hy
  · next e =>
    subst e
    have hl : i < d.length := by rw [h.len]; exact hi
    simp [hl] at hy
    subst hy
    exact World.cell?_setCell_same w _ _ (by rw [hz])
  · next e => exact (World.cell?_setCell_other w _ _ _ (fun e' => e (by injection e'))).trans (h.cell j y hy)
theorem grown_setCell (w : World) (g i : Nat) (v : Value) : w.grownBy (w.setCell ⟨g, i, none⟩ v) (some g) :=
  ⟨rfl, rfl, rfl, by simp, fun k _ hk => Below.heap_setCell w _ v k (fun e => hk (by rw [e]))⟩
theorem grown_drewN (w : World) (k : Nat) (r : Option Nat) : w.grownBy (w.drewN k) r := ⟨rfl, rfl, rfl, Nat.le_refl _, fun _ _ _ => rfl⟩
theorem Pm.refl {g n : Nat} {d : List Int} {w : World} (h : Row w g n d) : Pm g n d w w := ⟨d, List.Perm.refl _, h, World.grownBy.refl _ _⟩
theorem Pm.trans {g n : Nat} {d d' : List Int} {w w1 w2 : World} (hp : d'.Perm d) (hg : w.grownBy w1 (some g)) (h : Pm g n d' w1 w2) : Pm g n d w w2 := by
  obtain ⟨d2, h1, h2, h3⟩ := h
  exact ⟨d2, h1.trans hp, h2, hg.trans h3⟩
theorem perm_swap {d : List Int} {i j : Nat} {x y : Int} (hi : d[i]? = some x) (hj : d[j]? = some y) : ((d.set i y).set j x).Perm d := by
  obtain ⟨hi', rfl⟩ := List.getElem?_eq_some_iff.1 hi
  obtain ⟨hj', rfl⟩ := List.getElem?_eq_some_iff.1 hj
  by_cases e : i = j
  · subst e
    simp
  have h := Array.swap_perm (xs := d.toArray) (i := i) (j := j) (by simpa using hi') (by simpa using hj')
  have e2 : (d.toArray.swap i j (by simpa using hi') (by simpa using hj')).toList = (d.set i d[j]).set j d[i] := by simp [Array.swap]
  have h2 := Array.perm_iff_toList_perm.1 h
  rw [e2] at h2
  simpa using h2
theorem Row.swap {w w' : World} {g n : Nat} {d : List Int} {i j : Nat} {x y : Int} (h : Row w g n d) (hi : d[i]? = some x) (hj : d[j]? = some y) (k : Nat)
    (hw : w' = ((w.drewN k).setCell ⟨g, i, none⟩ (.int .u64 y)).setCell ⟨g, j, none⟩ (.int .u64 x)) : Pm g n d w w' := by
  subst hw
  have hil : i < n := by rw [← h.len]; exact (List.getElem?_eq_some_iff.1 hi).1
  have hjl : j < n := by rw [← h.len]; exact (List.getElem?_eq_some_iff.1 hj).1
  exact ⟨_, perm_swap hi hj, ((h.drewN k).set hil y).set hjl x, ((grown_drewN w k _).trans (grown_setCell _ g i _)).trans (grown_setCell _ g j _)⟩
end Go.Proofs.YthmdiaingolfnaaGreatDoor.So
namespace Go.Proofs.YthmdiaingolfnaaGreatDoor.So
open Go.ChangeShapes Go.WideShapes Go.ChangeAt Go.RowKit Rw
set_option linter.unusedVariables false
end Go.Proofs.YthmdiaingolfnaaGreatDoor.So
namespace Go.Proofs.YthmdiaingolfnaaGreatDoor.So
open Go.ChangeShapes Go.WideShapes Go.ChangeAt Go.RowKit Rw Go.Shelf
set_option linter.unusedVariables false
def lenF (k : Nat) : Nat := if k = 125 then 171 else if k = 128 then 191 else if k = 129 then 192 else 0
def lenT (k : Nat) : Nat := if k = 3 then 3 else if k = 4 then 4 else if k = 5 then 5 else if k = 9 then 9 else if k = 46 then 173 else if k = 51 then 286 else if k = 53 then 22 else 0
def lenRen : Ren := { f := lenF, t := lenT, g := fun x => x }
theorem lays125 : Lays.n125 Tryz.prog lenRen := {
  mixed := by kernel_rfl
  f125 := by kernel_rfl
  f128 := by kernel_rfl
  f129 := by kernel_rfl
  t3 := by kernel_rfl
  a3 := fun w => by kernel_rfl
  z3 := fun w => by kernel_rfl
  v3 := fun w => by kernel_rfl
  t4 := by kernel_rfl
  a4 := fun w => by kernel_rfl
  z4 := fun w => by kernel_rfl
  v4 := fun w => by kernel_rfl
  t5 := by kernel_rfl
  a5 := fun w => by kernel_rfl
  z5 := fun w => by kernel_rfl
  v5 := fun w => by kernel_rfl
  t9 := by kernel_rfl
  a9 := fun w => by kernel_rfl
  z9 := fun w => by kernel_rfl
  v9 := fun w => by kernel_rfl
  t46 := by kernel_rfl
  a46 := fun w => by kernel_rfl
  z46 := fun w => by kernel_rfl
  v46 := fun w => by kernel_rfl
  t51 := by kernel_rfl
  a51 := fun w => by kernel_rfl
  z51 := fun w => by kernel_rfl
  v51 := fun w => by kernel_rfl
  t53 := by kernel_rfl
  a53 := fun w => by kernel_rfl
  z53 := fun w => by kernel_rfl
  v53 := fun w => by kernel_rfl }
theorem len_any (x : Nat) (w : World) (h : x ≤ 18446744073709551615) : Calls Tryz.prog 171 #[.int .u64 x] w fun e w' => e = .returned (.int .i64 (Lib.bitLen x)) ∧ w = w' :=
  (Any.bits_Len lays125 x w (by omega) (by omega)).mono fun e w' ⟨h1, h2⟩ => ⟨by simpa using h1, h2.symm⟩
theorem bitLen_small (x : Nat) (h : x < 256) : Lib.bitLen x ≤ 8 := Lib.bitLen_le8 ⟨x, h⟩
theorem bitLen_pow (x : Nat) (h : x < 256) (h0 : 1 ≤ x) : 2 ^ Lib.bitLen x ≤ 2 * x := by
  have : ∀ n : Fin 256, 1 ≤ n.val → 2 ^ Lib.bitLen n.val ≤ 2 * n.val := by decide +kernel
  exact this ⟨x, h⟩ h0
def Pow (x : Nat) (w : World) (e : Ending) (w' : World) : Prop := ∃ m : Nat, e = .returned (.int .u64 m) ∧ 1 ≤ m ∧ m ≤ 2 * x ∧ w = w'
set_option maxHeartbeats 2000000 in
theorem next_any (x : Nat) (w : World) (h : x < 256) (h0 : 1 ≤ x) : Calls Tryz.prog 205 #[.int .i64 x] w (Pow x w) := by
  have hp := bitLen_pow x h h0
  have hs := bitLen_small x h
  obtain ⟨L, hL⟩ : ∃ L, Lib.bitLen x = L := ⟨_, rfl⟩
  rw [hL] at hp hs
  have HL := Lib.hid hL
  clear hL
  have hc : L = 0 ∨ L = 1 ∨ L = 2 ∨ L = 3 ∨ L = 4 ∨ L = 5 ∨ L = 6 ∨ L = 7 ∨ L = 8 := by omega
  rcases hc with rfl | rfl | rfl | rfl | rfl | rfl | rfl | rfl | rfl
  all_goals
    go_enter Tryz.func205, Tryz.ntmps205
    go_wp2_with fail
    refine (len_any x _ (by omega)).mono ?_
    rintro e w' ⟨rfl, rfl⟩
    rw [HL.out]
    go_wp2_with fail
    go_ret
    exact ⟨_, rfl, by decide, hp, rfl⟩
end Go.Proofs.YthmdiaingolfnaaGreatDoor.So
namespace Go.Proofs.YthmdiaingolfnaaGreatDoor.So
open Go.ChangeShapes Go.WideShapes Go.ChangeAt Go.RowKit Rw
set_option linter.unusedVariables false
def St (g n rb : Nat) (d : List Int) (w w' : World) : Prop := ∃ (d' : List Int) (v : Int), d'.Perm d ∧ Row w' g n d' ∧ w'.cell? ⟨rb, 0, none⟩ = some (.int .u64 v) ∧ w'.frozen? ⟨rb, 0, none⟩ = false ∧ w.grownBy w' (some g)
theorem Row.grown {w w' : World} {g n rb : Nat} {d : List Int} (h : Row w g n d) (hg : w.grownBy w' (some rb)) (hne : g ≠ rb) (hl : g < w.heap.size) : Row w' g n d :=
  ⟨h.len, fun j x hx => (World.cell?_of_block (hg.block g hl (by simp; exact hne))).trans (h.cell j x hx), fun j hj => (World.frozen?_of_block (hg.block g hl (by simp; exact hne))).trans (h.free j hj)⟩
theorem St.of {g n rb : Nat} {d d1 : List Int} {w w1 w2 : World} {v : Int} (h : Pm g n d1 w1 w2) (hp : d1.Perm d) (hg : w.grownBy w1 (some g)) (hc : w1.cell? ⟨rb, 0, none⟩ = some (.int .u64 v)) (hf : w1.frozen? ⟨rb, 0, none⟩ = false) (hne : rb ≠ g) : St g n rb d w w2 := by
  obtain ⟨d2, h1, h2, h3⟩ := h
  exact ⟨d2, v, h1.trans hp, h2, h3.cell hc (by simp; exact hne), grown_frozen h3 hf (Lw.lt_heap hc) (by simp; exact hne), hg.trans h3⟩
end Go.Proofs.YthmdiaingolfnaaGreatDoor.So
namespace Go.Proofs.YthmdiaingolfnaaGreatDoor.So
open Go.ChangeShapes Go.WideShapes Go.ChangeAt Go.RowKit Rw
open Go.Sort (swp ltInt insOuter insInner insertionSort siftDown heapBuild heapPop heapSort PermIn SortedIn swo_ltInt)
set_option linter.unusedVariables false
theorem bang {A : Array Int} {i : Nat} {x : Int} (h : A.toList[i]? = some x) : A[i]! = x := by
  have h2 : A[i]? = some x := by rw [← Array.getElem?_toList]; exact h
  obtain ⟨hi, e⟩ := Array.getElem?_eq_some_iff.1 h2
  rw [getElem!_pos A i hi]; exact e
end Go.Proofs.YthmdiaingolfnaaGreatDoor.So
namespace Go.Proofs.YthmdiaingolfnaaGreatDoor.So
open Go.ChangeShapes Go.WideShapes Go.ChangeAt Go.RowKit Rw
open Go.Sort (swp ltInt siftDown heapBuild heapPop heapSort PermIn SortedIn swo_ltInt)
set_option linter.unusedVariables false
section
variable {hi f r k : Nat} {A : Array Int} {x y z : Int}
end
end Go.Proofs.YthmdiaingolfnaaGreatDoor.So
namespace Go.Proofs.YthmdiaingolfnaaGreatDoor.So
open Go.ChangeShapes Go.WideShapes Go.ChangeAt Go.RowKit Rw
open Go.Sort (swp ltInt PermIn SortedIn)
set_option linter.unusedVariables false
section
variable {p : Int → Bool} {D A : Array Int} {a b : Nat} {pv i j x : Int}
end
end Go.Proofs.YthmdiaingolfnaaGreatDoor.So
namespace Go.Proofs.YthmdiaingolfnaaGreatDoor.So
open Go.ChangeShapes Go.WideShapes Go.ChangeAt Go.RowKit Rw
open Go.Sort (swp ltInt PermIn SortedIn)
set_option linter.unusedVariables false
end Go.Proofs.YthmdiaingolfnaaGreatDoor.So
namespace Go.Proofs.YthmdiaingolfnaaGreatDoor.So
open Go.ChangeShapes Go.WideShapes Go.ChangeAt Go.RowKit Rw
open Go.Sort (swp ltInt PermIn SortedIn partialIns partialInsertionSort scanSorted shiftDown shiftUp swo_ltInt)
set_option linter.unusedVariables false
section
variable {a b s i : Nat} {A : Array Int} {x y : Int}
end
end Go.Proofs.YthmdiaingolfnaaGreatDoor.So
namespace Go.Proofs.YthmdiaingolfnaaGreatDoor.So
open Go.ChangeShapes Go.WideShapes Go.ChangeAt Go.RowKit Rw
set_option linter.unusedVariables false
end Go.Proofs.YthmdiaingolfnaaGreatDoor.So
namespace Go.Proofs.YthmdiaingolfnaaGreatDoor.So
open Go.ChangeShapes Go.WideShapes Go.ChangeAt Go.RowKit Rw
open Go.Sort (swp ltInt PermIn SortedIn)
set_option linter.unusedVariables false
end Go.Proofs.YthmdiaingolfnaaGreatDoor.So
namespace Go.Proofs.YthmdiaingolfnaaGreatDoor.So
open Go.ChangeShapes Go.WideShapes Go.ChangeAt Go.RowKit Rw
open Go.Sort (swp ltInt PermIn SortedIn swo_ltInt)
set_option linter.unusedVariables false
def Fin (D : Array Int) (a b A B : Nat) (X : Array Int) : Prop := ∀ X', PermIn A B X X' → SortedIn ltInt A B X' → PermIn a b D X' ∧ SortedIn ltInt a b X'
section
variable {D X Y : Array Int} {a b A B r : Nat} {pv : Int}
theorem Fin.perm (h : Fin D a b A B X) (hp : PermIn A B X Y) : Fin D a b A B Y := fun X' h1 h2 => h X' (Go.Sort.permIn_trans _ _ _ _ _ hp h1) h2
theorem ge_of {x y : Int} (h : ltInt x y = false) : y ≤ x := by have := of_decide_eq_false h; omega
end
end Go.Proofs.YthmdiaingolfnaaGreatDoor.So
namespace Go.Proofs.YthmdiaingolfnaaGreatDoor.So
open Go.ChangeShapes Go.WideShapes Go.ChangeAt Go.RowKit Rw
open Go.Sort (swp ltInt PermIn SortedIn swo_ltInt)
set_option linter.unusedVariables false
theorem bang_get {A : Array Int} {i : Nat} (h : i < A.toList.length) : A[i]! = A.toList[i] := bang (List.getElem?_eq_getElem h)
theorem rises {n : Nat} {D X : Array Int} (hD : D.size = n) (hX : X.size = n) (h : PermIn 0 n D X ∧ SortedIn ltInt 0 n X) : X.toList.Perm D.toList ∧ X.toList.Pairwise (· ≤ ·) := by
  obtain ⟨⟨h1, h2, h3⟩, h4⟩ := h
  constructor
  · have e1 : X.extract 0 n = X := by rw [← hX]; exact Array.extract_size
    have e2 : D.extract 0 n = D := by rw [← hD]; exact Array.extract_size
    rw [e1, e2] at h3
    exact h3
  · rw [List.pairwise_iff_getElem]
    intro i j hi hj hij
    have := ge_of (h4 i j (Nat.zero_le _) hij (by rw [← hX]; simpa using hj))
    rw [bang_get hi, bang_get hj] at this
    exact this
end Go.Proofs.YthmdiaingolfnaaGreatDoor.So
namespace Go.Proofs.YthmdiaingolfnaaGreatDoor.Iu
open Go Go.ChangeMaps Go.Maps Go.MapKept Go.RowKit Go.Sort Go.Shelf Rw Mt Ba
set_option linter.unusedVariables false
section
variable {β : Type} {E : Enc β} {P : Program} {k e t : TypeId} {F : Fence} {n : Nat} (w : World) {ops : Array Oper} {rest : List Oper} {o : Oper} {a : Act} {Q : Exit → Act → World → Prop}
end
abbrev eU : Int → Value := Value.int .u64
def ren : Ren := { f := fun _ => 0, t := fun k => if k = 24 then 54 else if k = 26 then 22 else 0, g := fun x => x }
abbrev rec_ (fn : FuncId) (sv : Value) (Bs D : Nat) (st : LoopState) (pend : Option Code) : Loop := AnyZI.apRec ren fn sv Bs D st pend
structure Ap (w0 : World) (fn : FuncId) (sv : Value) (Bs l D : Nat) (ss : List Int) (W : World) : Prop where
  box : ∃ v, W.heap[Bs]? = some (.cells #[v] 54 (0, 0)) ∧ W.ownsRow w0.heap.size 22 1 v ss.length (ss.map eU)
  L : W.heap[l]? = some (.loop (rec_ fn sv Bs D .ready none))
  K : W.heap[D]? = some (.deferred (some []))
  below : Below w0.heap.size w0 W
end Go.Proofs.YthmdiaingolfnaaGreatDoor.Iu
