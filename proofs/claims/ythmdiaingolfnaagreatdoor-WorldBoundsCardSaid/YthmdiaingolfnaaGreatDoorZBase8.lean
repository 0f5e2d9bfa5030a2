/- A part of the claim: the texts Base8. -/
import Derived.Test.YthmdiaingolfnaaGreatDoorZBase1
import Derived.Shelf.Small.Bits
import Derived.Laws.Closers25b
import Derived.Laws.Bits64b
import Derived.Sort.LotA
import Derived.Sort.LotB
import Derived.Sort.LotC
import Derived.Deep.DeepCutAuto
namespace Go.Proofs.YthmdiaingolfnaaGreatDoor.So
open Go.ChangeShapes Go.WideShapes Go.ChangeAt Go.RowKit Rw
set_option linter.unusedVariables false
structure Row (w : World) (g n : Nat) (d : List Int) : Prop where
  len : d.length = n
  cell : ∀ j x, d[j]? = some x → w.cell? ⟨g, j, none⟩ = some (.int .u64 x)
  free : ∀ j, j < n → w.frozen? ⟨g, j, none⟩ = false
def Pm (g n : Nat) (d : List Int) (w w' : World) : Prop := ∃ d', d'.Perm d ∧ Row w' g n d' ∧ w.grownBy w' (some g)
theorem Row.get {w : World} {g n : Nat} {d : List Int} (h : Row w g n d) {j : Nat} (hj : j < n) : ∃ x, d[j]? = some x ∧ w.cell? ⟨g, j, none⟩ = some (.int .u64 x) := by
  have hl : j < d.length := by rw [h.len]; exact hj
  exact ⟨d[j], List.getElem?_eq_getElem hl, h.cell j _ (List.getElem?_eq_getElem hl)⟩
theorem Row.lt {w : World} {g n : Nat} {d : List Int} (h : Row w g n d) (hn : 0 < n) : g < w.heap.size := by
  obtain ⟨x, _, hc⟩ := h.get hn
  exact Lw.lt_heap hc
theorem Row.drewN {w : World} {g n : Nat} {d : List Int} (h : Row w g n d) (k : Nat) : Row (w.drewN k) g n d := ⟨h.len, h.cell, h.free⟩
theorem Row.drew {w : World} {g n : Nat} {d : List Int} (h : Row w g n d) : Row w.drew g n d := ⟨h.len, h.cell, h.free⟩
theorem Row.set {w : World} {g n : Nat} {d : List Int} (h : Row w g n d) {i : Nat} (hi : i < n) (x : Int) : Row (w.setCell ⟨g, i, none⟩ (.int .u64 x)) g n (d.set i x) := by
  refine ⟨by rw [List.length_set]; exact h.len, fun j y hy => ?_, fun j hj => by rw [World.frozen?_setCell]; exact h.free j hj⟩
  rw [List.getElem?_set] at hy
  obtain ⟨z, _, hz⟩ := h.get hi
  split at hy
  · next e =>
    subst e
    have hl : i < d.length := by rw [h.len]; exact hi
    simp [hl] at hy
    subst hy
    exact World.cell?_setCell_same w _ _ (by rw [hz])
  · next e => exact (World.cell?_setCell_other w _ _ _ (fun e' => e (by injection e'))).trans (h.cell j y hy)
theorem grown_setCell (w : World) (g i : Nat) (v : Value) : w.grownBy (w.setCell ⟨g, i, none⟩ v) (some g) :=
  ⟨rfl, rfl, rfl, by simp, fun k _ hk => Below.heap_setCell w _ v k (fun e => hk (by rw [e]))⟩
theorem grown_drewN (w : World) (k : Nat) (r : Option Nat) : w.grownBy (w.drewN k) r := ⟨rfl, rfl, rfl, Nat.le_refl _, fun _ _ _ => rfl⟩
theorem Pm.refl {g n : Nat} {d : List Int} {w : World} (h : Row w g n d) : Pm g n d w w := ⟨d, List.Perm.refl _, h, World.grownBy.refl _ _⟩
theorem Pm.trans {g n : Nat} {d d' : List Int} {w w1 w2 : World} (hp : d'.Perm d) (hg : w.grownBy w1 (some g)) (h : Pm g n d' w1 w2) : Pm g n d w w2 := by
  obtain ⟨d2, h1, h2, h3⟩ := h
  exact ⟨d2, h1.trans hp, h2, hg.trans h3⟩
theorem perm_swap {d : List Int} {i j : Nat} {x y : Int} (hi : d[i]? = some x) (hj : d[j]? = some y) : ((d.set i y).set j x).Perm d := by
  obtain ⟨hi', rfl⟩ := List.getElem?_eq_some_iff.1 hi
  obtain ⟨hj', rfl⟩ := List.getElem?_eq_some_iff.1 hj
  by_cases e : i = j
  · subst e
    simp
  have h := Array.swap_perm (xs := d.toArray) (i := i) (j := j) (by simpa using hi') (by simpa using hj')
  have e2 : (d.toArray.swap i j (by simpa using hi') (by simpa using hj')).toList = (d.set i d[j]).set j d[i] := by simp [Array.swap]
  have h2 := Array.perm_iff_toList_perm.1 h
  rw [e2] at h2
  simpa using h2
theorem Row.swap {w w' : World} {g n : Nat} {d : List Int} {i j : Nat} {x y : Int} (h : Row w g n d) (hi : d[i]? = some x) (hj : d[j]? = some y) (k : Nat)
    (hw : w' = ((w.drewN k).setCell ⟨g, i, none⟩ (.int .u64 y)).setCell ⟨g, j, none⟩ (.int .u64 x)) : Pm g n d w w' := by
  subst hw
  have hil : i < n := by rw [← h.len]; exact (List.getElem?_eq_some_iff.1 hi).1
  have hjl : j < n := by rw [← h.len]; exact (List.getElem?_eq_some_iff.1 hj).1
  exact ⟨_, perm_swap hi hj, ((h.drewN k).set hil y).set hjl x, ((grown_drewN w k _).trans (grown_setCell _ g i _)).trans (grown_setCell _ g j _)⟩
end Go.Proofs.YthmdiaingolfnaaGreatDoor.So
namespace Go.Proofs.YthmdiaingolfnaaGreatDoor.So
open Go.ChangeShapes Go.WideShapes Go.ChangeAt Go.RowKit Rw
set_option linter.unusedVariables false
structure Sw (g sb n : Nat) (d : List Int) (w w' : World) : Prop where
  row : Row w' g n d
  cell : ∃ k : Int, w'.cell? ⟨sb, 0, none⟩ = some (.int .i64 k)
  free : w'.frozen? ⟨sb, 0, none⟩ = false
  grown : w.grownBy w' (some sb)
theorem Sw.trans {g sb n : Nat} {d : List Int} {w w1 w2 : World} (h : Sw g sb n d w w1) (h' : Sw g sb n d w1 w2) : Sw g sb n d w w2 := ⟨h'.row, h'.cell, h'.free, h.grown.trans h'.grown⟩
end Go.Proofs.YthmdiaingolfnaaGreatDoor.So
namespace Go.Proofs.YthmdiaingolfnaaGreatDoor.So
open Go.ChangeShapes Go.WideShapes Go.ChangeAt Go.RowKit Rw Go.Shelf
set_option linter.unusedVariables false
def lenF (k : Nat) : Nat := if k = 125 then 171 else if k = 128 then 191 else if k = 129 then 192 else 0
def lenT (k : Nat) : Nat := if k = 3 then 3 else if k = 4 then 4 else if k = 5 then 5 else if k = 9 then 9 else if k = 46 then 173 else if k = 51 then 286 else if k = 53 then 22 else 0
def lenRen : Ren := { f := lenF, t := lenT, g := fun x => x }
theorem lays125 : Lays.n125 Tryz.prog lenRen := {
  mixed := by kernel_rfl
  f125 := by kernel_rfl
  f128 := by kernel_rfl
  f129 := by kernel_rfl
  t3 := by kernel_rfl
  a3 := fun w => by kernel_rfl
  z3 := fun w => by kernel_rfl
  v3 := fun w => by kernel_rfl
  t4 := by kernel_rfl
  a4 := fun w => by kernel_rfl
  z4 := fun w => by kernel_rfl
  v4 := fun w => by kernel_rfl
  t5 := by kernel_rfl
  a5 := fun w => by kernel_rfl
  z5 := fun w => by kernel_rfl
  v5 := fun w => by kernel_rfl
  t9 := by kernel_rfl
  a9 := fun w => by kernel_rfl
  z9 := fun w => by kernel_rfl
  v9 := fun w => by kernel_rfl
  t46 := by kernel_rfl
  a46 := fun w => by kernel_rfl
  z46 := fun w => by kernel_rfl
  v46 := fun w => by kernel_rfl
  t51 := by kernel_rfl
  a51 := fun w => by kernel_rfl
  z51 := fun w => by kernel_rfl
  v51 := fun w => by kernel_rfl
  t53 := by kernel_rfl
  a53 := fun w => by kernel_rfl
  z53 := fun w => by kernel_rfl
  v53 := fun w => by kernel_rfl }
theorem len_any (x : Nat) (w : World) (h : x ≤ 18446744073709551615) : Calls Tryz.prog 171 #[.int .u64 x] w fun e w' => e = .returned (.int .i64 (Lib.bitLen x)) ∧ w = w' :=
  (Any.bits_Len lays125 x w (by omega) (by omega)).mono fun e w' ⟨h1, h2⟩ => ⟨by simpa using h1, h2.symm⟩
theorem bitLen_small (x : Nat) (h : x < 256) : Lib.bitLen x ≤ 8 := Lib.bitLen_le8 ⟨x, h⟩
theorem bitLen_pow (x : Nat) (h : x < 256) (h0 : 1 ≤ x) : 2 ^ Lib.bitLen x ≤ 2 * x := by
  have : ∀ n : Fin 256, 1 ≤ n.val → 2 ^ Lib.bitLen n.val ≤ 2 * n.val := by decide +kernel
  exact this ⟨x, h⟩ h0
def Pow (x : Nat) (w : World) (e : Ending) (w' : World) : Prop := ∃ m : Nat, e = .returned (.int .u64 m) ∧ 1 ≤ m ∧ m ≤ 2 * x ∧ w = w'
set_option maxHeartbeats 2000000 in
theorem next_any (x : Nat) (w : World) (h : x < 256) (h0 : 1 ≤ x) : Calls Tryz.prog 205 #[.int .i64 x] w (Pow x w) := by
  have hp := bitLen_pow x h h0
  have hs := bitLen_small x h
  obtain ⟨L, hL⟩ : ∃ L, Lib.bitLen x = L := ⟨_, rfl⟩
  rw [hL] at hp hs
  have HL := Lib.hid hL
  clear hL
  have hc : L = 0 ∨ L = 1 ∨ L = 2 ∨ L = 3 ∨ L = 4 ∨ L = 5 ∨ L = 6 ∨ L = 7 ∨ L = 8 := by omega
  rcases hc with rfl | rfl | rfl | rfl | rfl | rfl | rfl | rfl | rfl
  all_goals
    go_enter Tryz.func205, Tryz.ntmps205
    go_wp2_with fail
    refine (len_any x _ (by omega)).mono ?_
    rintro e w' ⟨rfl, rfl⟩
    rw [HL.out]
    go_wp2_with fail
    go_ret
    exact ⟨_, rfl, by decide, hp, rfl⟩
end Go.Proofs.YthmdiaingolfnaaGreatDoor.So
namespace Go.Proofs.YthmdiaingolfnaaGreatDoor.So
open Go.ChangeShapes Go.WideShapes Go.ChangeAt Go.RowKit Rw
set_option linter.unusedVariables false
def St (g n rb : Nat) (d : List Int) (w w' : World) : Prop := ∃ (d' : List Int) (v : Int), d'.Perm d ∧ Row w' g n d' ∧ w'.cell? ⟨rb, 0, none⟩ = some (.int .u64 v) ∧ w'.frozen? ⟨rb, 0, none⟩ = false ∧ w.grownBy w' (some g)
theorem Row.grown {w w' : World} {g n rb : Nat} {d : List Int} (h : Row w g n d) (hg : w.grownBy w' (some rb)) (hne : g ≠ rb) (hl : g < w.heap.size) : Row w' g n d :=
  ⟨h.len, fun j x hx => (World.cell?_of_block (hg.block g hl (by simp; exact hne))).trans (h.cell j x hx), fun j hj => (World.frozen?_of_block (hg.block g hl (by simp; exact hne))).trans (h.free j hj)⟩
theorem St.of {g n rb : Nat} {d d1 : List Int} {w w1 w2 : World} {v : Int} (h : Pm g n d1 w1 w2) (hp : d1.Perm d) (hg : w.grownBy w1 (some g)) (hc : w1.cell? ⟨rb, 0, none⟩ = some (.int .u64 v)) (hf : w1.frozen? ⟨rb, 0, none⟩ = false) (hne : rb ≠ g) : St g n rb d w w2 := by
  obtain ⟨d2, h1, h2, h3⟩ := h
  exact ⟨d2, v, h1.trans hp, h2, h3.cell hc (by simp; exact hne), grown_frozen h3 hf (Lw.lt_heap hc) (by simp; exact hne), hg.trans h3⟩
end Go.Proofs.YthmdiaingolfnaaGreatDoor.So
namespace Go.Proofs.YthmdiaingolfnaaGreatDoor.So
open Go.ChangeShapes Go.WideShapes Go.ChangeAt Go.RowKit Rw
open Go.Sort (swp ltInt insOuter insInner insertionSort siftDown heapBuild heapPop heapSort PermIn SortedIn swo_ltInt)
set_option linter.unusedVariables false
def Pq (g n : Nat) (P : Array Int → Prop) (w w' : World) : Prop := ∃ A : Array Int, A.size = n ∧ P A ∧ Row w' g n A.toList ∧ w.grownBy w' (some g)
theorem Pq.drewN {g n : Nat} {P : Array Int → Prop} {w w' : World} (h : Pq g n P w w') (k : Nat) : Pq g n P w (w'.drewN k) := by
  obtain ⟨A, h0, h1, h2, h3⟩ := h
  exact ⟨A, h0, h1, h2.drewN k, h3.trans (grown_drewN _ _ _)⟩
theorem Pq.imp {g n : Nat} {P Q : Array Int → Prop} {w w' : World} (h : Pq g n P w w') (f : ∀ A : Array Int, A.size = n → P A → Q A) : Pq g n Q w w' := by
  obtain ⟨A, h0, h1, h2, h3⟩ := h
  exact ⟨A, h0, f A h0 h1, h2, h3⟩
theorem Pq.trans {g n : Nat} {P : Array Int → Prop} {w w1 w' : World} (hg : w.grownBy w1 (some g)) (h : Pq g n P w1 w') : Pq g n P w w' := by
  obtain ⟨A, h0, h1, h2, h3⟩ := h
  exact ⟨A, h0, h1, h2, hg.trans h3⟩
theorem bang {A : Array Int} {i : Nat} {x : Int} (h : A.toList[i]? = some x) : A[i]! = x := by
  have h2 : A[i]? = some x := by rw [← Array.getElem?_toList]; exact h
  obtain ⟨hi, e⟩ := Array.getElem?_eq_some_iff.1 h2
  rw [getElem!_pos A i hi]; exact e
theorem swp_list {A : Array Int} {i j : Nat} {x y : Int} (hx : A.toList[i]? = some x) (hy : A.toList[j]? = some y) : (swp A i j).toList = (A.toList.set i y).set j x := by
  unfold swp
  rw [bang hx, bang hy, Array.toList_setIfInBounds, Array.toList_setIfInBounds]
theorem Pq.swap {g n : Nat} {Q : Array Int → Prop} {w w1 w' : World} {A : Array Int} {i j : Nat} {x y : Int} (hs : A.size = n) (hg : w.grownBy w1 (some g)) (h : Row w1 g n A.toList) (hx : A.toList[i]? = some x) (hy : A.toList[j]? = some y) (k : Nat)
    (hw : w' = ((w1.drewN k).setCell ⟨g, i, none⟩ (.int .u64 y)).setCell ⟨g, j, none⟩ (.int .u64 x)) (hQ : Q (swp A i j)) : Pq g n Q w w' := by
  subst hw
  have hil : i < n := by rw [← h.len]; exact (List.getElem?_eq_some_iff.1 hx).1
  have hjl : j < n := by rw [← h.len]; exact (List.getElem?_eq_some_iff.1 hy).1
  refine ⟨swp A i j, by rw [Go.Sort.swp_size]; exact hs, hQ, ?_, hg.trans (((grown_drewN w1 k _).trans (grown_setCell _ g i _)).trans (grown_setCell _ g j _))⟩
  rw [swp_list hx hy]
  exact ((h.drewN k).set hil y).set hjl x
end Go.Proofs.YthmdiaingolfnaaGreatDoor.So
namespace Go.Proofs.YthmdiaingolfnaaGreatDoor.So
open Go.ChangeShapes Go.WideShapes Go.ChangeAt Go.RowKit Rw
open Go.Sort (swp ltInt siftDown heapBuild heapPop heapSort PermIn SortedIn swo_ltInt)
set_option linter.unusedVariables false
section
variable {hi f r k : Nat} {A : Array Int} {x y z : Int}
end
end Go.Proofs.YthmdiaingolfnaaGreatDoor.So
namespace Go.Proofs.YthmdiaingolfnaaGreatDoor.So
open Go.ChangeShapes Go.WideShapes Go.ChangeAt Go.RowKit Rw
open Go.Sort (swp ltInt PermIn SortedIn)
set_option linter.unusedVariables false
structure Pt (p : Int → Bool) (D : Array Int) (a b : Nat) (pv : Int) (i j : Int) (A : Array Int) : Prop where
  perm : PermIn a b D A
  piv : A[a]! = pv
  lo : ∀ k : Nat, a < k → (k : Int) < i → p A[k]! = true
  hi : ∀ k : Nat, j < (k : Int) → k < b → p A[k]! = false
section
variable {p : Int → Bool} {D A : Array Int} {a b : Nat} {pv i j x : Int}
theorem Pt.up (h : Pt p D a b pv i j A) (hi : 0 ≤ i) (hx : A[i.toNat]! = x) (hp : p x = true) : Pt p D a b pv (i + 1) j A :=
  ⟨h.perm, h.piv, fun k h1 h2 => by
    by_cases e : (k : Int) = i
    · rw [show k = i.toNat by omega, hx]; exact hp
    · exact h.lo k h1 (by omega), h.hi⟩
theorem Pt.swap (h : Pt p D a b pv i j A) (ha : (a : Int) < i) (hij : i < j) (hj : j < b) (hb : b ≤ A.size) (h1 : p A[i.toNat]! = false) (h2 : p A[j.toNat]! = true) : Pt p D a b pv (i + 1) (j - 1) (swp A i.toNat j.toNat) := by
  refine ⟨Go.Sort.permIn_trans _ _ _ _ _ h.perm (Go.Sort.swp_permIn A a b _ _ (by omega) (by omega) (by omega) (by omega) hb), ?_, fun k k1 k2 => ?_, fun k k1 k2 => ?_⟩
  · rw [Go.Sort.swp_other A _ _ a (by omega) (by omega)]; exact h.piv
  · by_cases e : (k : Int) = i
    · rw [show k = i.toNat by omega, Go.Sort.swp_left A _ _ (by omega) (by omega)]; exact h2
    · rw [Go.Sort.swp_other A _ _ k (by omega) (by omega)]; exact h.lo k k1 (by omega)
  · by_cases e : (k : Int) = j
    · rw [show k = j.toNat by omega, Go.Sort.swp_right A _ _ (by omega)]; exact h1
    · rw [Go.Sort.swp_other A _ _ k (by omega) (by omega)]; exact h.hi k (by omega) k2
theorem Pt.init {q : Nat} (hpv : D[q]! = pv) (ha : a ≤ q) (hq : q < b) (hb : b ≤ D.size) (hA : A = D) : Pt p D a b pv ((a : Int) + 1) ((b : Int) - 1) (swp A a q) := by
  subst hA
  refine ⟨Go.Sort.swp_permIn A a b _ _ (Nat.le_refl _) (by omega) ha hq hb, ?_, fun k k1 k2 => by omega, fun k k1 k2 => by omega⟩
  by_cases e : a = q
  · subst e; rw [Go.Sort.swp_right A _ _ (by omega)]; exact hpv
  · rw [Go.Sort.swp_left A _ _ (by omega) e]; exact hpv
end
end Go.Proofs.YthmdiaingolfnaaGreatDoor.So
namespace Go.Proofs.YthmdiaingolfnaaGreatDoor.So
open Go.ChangeShapes Go.WideShapes Go.ChangeAt Go.RowKit Rw
open Go.Sort (swp ltInt PermIn SortedIn)
set_option linter.unusedVariables false
end Go.Proofs.YthmdiaingolfnaaGreatDoor.So
namespace Go.Proofs.YthmdiaingolfnaaGreatDoor.So
open Go.ChangeShapes Go.WideShapes Go.ChangeAt Go.RowKit Rw
open Go.Sort (swp ltInt PermIn SortedIn partialIns partialInsertionSort scanSorted shiftDown shiftUp swo_ltInt)
set_option linter.unusedVariables false
section
variable {a b s i : Nat} {A : Array Int} {x y : Int}
end
end Go.Proofs.YthmdiaingolfnaaGreatDoor.So
namespace Go.Proofs.YthmdiaingolfnaaGreatDoor.So
open Go.ChangeShapes Go.WideShapes Go.ChangeAt Go.RowKit Rw
set_option linter.unusedVariables false
end Go.Proofs.YthmdiaingolfnaaGreatDoor.So
namespace Go.Proofs.YthmdiaingolfnaaGreatDoor.So
open Go.ChangeShapes Go.WideShapes Go.ChangeAt Go.RowKit Rw
open Go.Sort (swp ltInt PermIn SortedIn)
set_option linter.unusedVariables false
def Sq (g n rb : Nat) (P : Array Int → Prop) (w w' : World) : Prop := ∃ (A : Array Int) (v : Int), A.size = n ∧ P A ∧ Row w' g n A.toList ∧ w'.cell? ⟨rb, 0, none⟩ = some (.int .u64 v) ∧ w'.frozen? ⟨rb, 0, none⟩ = false ∧ w.grownBy w' (some g)
theorem Sq.of {g n rb : Nat} {P : Array Int → Prop} {w w1 w2 : World} {v : Int} (h : Pq g n P w1 w2) (hg : w.grownBy w1 (some g)) (hc : w1.cell? ⟨rb, 0, none⟩ = some (.int .u64 v)) (hf : w1.frozen? ⟨rb, 0, none⟩ = false) (hne : rb ≠ g) : Sq g n rb P w w2 := by
  obtain ⟨A, h0, h1, h2, h3⟩ := h
  exact ⟨A, v, h0, h1, h2, h3.cell hc (by simp; exact hne), grown_frozen h3 hf (Lw.lt_heap hc) (by simp; exact hne), hg.trans h3⟩
end Go.Proofs.YthmdiaingolfnaaGreatDoor.So
namespace Go.Proofs.YthmdiaingolfnaaGreatDoor.So
open Go.ChangeShapes Go.WideShapes Go.ChangeAt Go.RowKit Rw
open Go.Sort (swp ltInt PermIn SortedIn swo_ltInt)
set_option linter.unusedVariables false
def Fin (D : Array Int) (a b A B : Nat) (X : Array Int) : Prop := ∀ X', PermIn A B X X' → SortedIn ltInt A B X' → PermIn a b D X' ∧ SortedIn ltInt a b X'
section
variable {D X Y : Array Int} {a b A B r : Nat} {pv : Int}
theorem Fin.perm (h : Fin D a b A B X) (hp : PermIn A B X Y) : Fin D a b A B Y := fun X' h1 h2 => h X' (Go.Sort.permIn_trans _ _ _ _ _ hp h1) h2
theorem ge_of {x y : Int} (h : ltInt x y = false) : y ≤ x := by have := of_decide_eq_false h; omega
end
end Go.Proofs.YthmdiaingolfnaaGreatDoor.So
namespace Go.Proofs.YthmdiaingolfnaaGreatDoor.So
open Go.ChangeShapes Go.WideShapes Go.ChangeAt Go.RowKit Rw
open Go.Sort (swp ltInt PermIn SortedIn swo_ltInt)
set_option linter.unusedVariables false
theorem bang_get {A : Array Int} {i : Nat} (h : i < A.toList.length) : A[i]! = A.toList[i] := bang (List.getElem?_eq_getElem h)
theorem rises {n : Nat} {D X : Array Int} (hD : D.size = n) (hX : X.size = n) (h : PermIn 0 n D X ∧ SortedIn ltInt 0 n X) : X.toList.Perm D.toList ∧ X.toList.Pairwise (· ≤ ·) := by
  obtain ⟨⟨h1, h2, h3⟩, h4⟩ := h
  constructor
  · have e1 : X.extract 0 n = X := by rw [← hX]; exact Array.extract_size
    have e2 : D.extract 0 n = D := by rw [← hD]; exact Array.extract_size
    rw [e1, e2] at h3
    exact h3
  · rw [List.pairwise_iff_getElem]
    intro i j hi hj hij
    have := ge_of (h4 i j (Nat.zero_le _) hij (by rw [← hX]; simpa using hj))
    rw [bang_get hi, bang_get hj] at this
    exact this
end Go.Proofs.YthmdiaingolfnaaGreatDoor.So
