/- What the library's sort at uint64 is walked with: a row that is permuted in place. -/
import Derived.Test.YtbdcdofjcljliaaGreatDoorBase1
namespace Go.Proofs.YtbdcdofjcljliaaGreatDoor.So
open Go.ChangeShapes Go.WideShapes Go.ChangeAt Go.RowKit Rw
set_option linter.unusedVariables false

/-- The first n cells of block g hold d. -/
structure Row (w : World) (g n : Nat) (d : List Int) : Prop where
  len : d.length = n
  cell : ∀ j x, d[j]? = some x → w.cell? ⟨g, j, none⟩ = some (.int .u64 x)
  free : ∀ j, j < n → w.frozen? ⟨g, j, none⟩ = false
/-- From w to w': nothing but block g has turned, and its row holds the same numbers in some order. -/
def Pm (g n : Nat) (d : List Int) (w w' : World) : Prop := ∃ d', d'.Perm d ∧ Row w' g n d' ∧ w.grownBy w' (some g)

theorem Row.get {w : World} {g n : Nat} {d : List Int} (h : Row w g n d) {j : Nat} (hj : j < n) : ∃ x, d[j]? = some x ∧ w.cell? ⟨g, j, none⟩ = some (.int .u64 x) := by
  have hl : j < d.length := by rw [h.len]; exact hj
  exact ⟨d[j], List.getElem?_eq_getElem hl, h.cell j _ (List.getElem?_eq_getElem hl)⟩
theorem Row.lt {w : World} {g n : Nat} {d : List Int} (h : Row w g n d) (hn : 0 < n) : g < w.heap.size := by
  obtain ⟨x, _, hc⟩ := h.get hn
  exact Lw.lt_heap hc
theorem Row.drewN {w : World} {g n : Nat} {d : List Int} (h : Row w g n d) (k : Nat) : Row (w.drewN k) g n d := ⟨h.len, h.cell, h.free⟩
theorem Row.drew {w : World} {g n : Nat} {d : List Int} (h : Row w g n d) : Row w.drew g n d := ⟨h.len, h.cell, h.free⟩
theorem Row.set {w : World} {g n : Nat} {d : List Int} (h : Row w g n d) {i : Nat} (hi : i < n) (x : Int) : Row (w.setCell ⟨g, i, none⟩ (.int .u64 x)) g n (d.set i x) := by
  refine ⟨by rw [List.length_set]; exact h.len, fun j y hy => ?_, fun j hj => by rw [World.frozen?_setCell]; exact h.free j hj⟩
  rw [List.getElem?_set] at hy
  obtain ⟨z, _, hz⟩ := h.get hi
  split at hy
  · next e =>
    subst e
    have hl : i < d.length := by rw [h.len]; exact hi
    simp [hl] at hy
    subst hy
    exact World.cell?_setCell_same w _ _ (by rw [hz])
  · next e => exact (World.cell?_setCell_other w _ _ _ (fun e' => e (by injection e'))).trans (h.cell j y hy)
theorem grown_setCell (w : World) (g i : Nat) (v : Value) : w.grownBy (w.setCell ⟨g, i, none⟩ v) (some g) :=
  ⟨rfl, rfl, rfl, by simp, fun k _ hk => Below.heap_setCell w _ v k (fun e => hk (by rw [e]))⟩
theorem grown_drewN (w : World) (k : Nat) (r : Option Nat) : w.grownBy (w.drewN k) r := ⟨rfl, rfl, rfl, Nat.le_refl _, fun _ _ _ => rfl⟩
theorem grown_drew (w : World) (r : Option Nat) : w.grownBy w.drew r := ⟨rfl, rfl, rfl, Nat.le_refl _, fun _ _ _ => rfl⟩
theorem Pm.refl {g n : Nat} {d : List Int} {w : World} (h : Row w g n d) : Pm g n d w w := ⟨d, List.Perm.refl _, h, World.grownBy.refl _ _⟩
theorem Pm.trans {g n : Nat} {d d' : List Int} {w w1 w2 : World} (hp : d'.Perm d) (hg : w.grownBy w1 (some g)) (h : Pm g n d' w1 w2) : Pm g n d w w2 := by
  obtain ⟨d2, h1, h2, h3⟩ := h
  exact ⟨d2, h1.trans hp, h2, hg.trans h3⟩
theorem perm_swap {d : List Int} {i j : Nat} {x y : Int} (hi : d[i]? = some x) (hj : d[j]? = some y) : ((d.set i y).set j x).Perm d := by
  obtain ⟨hi', rfl⟩ := List.getElem?_eq_some_iff.1 hi
  obtain ⟨hj', rfl⟩ := List.getElem?_eq_some_iff.1 hj
  by_cases e : i = j
  · subst e
    simp
  have h := Array.swap_perm (xs := d.toArray) (i := i) (j := j) (by simpa using hi') (by simpa using hj')
  have e2 : (d.toArray.swap i j (by simpa using hi') (by simpa using hj')).toList = (d.set i d[j]).set j d[i] := by simp [Array.swap]
  have h2 := Array.perm_iff_toList_perm.1 h
  rw [e2] at h2
  simpa using h2
/-- Behind an exchange. -/
theorem Row.swap {w w' : World} {g n : Nat} {d : List Int} {i j : Nat} {x y : Int} (h : Row w g n d) (hi : d[i]? = some x) (hj : d[j]? = some y) (k : Nat)
    (hw : w' = ((w.drewN k).setCell ⟨g, i, none⟩ (.int .u64 y)).setCell ⟨g, j, none⟩ (.int .u64 x)) : Pm g n d w w' := by
  subst hw
  have hil : i < n := by rw [← h.len]; exact (List.getElem?_eq_some_iff.1 hi).1
  have hjl : j < n := by rw [← h.len]; exact (List.getElem?_eq_some_iff.1 hj).1
  exact ⟨_, perm_swap hi hj, ((h.drewN k).set hil y).set hjl x, ((grown_drewN w k _).trans (grown_setCell _ g i _)).trans (grown_setCell _ g j _)⟩

theorem nan_any (x : Int) (w : World) : Calls Tryz.prog 65 #[.int .u64 x] w fun e w' => e = .returned (.bool false) ∧ w = w' := by
  go_enter Tryz.func65, Tryz.ntmps65
  go_wp2
  go_ret
  exact ⟨by simp, rfl⟩
theorem less_any (x y : Int) (w : World) : Calls Tryz.prog 110 #[.int .u64 x, .int .u64 y] w fun e w' => e = .returned (.bool (decide (x < y))) ∧ w = w' := by
  go_enter Tryz.func110, Tryz.ntmps110
  go_wp2_with fail
  refine (nan_any _ _).mono ?_
  rintro e w' ⟨rfl, rfl⟩
  go_wp2_with fail
  go_ret
  exact ⟨rfl, rfl⟩

set_option maxHeartbeats 2000000 in
set_option maxRecDepth 100000 in
theorem reverse_any (g n c : Nat) (d : List Int) (a b : Nat) (w : World) (h : Row w g n d) (ha : a ≤ b) (hb : b ≤ n) (hn : n ≤ 9223372036854775807) :
    Calls Tryz.prog 108 #[.slice (some ⟨g, 0, none⟩) n c, .int .i64 a, .int .i64 b] w fun e w' => e = .returned (.tuple #[]) ∧ Pm g n d w w' := by
  have HR := Lib.hid h
  clear h
  go_enter Tryz.func108, Tryz.ntmps108
  go_wp2
  go_loopw [6, 7] (fun si sj wr => ∃ (i : Nat) (j : Int), i ≤ n ∧ -1 ≤ j ∧ j < n ∧ si = .int .i64 i ∧ sj = .int .i64 j ∧ Hid (Pm g n d w wr)) (fun si sj _ => (intOf sj - intOf si).toNat)
  case atStart => exact ⟨a, (b : Int) - 1, by omega, by omega, by omega, rfl, rfl, Pm.refl HR.out⟩
  case round =>
    obtain ⟨i, j, hi, hj0, hj1, rfl, rfl, hpm⟩ := hrel
    by_cases hlt : (i : Int) < j
    · obtain ⟨m, rfl⟩ := Int.eq_ofNat_of_zero_le (show 0 ≤ j by omega)
      have him : i < m := by omega
      have hmn : m < n := by omega
      obtain ⟨d1, hp1, hr1, hg1⟩ := hpm.out
      obtain ⟨x, hx, hcx⟩ := hr1.get (show i < n by omega)
      obtain ⟨y, hy, hcy⟩ := hr1.get hmn
      have fx := hr1.free i (by omega)
      have fy := hr1.free m hmn
      have HX := Lib.hid hx
      have HY := Lib.hid hy
      have HR1 := Lib.hid hr1
      have HP1 := Lib.hid hp1
      clear hx hy hr1 hp1 hpm
      have b0 : (0 : Int) ≤ (i : Int) := by omega
      have b1 : (i : Int) < (n : Int) := by omega
      have b2 : (0 : Int) ≤ (m : Int) := by omega
      have b3 : (m : Int) < (n : Int) := by omega
      have hne : i ≠ m := by omega
      go_wp2
      go_region
      go_wp2
      go_roundw
      case rel => exact ⟨i + 1, (m : Int) - 1, by omega, by omega, by omega, by go_num, rfl, Pm.trans HP1.out hg1 (HR1.out.swap HX.out HY.out 1 rfl)⟩
      case measure => simp [intOf]; omega
    · go_wp2
      go_end0
      exact ⟨rfl, hpm.out⟩

/-- A quiet call of Less, in a first quiet region or behind others. -/
theorem less_quiet {w : World} {k : Nat} (x y : Int) : Calls Tryz.prog 110 #[.int .u64 x, .int .u64 y] (w.drewN k) fun e w'' => e = .returned (.bool (decide (x < y))) ∧ ∃ m, w'' = w.drewN m :=
  (less_any x y _).mono fun _ _ ⟨he, hm⟩ => ⟨he, k, hm.symm⟩
theorem less_quiet2 {w : World} {j k : Nat} (x y : Int) : Calls Tryz.prog 110 #[.int .u64 x, .int .u64 y] (w.drewN (j + k)) fun e w'' => e = .returned (.bool (decide (x < y))) ∧ ∃ m, w'' = w.drewN (j + m) :=
  (less_any x y _).mono fun _ _ ⟨he, hm⟩ => ⟨he, k, hm.symm⟩
end Go.Proofs.YtbdcdofjcljliaaGreatDoor.So
