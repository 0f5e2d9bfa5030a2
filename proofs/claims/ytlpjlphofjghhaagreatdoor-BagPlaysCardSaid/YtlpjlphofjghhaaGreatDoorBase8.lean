/- Base8: texts on the program's lower layers, one behind the other. -/
import Derived.Test.YtlpjlphofjghhaaGreatDoorBase1
import Derived.Shelf.Small.Bits
import Derived.Laws.Closers25b
import Derived.Laws.Bits64b
import Derived.Sort.LotA
import Derived.Sort.LotB
import Derived.Sort.LotC
import Derived.Deep.DeepCutAuto
/- What the library's sort at uint64 is walked with: a row that is permuted in place. -/

namespace Go.Proofs.YtlpjlphofjghhaaGreatDoor.So
open Go.ChangeShapes Go.WideShapes Go.ChangeAt Go.RowKit Rw
set_option linter.unusedVariables false

/-- The first n cells of block g hold d. -/
structure Row (w : World) (g n : Nat) (d : List Int) : Prop where
  len : d.length = n
  cell : ∀ j x, d[j]? = some x → w.cell? ⟨g, j, none⟩ = some (.int .u64 x)
  free : ∀ j, j < n → w.frozen? ⟨g, j, none⟩ = false
/-- From w to w': nothing but block g has turned, and its row holds the same numbers in some order. -/
def Pm (g n : Nat) (d : List Int) (w w' : World) : Prop := ∃ d', d'.Perm d ∧ Row w' g n d' ∧ w.grownBy w' (some g)

theorem Row.get {w : World} {g n : Nat} {d : List Int} (h : Row w g n d) {j : Nat} (hj : j < n) : ∃ x, d[j]? = some x ∧ w.cell? ⟨g, j, none⟩ = some (.int .u64 x) := by
  have hl : j < d.length := by rw [h.len]; exact hj
  exact ⟨d[j], List.getElem?_eq_getElem hl, h.cell j _ (List.getElem?_eq_getElem hl)⟩
theorem Row.lt {w : World} {g n : Nat} {d : List Int} (h : Row w g n d) (hn : 0 < n) : g < w.heap.size := by
  obtain ⟨x, _, hc⟩ := h.get hn
  exact Lw.lt_heap hc
theorem Row.drewN {w : World} {g n : Nat} {d : List Int} (h : Row w g n d) (k : Nat) : Row (w.drewN k) g n d := ⟨h.len, h.cell, h.free⟩
theorem Row.drew {w : World} {g n : Nat} {d : List Int} (h : Row w g n d) : Row w.drew g n d := ⟨h.len, h.cell, h.free⟩
theorem Row.set {w : World} {g n : Nat} {d : List Int} (h : Row w g n d) {i : Nat} (hi : i < n) (x : Int) : Row (w.setCell ⟨g, i, none⟩ (.int .u64 x)) g n (d.set i x) := by
  refine ⟨by rw [List.length_set]; exact h.len, fun j y hy => ?_, fun j hj => by rw [World.frozen?_setCell]; exact h.free j hj⟩
  rw [List.getElem?_set] at hy
  obtain ⟨z, _, hz⟩ := h.get hi
  split at hy
  · next e =>
    subst e
    have hl : i < d.length := by rw [h.len]; exact hi
    simp [hl] at hy
    subst hy
    exact World.cell?_setCell_same w _ _ (by rw [hz])
  · next e => exact (World.cell?_setCell_other w _ _ _ (fun e' => e (by injection e'))).trans (h.cell j y hy)
theorem grown_setCell (w : World) (g i : Nat) (v : Value) : w.grownBy (w.setCell ⟨g, i, none⟩ v) (some g) :=
  ⟨rfl, rfl, rfl, by simp, fun k _ hk => Below.heap_setCell w _ v k (fun e => hk (by rw [e]))⟩
theorem grown_drewN (w : World) (k : Nat) (r : Option Nat) : w.grownBy (w.drewN k) r := ⟨rfl, rfl, rfl, Nat.le_refl _, fun _ _ _ => rfl⟩
theorem grown_drew (w : World) (r : Option Nat) : w.grownBy w.drew r := ⟨rfl, rfl, rfl, Nat.le_refl _, fun _ _ _ => rfl⟩
theorem Pm.refl {g n : Nat} {d : List Int} {w : World} (h : Row w g n d) : Pm g n d w w := ⟨d, List.Perm.refl _, h, World.grownBy.refl _ _⟩
theorem Pm.trans {g n : Nat} {d d' : List Int} {w w1 w2 : World} (hp : d'.Perm d) (hg : w.grownBy w1 (some g)) (h : Pm g n d' w1 w2) : Pm g n d w w2 := by
  obtain ⟨d2, h1, h2, h3⟩ := h
  exact ⟨d2, h1.trans hp, h2, hg.trans h3⟩
theorem perm_swap {d : List Int} {i j : Nat} {x y : Int} (hi : d[i]? = some x) (hj : d[j]? = some y) : ((d.set i y).set j x).Perm d := by
  obtain ⟨hi', rfl⟩ := List.getElem?_eq_some_iff.1 hi
  obtain ⟨hj', rfl⟩ := List.getElem?_eq_some_iff.1 hj
  by_cases e : i = j
  · subst e
    simp
  have h := Array.swap_perm (xs := d.toArray) (i := i) (j := j) (by simpa using hi') (by simpa using hj')
  have e2 : (d.toArray.swap i j (by simpa using hi') (by simpa using hj')).toList = (d.set i d[j]).set j d[i] := by simp [Array.swap]
  have h2 := Array.perm_iff_toList_perm.1 h
  rw [e2] at h2
  simpa using h2
/-- Behind an exchange. -/
theorem Row.swap {w w' : World} {g n : Nat} {d : List Int} {i j : Nat} {x y : Int} (h : Row w g n d) (hi : d[i]? = some x) (hj : d[j]? = some y) (k : Nat)
    (hw : w' = ((w.drewN k).setCell ⟨g, i, none⟩ (.int .u64 y)).setCell ⟨g, j, none⟩ (.int .u64 x)) : Pm g n d w w' := by
  subst hw
  have hil : i < n := by rw [← h.len]; exact (List.getElem?_eq_some_iff.1 hi).1
  have hjl : j < n := by rw [← h.len]; exact (List.getElem?_eq_some_iff.1 hj).1
  exact ⟨_, perm_swap hi hj, ((h.drewN k).set hil y).set hjl x, ((grown_drewN w k _).trans (grown_setCell _ g i _)).trans (grown_setCell _ g j _)⟩

theorem nan_any (x : Int) (w : World) : Calls Tryz.prog 230 #[.int .u64 x] w fun e w' => e = .returned (.bool false) ∧ w = w' := by
  go_enter Tryz.func230, Tryz.ntmps230
  go_wp2
  go_ret
  exact ⟨by simp, rfl⟩
theorem less_any (x y : Int) (w : World) : Calls Tryz.prog 216 #[.int .u64 x, .int .u64 y] w fun e w' => e = .returned (.bool (decide (x < y))) ∧ w = w' := by
  go_enter Tryz.func216, Tryz.ntmps216
  go_wp2_with fail
  refine (nan_any _ _).mono ?_
  rintro e w' ⟨rfl, rfl⟩
  go_wp2_with fail
  go_ret
  exact ⟨rfl, rfl⟩

set_option maxHeartbeats 2000000 in
set_option maxRecDepth 100000 in
theorem reverse_any (g n c : Nat) (d : List Int) (a b : Nat) (w : World) (h : Row w g n d) (ha : a ≤ b) (hb : b ≤ n) (hn : n ≤ 9223372036854775807) :
    Calls Tryz.prog 214 #[.slice (some ⟨g, 0, none⟩) n c, .int .i64 a, .int .i64 b] w fun e w' => e = .returned (.tuple #[]) ∧ Pm g n d w w' := by
  have HR := Lib.hid h
  clear h
  go_enter Tryz.func214, Tryz.ntmps214
  go_wp2
  go_loopw [6, 7] (fun si sj wr => ∃ (i : Nat) (j : Int), i ≤ n ∧ -1 ≤ j ∧ j < n ∧ si = .int .i64 i ∧ sj = .int .i64 j ∧ Hid (Pm g n d w wr)) (fun si sj _ => (intOf sj - intOf si).toNat)
  case atStart => exact ⟨a, (b : Int) - 1, by omega, by omega, by omega, rfl, rfl, Pm.refl HR.out⟩
  case round =>
    obtain ⟨i, j, hi, hj0, hj1, rfl, rfl, hpm⟩ := hrel
    by_cases hlt : (i : Int) < j
    · obtain ⟨m, rfl⟩ := Int.eq_ofNat_of_zero_le (show 0 ≤ j by omega)
      have him : i < m := by omega
      have hmn : m < n := by omega
      obtain ⟨d1, hp1, hr1, hg1⟩ := hpm.out
      obtain ⟨x, hx, hcx⟩ := hr1.get (show i < n by omega)
      obtain ⟨y, hy, hcy⟩ := hr1.get hmn
      have fx := hr1.free i (by omega)
      have fy := hr1.free m hmn
      have HX := Lib.hid hx
      have HY := Lib.hid hy
      have HR1 := Lib.hid hr1
      have HP1 := Lib.hid hp1
      clear hx hy hr1 hp1 hpm
      have b0 : (0 : Int) ≤ (i : Int) := by omega
      have b1 : (i : Int) < (n : Int) := by omega
      have b2 : (0 : Int) ≤ (m : Int) := by omega
      have b3 : (m : Int) < (n : Int) := by omega
      have hne : i ≠ m := by omega
      go_wp2
      go_region
      go_wp2
      go_roundw
      case rel => exact ⟨i + 1, (m : Int) - 1, by omega, by omega, by omega, by go_num, rfl, Pm.trans HP1.out hg1 (HR1.out.swap HX.out HY.out 1 rfl)⟩
      case measure => simp [intOf]; omega
    · go_wp2
      go_end0
      exact ⟨rfl, hpm.out⟩

/-- A quiet call of Less, in a first quiet region or behind others. -/
theorem less_quiet {w : World} {k : Nat} (x y : Int) : Calls Tryz.prog 216 #[.int .u64 x, .int .u64 y] (w.drewN k) fun e w'' => e = .returned (.bool (decide (x < y))) ∧ ∃ m, w'' = w.drewN m :=
  (less_any x y _).mono fun _ _ ⟨he, hm⟩ => ⟨he, k, hm.symm⟩
theorem less_quiet2 {w : World} {j k : Nat} (x y : Int) : Calls Tryz.prog 216 #[.int .u64 x, .int .u64 y] (w.drewN (j + k)) fun e w'' => e = .returned (.bool (decide (x < y))) ∧ ∃ m, w'' = w.drewN (j + m) :=
  (less_any x y _).mono fun _ _ ⟨he, hm⟩ => ⟨he, k, hm.symm⟩
end Go.Proofs.YtlpjlphofjghhaaGreatDoor.So
/- The library's sort at uint64: the choice of a pivot. -/
namespace Go.Proofs.YtlpjlphofjghhaaGreatDoor.So
open Go.ChangeShapes Go.WideShapes Go.ChangeAt Go.RowKit Rw
set_option linter.unusedVariables false

/-- The row stays; the count of exchanges, in block sb, is some number. -/
structure Sw (g sb n : Nat) (d : List Int) (w w' : World) : Prop where
  row : Row w' g n d
  cell : ∃ k : Int, w'.cell? ⟨sb, 0, none⟩ = some (.int .i64 k)
  free : w'.frozen? ⟨sb, 0, none⟩ = false
  grown : w.grownBy w' (some sb)
theorem Sw.trans {g sb n : Nat} {d : List Int} {w w1 w2 : World} (h : Sw g sb n d w w1) (h' : Sw g sb n d w1 w2) : Sw g sb n d w w2 := ⟨h'.row, h'.cell, h'.free, h.grown.trans h'.grown⟩
theorem Row.other {w : World} {g n : Nat} {d : List Int} (h : Row w g n d) {p : Addr} (hp : p.block ≠ g) (v : Value) : Row (w.setCell p v) g n d :=
  ⟨h.len, fun j x hx => (World.cell?_setCell_other w p _ v (fun e => hp (by rw [e]))).trans (h.cell j x hx), fun j hj => by rw [World.frozen?_setCell]; exact h.free j hj⟩

def Two (i j : Nat) (G : World → Prop) (e : Ending) (w' : World) : Prop := ∃ p q : Nat, e = .returned (.tuple #[.int .i64 p, .int .i64 q]) ∧ ((p = i ∧ q = j) ∨ (p = j ∧ q = i)) ∧ G w'
set_option maxHeartbeats 2000000 in
set_option maxRecDepth 100000 in
theorem order2_any (g n c sb : Nat) (d : List Int) (i j : Nat) (w : World) (h : Row w g n d) (hi : i < n) (hj : j < n) (hn : n ≤ 1152921504606846976) (hs : ∃ k : Int, w.cell? ⟨sb, 0, none⟩ = some (.int .i64 k)) (hf : w.frozen? ⟨sb, 0, none⟩ = false) (hne : sb ≠ g) :
    Calls Tryz.prog 255 #[.slice (some ⟨g, 0, none⟩) n c, .int .i64 i, .int .i64 j, .pointer (some ⟨sb, 0, none⟩)] w (Two i j (Sw g sb n d w)) := by
  obtain ⟨k, hk⟩ := hs
  obtain ⟨x, hx, hcx⟩ := h.get hi
  obtain ⟨y, hy, hcy⟩ := h.get hj
  have HR := Lib.hid h
  have HNE := Lib.hid hne
  have b0 : (0 : Int) ≤ (i : Int) := by omega
  have b1 : (i : Int) < (n : Int) := by omega
  have b2 : (0 : Int) ≤ (j : Int) := by omega
  have b3 : (j : Int) < (n : Int) := by omega
  clear h hx hy hne
  by_cases hyx : y < x
  · have q1 : decide (y < x) = true := by simpa using hyx
    go_enter Tryz.func255, Tryz.ntmps255
    go_wp2
    go_quiet ((go_at_call 216; first | exact less_quiet _ _ | exact less_quiet2 _ _))
    go_wp2
    go_ret2
    exact ⟨j, i, rfl, .inr ⟨rfl, rfl⟩, (HR.out.drewN nq).other (p := ⟨sb, 0, none⟩) HNE.out _, ⟨_, World.cell?_setCell_same (w.drewN nq) ⟨sb, 0, none⟩ _ hk⟩, by rw [World.frozen?_setCell]; exact hf, (grown_drewN _ _ _).trans (grown_setCell _ _ _ _)⟩
  · have q1 : decide (y < x) = false := by simpa using hyx
    go_enter Tryz.func255, Tryz.ntmps255
    go_wp2
    go_quiet ((go_at_call 216; first | exact less_quiet _ _ | exact less_quiet2 _ _))
    go_wp2
    go_ret2
    exact ⟨i, j, rfl, .inl ⟨rfl, rfl⟩, HR.out.drewN nq, ⟨k, hk⟩, hf, grown_drewN _ _ _⟩

def One (p : Nat → Prop) (G : World → Prop) (e : Ending) (w' : World) : Prop := ∃ r : Nat, e = .returned (.int .i64 r) ∧ p r ∧ G w'
set_option maxHeartbeats 2000000 in
set_option maxRecDepth 100000 in
theorem median_any (g n c sb : Nat) (d : List Int) (i j k : Nat) (w : World) (h : Row w g n d) (hi : i < n) (hj : j < n) (hk : k < n) (hn : n ≤ 1152921504606846976) (hs : ∃ k : Int, w.cell? ⟨sb, 0, none⟩ = some (.int .i64 k)) (hf : w.frozen? ⟨sb, 0, none⟩ = false) (hne : sb ≠ g) :
    Calls Tryz.prog 235 #[.slice (some ⟨g, 0, none⟩) n c, .int .i64 i, .int .i64 j, .int .i64 k, .pointer (some ⟨sb, 0, none⟩)] w (One (fun r => r = i ∨ r = j ∨ r = k) (Sw g sb n d w)) := by
  have HR := Lib.hid h
  have HS := Lib.hid hs
  have HNE := Lib.hid hne
  have HF := Lib.hid hf
  clear h hs hne hf
  go_enter Tryz.func235, Tryz.ntmps235
  go_wp2_with fail
  refine (order2_any g n c sb d i j _ HR.out hi hj hn HS.out HF.out HNE.out).mono ?_
  rintro e w1 ⟨p, q, rfl, hpq, h1⟩
  have H1 := Lib.hid h1
  have hp : p < n := by omega
  have hq : q < n := by omega
  have HPQ := Lib.hid hpq
  clear h1 hpq
  go_wp2_with fail
  refine (order2_any g n c sb d q k _ H1.out.row hq hk hn H1.out.cell H1.out.free HNE.out).mono ?_
  rintro e w2 ⟨p2, q2, rfl, hpq2, h2⟩
  have H2 := Lib.hid h2
  have hp2 : p2 < n := by omega
  have HPQ2 := Lib.hid hpq2
  clear h2 hpq2
  go_wp2_with fail
  refine (order2_any g n c sb d p p2 _ H2.out.row hp hp2 hn H2.out.cell H2.out.free HNE.out).mono ?_
  rintro e w3 ⟨p3, q3, rfl, hpq3, h3⟩
  have H3 := Lib.hid h3
  have HPQ3 := Lib.hid hpq3
  clear h3 hpq3
  go_wp2_with fail
  go_ret
  exact ⟨q3, rfl, by have := HPQ.out; have := HPQ2.out; have := HPQ3.out; omega, (H1.out.trans H2.out).trans H3.out⟩

set_option maxHeartbeats 2000000 in
set_option maxRecDepth 100000 in
theorem adjacent_any (g n c sb : Nat) (d : List Int) (i : Nat) (w : World) (h : Row w g n d) (hi0 : 1 ≤ i) (hi : i + 1 < n) (hn : n ≤ 1152921504606846976) (hs : ∃ k : Int, w.cell? ⟨sb, 0, none⟩ = some (.int .i64 k)) (hf : w.frozen? ⟨sb, 0, none⟩ = false) (hne : sb ≠ g) :
    Calls Tryz.prog 234 #[.slice (some ⟨g, 0, none⟩) n c, .int .i64 i, .pointer (some ⟨sb, 0, none⟩)] w (One (fun r => i ≤ r + 1 ∧ r ≤ i + 1) (Sw g sb n d w)) := by
  have HR := Lib.hid h
  have HS := Lib.hid hs
  have HNE := Lib.hid hne
  have HF := Lib.hid hf
  clear h hs hne hf
  go_enter Tryz.func234, Tryz.ntmps234
  go_wp2_with fail
  rw [show (i : Int) - 1 = ((i - 1 : Nat) : Int) by omega, show (i : Int) + 1 = ((i + 1 : Nat) : Int) by omega]
  refine (median_any g n c sb d (i - 1) i (i + 1) _ HR.out (by omega) (by omega) (by omega) hn HS.out HF.out HNE.out).mono ?_
  rintro e w1 ⟨r, rfl, hr, h1⟩
  have H1 := Lib.hid h1
  clear h1
  go_wp2_with fail
  go_ret
  exact ⟨r, rfl, by omega, H1.out⟩

theorem grown_new {w w' : World} {o : Obj} (h : (w.alloc o).grownBy w' (some w.heap.size)) (r : Option Nat) : w.grownBy w' r :=
  ⟨h.os, h.tape, h.output, by have := h.size; simp at this; omega, fun k hk _ => (h.block k (by simp; omega) (by simp; omega)).trans (Below.heap_alloc w o k hk)⟩
def Piv (a b : Nat) (G : World → Prop) (e : Ending) (w' : World) : Prop := ∃ (r : Nat) (t : Int), e = .returned (.tuple #[.int .i64 r, .int .i64 t]) ∧ a ≤ r ∧ r < b ∧ (t = 0 ∨ t = 1 ∨ t = 2) ∧ G w'
set_option maxHeartbeats 4000000 in
set_option maxRecDepth 100000 in
theorem pivot_any (g n c : Nat) (d : List Int) (a b : Nat) (w : World) (h : Row w g n d) (hab : a + 12 < b) (hb : b ≤ n) (hn : n ≤ 1152921504606846976) :
    Calls Tryz.prog 213 #[.slice (some ⟨g, 0, none⟩) n c, .int .i64 a, .int .i64 b] w (Piv a b (Pm g n d w)) := by
  have hgl := h.lt (by omega)
  have HR := Lib.hid h
  clear h
  obtain ⟨q, hq⟩ : ∃ q : Nat, b = a + q := ⟨b - a, by omega⟩
  obtain ⟨t, ht⟩ : ∃ t : Nat, t = q / 4 := ⟨_, rfl⟩
  have e1 : (b : Int) - (a : Int) = (q : Int) := by omega
  have e2 : (q : Int) / 4 = (t : Int) := by omega
  have ht0 : 3 ≤ t := by omega
  have ht1 : t * 4 ≤ q := by omega
  have hqb : a + q = b := by omega
  have HQ := Lib.hid hqb
  clear hq ht hqb
  have hqn : a + q ≤ n := by have := HQ.out; omega
  have ra : Row (w.alloc (.cells #[.int .i64 0] 3)) g n d := ⟨HR.out.len, fun j x hx => alloc_cell (HR.out.cell j x hx) _, fun j hj => alloc_frozen (HR.out.free j hj) hgl _⟩
  have sc : ∃ k : Int, (w.alloc (.cells #[.int .i64 0] 3)).cell? ⟨w.heap.size, 0, none⟩ = some (.int .i64 k) := ⟨0, by go_simp⟩
  have sf : (w.alloc (.cells #[.int .i64 0] 3)).frozen? ⟨w.heap.size, 0, none⟩ = false := by go_simp
  have hne : w.heap.size ≠ g := by omega
  have RA := Lib.hid ra
  have SC := Lib.hid sc
  have SF := Lib.hid sf
  have HNE := Lib.hid hne
  clear ra sc sf hne
  by_cases h50 : 50 ≤ q
  · go_enter Tryz.func213, Tryz.ntmps213
    go_wp2_with fail
    rw [show (a : Int) + (t : Int) = ((a + t : Nat) : Int) by omega]
    refine (adjacent_any g n c w.heap.size d (a + t) _ RA.out (by omega) (by omega) hn SC.out SF.out HNE.out).mono ?_
    rintro e w1 ⟨r1, rfl, hr1, h1⟩
    have H1 := Lib.hid h1
    clear h1
    go_wp2_with fail
    rw [show (a : Int) + (t : Int) * 2 = ((a + t * 2 : Nat) : Int) by omega]
    refine (adjacent_any g n c w.heap.size d (a + t * 2) _ H1.out.row (by omega) (by omega) hn H1.out.cell H1.out.free HNE.out).mono ?_
    rintro e w2 ⟨r2, rfl, hr2, h2⟩
    have H2 := Lib.hid h2
    clear h2
    go_wp2_with fail
    rw [show (a : Int) + (t : Int) * 3 = ((a + t * 3 : Nat) : Int) by omega]
    refine (adjacent_any g n c w.heap.size d (a + t * 3) _ H2.out.row (by omega) (by omega) hn H2.out.cell H2.out.free HNE.out).mono ?_
    rintro e w3 ⟨r3, rfl, hr3, h3⟩
    have H3 := Lib.hid h3
    clear h3
    go_wp2_with fail
    refine (median_any g n c w.heap.size d r1 r2 r3 _ H3.out.row (by omega) (by omega) (by omega) hn H3.out.cell H3.out.free HNE.out).mono ?_
    rintro e W9 ⟨r, rfl, hr, h4⟩
    have HT := Lib.hid (((H1.out.trans H2.out).trans H3.out).trans h4); clear h4
    obtain ⟨k, hk⟩ := HT.out.cell
    have hP : Pm g n d w W9 := ⟨d, List.Perm.refl _, HT.out.row, grown_new HT.out.grown _⟩
    have HPP := Lib.hid hP
    clear hP
    by_cases k0 : k = 0
    · subst k0
      go_wp2_with fail
      go_ret2
      exact ⟨r, 1, rfl, by have := HQ.out; omega, by have := HQ.out; omega, by omega, HPP.out⟩
    · have q0 : (k == 0) = false := by simpa using k0
      by_cases k12 : k = 12
      · subst k12
        go_wp2_with fail
        go_ret2
        exact ⟨r, 2, rfl, by have := HQ.out; omega, by have := HQ.out; omega, by omega, HPP.out⟩
      · have q12 : (k == 12) = false := by simpa using k12
        go_wp2_with fail
        go_ret2
        exact ⟨r, 0, rfl, by have := HQ.out; omega, by have := HQ.out; omega, by omega, HPP.out⟩
  · have h50' : q < 50 := by omega
    go_enter Tryz.func213, Tryz.ntmps213
    go_wp2_with fail
    rw [show (a : Int) + (t : Int) = ((a + t : Nat) : Int) by omega, show (a : Int) + (t : Int) * 2 = ((a + t * 2 : Nat) : Int) by omega, show (a : Int) + (t : Int) * 3 = ((a + t * 3 : Nat) : Int) by omega]
    refine (median_any g n c w.heap.size d (a + t) (a + t * 2) (a + t * 3) _ RA.out (by omega) (by omega) (by omega) hn SC.out SF.out HNE.out).mono ?_
    rintro e W9 ⟨r, rfl, hr, h4⟩
    have HT := Lib.hid h4; clear h4
    obtain ⟨k, hk⟩ := HT.out.cell
    have hP : Pm g n d w W9 := ⟨d, List.Perm.refl _, HT.out.row, grown_new HT.out.grown _⟩
    have HPP := Lib.hid hP
    clear hP
    by_cases k0 : k = 0
    · subst k0
      go_wp2_with fail
      go_ret2
      exact ⟨r, 1, rfl, by have := HQ.out; omega, by have := HQ.out; omega, by omega, HPP.out⟩
    · have q0 : (k == 0) = false := by simpa using k0
      by_cases k12 : k = 12
      · subst k12
        go_wp2_with fail
        go_ret2
        exact ⟨r, 2, rfl, by have := HQ.out; omega, by have := HQ.out; omega, by omega, HPP.out⟩
      · have q12 : (k == 12) = false := by simpa using k12
        go_wp2_with fail
        go_ret2
        exact ⟨r, 0, rfl, by have := HQ.out; omega, by have := HQ.out; omega, by omega, HPP.out⟩
end Go.Proofs.YtlpjlphofjghhaaGreatDoor.So
/- The library's sort at uint64: math/bits.Len, by the shelf's contract. -/

namespace Go.Proofs.YtlpjlphofjghhaaGreatDoor.So
open Go.ChangeShapes Go.WideShapes Go.ChangeAt Go.RowKit Rw Go.Shelf
set_option linter.unusedVariables false

def lenF (k : Nat) : Nat := if k = 125 then 199 else if k = 128 then 219 else if k = 129 then 220 else 0
def lenT (k : Nat) : Nat := if k = 3 then 3 else if k = 4 then 4 else if k = 5 then 5 else if k = 9 then 9 else if k = 46 then 202 else if k = 51 then 300 else if k = 53 then 30 else 0
def lenRen : Ren := { f := lenF, t := lenT, g := fun x => x }
theorem lays125 : Lays.n125 Tryz.prog lenRen := {
  mixed := by kernel_rfl
  f125 := by kernel_rfl
  f128 := by kernel_rfl
  f129 := by kernel_rfl
  t3 := by kernel_rfl
  a3 := fun w => by kernel_rfl
  z3 := fun w => by kernel_rfl
  v3 := fun w => by kernel_rfl
  t4 := by kernel_rfl
  a4 := fun w => by kernel_rfl
  z4 := fun w => by kernel_rfl
  v4 := fun w => by kernel_rfl
  t5 := by kernel_rfl
  a5 := fun w => by kernel_rfl
  z5 := fun w => by kernel_rfl
  v5 := fun w => by kernel_rfl
  t9 := by kernel_rfl
  a9 := fun w => by kernel_rfl
  z9 := fun w => by kernel_rfl
  v9 := fun w => by kernel_rfl
  t46 := by kernel_rfl
  a46 := fun w => by kernel_rfl
  z46 := fun w => by kernel_rfl
  v46 := fun w => by kernel_rfl
  t51 := by kernel_rfl
  a51 := fun w => by kernel_rfl
  z51 := fun w => by kernel_rfl
  v51 := fun w => by kernel_rfl
  t53 := by kernel_rfl
  a53 := fun w => by kernel_rfl
  z53 := fun w => by kernel_rfl
  v53 := fun w => by kernel_rfl }
theorem len_any (x : Nat) (w : World) (h : x ≤ 18446744073709551615) : Calls Tryz.prog 199 #[.int .u64 x] w fun e w' => e = .returned (.int .i64 (Lib.bitLen x)) ∧ w = w' :=
  (Any.bits_Len lays125 x w (by omega) (by omega)).mono fun e w' ⟨h1, h2⟩ => ⟨by simpa using h1, h2.symm⟩

theorem bitLen_small (x : Nat) (h : x < 256) : Lib.bitLen x ≤ 8 := Lib.bitLen_le8 ⟨x, h⟩
theorem bitLen_pow (x : Nat) (h : x < 256) (h0 : 1 ≤ x) : 2 ^ Lib.bitLen x ≤ 2 * x := by
  have : ∀ n : Fin 256, 1 ≤ n.val → 2 ^ Lib.bitLen n.val ≤ 2 * n.val := by decide +kernel
  exact this ⟨x, h⟩ h0
def Pow (x : Nat) (w : World) (e : Ending) (w' : World) : Prop := ∃ m : Nat, e = .returned (.int .u64 m) ∧ 1 ≤ m ∧ m ≤ 2 * x ∧ w = w'
set_option maxHeartbeats 2000000 in
theorem next_any (x : Nat) (w : World) (h : x < 256) (h0 : 1 ≤ x) : Calls Tryz.prog 232 #[.int .i64 x] w (Pow x w) := by
  have hp := bitLen_pow x h h0
  have hs := bitLen_small x h
  obtain ⟨L, hL⟩ : ∃ L, Lib.bitLen x = L := ⟨_, rfl⟩
  rw [hL] at hp hs
  have HL := Lib.hid hL
  clear hL
  have hc : L = 0 ∨ L = 1 ∨ L = 2 ∨ L = 3 ∨ L = 4 ∨ L = 5 ∨ L = 6 ∨ L = 7 ∨ L = 8 := by omega
  rcases hc with rfl | rfl | rfl | rfl | rfl | rfl | rfl | rfl | rfl
  all_goals
    go_enter Tryz.func232, Tryz.ntmps232
    go_wp2_with fail
    refine (len_any x _ (by omega)).mono ?_
    rintro e w' ⟨rfl, rfl⟩
    rw [HL.out]
    go_wp2_with fail
    go_ret
    exact ⟨_, rfl, by decide, hp, rfl⟩
def Rnd (b : Nat) (w : World) (e : Ending) (w' : World) : Prop := ∃ v : Nat, e = .returned (.int .u64 v) ∧ v < 18446744073709551616 ∧ w'.cell? ⟨b, 0, none⟩ = some (.int .u64 v) ∧ w'.frozen? ⟨b, 0, none⟩ = false ∧ w.grownBy w' (some b)
theorem set_facts (w : World) (b : Nat) (v x : Int) (hc : w.cell? ⟨b, 0, none⟩ = some (.int .u64 v)) (hf : w.frozen? ⟨b, 0, none⟩ = false) :
    ((w.setCell ⟨b, 0, none⟩ (.int .u64 x)).drew).cell? ⟨b, 0, none⟩ = some (.int .u64 x) ∧ ((w.setCell ⟨b, 0, none⟩ (.int .u64 x)).drew).frozen? ⟨b, 0, none⟩ = false ∧ w.grownBy (w.setCell ⟨b, 0, none⟩ (.int .u64 x)).drew (some b) :=
  ⟨World.cell?_setCell_same w _ _ hc, (World.frozen?_setCell w _ _ _).trans hf, (grown_setCell w b 0 _).trans (grown_drew _ _)⟩
set_option maxHeartbeats 2000000 in
theorem xor_any (b : Nat) (v : Int) (w : World) (hc : w.cell? ⟨b, 0, none⟩ = some (.int .u64 v)) (hf : w.frozen? ⟨b, 0, none⟩ = false) :
    Calls Tryz.prog 233 #[.pointer (some ⟨b, 0, none⟩)] w (Rnd b w) := by
  go_enter Tryz.func233, Tryz.ntmps233
  go_wp2
  go_region
  go_wp2
  generalize bits .xor .u64 v (IntKind.u64.wrap (v * 8192)) = v1
  obtain ⟨c1, f1, g1⟩ := set_facts w b v v1 hc hf
  have G1 := Lib.hid g1
  clear g1
  generalize (w.setCell ⟨b, 0, none⟩ (.int .u64 v1)).drew = w1 at *
  go_region
  go_wp2
  generalize bits .xor .u64 v1 (v1 / 128) = v2
  obtain ⟨c2, f2, g2⟩ := set_facts w1 b v1 v2 c1 f1
  have G2 := Lib.hid g2
  clear g2 hc hf c1 f1
  generalize (w1.setCell ⟨b, 0, none⟩ (.int .u64 v2)).drew = w2 at *
  go_region
  have l3 := bits_lo_u64 .xor v2 (IntKind.u64.wrap (v2 * 131072))
  have h3 := bits_hi_u64 .xor v2 (IntKind.u64.wrap (v2 * 131072))
  generalize bits .xor .u64 v2 (IntKind.u64.wrap (v2 * 131072)) = v3 at *
  obtain ⟨c3, f3, g3⟩ := set_facts w2 b v2 v3 c2 f2
  have G3 := Lib.hid g3
  clear g3 c2 f2
  obtain ⟨r3, hr3⟩ := Int.eq_ofNat_of_zero_le l3
  have HR3 := Lib.hid hr3
  clear hr3
  go_wp2
  go_ret
  exact ⟨r3, by rw [HR3.out]; rfl, by have := HR3.out; omega, by rw [← HR3.out]; exact c3, f3, (G1.out.trans G2.out).trans G3.out⟩
end Go.Proofs.YtlpjlphofjghhaaGreatDoor.So
/- The library's sort at uint64: what breaks patterns. -/
namespace Go.Proofs.YtlpjlphofjghhaaGreatDoor.So
open Go.ChangeShapes Go.WideShapes Go.ChangeAt Go.RowKit Rw
set_option linter.unusedVariables false

/-- The row, permuted; the random walk's number, in block rb. -/
def St (g n rb : Nat) (d : List Int) (w w' : World) : Prop := ∃ (d' : List Int) (v : Int), d'.Perm d ∧ Row w' g n d' ∧ w'.cell? ⟨rb, 0, none⟩ = some (.int .u64 v) ∧ w'.frozen? ⟨rb, 0, none⟩ = false ∧ w.grownBy w' (some g)
theorem grown_via {w w1 w2 : World} {g rb : Nat} (h : w.grownBy w1 (some g)) (h' : w1.grownBy w2 (some rb)) (hrb : w.heap.size ≤ rb) : w.grownBy w2 (some g) :=
  ⟨h'.os.trans h.os, h'.tape.trans h.tape, h'.output.trans h.output, Nat.le_trans h.size h'.size, fun k hk hne => (h'.block k (Nat.lt_of_lt_of_le hk h.size) (by simp; omega)).trans (h.block k hk hne)⟩
theorem Row.grown {w w' : World} {g n rb : Nat} {d : List Int} (h : Row w g n d) (hg : w.grownBy w' (some rb)) (hne : g ≠ rb) (hl : g < w.heap.size) : Row w' g n d :=
  ⟨h.len, fun j x hx => (World.cell?_of_block (hg.block g hl (by simp; exact hne))).trans (h.cell j x hx), fun j hj => (World.frozen?_of_block (hg.block g hl (by simp; exact hne))).trans (h.free j hj)⟩
theorem St.of {g n rb : Nat} {d d1 : List Int} {w w1 w2 : World} {v : Int} (h : Pm g n d1 w1 w2) (hp : d1.Perm d) (hg : w.grownBy w1 (some g)) (hc : w1.cell? ⟨rb, 0, none⟩ = some (.int .u64 v)) (hf : w1.frozen? ⟨rb, 0, none⟩ = false) (hne : rb ≠ g) : St g n rb d w w2 := by
  obtain ⟨d2, h1, h2, h3⟩ := h
  exact ⟨d2, v, h1.trans hp, h2, h3.cell hc (by simp; exact hne), grown_frozen h3 hf (Lw.lt_heap hc) (by simp; exact hne), hg.trans h3⟩
set_option maxHeartbeats 8000000 in
set_option maxRecDepth 100000 in
theorem break_any (g n c : Nat) (d : List Int) (a b : Nat) (w : World) (h : Row w g n d) (hab : a + 12 < b) (hb : b ≤ n) (hn : n ≤ 200) :
    Calls Tryz.prog 212 #[.slice (some ⟨g, 0, none⟩) n c, .int .i64 a, .int .i64 b] w fun e w' => e = .returned (.tuple #[]) ∧ Pm g n d w w' := by
  have hgl := h.lt (by omega)
  have HR := Lib.hid h
  clear h
  obtain ⟨q, hq⟩ : ∃ q : Nat, b = a + q := ⟨b - a, by omega⟩
  obtain ⟨t, ht⟩ : ∃ t : Nat, t = q / 4 := ⟨_, rfl⟩
  have e1 : (b : Int) - (a : Int) = (q : Int) := by omega
  have e2 : (q : Int) / 4 = (t : Int) := by omega
  have ht0 : 3 ≤ t := by omega
  have ht1 : t * 4 ≤ q := by omega
  have hqn : a + q ≤ n := by omega
  have hq8 : 8 ≤ q := by omega
  clear hq ht
  go_enter Tryz.func212, Tryz.ntmps212
  go_wp2_with fail
  refine (next_any q _ (by omega) (by omega)).mono ?_
  rintro e w1 ⟨M, rfl, hM0, hM1, rfl⟩
  have st0 : St g n w.heap.size d w (w.alloc (.cells #[.int .u64 q] 309)) :=
    ⟨d, q, List.Perm.refl _, ⟨HR.out.len, fun j x hx => alloc_cell (HR.out.cell j x hx) _, fun j hj => alloc_frozen (HR.out.free j hj) hgl _⟩, by go_simp, by go_simp, World.grownBy_alloc w _ _⟩
  have ST0 := Lib.hid st0
  have hrb : w.heap.size ≠ g := by omega
  clear st0
  go_wp2_with fail
  go_loopw [9, 10] (fun si _ wr => ∃ I : Int, (a : Int) + t * 2 - 1 ≤ I ∧ I ≤ (a : Int) + t * 2 + 2 ∧ si = .int .i64 I ∧ Hid (St g n w.heap.size d w wr)) (fun si _ _ => ((a : Int) + t * 2 + 2 - intOf si).toNat)
  case atStart => exact ⟨_, by omega, by omega, rfl, ST0⟩
  case round =>
    clear ST0
    obtain ⟨I, hI0, hI1, rfl, hst⟩ := hrel
    by_cases hlt : I ≤ (a : Int) + t * 2 + 1
    · obtain ⟨d1, v, hp1, hr1, hc1, hf1, hg1⟩ := hst.out
      have HR1 := Lib.hid hr1
      have HP1 := Lib.hid hp1
      have HG1 := Lib.hid hg1
      have hl1 : g < wr.heap.size := hr1.lt (by omega)
      clear hr1 hp1 hg1 hst
      go_wp2_with fail
      refine (xor_any w.heap.size v _ hc1 hf1).mono ?_
      rintro e w2 ⟨v2, rfl, hv2, hvc, hvf, hvg⟩
      have hrw := HR1.out.grown hvg (fun e => hrb e.symm) hl1
      have HG2 := Lib.hid (grown_via HG1.out hvg (Nat.le_refl _))
      obtain ⟨o, ho⟩ : ∃ o : Nat, o = v2 &&& (M - 1) := ⟨_, rfl⟩
      have hoM : o ≤ M - 1 := by rw [ho]; exact Nat.and_le_right
      have hand : bits .and .u64 (v2 : Int) ((M : Int) - 1) = (o : Int) := by
        rw [show (M : Int) - 1 = ((M - 1 : Nat) : Int) by omega, bits_and_u64_nat _ _ hv2 (by omega), ho]
      clear ho hc1 hf1 hvg HR1 HG1
      by_cases hoq : q ≤ o
      · obtain ⟨o2, ho2⟩ : ∃ o2 : Nat, o = q + o2 := ⟨o - q, by omega⟩
        have e3 : (o : Int) - (q : Int) = (o2 : Int) := by omega
        have ho : o2 < q := by omega
        have w1 : IntKind.i64.wrap ((a : Int) + (o2 : Int)) = (a : Int) + (o2 : Int) := IntWalk.i64_in _ (by omega)
        have t1 : ((a : Int) + (o2 : Int)).toNat = a + o2 := by omega
        have s0 : (0 : Int) ≤ I := by omega
        have s1 : I < (n : Int) := by omega
        have s2 : (0 : Int) ≤ (a : Int) + (o2 : Int) := by omega
        have s3 : (a : Int) + (o2 : Int) < (n : Int) := by omega
        obtain ⟨x, hx, hcx⟩ := hrw.get (show I.toNat < n by omega)
        obtain ⟨y, hy, hcy⟩ := hrw.get (show a + o2 < n by omega)
        have fx := hrw.free I.toNat (by omega)
        have fy := hrw.free (a + o2) (by omega)
        have HX := Lib.hid hx
        have HY := Lib.hid hy
        have HRW := Lib.hid hrw
        clear hx hy hrw
        by_cases hsame : I.toNat = a + o2
        · rw [hsame] at hcx fx HX
          have hxy : x = y := by have h1 := HX.out; have h2 := HY.out; rw [h2] at h1; injection h1 with h1; exact h1.symm
          subst hxy
          go_wp2
          go_region
          go_wp2
          have hps := Lib.hid (HRW.out.swap HX.out HX.out 1 rfl)
          clear hsame
          go_roundw
          case rel => first | exact ⟨I + 1, by omega, by omega, by go_num, St.of hps.out HP1.out HG2.out hvc hvf hrb⟩ | ((repeat apply Exists.intro); exact ⟨⟨I + 1, by omega, by omega, by go_num, St.of hps.out HP1.out HG2.out hvc hvf hrb⟩, rfl⟩)
          case measure => simp [intOf] <;> omega
        · have hne2 : ¬ a + o2 = I.toNat := fun e => hsame e.symm
          go_wp2
          go_region
          go_wp2
          have hps := Lib.hid (HRW.out.swap HX.out HY.out 1 rfl)
          go_roundw
          case rel => first | exact ⟨I + 1, by omega, by omega, by go_num, St.of hps.out HP1.out HG2.out hvc hvf hrb⟩ | ((repeat apply Exists.intro); exact ⟨⟨I + 1, by omega, by omega, by go_num, St.of hps.out HP1.out HG2.out hvc hvf hrb⟩, rfl⟩)
          case measure => simp [intOf] <;> omega
      · have hoq' : o < q := by omega
        have ho : o < q := by omega
        have w1 : IntKind.i64.wrap ((a : Int) + (o : Int)) = (a : Int) + (o : Int) := IntWalk.i64_in _ (by omega)
        have t1 : ((a : Int) + (o : Int)).toNat = a + o := by omega
        have s0 : (0 : Int) ≤ I := by omega
        have s1 : I < (n : Int) := by omega
        have s2 : (0 : Int) ≤ (a : Int) + (o : Int) := by omega
        have s3 : (a : Int) + (o : Int) < (n : Int) := by omega
        obtain ⟨x, hx, hcx⟩ := hrw.get (show I.toNat < n by omega)
        obtain ⟨y, hy, hcy⟩ := hrw.get (show a + o < n by omega)
        have fx := hrw.free I.toNat (by omega)
        have fy := hrw.free (a + o) (by omega)
        have HX := Lib.hid hx
        have HY := Lib.hid hy
        have HRW := Lib.hid hrw
        clear hx hy hrw
        by_cases hsame : I.toNat = a + o
        · rw [hsame] at hcx fx HX
          have hxy : x = y := by have h1 := HX.out; have h2 := HY.out; rw [h2] at h1; injection h1 with h1; exact h1.symm
          subst hxy
          go_wp2
          go_region
          go_wp2
          have hps := Lib.hid (HRW.out.swap HX.out HX.out 1 rfl)
          clear hsame
          go_roundw
          case rel => first | exact ⟨I + 1, by omega, by omega, by go_num, St.of hps.out HP1.out HG2.out hvc hvf hrb⟩ | ((repeat apply Exists.intro); exact ⟨⟨I + 1, by omega, by omega, by go_num, St.of hps.out HP1.out HG2.out hvc hvf hrb⟩, rfl⟩)
          case measure => simp [intOf] <;> omega
        · have hne2 : ¬ a + o = I.toNat := fun e => hsame e.symm
          go_wp2
          go_region
          go_wp2
          have hps := Lib.hid (HRW.out.swap HX.out HY.out 1 rfl)
          go_roundw
          case rel => first | exact ⟨I + 1, by omega, by omega, by go_num, St.of hps.out HP1.out HG2.out hvc hvf hrb⟩ | ((repeat apply Exists.intro); exact ⟨⟨I + 1, by omega, by omega, by go_num, St.of hps.out HP1.out HG2.out hvc hvf hrb⟩, rfl⟩)
          case measure => simp [intOf] <;> omega
    · obtain ⟨d1, v, hp1, hr1, hc1, hf1, hg1⟩ := hst.out
      have HPM : Hid (Pm g n d w wr) := ⟨d1, hp1, hr1, hg1⟩
      clear hp1 hr1 hc1 hf1 hg1 hst
      go_wp2_with fail
      go_end0
      exact ⟨rfl, HPM.out⟩
end Go.Proofs.YtlpjlphofjghhaaGreatDoor.So
/- The library's sort at uint64, in order: a row of which something holds; insertion sort, sift down, heap sort, reversed. -/

namespace Go.Proofs.YtlpjlphofjghhaaGreatDoor.So
open Go.ChangeShapes Go.WideShapes Go.ChangeAt Go.RowKit Rw
open Go.Sort (swp ltInt insOuter insInner insertionSort siftDown heapBuild heapPop heapSort PermIn SortedIn swo_ltInt)
set_option linter.unusedVariables false

/-- From w to w': nothing but block g has turned, and its row is one of which P holds. -/
def Pq (g n : Nat) (P : Array Int → Prop) (w w' : World) : Prop := ∃ A : Array Int, A.size = n ∧ P A ∧ Row w' g n A.toList ∧ w.grownBy w' (some g)
theorem Pq.mk' {g n : Nat} {P : Array Int → Prop} {w w' : World} {A : Array Int} (hs : A.size = n) (hP : P A) (hg : w.grownBy w' (some g)) (h : Row w' g n A.toList) : Pq g n P w w' := ⟨A, hs, hP, h, hg⟩
theorem Pq.start {g n : Nat} {P : Array Int → Prop} {w : World} {A : Array Int} (hs : A.size = n) (hP : P A) (h : Row w g n A.toList) : Pq g n P w w := ⟨A, hs, hP, h, World.grownBy.refl _ _⟩
theorem Pq.drewN {g n : Nat} {P : Array Int → Prop} {w w' : World} (h : Pq g n P w w') (k : Nat) : Pq g n P w (w'.drewN k) := by
  obtain ⟨A, h0, h1, h2, h3⟩ := h
  exact ⟨A, h0, h1, h2.drewN k, h3.trans (grown_drewN _ _ _)⟩
theorem Pq.imp {g n : Nat} {P Q : Array Int → Prop} {w w' : World} (h : Pq g n P w w') (f : ∀ A : Array Int, A.size = n → P A → Q A) : Pq g n Q w w' := by
  obtain ⟨A, h0, h1, h2, h3⟩ := h
  exact ⟨A, h0, f A h0 h1, h2, h3⟩
theorem Pq.trans {g n : Nat} {P : Array Int → Prop} {w w1 w' : World} (hg : w.grownBy w1 (some g)) (h : Pq g n P w1 w') : Pq g n P w w' := by
  obtain ⟨A, h0, h1, h2, h3⟩ := h
  exact ⟨A, h0, h1, h2, hg.trans h3⟩
theorem bang {A : Array Int} {i : Nat} {x : Int} (h : A.toList[i]? = some x) : A[i]! = x := by
  have h2 : A[i]? = some x := by rw [← Array.getElem?_toList]; exact h
  obtain ⟨hi, e⟩ := Array.getElem?_eq_some_iff.1 h2
  rw [getElem!_pos A i hi]; exact e
theorem swp_list {A : Array Int} {i j : Nat} {x y : Int} (hx : A.toList[i]? = some x) (hy : A.toList[j]? = some y) : (swp A i j).toList = (A.toList.set i y).set j x := by
  unfold swp
  rw [bang hx, bang hy, Array.toList_setIfInBounds, Array.toList_setIfInBounds]
theorem Pq.swap {g n : Nat} {Q : Array Int → Prop} {w w1 w' : World} {A : Array Int} {i j : Nat} {x y : Int} (hs : A.size = n) (hg : w.grownBy w1 (some g)) (h : Row w1 g n A.toList) (hx : A.toList[i]? = some x) (hy : A.toList[j]? = some y) (k : Nat)
    (hw : w' = ((w1.drewN k).setCell ⟨g, i, none⟩ (.int .u64 y)).setCell ⟨g, j, none⟩ (.int .u64 x)) (hQ : Q (swp A i j)) : Pq g n Q w w' := by
  subst hw
  have hil : i < n := by rw [← h.len]; exact (List.getElem?_eq_some_iff.1 hx).1
  have hjl : j < n := by rw [← h.len]; exact (List.getElem?_eq_some_iff.1 hy).1
  refine ⟨swp A i j, by rw [Go.Sort.swp_size]; exact hs, hQ, ?_, hg.trans (((grown_drewN w1 k _).trans (grown_setCell _ g i _)).trans (grown_setCell _ g j _))⟩
  rw [swp_list hx hy]
  exact ((h.drewN k).set hil y).set hjl x
theorem lt_t {x y : Int} (h : x < y) : ltInt x y = true := decide_eq_true h
theorem lt_f {x y : Int} (h : ¬ x < y) : ltInt x y = false := decide_eq_false h

set_option maxHeartbeats 2000000 in
set_option maxRecDepth 100000 in
theorem insertion_srt (g n c : Nat) (D : Array Int) (a b : Nat) (w : World) (hD : D.size = n) (h : Row w g n D.toList) (hab : a ≤ b) (hb : b ≤ n) (hn : n ≤ 4611686018427387904) :
    Calls Tryz.prog 210 #[.slice (some ⟨g, 0, none⟩) n c, .int .i64 a, .int .i64 b] w fun e w' => e = .returned (.tuple #[]) ∧ Pq g n (fun A => PermIn a b D A ∧ SortedIn ltInt a b A) w w' := by
  have HS := Lib.hid (Go.Sort.insertionSort_holds swo_ltInt D a b hab (by rw [hD]; exact hb))
  obtain ⟨T, hT⟩ : ∃ T, insertionSort ltInt D a b = T := ⟨_, rfl⟩
  rw [hT] at HS
  have HR : Hid (Pq g n (fun A => insOuter ltInt a b (a + 1) A = T) w w) := Lib.hid (Pq.start hD hT h)
  clear h hT hD
  go_enter Tryz.func210, Tryz.ntmps210
  go_wp2
  go_loopw [6, 7] (fun si _ wr => ∃ i : Nat, a + 1 ≤ i ∧ i ≤ n + 1 ∧ si = .int .i64 i ∧ Hid (Pq g n (fun A => insOuter ltInt a b i A = T) w wr)) (fun si _ _ => n + 1 - (intOf si).toNat)
  case atStart => exact ⟨a + 1, Nat.le_refl _, by omega, by go_num, HR.out⟩
  case round =>
    obtain ⟨i, hi0, hi1, rfl, hpm⟩ := hrel
    by_cases hlt : i < b
    · go_wp2
      obtain ⟨wo, hwo⟩ : ∃ wo : World, wo = wr := ⟨_, rfl⟩
      subst hwo
      go_loopw [7] (fun sj wq => ∃ J : Int, (a : Int) ≤ J ∧ J ≤ i ∧ sj = .int .i64 J ∧ Hid (Pq g n (fun A => insOuter ltInt a b (i + 1) (insInner ltInt a J.toNat A) = T) w wq)) (fun sj _ => (intOf sj).toNat)
      case atStart => exact ⟨i, by omega, by omega, rfl, hpm.out.imp fun A _ hA => by rw [insOuter, if_pos hlt] at hA; exact hA⟩
      case round =>
        clear hpm
        obtain ⟨J, hj0, hj1, rfl, hpm⟩ := hrel
        by_cases hja : (a : Int) < J
        · obtain ⟨m, hm⟩ := Int.eq_ofNat_of_zero_le (show 0 ≤ J - 1 by omega)
          have hj2 : 0 ≤ J := by omega
          have hj3 : J < (n : Int) := by omega
          have hj4 : J.toNat = m + 1 := by omega
          obtain ⟨d1, hs1, hp1, hr1, hg1⟩ := hpm.out
          obtain ⟨x, hx, hcx⟩ := hr1.get (show J.toNat < n by omega)
          obtain ⟨y, hy, hcy⟩ := hr1.get (show m < n by omega)
          have fx := hr1.free J.toNat (by omega)
          have fy := hr1.free m (by omega)
          have b2 : (0 : Int) ≤ (m : Int) := by omega
          have b3 : (m : Int) < (n : Int) := by omega
          have hne : J.toNat ≠ m := by omega
          have w1 : IntKind.i64.wrap (J - 1) = (m : Int) := by rw [hm]; exact IntWalk.i64_in _ (by omega)
          have HX := Lib.hid hx
          have HY := Lib.hid hy
          have HR1 := Lib.hid hr1
          have HP1 := Lib.hid hp1
          have HM := Lib.hid hm
          have H4 := Lib.hid hj4
          have HS1 := Lib.hid hs1
          have qa : decide ((a : Int) < J) = true := by simpa using hja
          clear hx hy hr1 hp1 hpm hm hj4 hs1
          by_cases hxy : x < y
          · have q1 : decide (x < y) = true := by simpa using hxy
            have HQ : Hid (insOuter ltInt a b (i + 1) (insInner ltInt a m (swp d1 J.toNat m)) = T) := Lib.hid (by
              have h1 := HP1.out
              have ex := bang HX.out
              have ey := bang HY.out
              rw [H4.out] at h1 ex ⊢
              rw [insInner, ex, ey, lt_t hxy, Bool.and_true, if_pos (decide_eq_true (by have := H4.out; omega))] at h1
              exact h1)
            go_wp2
            go_quiet ((go_at_call 216; first | exact less_quiet _ _ | exact less_quiet2 _ _))
            go_wp2
            go_region
            go_wp2
            go_roundw
            case rel => exact ⟨m, by have := HM.out; omega, by have := HM.out; omega, by go_num, Pq.swap HS1.out (hg1.trans (grown_drewN _ nq _)) (HR1.out.drewN nq) HX.out HY.out 1 rfl HQ.out⟩
            case measure => simp [intOf]; have := H4.out; omega
          · have q1 : decide (x < y) = false := by simpa using hxy
            have HQ : Hid (insOuter ltInt a b (i + 1) d1 = T) := Lib.hid (by
              have h1 := HP1.out
              have ex := bang HX.out
              have ey := bang HY.out
              rw [H4.out] at h1 ex
              rw [insInner, ex, ey, lt_f hxy, Bool.and_false, if_neg (by decide)] at h1
              exact h1)
            go_wp2
            go_quiet ((go_at_call 216; first | exact less_quiet _ _ | exact less_quiet2 _ _))
            go_wp2
            go_roundw
            case rel => exact ⟨i + 1, by omega, by omega, by go_num, (Pq.mk' HS1.out HQ.out hg1 HR1.out).drewN _⟩
            case measure => simp [intOf]; omega
        · have qa : decide ((a : Int) < J) = false := by simpa using hja
          have HQ : Hid (Pq g n (fun A => insOuter ltInt a b (i + 1) A = T) w wr) := Lib.hid (hpm.out.imp fun A _ hA => by
            cases hJ : J.toNat with
            | zero => rw [hJ, insInner] at hA; exact hA
            | succ k =>
              rw [hJ, insInner, decide_eq_false (by omega), Bool.false_and, if_neg (by decide)] at hA
              exact hA)
          clear hpm
          go_wp2
          go_quiet (fail)
          go_wp2
          go_roundw
          case rel => exact ⟨i + 1, by omega, by omega, by go_num, HQ.out.drewN _⟩
          case measure => simp [intOf]; omega
    · have HQ : Hid (Pq g n (fun A => PermIn a b D A ∧ SortedIn ltInt a b A) w wr) := Lib.hid (hpm.out.imp fun A _ hA => by
        rw [insOuter, if_neg hlt] at hA
        rw [hA]; exact HS.out)
      clear hpm
      go_wp2
      go_end0
      exact ⟨rfl, HQ.out⟩
end Go.Proofs.YtlpjlphofjghhaaGreatDoor.So
/- The library's sort at uint64, in order: sift down, heap sort. -/
namespace Go.Proofs.YtlpjlphofjghhaaGreatDoor.So
open Go.ChangeShapes Go.WideShapes Go.ChangeAt Go.RowKit Rw
open Go.Sort (swp ltInt siftDown heapBuild heapPop heapSort PermIn SortedIn swo_ltInt)
set_option linter.unusedVariables false

theorem sift_done {hi f r : Nat} {A : Array Int} (h : hi ≤ 2 * r + 1) : siftDown ltInt hi f r A = A := by rw [siftDown, dif_pos h]
section
variable {hi f r k : Nat} {A : Array Int} {x y z : Int}
theorem sift_right_go (hk : k = 2 * r + 1) (h1 : k + 1 < hi) (hx : A[f + k]! = x) (hy : A[f + k + 1]! = y) (hz : A[f + r]! = z) (hxy : x < y) (hzy : z < y) : siftDown ltInt hi f r A = siftDown ltInt hi f (k + 1) (swp A (f + r) (f + k + 1)) := by
  subst hk
  have e : f + (2 * r + 1) + 1 = f + (2 * r + 2) := by omega
  conv => lhs; rw [siftDown]
  rw [dif_neg (by omega), hx, hy, lt_t hxy, decide_eq_true h1, Bool.and_true, if_pos rfl]
  rw [e] at hy
  rw [hz, hy, lt_t hzy, if_neg (by decide), dif_pos (by omega)]
  rfl
theorem sift_right_stop (hk : k = 2 * r + 1) (h1 : k + 1 < hi) (hx : A[f + k]! = x) (hy : A[f + k + 1]! = y) (hz : A[f + r]! = z) (hxy : x < y) (hzy : ¬ z < y) : siftDown ltInt hi f r A = A := by
  subst hk
  have e : f + (2 * r + 1) + 1 = f + (2 * r + 2) := by omega
  rw [siftDown, dif_neg (by omega), hx, hy, lt_t hxy, decide_eq_true h1, Bool.and_true, if_pos rfl]
  rw [e] at hy
  rw [hz, hy, lt_f hzy, if_pos (by decide)]
theorem sift_cond (hx : A[f + (2 * r + 1)]! = x) (h1 : ¬ 2 * r + 1 + 1 < hi ∨ ∃ y, A[f + (2 * r + 1) + 1]! = y ∧ ¬ x < y) : (decide (2 * r + 1 + 1 < hi) && ltInt A[f + (2 * r + 1)]! A[f + (2 * r + 1) + 1]!) = false := by
  rcases h1 with h1 | ⟨y, hy, hxy⟩
  · rw [decide_eq_false h1, Bool.false_and]
  · rw [hx, hy, lt_f hxy, Bool.and_false]
theorem sift_left_go (hk : k = 2 * r + 1) (h0 : k < hi) (hx : A[f + k]! = x) (hz : A[f + r]! = z) (h1 : ¬ k + 1 < hi ∨ ∃ y, A[f + k + 1]! = y ∧ ¬ x < y) (hzx : z < x) : siftDown ltInt hi f r A = siftDown ltInt hi f k (swp A (f + r) (f + k)) := by
  subst hk
  conv => lhs; rw [siftDown]
  rw [dif_neg (by omega), sift_cond hx h1, if_neg (by decide), hz, hx, lt_t hzx, if_neg (by decide)]
theorem sift_left_stop (hk : k = 2 * r + 1) (h0 : k < hi) (hx : A[f + k]! = x) (hz : A[f + r]! = z) (h1 : ¬ k + 1 < hi ∨ ∃ y, A[f + k + 1]! = y ∧ ¬ x < y) (hzx : ¬ z < x) : siftDown ltInt hi f r A = A := by
  subst hk
  rw [siftDown, dif_neg (by omega), sift_cond hx h1, if_neg (by decide), hz, hx, lt_f hzx, if_pos (by decide)]
end

set_option maxHeartbeats 4000000 in
set_option maxRecDepth 100000 in
theorem sift_srt (g n c : Nat) (D T : Array Int) (lo hi f : Nat) (w : World) (hD : D.size = n) (hT : siftDown ltInt hi f lo D = T) (h : Row w g n D.toList) (hb : f + hi ≤ n) (hl : lo ≤ n) (hn : n ≤ 1152921504606846976) :
    Calls Tryz.prog 231 #[.slice (some ⟨g, 0, none⟩) n c, .int .i64 lo, .int .i64 hi, .int .i64 f] w fun e w' => e = .returned (.tuple #[]) ∧ Pq g n (fun A => A = T) w w' := by
  have HR : Hid (Pq g n (fun A => siftDown ltInt hi f lo A = T) w w) := Lib.hid (Pq.start hD hT h)
  clear h hT hD
  go_enter Tryz.func231, Tryz.ntmps231
  go_wp2
  go_loopw [8, 9] (fun sr _ wr => ∃ r : Nat, r ≤ n ∧ sr = .int .i64 r ∧ Hid (Pq g n (fun A => siftDown ltInt hi f r A = T) w wr)) (fun sr _ _ => n - (intOf sr).toNat)
  case atStart => exact ⟨lo, hl, rfl, HR.out⟩
  case round =>
    obtain ⟨r, hr, rfl, hpm⟩ := hrel
    by_cases hk : 2 * r + 1 < hi
    · have hk' : (2 : Int) * (r : Int) + 1 < (hi : Int) := by omega
      obtain ⟨d1, hs1, hp1, hr1, hg1⟩ := hpm.out
      obtain ⟨k, hkk⟩ : ∃ k : Nat, k = 2 * r + 1 := ⟨_, rfl⟩
      have hkk0 := hkk
      have hrk : r < k := by omega
      have hkh : k < hi := by omega
      have e1 : (2 : Int) * (r : Int) + 1 = (k : Int) := by omega
      clear hkk hk' hk
      obtain ⟨x, hx, hcx⟩ := hr1.get (show f + k < n by omega)
      obtain ⟨z, hz, hcz⟩ := hr1.get (show f + r < n by omega)
      have fz := hr1.free (f + r) (by omega)
      have fx := hr1.free (f + k) (by omega)
      have w1 : IntKind.i64.wrap ((k : Int) + 1) = (k : Int) + 1 := IntWalk.i64_in _ (by omega)
      have w2 : IntKind.i64.wrap ((f : Int) + (k : Int)) = (f : Int) + (k : Int) := IntWalk.i64_in _ (by omega)
      have w3 : IntKind.i64.wrap ((f : Int) + (k : Int) + 1) = (f : Int) + (k : Int) + 1 := IntWalk.i64_in _ (by omega)
      have w4 : IntKind.i64.wrap ((f : Int) + (r : Int)) = (f : Int) + (r : Int) := IntWalk.i64_in _ (by omega)
      have t2 : ((f : Int) + (k : Int)).toNat = f + k := by omega
      have t3 : ((f : Int) + (k : Int) + 1).toNat = f + k + 1 := by omega
      have t4 : ((f : Int) + (r : Int)).toNat = f + r := by omega
      have b2 : (0 : Int) ≤ (f : Int) + (k : Int) := by omega
      have b3 : (f : Int) + (k : Int) < (n : Int) := by omega
      have b4 : (0 : Int) ≤ (f : Int) + (r : Int) := by omega
      have b5 : (f : Int) + (r : Int) < (n : Int) := by omega
      have b6 : (0 : Int) ≤ (f : Int) + (k : Int) + 1 := by omega
      have hne : r ≠ k := by omega
      have HX := Lib.hid hx
      have HZ := Lib.hid hz
      have HR1 := Lib.hid hr1
      have HP1 := Lib.hid hp1
      have HS1 := Lib.hid hs1
      have HK := Lib.hid hkk0
      clear hx hz hp1 hpm hs1 hkk0
      by_cases hk1 : k + 1 < hi
      · obtain ⟨y, hy, hcy⟩ := hr1.get (show f + k + 1 < n by omega)
        have fy := hr1.free (f + k + 1) (by omega)
        have HY := Lib.hid hy
        have b7 : (f : Int) + (k : Int) + 1 < (n : Int) := by omega
        have q3 : decide ((k : Int) + 1 < (hi : Int)) = true := by simp; omega
        clear hy hr1
        by_cases hxy : x < y
        · have q4 : decide (x < y) = true := by simpa using hxy
          have w5 : IntKind.i64.wrap ((f : Int) + ((k : Int) + 1)) = (f : Int) + ((k : Int) + 1) := IntWalk.i64_in _ (by omega)
          have t5 : ((f : Int) + ((k : Int) + 1)).toNat = f + k + 1 := by omega
          have b8 : (0 : Int) ≤ (f : Int) + ((k : Int) + 1) := by omega
          have b9 : (f : Int) + ((k : Int) + 1) < (n : Int) := by omega
          have hne2 : ¬ r = k + 1 := by omega
          by_cases hzm : z < y
          · have q5 : decide (z < y) = true := by simpa using hzm
            have HQ : Hid (siftDown ltInt hi f (k + 1) (swp d1 (f + r) (f + k + 1)) = T) := Lib.hid ((sift_right_go HK.out hk1 (bang HX.out) (bang HY.out) (bang HZ.out) hxy hzm).symm.trans HP1.out)
            go_wp2
            go_quiet ((go_at_call 216; first | exact less_quiet _ _ | exact less_quiet2 _ _))
            go_wp2
            go_quiet ((go_at_call 216; first | exact less_quiet _ _ | exact less_quiet2 _ _))
            go_wp2
            go_region
            go_wp2
            go_roundw
            case rel => exact ⟨k + 1, by omega, by go_num, by first | exact Pq.swap HS1.out (hg1.trans (grown_drewN _ _ _)) (HR1.out.drewN _) HZ.out HY.out 1 rfl HQ.out | exact Pq.swap HS1.out ((hg1.trans (grown_drewN _ _ _)).trans (grown_drewN _ _ _)) ((HR1.out.drewN _).drewN _) HZ.out HY.out 1 rfl HQ.out⟩
            case measure => simp [intOf]; omega
          · have q5 : decide (z < y) = false := by simpa using hzm
            have HQ : Hid (d1 = T) := Lib.hid ((sift_right_stop HK.out hk1 (bang HX.out) (bang HY.out) (bang HZ.out) hxy hzm).symm.trans HP1.out)
            have q6 : y ≤ z := by omega
            go_wp2
            go_quiet ((go_at_call 216; first | exact less_quiet _ _ | exact less_quiet2 _ _))
            go_wp2
            go_quiet ((go_at_call 216; first | exact less_quiet _ _ | exact less_quiet2 _ _))
            go_wp2
            refine bodyPost_ret (v := .tuple #[]) (by simp [results, Tryz.results231]) rfl ?_
            exact ⟨rfl, by first | exact (Pq.mk' HS1.out HQ.out hg1 HR1.out).drewN _ | exact ((Pq.mk' HS1.out HQ.out hg1 HR1.out).drewN _).drewN _⟩
        · have q4 : decide (x < y) = false := by simpa using hxy
          by_cases hzm : z < x
          · have q5 : decide (z < x) = true := by simpa using hzm
            have HQ : Hid (siftDown ltInt hi f k (swp d1 (f + r) (f + k)) = T) := Lib.hid ((sift_left_go HK.out hkh (bang HX.out) (bang HZ.out) (.inr ⟨_, bang HY.out, hxy⟩) hzm).symm.trans HP1.out)
            go_wp2
            go_quiet ((go_at_call 216; first | exact less_quiet _ _ | exact less_quiet2 _ _))
            go_wp2
            go_quiet ((go_at_call 216; first | exact less_quiet _ _ | exact less_quiet2 _ _))
            go_wp2
            go_region
            go_wp2
            go_roundw
            case rel => exact ⟨k, by omega, by go_num, by first | exact Pq.swap HS1.out (hg1.trans (grown_drewN _ _ _)) (HR1.out.drewN _) HZ.out HX.out 1 rfl HQ.out | exact Pq.swap HS1.out ((hg1.trans (grown_drewN _ _ _)).trans (grown_drewN _ _ _)) ((HR1.out.drewN _).drewN _) HZ.out HX.out 1 rfl HQ.out⟩
            case measure => simp [intOf]; omega
          · have q5 : decide (z < x) = false := by simpa using hzm
            have HQ : Hid (d1 = T) := Lib.hid ((sift_left_stop HK.out hkh (bang HX.out) (bang HZ.out) (.inr ⟨_, bang HY.out, hxy⟩) hzm).symm.trans HP1.out)
            have q6 : x ≤ z := by omega
            go_wp2
            go_quiet ((go_at_call 216; first | exact less_quiet _ _ | exact less_quiet2 _ _))
            go_wp2
            go_quiet ((go_at_call 216; first | exact less_quiet _ _ | exact less_quiet2 _ _))
            go_wp2
            refine bodyPost_ret (v := .tuple #[]) (by simp [results, Tryz.results231]) rfl ?_
            exact ⟨rfl, by first | exact (Pq.mk' HS1.out HQ.out hg1 HR1.out).drewN _ | exact ((Pq.mk' HS1.out HQ.out hg1 HR1.out).drewN _).drewN _⟩
      · have q3 : decide ((k : Int) + 1 < (hi : Int)) = false := by simp; omega
        clear hr1
        by_cases hzm : z < x
        · have q5 : decide (z < x) = true := by simpa using hzm
          have HQ : Hid (siftDown ltInt hi f k (swp d1 (f + r) (f + k)) = T) := Lib.hid ((sift_left_go HK.out hkh (bang HX.out) (bang HZ.out) (.inl hk1) hzm).symm.trans HP1.out)
          go_wp2
          go_quiet (fail)
          go_wp2
          go_quiet ((go_at_call 216; first | exact less_quiet _ _ | exact less_quiet2 _ _))
          go_wp2
          go_region
          go_wp2
          go_roundw
          case rel => exact ⟨k, by omega, by go_num, by first | exact Pq.swap HS1.out (hg1.trans (grown_drewN _ _ _)) (HR1.out.drewN _) HZ.out HX.out 1 rfl HQ.out | exact Pq.swap HS1.out ((hg1.trans (grown_drewN _ _ _)).trans (grown_drewN _ _ _)) ((HR1.out.drewN _).drewN _) HZ.out HX.out 1 rfl HQ.out⟩
          case measure => simp [intOf]; omega
        · have q5 : decide (z < x) = false := by simpa using hzm
          have HQ : Hid (d1 = T) := Lib.hid ((sift_left_stop HK.out hkh (bang HX.out) (bang HZ.out) (.inl hk1) hzm).symm.trans HP1.out)
          have q6 : x ≤ z := by omega
          go_wp2
          go_quiet (fail)
          go_wp2
          go_quiet ((go_at_call 216; first | exact less_quiet _ _ | exact less_quiet2 _ _))
          go_wp2
          refine bodyPost_ret (v := .tuple #[]) (by simp [results, Tryz.results231]) rfl ?_
          exact ⟨rfl, by first | exact (Pq.mk' HS1.out HQ.out hg1 HR1.out).drewN _ | exact ((Pq.mk' HS1.out HQ.out hg1 HR1.out).drewN _).drewN _⟩
    · have hk' : (hi : Int) ≤ (2 : Int) * (r : Int) + 1 := by omega
      have HQ : Hid (Pq g n (fun A => A = T) w wr) := Lib.hid (hpm.out.imp fun A _ hA => by rw [sift_done (by omega)] at hA; exact hA)
      clear hpm
      go_wp2
      go_end0
      exact ⟨rfl, HQ.out⟩

theorem sift_zero' (g n c : Nat) (D T : Array Int) (hi f : Nat) (w : World) (hD : D.size = n) (hT : siftDown ltInt hi f 0 D = T) (h : Row w g n D.toList) (hb : f + hi ≤ n) (hn : n ≤ 1152921504606846976) :
    Calls Tryz.prog 231 #[.slice (some ⟨g, 0, none⟩) n c, .int .i64 0, .int .i64 hi, .int .i64 f] w fun e w' => e = .returned (.tuple #[]) ∧ Pq g n (fun A => A = T) w w' :=
  sift_srt g n c D T 0 hi f w hD hT h hb (Nat.zero_le _) hn

set_option maxHeartbeats 4000000 in
set_option maxRecDepth 100000 in
theorem heap_srt (g n c : Nat) (D : Array Int) (a b : Nat) (w : World) (hD : D.size = n) (h : Row w g n D.toList) (ha : a < b) (hb : b ≤ n) (hn : n ≤ 1152921504606846976) :
    Calls Tryz.prog 211 #[.slice (some ⟨g, 0, none⟩) n c, .int .i64 a, .int .i64 b] w fun e w' => e = .returned (.tuple #[]) ∧ Pq g n (fun A => PermIn a b D A ∧ SortedIn ltInt a b A) w w' := by
  have HS := Lib.hid (Go.Sort.heapSort_holds swo_ltInt D a b (by omega) (by rw [hD]; exact hb))
  obtain ⟨T, hT⟩ : ∃ T, heapSort ltInt D a b = T := ⟨_, rfl⟩
  rw [hT] at HS
  have HR : Hid (Pq g n (fun A => heapPop ltInt a (b - a) (heapBuild ltInt (b - a) a ((b - a - 1) / 2 + 1) A) = T) w w) := Lib.hid (Pq.start hD hT h)
  clear h hT hD
  obtain ⟨q, hq⟩ : ∃ q : Nat, b = a + q := ⟨b - a, by omega⟩
  have e1 : (b : Int) - (a : Int) = (q : Int) := by omega
  have eq1 : b - a = q := by omega
  rw [eq1] at HR
  have hq1 : 1 ≤ q := by omega
  have hqn : a + q ≤ n := by omega
  clear hq eq1
  go_enter Tryz.func211, Tryz.ntmps211
  go_wp2
  go_loopw [9] (fun si wr => ∃ i : Int, -1 ≤ i ∧ i ≤ q ∧ si = .int .i64 i ∧ Hid (Pq g n (fun A => heapPop ltInt a q (heapBuild ltInt q a (i + 1).toNat A) = T) w wr)) (fun si _ => (intOf si + 1).toNat)
  case atStart => exact ⟨((q : Int) - 1) / 2, by omega, by omega, rfl, by rw [show (((q : Int) - 1) / 2 + 1).toNat = (q - 1) / 2 + 1 by omega]; exact HR.out⟩
  case round =>
    obtain ⟨i, hi0, hi1, rfl, hpm⟩ := hrel
    by_cases hlt : 0 ≤ i
    · obtain ⟨m, rfl⟩ := Int.eq_ofNat_of_zero_le hlt
      obtain ⟨d1, hs1, hp1, hr1, hg1⟩ := hpm.out
      have HR1 := Lib.hid hr1
      have HP1 := Lib.hid hp1
      have HS1 := Lib.hid hs1
      clear hr1 hp1 hpm hs1
      go_wp2_with fail
      refine (sift_srt g n c d1 _ m q a _ HS1.out rfl HR1.out hqn (by omega) hn).mono ?_
      rintro e w2 ⟨rfl, h2⟩
      have H2 := Lib.hid h2
      clear h2
      go_wp2_with fail
      go_roundw
      case rel => exact ⟨(m : Int) - 1, by omega, by omega, rfl, Pq.trans hg1 (H2.out.imp fun A _ hA => by rw [hA, show ((m : Int) - 1 + 1).toNat = m by omega]; have h9 := HP1.out; rw [show ((m : Int) + 1).toNat = m + 1 by omega, heapBuild] at h9; exact h9)⟩
      case measure => simp [intOf] <;> omega
    · have HX9 : Hid (Pq g n (fun A => heapPop ltInt a q A = T) w wr) := Lib.hid (hpm.out.imp fun A _ hA => by rw [show (i + 1).toNat = 0 by omega, heapBuild] at hA; exact hA)
      clear hpm
      go_wp2
      obtain ⟨wo, hwo⟩ : ∃ wo : World, wo = wr := ⟨_, rfl⟩
      subst hwo
      go_loopw [10] (fun si wq => ∃ i : Int, -1 ≤ i ∧ i < q ∧ si = .int .i64 i ∧ Hid (Pq g n (fun A => heapPop ltInt a (i + 1).toNat A = T) w wq)) (fun si _ => (intOf si + 1).toNat)
      case atStart => exact ⟨(q : Int) - 1, by omega, by omega, rfl, by rw [show ((q : Int) - 1 + 1).toNat = q by omega]; exact HX9⟩
      case round =>
        clear HX9
        obtain ⟨j, hj0, hj1, rfl, hpm⟩ := hrel
        by_cases hjt : 0 ≤ j
        · obtain ⟨m, rfl⟩ := Int.eq_ofNat_of_zero_le hjt
          obtain ⟨d1, hs1, hp1, hr1, hg1⟩ := hpm.out
          obtain ⟨x, hx, hcx⟩ := hr1.get (show a < n by omega)
          obtain ⟨y, hy, hcy⟩ := hr1.get (show a + m < n by omega)
          have fx := hr1.free a (by omega)
          have fy := hr1.free (a + m) (by omega)
          have w1 : IntKind.i64.wrap ((a : Int) + (m : Int)) = (a : Int) + (m : Int) := IntWalk.i64_in _ (by omega)
          have t1 : ((a : Int) + (m : Int)).toNat = a + m := by omega
          have b0 : (0 : Int) ≤ (a : Int) := by omega
          have b1 : (a : Int) < (n : Int) := by omega
          have b2 : (0 : Int) ≤ (a : Int) + (m : Int) := by omega
          have b3 : (a : Int) + (m : Int) < (n : Int) := by omega
          have HX := Lib.hid hx
          have HY := Lib.hid hy
          have HR1 := Lib.hid hr1
          have HP1 := Lib.hid hp1
          have HS1 := Lib.hid hs1
          clear hx hy hr1 hp1 hpm hs1
          by_cases hm0 : m = 0
          · subst hm0
            simp only [Nat.add_zero] at hcy fy HY
            have hxy : x = y := by have h1 := HX.out; have h2 := HY.out; rw [h1] at h2; injection h2
            subst hxy
            go_wp2
            go_region
            go_wp2_with fail
            refine (sift_zero' g n c (swp d1 a a) _ 0 a _ (by rw [Go.Sort.swp_size]; exact HS1.out) rfl ?_ (by omega) hn).mono ?_
            · rw [swp_list HX.out HX.out]; exact ((HR1.out.drewN 1).set (by omega) x).set (by omega) x
            rintro e w2 ⟨rfl, h2⟩
            have H2 := Lib.hid h2
            clear h2
            go_wp2_with fail
            go_roundw
            case rel => exact ⟨-1, by omega, by omega, by go_num, Pq.trans (((hg1.trans (grown_drewN _ 1 _)).trans (grown_setCell _ _ _ _)).trans (grown_setCell _ _ _ _)) (H2.out.imp fun A _ hA => by rw [hA]; exact HP1.out)⟩
            case measure => simp [intOf]
          · have hne : ¬ m = 0 := hm0
            go_wp2
            go_region
            go_wp2_with fail
            refine (sift_zero' g n c (swp d1 a (a + m)) _ m a _ (by rw [Go.Sort.swp_size]; exact HS1.out) rfl ?_ (by omega) hn).mono ?_
            · rw [swp_list HX.out HY.out]; exact ((HR1.out.drewN 1).set (by omega) y).set (by omega) x
            rintro e w2 ⟨rfl, h2⟩
            have H2 := Lib.hid h2
            clear h2
            go_wp2_with fail
            go_roundw
            case rel => exact ⟨(m : Int) - 1, by omega, by omega, rfl, Pq.trans (((hg1.trans (grown_drewN _ 1 _)).trans (grown_setCell _ _ _ _)).trans (grown_setCell _ _ _ _)) (H2.out.imp fun A _ hA => by rw [hA, show ((m : Int) - 1 + 1).toNat = m by omega]; have h9 := HP1.out; rw [show ((m : Int) + 1).toNat = m + 1 by omega, heapPop] at h9; exact h9)⟩
            case measure => simp [intOf] <;> omega
        · have HQ : Hid (Pq g n (fun A => PermIn a b D A ∧ SortedIn ltInt a b A) w wr) := Lib.hid (hpm.out.imp fun A _ hA => by rw [show (j + 1).toNat = 0 by omega, heapPop] at hA; rw [hA]; exact HS.out)
          clear hpm
          go_wp2
          go_end0
          exact ⟨rfl, HQ.out⟩
end Go.Proofs.YtlpjlphofjghhaaGreatDoor.So
/- The library's sort at uint64, in order: the partitions. -/
namespace Go.Proofs.YtlpjlphofjghhaaGreatDoor.So
open Go.ChangeShapes Go.WideShapes Go.ChangeAt Go.RowKit Rw
open Go.Sort (swp ltInt PermIn SortedIn)
set_option linter.unusedVariables false

/-- What is less than the pivot; what is no more than it. -/
def plt (pv x : Int) : Bool := decide (x < pv)
def ple (pv x : Int) : Bool := decide (x ≤ pv)
/-- On the way of a partition: what stands ahead of i is such, what stands behind j isn't. -/
structure Pt (p : Int → Bool) (D : Array Int) (a b : Nat) (pv : Int) (i j : Int) (A : Array Int) : Prop where
  perm : PermIn a b D A
  piv : A[a]! = pv
  lo : ∀ k : Nat, a < k → (k : Int) < i → p A[k]! = true
  hi : ∀ k : Nat, j < (k : Int) → k < b → p A[k]! = false
/-- Parted: less than the pivot, it, no less. -/
structure Split (D : Array Int) (a b : Nat) (pv : Int) (r : Nat) (A : Array Int) : Prop where
  perm : PermIn a b D A
  piv : A[r]! = pv
  lo : ∀ k : Nat, a ≤ k → k < r → A[k]! < pv
  hi : ∀ k : Nat, r < k → k < b → pv ≤ A[k]!
/-- Parted: no more than the pivot, more. -/
structure SplitE (D : Array Int) (a b : Nat) (pv : Int) (r : Nat) (A : Array Int) : Prop where
  perm : PermIn a b D A
  lo : ∀ k : Nat, a ≤ k → k < r → A[k]! ≤ pv
  hi : ∀ k : Nat, r ≤ k → k < b → pv < A[k]!
section
variable {p : Int → Bool} {D A : Array Int} {a b : Nat} {pv i j x : Int}
theorem Pt.up (h : Pt p D a b pv i j A) (hi : 0 ≤ i) (hx : A[i.toNat]! = x) (hp : p x = true) : Pt p D a b pv (i + 1) j A :=
  ⟨h.perm, h.piv, fun k h1 h2 => by
    by_cases e : (k : Int) = i
    · rw [show k = i.toNat by omega, hx]; exact hp
    · exact h.lo k h1 (by omega), h.hi⟩
theorem Pt.down (h : Pt p D a b pv i j A) (hj : 0 ≤ j) (hx : A[j.toNat]! = x) (hp : p x = false) : Pt p D a b pv i (j - 1) A :=
  ⟨h.perm, h.piv, h.lo, fun k h1 h2 => by
    by_cases e : (k : Int) = j
    · rw [show k = j.toNat by omega, hx]; exact hp
    · exact h.hi k (by omega) h2⟩
theorem Pt.swap (h : Pt p D a b pv i j A) (ha : (a : Int) < i) (hij : i < j) (hj : j < b) (hb : b ≤ A.size) (h1 : p A[i.toNat]! = false) (h2 : p A[j.toNat]! = true) : Pt p D a b pv (i + 1) (j - 1) (swp A i.toNat j.toNat) := by
  refine ⟨Go.Sort.permIn_trans _ _ _ _ _ h.perm (Go.Sort.swp_permIn A a b _ _ (by omega) (by omega) (by omega) (by omega) hb), ?_, fun k k1 k2 => ?_, fun k k1 k2 => ?_⟩
  · rw [Go.Sort.swp_other A _ _ a (by omega) (by omega)]; exact h.piv
  · by_cases e : (k : Int) = i
    · rw [show k = i.toNat by omega, Go.Sort.swp_left A _ _ (by omega) (by omega)]; exact h2
    · rw [Go.Sort.swp_other A _ _ k (by omega) (by omega)]; exact h.lo k k1 (by omega)
  · by_cases e : (k : Int) = j
    · rw [show k = j.toNat by omega, Go.Sort.swp_right A _ _ (by omega)]; exact h1
    · rw [Go.Sort.swp_other A _ _ k (by omega) (by omega)]; exact h.hi k (by omega) k2
theorem Pt.init {q : Nat} (hpv : D[q]! = pv) (ha : a ≤ q) (hq : q < b) (hb : b ≤ D.size) (hA : A = D) : Pt p D a b pv ((a : Int) + 1) ((b : Int) - 1) (swp A a q) := by
  subst hA
  refine ⟨Go.Sort.swp_permIn A a b _ _ (Nat.le_refl _) (by omega) ha hq hb, ?_, fun k k1 k2 => by omega, fun k k1 k2 => by omega⟩
  by_cases e : a = q
  · subst e; rw [Go.Sort.swp_right A _ _ (by omega)]; exact hpv
  · rw [Go.Sort.swp_left A _ _ (by omega) e]; exact hpv
theorem Pt.fin (h : Pt (plt pv) D a b pv i j A) (hji : j < i) (ha : (a : Int) ≤ j) (hj : j < b) (hb : b ≤ A.size) : Split D a b pv j.toNat (swp A j.toNat a) := by
  refine ⟨Go.Sort.permIn_trans _ _ _ _ _ h.perm (Go.Sort.swp_permIn A a b _ _ (by omega) (by omega) (Nat.le_refl _) (by omega) hb), ?_, fun k k1 k2 => ?_, fun k k1 k2 => ?_⟩
  · by_cases e : j.toNat = a
    · rw [e, Go.Sort.swp_right A _ _ (by omega)]; exact h.piv
    · rw [Go.Sort.swp_left A _ _ (by omega) e]; exact h.piv
  · by_cases e : k = a
    · subst e
      rw [Go.Sort.swp_right A _ _ (by omega)]
      exact of_decide_eq_true (h.lo j.toNat (by omega) (by omega))
    · rw [Go.Sort.swp_other A _ _ k (by omega) e]
      exact of_decide_eq_true (h.lo k (by omega) (by omega))
  · rw [Go.Sort.swp_other A _ _ k (by omega) (by omega)]
    have := of_decide_eq_false (h.hi k (by omega) k2)
    omega
theorem Pt.finE (h : Pt (ple pv) D a b pv i j A) (hji : j < i) (ha : (a : Int) < i) : SplitE D a b pv i.toNat A := by
  refine ⟨h.perm, fun k k1 k2 => ?_, fun k k1 k2 => ?_⟩
  · by_cases e : k = a
    · subst e; rw [h.piv]; exact Int.le_refl _
    · exact of_decide_eq_true (h.lo k (by omega) (by omega))
  · have := of_decide_eq_false (h.hi k (by omega) k2)
    omega
end

set_option maxHeartbeats 8000000 in
set_option maxRecDepth 100000 in
theorem partEq_srt (g n c : Nat) (D : Array Int) (a b p : Nat) (w : World) (hD : D.size = n) (h : Row w g n D.toList) (ha : a < b) (hb : b ≤ n) (hpa : a ≤ p) (hpb : p < b) (hn : n ≤ 1152921504606846976) :
    Calls Tryz.prog 217 #[.slice (some ⟨g, 0, none⟩) n c, .int .i64 a, .int .i64 b, .int .i64 p] w fun e w' => ∃ r : Nat, e = .returned (.int .i64 r) ∧ a < r ∧ r ≤ b ∧ Pq g n (fun A => SplitE D a b D[p]! r A) w w' := by
  obtain ⟨pv, hpv⟩ : ∃ pv, D[p]! = pv := ⟨_, rfl⟩
  have hpS : Hid (Pq g n (fun A => A = D) w w) := Lib.hid (Pq.start hD rfl h)
  have HDs : Hid (n = D.size) := Lib.hid hD.symm
  have HPV := Lib.hid hpv
  clear h hD
  rw [hpv]
  clear hpv
  go_enter Tryz.func217, Tryz.ntmps217
  obtain ⟨d2, hs2, hp2, hr2, hg2⟩ := hpS.out
  obtain ⟨x2, hx2, hcx2⟩ := hr2.get (show a < n by omega)
  obtain ⟨y2, hy2, hcy2⟩ := hr2.get (show p < n by omega)
  have fx2 := hr2.free a (by omega)
  have fy2 := hr2.free p (by omega)
  have s0 : (0 : Int) ≤ (a : Int) := by omega
  have s1 : (a : Int) < (n : Int) := by omega
  have s2 : (0 : Int) ≤ (p : Int) := by omega
  have s3 : (p : Int) < (n : Int) := by omega
  have HX2 := Lib.hid hx2
  have HY2 := Lib.hid hy2
  have HR2 := Lib.hid hr2
  have HP2 := Lib.hid hp2
  have HS2 := Lib.hid hs2
  clear hx2 hy2 hr2 hp2 hs2 hpS
  by_cases hsame : p = a
  · rw [hsame] at hcy2 fy2 HY2
    have hxy2 : x2 = y2 := by have h1 := HX2.out; have h2 := HY2.out; rw [h2] at h1; injection h1 with h1; exact h1.symm
    subst hxy2
    have HQ2 : Hid (Pt (ple pv) D a b pv ((a : Int) + 1) ((b : Int) - 1) (swp d2 a p)) := Lib.hid (Pt.init HPV.out (by omega) (by omega) (by rw [← HDs.out]; omega) HP2.out)
    have hsame2 := hsame.symm; subst hsame2
    go_wp2
    go_region
    go_wp2
    have hp21 := Lib.hid (Pq.swap (Q := fun A => Pt (ple pv) D a b pv ((a : Int) + 1) ((b : Int) - 1) A) HS2.out hg2 HR2.out HX2.out HX2.out 1 rfl HQ2.out)
    clear HP2 hg2 HR2 HX2 HY2 HS2 hcx2 hcy2 fx2 fy2 s0 s1 s2 s3 HQ2 HPV HDs
    go_loopw [9, 10] (fun si sj wr => ∃ I J : Int, (a : Int) + 1 ≤ I ∧ I ≤ b ∧ (a : Int) ≤ J ∧ J < b ∧ si = .int .i64 I ∧ sj = .int .i64 J ∧ Hid (Pq g n (fun A => Pt (ple pv) D a b pv (I) (J) A) w wr)) (fun si sj _ => (intOf sj - intOf si + 2).toNat)
    case atStart => exact ⟨(a : Int) + 1, (b : Int) - 1, by omega, by omega, by omega, by omega, rfl, rfl, hp21⟩
    case round =>
      obtain ⟨I, J, hI0, hI1, hJ0, hJ1, rfl, rfl, hp0⟩ := hrel
      go_wp2
      go_loopw [9] (fun sv wq => ∃ I1 : Int, I ≤ I1 ∧ I1 ≤ (b : Int) ∧ sv = .int .i64 I1 ∧ Hid (Pq g n (fun A => Pt (ple pv) D a b pv (I1) (J) A) w wq)) (fun sv _ => ((b : Int) - intOf sv).toNat)
      case atStart => exact ⟨I, by omega, by omega, rfl, hp0⟩
      case round =>
        obtain ⟨I1, ha3, hb4, rfl, hp2⟩ := hrel
        by_cases hij : I1 ≤ J
        · obtain ⟨d1, hs1, hp1, hr1, hg1⟩ := hp2.out
          have hv0 : 0 ≤ I1 := by omega
          have hv1 : I1 < (n : Int) := by omega
          have ba0 : (0 : Int) ≤ (a : Int) := by omega
          have ba1 : (a : Int) < (n : Int) := by omega
          obtain ⟨x, hx, hcx⟩ := hr1.get (show I1.toNat < n by omega)
          obtain ⟨z, hz, hcz⟩ := hr1.get (show a < n by omega)
          have hzp : z = pv := (bang hz).symm.trans hp1.piv
          have qg : decide (I1 ≤ J) = true := by simpa using hij
          by_cases hxz : z < x
          · have q5 : decide (z < x) = true := by simpa using hxz
            have HPX : Hid (Pq g n (fun A => Pt (ple pv) D a b pv (I1) (J) A ∧ ple pv A[(I1).toNat]! = false) w wr) := Lib.hid (Pq.mk' hs1 ⟨hp1, by rw [bang hx]; exact (show ple pv x = false from decide_eq_false (by omega))⟩ hg1 hr1)
            clear hx hz hs1 hp1 hr1 hp2 hzp
            go_wp2
            go_quiet ((go_at_call 216; first | exact less_quiet _ _ | exact less_quiet2 _ _))
            go_wp2
            have hp5 := Lib.hid (HPX.out.drewN nq)
            clear HPX hcx hcz q5 qg hxz hg1
            generalize wr.drewN nq = wx at hp5 ⊢
            go_loopw [10] (fun sv wq => ∃ J7 : Int, (a : Int) ≤ J7 ∧ J7 ≤ J ∧ sv = .int .i64 J7 ∧ Hid (Pq g n (fun A => Pt (ple pv) D a b pv (I1) (J7) A ∧ ple pv A[(I1).toNat]! = false) w wq)) (fun sv _ => (intOf sv).toNat)
            case atStart => exact ⟨J, by omega, by omega, rfl, hp5⟩
            case round =>
              obtain ⟨J7, ha9, hb10, rfl, hp8⟩ := hrel
              by_cases hij : I1 ≤ J7
              · obtain ⟨d1, hs1, hp1, hr1, hg1⟩ := hp8.out
                have hv0 : 0 ≤ J7 := by omega
                have hv1 : J7 < (n : Int) := by omega
                have ba0 : (0 : Int) ≤ (a : Int) := by omega
                have ba1 : (a : Int) < (n : Int) := by omega
                obtain ⟨x, hx, hcx⟩ := hr1.get (show J7.toNat < n by omega)
                obtain ⟨z, hz, hcz⟩ := hr1.get (show a < n by omega)
                have hzp : z = pv := (bang hz).symm.trans hp1.1.piv
                have qg : decide (I1 ≤ J7) = true := by simpa using hij
                by_cases hxz : z < x
                · have q5 : decide (z < x) = true := by simpa using hxz
                  have HPX : Hid (Pq g n (fun A => Pt (ple pv) D a b pv (I1) (J7 - 1) A ∧ ple pv A[(I1).toNat]! = false) w wr) := Lib.hid (Pq.mk' hs1 ⟨hp1.1.down (by omega) (bang hx) (show ple pv x = false from decide_eq_false (by omega)), hp1.2⟩ hg1 hr1)
                  clear hx hz hs1 hp1 hr1 hp8 hzp
                  go_wp2
                  go_quiet ((go_at_call 216; first | exact less_quiet _ _ | exact less_quiet2 _ _))
                  go_wp2
                  go_roundw
                  case rel => exact ⟨J7 - 1, by omega, by omega, by go_num, HPX.out.drewN _⟩
                  case measure => simp [intOf] <;> omega
                · have q5 : decide (z < x) = false := by simpa using hxz
                  have q6 : x ≤ z := by omega
                  have HPX : Hid (Pq g n (fun A => Pt (ple pv) D a b pv (I1) (J7) A ∧ ple pv A[(I1).toNat]! = false ∧ ple pv A[(J7).toNat]! = true) w wr) := Lib.hid (Pq.mk' hs1 ⟨hp1.1, hp1.2, by rw [bang hx]; exact (show ple pv x = true from decide_eq_true (by omega))⟩ hg1 hr1)
                  clear hx hz hs1 hp1 hr1 hp8 hzp
                  go_wp2
                  go_quiet ((go_at_call 216; first | exact less_quiet _ _ | exact less_quiet2 _ _))
                  go_wp2
                  have hp11 := Lib.hid (HPX.out.drewN nq)
                  clear HPX hcx hcz q5 q6 qg hxz hg1
                  generalize wr.drewN nq = wx at hp11 ⊢
                  have hgo : I1 ≤ J7 := hij
                  obtain ⟨d2, hs2, hp2, hr2, hg2⟩ := hp11.out
                  obtain ⟨x2, hx2, hcx2⟩ := hr2.get (show I1.toNat < n by omega)
                  obtain ⟨y2, hy2, hcy2⟩ := hr2.get (show J7.toNat < n by omega)
                  have fx2 := hr2.free I1.toNat (by omega)
                  have fy2 := hr2.free J7.toNat (by omega)
                  have s0 : (0 : Int) ≤ I1 := by omega
                  have s1 : I1 < (n : Int) := by omega
                  have s2 : (0 : Int) ≤ J7 := by omega
                  have s3 : J7 < (n : Int) := by omega
                  have HX2 := Lib.hid hx2
                  have HY2 := Lib.hid hy2
                  have HR2 := Lib.hid hr2
                  have HP2 := Lib.hid hp2
                  have HS2 := Lib.hid hs2
                  clear hx2 hy2 hr2 hp2 hs2 hp11
                  have hij2 : I1 < J7 := by
                    have h3 := HP2.out.2.1
                    have h4 := HP2.out.2.2
                    rcases Int.lt_or_le I1 J7 with h5 | h5
                    · exact h5
                    · exfalso
                      rw [show J7 = I1 by omega, h3] at h4
                      cases h4
                  have hne2 : ¬ I1.toNat = J7.toNat := by omega
                  have HQ2 : Hid (Pt (ple pv) D a b pv (I1 + 1) (J7 - 1) (swp d2 I1.toNat J7.toNat)) := Lib.hid (HP2.out.1.swap (by omega) hij2 (by omega) (by rw [HS2.out]; omega) HP2.out.2.1 HP2.out.2.2)
                  go_wp2
                  go_region
                  go_wp2
                  have hp13 := Lib.hid (Pq.swap (Q := fun A => Pt (ple pv) D a b pv (I1 + 1) (J7 - 1) A) HS2.out hg2 HR2.out HX2.out HY2.out 1 rfl HQ2.out)
                  clear HP2 hg2 HR2 HX2 HY2 HS2 hcx2 hcy2 fx2 fy2 s0 s1 s2 s3 hne2 hij2 HQ2
                  go_roundw
                  case rel => first | exact ⟨I1 + 1, J7 - 1, by omega, by omega, by omega, by omega, by go_num, by go_num, hp13.out⟩ | ((repeat apply Exists.intro); exact ⟨⟨I1 + 1, J7 - 1, by omega, by omega, by omega, by omega, by go_num, by go_num, hp13.out⟩, rfl⟩)
                  case measure => simp [intOf] <;> omega
              · have qg : decide (I1 ≤ J7) = false := by simpa using hij
                have HPG : Hid (Pq g n (fun A => Pt (ple pv) D a b pv (I1) (J7) A) w wr) := Lib.hid (hp8.out.imp fun A _ hA => hA.1)
                clear hp8
                go_wp2
                go_quiet (fail)
                go_wp2
                have hp12 := Lib.hid (HPG.out.drewN nq)
                clear HPG qg
                generalize wr.drewN nq = wx at hp12 ⊢
                have hbrk : J7 < I1 := by omega
                have HQ3 : Hid (Pq g n (fun A => SplitE D a b pv I1.toNat A) w wx) := Lib.hid (hp12.out.imp fun A _ hA => hA.finE (by omega) (by omega))
                clear hp12
                go_wp2
                go_ret
                exact ⟨I1.toNat, by rw [show ((I1.toNat : Nat) : Int) = I1 by omega]; rfl, by omega, by omega, HQ3.out⟩
          · have q5 : decide (z < x) = false := by simpa using hxz
            have q6 : x ≤ z := by omega
            have HPX : Hid (Pq g n (fun A => Pt (ple pv) D a b pv (I1 + 1) (J) A) w wr) := Lib.hid (Pq.mk' hs1 (hp1.up (by omega) (bang hx) (show ple pv x = true from decide_eq_true (by omega))) hg1 hr1)
            clear hx hz hs1 hp1 hr1 hp2 hzp
            go_wp2
            go_quiet ((go_at_call 216; first | exact less_quiet _ _ | exact less_quiet2 _ _))
            go_wp2
            go_roundw
            case rel => exact ⟨I1 + 1, by omega, by omega, by go_num, HPX.out.drewN _⟩
            case measure => simp [intOf] <;> omega
        · have qg : decide (I1 ≤ J) = false := by simpa using hij
          have HPG : Hid (Pq g n (fun A => Pt (ple pv) D a b pv (I1) (J) A) w wr) := hp2
          clear hp2
          go_wp2
          go_quiet (fail)
          go_wp2
          have hp6 := Lib.hid (HPG.out.drewN nq)
          clear HPG qg
          generalize wr.drewN nq = wx at hp6 ⊢
          go_loopw [10] (fun sv wq => ∃ J14 : Int, (a : Int) ≤ J14 ∧ J14 ≤ J ∧ sv = .int .i64 J14 ∧ Hid (Pq g n (fun A => Pt (ple pv) D a b pv (I1) (J14) A) w wq)) (fun sv _ => (intOf sv).toNat)
          case atStart => exact ⟨J, by omega, by omega, rfl, hp6⟩
          case round =>
            obtain ⟨J14, ha16, hb17, rfl, hp15⟩ := hrel
            by_cases hij : I1 ≤ J14
            · exfalso; omega
            · have qg : decide (I1 ≤ J14) = false := by simpa using hij
              have HPG : Hid (Pq g n (fun A => Pt (ple pv) D a b pv (I1) (J14) A) w wr) := hp15
              clear hp15
              go_wp2
              go_quiet (fail)
              go_wp2
              have hp19 := Lib.hid (HPG.out.drewN nq)
              clear HPG qg
              generalize wr.drewN nq = wx at hp19 ⊢
              have hbrk : J14 < I1 := by omega
              have HQ3 : Hid (Pq g n (fun A => SplitE D a b pv I1.toNat A) w wx) := Lib.hid (hp19.out.imp fun A _ hA => hA.finE (by omega) (by omega))
              clear hp19
              go_wp2
              go_ret
              exact ⟨I1.toNat, by rw [show ((I1.toNat : Nat) : Int) = I1 by omega]; rfl, by omega, by omega, HQ3.out⟩
  · have hne2 : ¬ a = p := fun e => hsame e.symm
    have HQ2 : Hid (Pt (ple pv) D a b pv ((a : Int) + 1) ((b : Int) - 1) (swp d2 a p)) := Lib.hid (Pt.init HPV.out (by omega) (by omega) (by rw [← HDs.out]; omega) HP2.out)
    go_wp2
    go_region
    go_wp2
    have hp21 := Lib.hid (Pq.swap (Q := fun A => Pt (ple pv) D a b pv ((a : Int) + 1) ((b : Int) - 1) A) HS2.out hg2 HR2.out HX2.out HY2.out 1 rfl HQ2.out)
    clear HP2 hg2 HR2 HX2 HY2 HS2 hcx2 hcy2 fx2 fy2 s0 s1 s2 s3 hsame hne2 HQ2 HPV HDs
    go_loopw [9, 10] (fun si sj wr => ∃ I J : Int, (a : Int) + 1 ≤ I ∧ I ≤ b ∧ (a : Int) ≤ J ∧ J < b ∧ si = .int .i64 I ∧ sj = .int .i64 J ∧ Hid (Pq g n (fun A => Pt (ple pv) D a b pv (I) (J) A) w wr)) (fun si sj _ => (intOf sj - intOf si + 2).toNat)
    case atStart => exact ⟨(a : Int) + 1, (b : Int) - 1, by omega, by omega, by omega, by omega, rfl, rfl, hp21⟩
    case round =>
      obtain ⟨I, J, hI0, hI1, hJ0, hJ1, rfl, rfl, hp0⟩ := hrel
      go_wp2
      go_loopw [9] (fun sv wq => ∃ I1 : Int, I ≤ I1 ∧ I1 ≤ (b : Int) ∧ sv = .int .i64 I1 ∧ Hid (Pq g n (fun A => Pt (ple pv) D a b pv (I1) (J) A) w wq)) (fun sv _ => ((b : Int) - intOf sv).toNat)
      case atStart => exact ⟨I, by omega, by omega, rfl, hp0⟩
      case round =>
        obtain ⟨I1, ha3, hb4, rfl, hp2⟩ := hrel
        by_cases hij : I1 ≤ J
        · obtain ⟨d1, hs1, hp1, hr1, hg1⟩ := hp2.out
          have hv0 : 0 ≤ I1 := by omega
          have hv1 : I1 < (n : Int) := by omega
          have ba0 : (0 : Int) ≤ (a : Int) := by omega
          have ba1 : (a : Int) < (n : Int) := by omega
          obtain ⟨x, hx, hcx⟩ := hr1.get (show I1.toNat < n by omega)
          obtain ⟨z, hz, hcz⟩ := hr1.get (show a < n by omega)
          have hzp : z = pv := (bang hz).symm.trans hp1.piv
          have qg : decide (I1 ≤ J) = true := by simpa using hij
          by_cases hxz : z < x
          · have q5 : decide (z < x) = true := by simpa using hxz
            have HPX : Hid (Pq g n (fun A => Pt (ple pv) D a b pv (I1) (J) A ∧ ple pv A[(I1).toNat]! = false) w wr) := Lib.hid (Pq.mk' hs1 ⟨hp1, by rw [bang hx]; exact (show ple pv x = false from decide_eq_false (by omega))⟩ hg1 hr1)
            clear hx hz hs1 hp1 hr1 hp2 hzp
            go_wp2
            go_quiet ((go_at_call 216; first | exact less_quiet _ _ | exact less_quiet2 _ _))
            go_wp2
            have hp5 := Lib.hid (HPX.out.drewN nq)
            clear HPX hcx hcz q5 qg hxz hg1
            generalize wr.drewN nq = wx at hp5 ⊢
            go_loopw [10] (fun sv wq => ∃ J7 : Int, (a : Int) ≤ J7 ∧ J7 ≤ J ∧ sv = .int .i64 J7 ∧ Hid (Pq g n (fun A => Pt (ple pv) D a b pv (I1) (J7) A ∧ ple pv A[(I1).toNat]! = false) w wq)) (fun sv _ => (intOf sv).toNat)
            case atStart => exact ⟨J, by omega, by omega, rfl, hp5⟩
            case round =>
              obtain ⟨J7, ha9, hb10, rfl, hp8⟩ := hrel
              by_cases hij : I1 ≤ J7
              · obtain ⟨d1, hs1, hp1, hr1, hg1⟩ := hp8.out
                have hv0 : 0 ≤ J7 := by omega
                have hv1 : J7 < (n : Int) := by omega
                have ba0 : (0 : Int) ≤ (a : Int) := by omega
                have ba1 : (a : Int) < (n : Int) := by omega
                obtain ⟨x, hx, hcx⟩ := hr1.get (show J7.toNat < n by omega)
                obtain ⟨z, hz, hcz⟩ := hr1.get (show a < n by omega)
                have hzp : z = pv := (bang hz).symm.trans hp1.1.piv
                have qg : decide (I1 ≤ J7) = true := by simpa using hij
                by_cases hxz : z < x
                · have q5 : decide (z < x) = true := by simpa using hxz
                  have HPX : Hid (Pq g n (fun A => Pt (ple pv) D a b pv (I1) (J7 - 1) A ∧ ple pv A[(I1).toNat]! = false) w wr) := Lib.hid (Pq.mk' hs1 ⟨hp1.1.down (by omega) (bang hx) (show ple pv x = false from decide_eq_false (by omega)), hp1.2⟩ hg1 hr1)
                  clear hx hz hs1 hp1 hr1 hp8 hzp
                  go_wp2
                  go_quiet ((go_at_call 216; first | exact less_quiet _ _ | exact less_quiet2 _ _))
                  go_wp2
                  go_roundw
                  case rel => exact ⟨J7 - 1, by omega, by omega, by go_num, HPX.out.drewN _⟩
                  case measure => simp [intOf] <;> omega
                · have q5 : decide (z < x) = false := by simpa using hxz
                  have q6 : x ≤ z := by omega
                  have HPX : Hid (Pq g n (fun A => Pt (ple pv) D a b pv (I1) (J7) A ∧ ple pv A[(I1).toNat]! = false ∧ ple pv A[(J7).toNat]! = true) w wr) := Lib.hid (Pq.mk' hs1 ⟨hp1.1, hp1.2, by rw [bang hx]; exact (show ple pv x = true from decide_eq_true (by omega))⟩ hg1 hr1)
                  clear hx hz hs1 hp1 hr1 hp8 hzp
                  go_wp2
                  go_quiet ((go_at_call 216; first | exact less_quiet _ _ | exact less_quiet2 _ _))
                  go_wp2
                  have hp11 := Lib.hid (HPX.out.drewN nq)
                  clear HPX hcx hcz q5 q6 qg hxz hg1
                  generalize wr.drewN nq = wx at hp11 ⊢
                  have hgo : I1 ≤ J7 := hij
                  obtain ⟨d2, hs2, hp2, hr2, hg2⟩ := hp11.out
                  obtain ⟨x2, hx2, hcx2⟩ := hr2.get (show I1.toNat < n by omega)
                  obtain ⟨y2, hy2, hcy2⟩ := hr2.get (show J7.toNat < n by omega)
                  have fx2 := hr2.free I1.toNat (by omega)
                  have fy2 := hr2.free J7.toNat (by omega)
                  have s0 : (0 : Int) ≤ I1 := by omega
                  have s1 : I1 < (n : Int) := by omega
                  have s2 : (0 : Int) ≤ J7 := by omega
                  have s3 : J7 < (n : Int) := by omega
                  have HX2 := Lib.hid hx2
                  have HY2 := Lib.hid hy2
                  have HR2 := Lib.hid hr2
                  have HP2 := Lib.hid hp2
                  have HS2 := Lib.hid hs2
                  clear hx2 hy2 hr2 hp2 hs2 hp11
                  have hij2 : I1 < J7 := by
                    have h3 := HP2.out.2.1
                    have h4 := HP2.out.2.2
                    rcases Int.lt_or_le I1 J7 with h5 | h5
                    · exact h5
                    · exfalso
                      rw [show J7 = I1 by omega, h3] at h4
                      cases h4
                  have hne2 : ¬ I1.toNat = J7.toNat := by omega
                  have HQ2 : Hid (Pt (ple pv) D a b pv (I1 + 1) (J7 - 1) (swp d2 I1.toNat J7.toNat)) := Lib.hid (HP2.out.1.swap (by omega) hij2 (by omega) (by rw [HS2.out]; omega) HP2.out.2.1 HP2.out.2.2)
                  go_wp2
                  go_region
                  go_wp2
                  have hp13 := Lib.hid (Pq.swap (Q := fun A => Pt (ple pv) D a b pv (I1 + 1) (J7 - 1) A) HS2.out hg2 HR2.out HX2.out HY2.out 1 rfl HQ2.out)
                  clear HP2 hg2 HR2 HX2 HY2 HS2 hcx2 hcy2 fx2 fy2 s0 s1 s2 s3 hne2 hij2 HQ2
                  go_roundw
                  case rel => first | exact ⟨I1 + 1, J7 - 1, by omega, by omega, by omega, by omega, by go_num, by go_num, hp13.out⟩ | ((repeat apply Exists.intro); exact ⟨⟨I1 + 1, J7 - 1, by omega, by omega, by omega, by omega, by go_num, by go_num, hp13.out⟩, rfl⟩)
                  case measure => simp [intOf] <;> omega
              · have qg : decide (I1 ≤ J7) = false := by simpa using hij
                have HPG : Hid (Pq g n (fun A => Pt (ple pv) D a b pv (I1) (J7) A) w wr) := Lib.hid (hp8.out.imp fun A _ hA => hA.1)
                clear hp8
                go_wp2
                go_quiet (fail)
                go_wp2
                have hp12 := Lib.hid (HPG.out.drewN nq)
                clear HPG qg
                generalize wr.drewN nq = wx at hp12 ⊢
                have hbrk : J7 < I1 := by omega
                have HQ3 : Hid (Pq g n (fun A => SplitE D a b pv I1.toNat A) w wx) := Lib.hid (hp12.out.imp fun A _ hA => hA.finE (by omega) (by omega))
                clear hp12
                go_wp2
                go_ret
                exact ⟨I1.toNat, by rw [show ((I1.toNat : Nat) : Int) = I1 by omega]; rfl, by omega, by omega, HQ3.out⟩
          · have q5 : decide (z < x) = false := by simpa using hxz
            have q6 : x ≤ z := by omega
            have HPX : Hid (Pq g n (fun A => Pt (ple pv) D a b pv (I1 + 1) (J) A) w wr) := Lib.hid (Pq.mk' hs1 (hp1.up (by omega) (bang hx) (show ple pv x = true from decide_eq_true (by omega))) hg1 hr1)
            clear hx hz hs1 hp1 hr1 hp2 hzp
            go_wp2
            go_quiet ((go_at_call 216; first | exact less_quiet _ _ | exact less_quiet2 _ _))
            go_wp2
            go_roundw
            case rel => exact ⟨I1 + 1, by omega, by omega, by go_num, HPX.out.drewN _⟩
            case measure => simp [intOf] <;> omega
        · have qg : decide (I1 ≤ J) = false := by simpa using hij
          have HPG : Hid (Pq g n (fun A => Pt (ple pv) D a b pv (I1) (J) A) w wr) := hp2
          clear hp2
          go_wp2
          go_quiet (fail)
          go_wp2
          have hp6 := Lib.hid (HPG.out.drewN nq)
          clear HPG qg
          generalize wr.drewN nq = wx at hp6 ⊢
          go_loopw [10] (fun sv wq => ∃ J14 : Int, (a : Int) ≤ J14 ∧ J14 ≤ J ∧ sv = .int .i64 J14 ∧ Hid (Pq g n (fun A => Pt (ple pv) D a b pv (I1) (J14) A) w wq)) (fun sv _ => (intOf sv).toNat)
          case atStart => exact ⟨J, by omega, by omega, rfl, hp6⟩
          case round =>
            obtain ⟨J14, ha16, hb17, rfl, hp15⟩ := hrel
            by_cases hij : I1 ≤ J14
            · exfalso; omega
            · have qg : decide (I1 ≤ J14) = false := by simpa using hij
              have HPG : Hid (Pq g n (fun A => Pt (ple pv) D a b pv (I1) (J14) A) w wr) := hp15
              clear hp15
              go_wp2
              go_quiet (fail)
              go_wp2
              have hp19 := Lib.hid (HPG.out.drewN nq)
              clear HPG qg
              generalize wr.drewN nq = wx at hp19 ⊢
              have hbrk : J14 < I1 := by omega
              have HQ3 : Hid (Pq g n (fun A => SplitE D a b pv I1.toNat A) w wx) := Lib.hid (hp19.out.imp fun A _ hA => hA.finE (by omega) (by omega))
              clear hp19
              go_wp2
              go_ret
              exact ⟨I1.toNat, by rw [show ((I1.toNat : Nat) : Int) = I1 by omega]; rfl, by omega, by omega, HQ3.out⟩
end Go.Proofs.YtlpjlphofjghhaaGreatDoor.So
/- The library's sort at uint64, in order: the partitions. -/
namespace Go.Proofs.YtlpjlphofjghhaaGreatDoor.So
open Go.ChangeShapes Go.WideShapes Go.ChangeAt Go.RowKit Rw
open Go.Sort (swp ltInt PermIn SortedIn)
set_option linter.unusedVariables false

set_option maxHeartbeats 20000000 in
set_option maxRecDepth 100000 in
theorem part_srt (g n c : Nat) (D : Array Int) (a b p : Nat) (w : World) (hD : D.size = n) (h : Row w g n D.toList) (ha : a < b) (hb : b ≤ n) (hpa : a ≤ p) (hpb : p < b) (hn : n ≤ 1152921504606846976) :
    Calls Tryz.prog 218 #[.slice (some ⟨g, 0, none⟩) n c, .int .i64 a, .int .i64 b, .int .i64 p] w fun e w' => ∃ (r : Nat) (t : Bool), e = .returned (.tuple #[.int .i64 r, .bool t]) ∧ a ≤ r ∧ r < b ∧ Pq g n (fun A => Split D a b D[p]! r A) w w' := by
  obtain ⟨pv, hpv⟩ : ∃ pv, D[p]! = pv := ⟨_, rfl⟩
  have hpS : Hid (Pq g n (fun A => A = D) w w) := Lib.hid (Pq.start hD rfl h)
  have HDs : Hid (n = D.size) := Lib.hid hD.symm
  have HPV := Lib.hid hpv
  clear h hD
  rw [hpv]
  clear hpv
  go_enter Tryz.func218, Tryz.ntmps218
  obtain ⟨d2, hs2, hp2, hr2, hg2⟩ := hpS.out
  obtain ⟨x2, hx2, hcx2⟩ := hr2.get (show a < n by omega)
  obtain ⟨y2, hy2, hcy2⟩ := hr2.get (show p < n by omega)
  have fx2 := hr2.free a (by omega)
  have fy2 := hr2.free p (by omega)
  have s0 : (0 : Int) ≤ (a : Int) := by omega
  have s1 : (a : Int) < (n : Int) := by omega
  have s2 : (0 : Int) ≤ (p : Int) := by omega
  have s3 : (p : Int) < (n : Int) := by omega
  have HX2 := Lib.hid hx2
  have HY2 := Lib.hid hy2
  have HR2 := Lib.hid hr2
  have HP2 := Lib.hid hp2
  have HS2 := Lib.hid hs2
  clear hx2 hy2 hr2 hp2 hs2 hpS
  by_cases hsame : p = a
  · rw [hsame] at hcy2 fy2 HY2
    have hxy2 : x2 = y2 := by have h1 := HX2.out; have h2 := HY2.out; rw [h2] at h1; injection h1 with h1; exact h1.symm
    subst hxy2
    have HQ2 : Hid (Pt (plt pv) D a b pv ((a : Int) + 1) ((b : Int) - 1) (swp d2 a p)) := Lib.hid (Pt.init HPV.out (by omega) (by omega) (by rw [← HDs.out]; omega) HP2.out)
    have hsame2 := hsame.symm; subst hsame2
    go_wp2
    go_region
    go_wp2
    have hp1 := Lib.hid (Pq.swap (Q := fun A => Pt (plt pv) D a b pv ((a : Int) + 1) ((b : Int) - 1) A) HS2.out hg2 HR2.out HX2.out HX2.out 1 rfl HQ2.out)
    clear HP2 hg2 HR2 HX2 HY2 HS2 hcx2 hcy2 fx2 fy2 s0 s1 s2 s3 HQ2 HPV HDs
    obtain ⟨I0, hI0⟩ : ∃ I0 : Int, I0 = (a : Int) + 1 := ⟨_, rfl⟩
    obtain ⟨J0, hJ0⟩ : ∃ J0 : Int, J0 = (b : Int) - 1 := ⟨_, rfl⟩
    rw [← hI0, ← hJ0] at hp1
    rw [← hI0, ← hJ0]
    have k1 : (a : Int) + 1 ≤ I0 := by omega
    have k2 : I0 ≤ b := by omega
    have k3 : (a : Int) ≤ J0 := by omega
    have k4 : J0 < b := by omega
    clear hI0 hJ0
    go_loopw [10] (fun sv wq => ∃ I2 : Int, I0 ≤ I2 ∧ I2 ≤ (b : Int) ∧ sv = .int .i64 I2 ∧ Hid (Pq g n (fun A => Pt (plt pv) D a b pv (I2) (J0) A) w wq)) (fun sv _ => ((b : Int) - intOf sv).toNat)
    case atStart => exact ⟨I0, by omega, by omega, rfl, hp1⟩
    case round =>
      obtain ⟨I2, ha4, hb5, rfl, hp3⟩ := hrel
      by_cases hij : I2 ≤ J0
      · obtain ⟨d1, hs1, hp1, hr1, hg1⟩ := hp3.out
        have hv0 : 0 ≤ I2 := by omega
        have hv1 : I2 < (n : Int) := by omega
        have ba0 : (0 : Int) ≤ (a : Int) := by omega
        have ba1 : (a : Int) < (n : Int) := by omega
        obtain ⟨x, hx, hcx⟩ := hr1.get (show I2.toNat < n by omega)
        obtain ⟨z, hz, hcz⟩ := hr1.get (show a < n by omega)
        have hzp : z = pv := (bang hz).symm.trans hp1.piv
        have qg : decide (I2 ≤ J0) = true := by simpa using hij
        by_cases hxz : x < z
        · have q5 : decide (x < z) = true := by simpa using hxz
          have HPX : Hid (Pq g n (fun A => Pt (plt pv) D a b pv (I2 + 1) (J0) A) w wr) := Lib.hid (Pq.mk' hs1 (hp1.up (by omega) (bang hx) (show plt pv x = true from decide_eq_true (by omega))) hg1 hr1)
          clear hx hz hs1 hp1 hr1 hp3 hzp
          go_wp2
          go_quiet ((go_at_call 216; first | exact less_quiet _ _ | exact less_quiet2 _ _))
          go_wp2
          go_roundw
          case rel => exact ⟨I2 + 1, by omega, by omega, by go_num, HPX.out.drewN _⟩
          case measure => simp [intOf] <;> omega
        · have q5 : decide (x < z) = false := by simpa using hxz
          have q6 : z ≤ x := by omega
          have HPX : Hid (Pq g n (fun A => Pt (plt pv) D a b pv (I2) (J0) A ∧ plt pv A[(I2).toNat]! = false) w wr) := Lib.hid (Pq.mk' hs1 ⟨hp1, by rw [bang hx]; exact (show plt pv x = false from decide_eq_false (by omega))⟩ hg1 hr1)
          clear hx hz hs1 hp1 hr1 hp3 hzp
          go_wp2
          go_quiet ((go_at_call 216; first | exact less_quiet _ _ | exact less_quiet2 _ _))
          go_wp2
          have hp6 := Lib.hid (HPX.out.drewN nq)
          clear HPX hcx hcz q5 q6 qg hxz hg1
          generalize wr.drewN nq = wx at hp6 ⊢
          go_loopw [11] (fun sv wq => ∃ J8 : Int, (a : Int) ≤ J8 ∧ J8 ≤ J0 ∧ sv = .int .i64 J8 ∧ Hid (Pq g n (fun A => Pt (plt pv) D a b pv (I2) (J8) A ∧ plt pv A[(I2).toNat]! = false) w wq)) (fun sv _ => (intOf sv).toNat)
          case atStart => exact ⟨J0, by omega, by omega, rfl, hp6⟩
          case round =>
            obtain ⟨J8, ha10, hb11, rfl, hp9⟩ := hrel
            by_cases hij : I2 ≤ J8
            · obtain ⟨d1, hs1, hp1, hr1, hg1⟩ := hp9.out
              have hv0 : 0 ≤ J8 := by omega
              have hv1 : J8 < (n : Int) := by omega
              have ba0 : (0 : Int) ≤ (a : Int) := by omega
              have ba1 : (a : Int) < (n : Int) := by omega
              obtain ⟨x, hx, hcx⟩ := hr1.get (show J8.toNat < n by omega)
              obtain ⟨z, hz, hcz⟩ := hr1.get (show a < n by omega)
              have hzp : z = pv := (bang hz).symm.trans hp1.1.piv
              have qg : decide (I2 ≤ J8) = true := by simpa using hij
              by_cases hxz : x < z
              · have q5 : decide (x < z) = true := by simpa using hxz
                have HPX : Hid (Pq g n (fun A => Pt (plt pv) D a b pv (I2) (J8) A ∧ plt pv A[(I2).toNat]! = false ∧ plt pv A[(J8).toNat]! = true) w wr) := Lib.hid (Pq.mk' hs1 ⟨hp1.1, hp1.2, by rw [bang hx]; exact (show plt pv x = true from decide_eq_true (by omega))⟩ hg1 hr1)
                clear hx hz hs1 hp1 hr1 hp9 hzp
                go_wp2
                go_quiet ((go_at_call 216; first | exact less_quiet _ _ | exact less_quiet2 _ _))
                go_wp2
                have hp12 := Lib.hid (HPX.out.drewN nq)
                clear HPX hcx hcz q5 qg hxz hg1
                generalize wr.drewN nq = wx at hp12 ⊢
                have hgo : I2 ≤ J8 := hij
                obtain ⟨d2, hs2, hp2, hr2, hg2⟩ := hp12.out
                obtain ⟨x2, hx2, hcx2⟩ := hr2.get (show I2.toNat < n by omega)
                obtain ⟨y2, hy2, hcy2⟩ := hr2.get (show J8.toNat < n by omega)
                have fx2 := hr2.free I2.toNat (by omega)
                have fy2 := hr2.free J8.toNat (by omega)
                have s0 : (0 : Int) ≤ I2 := by omega
                have s1 : I2 < (n : Int) := by omega
                have s2 : (0 : Int) ≤ J8 := by omega
                have s3 : J8 < (n : Int) := by omega
                have HX2 := Lib.hid hx2
                have HY2 := Lib.hid hy2
                have HR2 := Lib.hid hr2
                have HP2 := Lib.hid hp2
                have HS2 := Lib.hid hs2
                clear hx2 hy2 hr2 hp2 hs2 hp12
                have hij2 : I2 < J8 := by
                  have h3 := HP2.out.2.1
                  have h4 := HP2.out.2.2
                  rcases Int.lt_or_le I2 J8 with h5 | h5
                  · exact h5
                  · exfalso
                    rw [show J8 = I2 by omega, h3] at h4
                    cases h4
                have hne2 : ¬ I2.toNat = J8.toNat := by omega
                have HQ2 : Hid (Pt (plt pv) D a b pv (I2 + 1) (J8 - 1) (swp d2 I2.toNat J8.toNat)) := Lib.hid (HP2.out.1.swap (by omega) hij2 (by omega) (by rw [HS2.out]; omega) HP2.out.2.1 HP2.out.2.2)
                go_wp2
                go_region
                go_wp2
                have hp14 := Lib.hid (Pq.swap (Q := fun A => Pt (plt pv) D a b pv (I2 + 1) (J8 - 1) A) HS2.out hg2 HR2.out HX2.out HY2.out 1 rfl HQ2.out)
                clear HP2 hg2 HR2 HX2 HY2 HS2 hcx2 hcy2 fx2 fy2 s0 s1 s2 s3 hne2 hij2 HQ2
                go_loopw [10, 11] (fun si sj wr => ∃ I J : Int, (a : Int) + 1 ≤ I ∧ I ≤ b ∧ (a : Int) ≤ J ∧ J < b ∧ si = .int .i64 I ∧ sj = .int .i64 J ∧ Hid (Pq g n (fun A => Pt (plt pv) D a b pv (I) (J) A) w wr)) (fun si sj _ => (intOf sj - intOf si + 2).toNat)
                case atStart => exact ⟨I2 + 1, J8 - 1, by omega, by omega, by omega, by omega, rfl, rfl, hp14⟩
                case round =>
                  obtain ⟨I, J, hI0, hI1, hJ0, hJ1, rfl, rfl, hp0⟩ := hrel
                  go_wp2
                  go_loopw [10] (fun sv wq => ∃ I15 : Int, I ≤ I15 ∧ I15 ≤ (b : Int) ∧ sv = .int .i64 I15 ∧ Hid (Pq g n (fun A => Pt (plt pv) D a b pv (I15) (J) A) w wq)) (fun sv _ => ((b : Int) - intOf sv).toNat)
                  case atStart => exact ⟨I, by omega, by omega, rfl, hp0⟩
                  case round =>
                    obtain ⟨I15, ha17, hb18, rfl, hp16⟩ := hrel
                    by_cases hij : I15 ≤ J
                    · obtain ⟨d1, hs1, hp1, hr1, hg1⟩ := hp16.out
                      have hv0 : 0 ≤ I15 := by omega
                      have hv1 : I15 < (n : Int) := by omega
                      have ba0 : (0 : Int) ≤ (a : Int) := by omega
                      have ba1 : (a : Int) < (n : Int) := by omega
                      obtain ⟨x, hx, hcx⟩ := hr1.get (show I15.toNat < n by omega)
                      obtain ⟨z, hz, hcz⟩ := hr1.get (show a < n by omega)
                      have hzp : z = pv := (bang hz).symm.trans hp1.piv
                      have qg : decide (I15 ≤ J) = true := by simpa using hij
                      by_cases hxz : x < z
                      · have q5 : decide (x < z) = true := by simpa using hxz
                        have HPX : Hid (Pq g n (fun A => Pt (plt pv) D a b pv (I15 + 1) (J) A) w wr) := Lib.hid (Pq.mk' hs1 (hp1.up (by omega) (bang hx) (show plt pv x = true from decide_eq_true (by omega))) hg1 hr1)
                        clear hx hz hs1 hp1 hr1 hp16 hzp
                        go_wp2
                        go_quiet ((go_at_call 216; first | exact less_quiet _ _ | exact less_quiet2 _ _))
                        go_wp2
                        go_roundw
                        case rel => exact ⟨I15 + 1, by omega, by omega, by go_num, HPX.out.drewN _⟩
                        case measure => simp [intOf] <;> omega
                      · have q5 : decide (x < z) = false := by simpa using hxz
                        have q6 : z ≤ x := by omega
                        have HPX : Hid (Pq g n (fun A => Pt (plt pv) D a b pv (I15) (J) A ∧ plt pv A[(I15).toNat]! = false) w wr) := Lib.hid (Pq.mk' hs1 ⟨hp1, by rw [bang hx]; exact (show plt pv x = false from decide_eq_false (by omega))⟩ hg1 hr1)
                        clear hx hz hs1 hp1 hr1 hp16 hzp
                        go_wp2
                        go_quiet ((go_at_call 216; first | exact less_quiet _ _ | exact less_quiet2 _ _))
                        go_wp2
                        have hp19 := Lib.hid (HPX.out.drewN nq)
                        clear HPX hcx hcz q5 q6 qg hxz hg1
                        generalize wr.drewN nq = wx at hp19 ⊢
                        go_loopw [11] (fun sv wq => ∃ J21 : Int, (a : Int) ≤ J21 ∧ J21 ≤ J ∧ sv = .int .i64 J21 ∧ Hid (Pq g n (fun A => Pt (plt pv) D a b pv (I15) (J21) A ∧ plt pv A[(I15).toNat]! = false) w wq)) (fun sv _ => (intOf sv).toNat)
                        case atStart => exact ⟨J, by omega, by omega, rfl, hp19⟩
                        case round =>
                          obtain ⟨J21, ha23, hb24, rfl, hp22⟩ := hrel
                          by_cases hij : I15 ≤ J21
                          · obtain ⟨d1, hs1, hp1, hr1, hg1⟩ := hp22.out
                            have hv0 : 0 ≤ J21 := by omega
                            have hv1 : J21 < (n : Int) := by omega
                            have ba0 : (0 : Int) ≤ (a : Int) := by omega
                            have ba1 : (a : Int) < (n : Int) := by omega
                            obtain ⟨x, hx, hcx⟩ := hr1.get (show J21.toNat < n by omega)
                            obtain ⟨z, hz, hcz⟩ := hr1.get (show a < n by omega)
                            have hzp : z = pv := (bang hz).symm.trans hp1.1.piv
                            have qg : decide (I15 ≤ J21) = true := by simpa using hij
                            by_cases hxz : x < z
                            · have q5 : decide (x < z) = true := by simpa using hxz
                              have HPX : Hid (Pq g n (fun A => Pt (plt pv) D a b pv (I15) (J21) A ∧ plt pv A[(I15).toNat]! = false ∧ plt pv A[(J21).toNat]! = true) w wr) := Lib.hid (Pq.mk' hs1 ⟨hp1.1, hp1.2, by rw [bang hx]; exact (show plt pv x = true from decide_eq_true (by omega))⟩ hg1 hr1)
                              clear hx hz hs1 hp1 hr1 hp22 hzp
                              go_wp2
                              go_quiet ((go_at_call 216; first | exact less_quiet _ _ | exact less_quiet2 _ _))
                              go_wp2
                              have hp25 := Lib.hid (HPX.out.drewN nq)
                              clear HPX hcx hcz q5 qg hxz hg1
                              generalize wr.drewN nq = wx at hp25 ⊢
                              have hgo : I15 ≤ J21 := hij
                              obtain ⟨d2, hs2, hp2, hr2, hg2⟩ := hp25.out
                              obtain ⟨x2, hx2, hcx2⟩ := hr2.get (show I15.toNat < n by omega)
                              obtain ⟨y2, hy2, hcy2⟩ := hr2.get (show J21.toNat < n by omega)
                              have fx2 := hr2.free I15.toNat (by omega)
                              have fy2 := hr2.free J21.toNat (by omega)
                              have s0 : (0 : Int) ≤ I15 := by omega
                              have s1 : I15 < (n : Int) := by omega
                              have s2 : (0 : Int) ≤ J21 := by omega
                              have s3 : J21 < (n : Int) := by omega
                              have HX2 := Lib.hid hx2
                              have HY2 := Lib.hid hy2
                              have HR2 := Lib.hid hr2
                              have HP2 := Lib.hid hp2
                              have HS2 := Lib.hid hs2
                              clear hx2 hy2 hr2 hp2 hs2 hp25
                              have hij2 : I15 < J21 := by
                                have h3 := HP2.out.2.1
                                have h4 := HP2.out.2.2
                                rcases Int.lt_or_le I15 J21 with h5 | h5
                                · exact h5
                                · exfalso
                                  rw [show J21 = I15 by omega, h3] at h4
                                  cases h4
                              have hne2 : ¬ I15.toNat = J21.toNat := by omega
                              have HQ2 : Hid (Pt (plt pv) D a b pv (I15 + 1) (J21 - 1) (swp d2 I15.toNat J21.toNat)) := Lib.hid (HP2.out.1.swap (by omega) hij2 (by omega) (by rw [HS2.out]; omega) HP2.out.2.1 HP2.out.2.2)
                              go_wp2
                              go_region
                              go_wp2
                              have hp27 := Lib.hid (Pq.swap (Q := fun A => Pt (plt pv) D a b pv (I15 + 1) (J21 - 1) A) HS2.out hg2 HR2.out HX2.out HY2.out 1 rfl HQ2.out)
                              clear HP2 hg2 HR2 HX2 HY2 HS2 hcx2 hcy2 fx2 fy2 s0 s1 s2 s3 hne2 hij2 HQ2
                              go_roundw
                              case rel => first | exact ⟨I15 + 1, J21 - 1, by omega, by omega, by omega, by omega, by go_num, by go_num, hp27.out⟩ | ((repeat apply Exists.intro); exact ⟨⟨I15 + 1, J21 - 1, by omega, by omega, by omega, by omega, by go_num, by go_num, hp27.out⟩, rfl⟩)
                              case measure => simp [intOf] <;> omega
                            · have q5 : decide (x < z) = false := by simpa using hxz
                              have q6 : z ≤ x := by omega
                              have HPX : Hid (Pq g n (fun A => Pt (plt pv) D a b pv (I15) (J21 - 1) A ∧ plt pv A[(I15).toNat]! = false) w wr) := Lib.hid (Pq.mk' hs1 ⟨hp1.1.down (by omega) (bang hx) (show plt pv x = false from decide_eq_false (by omega)), hp1.2⟩ hg1 hr1)
                              clear hx hz hs1 hp1 hr1 hp22 hzp
                              go_wp2
                              go_quiet ((go_at_call 216; first | exact less_quiet _ _ | exact less_quiet2 _ _))
                              go_wp2
                              go_roundw
                              case rel => exact ⟨J21 - 1, by omega, by omega, by go_num, HPX.out.drewN _⟩
                              case measure => simp [intOf] <;> omega
                          · have qg : decide (I15 ≤ J21) = false := by simpa using hij
                            have HPG : Hid (Pq g n (fun A => Pt (plt pv) D a b pv (I15) (J21) A) w wr) := Lib.hid (hp22.out.imp fun A _ hA => hA.1)
                            clear hp22
                            go_wp2
                            go_quiet (fail)
                            go_wp2
                            have hp26 := Lib.hid (HPG.out.drewN nq)
                            clear HPG qg
                            generalize wr.drewN nq = wx at hp26 ⊢
                            have hbrk : J21 < I15 := by omega
                            obtain ⟨d2, hs2, hp2, hr2, hg2⟩ := hp26.out
                            obtain ⟨x2, hx2, hcx2⟩ := hr2.get (show J21.toNat < n by omega)
                            obtain ⟨y2, hy2, hcy2⟩ := hr2.get (show a < n by omega)
                            have fx2 := hr2.free J21.toNat (by omega)
                            have fy2 := hr2.free a (by omega)
                            have s0 : (0 : Int) ≤ J21 := by omega
                            have s1 : J21 < (n : Int) := by omega
                            have s2 : (0 : Int) ≤ (a : Int) := by omega
                            have s3 : (a : Int) < (n : Int) := by omega
                            have HX2 := Lib.hid hx2
                            have HY2 := Lib.hid hy2
                            have HR2 := Lib.hid hr2
                            have HP2 := Lib.hid hp2
                            have HS2 := Lib.hid hs2
                            clear hx2 hy2 hr2 hp2 hs2 hp26
                            by_cases hsame : J21.toNat = a
                            · rw [hsame] at hcx2 fx2 HX2
                              have hxy2 : x2 = y2 := by have h1 := HX2.out; have h2 := HY2.out; rw [h2] at h1; injection h1 with h1; exact h1.symm
                              subst hxy2
                              have HQ2 : Hid (Split D a b pv J21.toNat (swp d2 J21.toNat a)) := Lib.hid (HP2.out.fin (by omega) (by omega) (by omega) (by rw [HS2.out]; omega))
                              rw [show swp d2 J21.toNat a = swp d2 a a by rw [hsame]] at HQ2
                              go_wp2
                              go_region
                              go_wp2
                              have hp28 := Lib.hid (Pq.swap (Q := fun A => Split D a b pv J21.toNat A) HS2.out hg2 HR2.out HX2.out HX2.out 1 rfl HQ2.out)
                              clear HP2 hg2 HR2 HX2 HY2 HS2 hcx2 hcy2 fx2 fy2 s0 s1 s2 s3 hsame HQ2
                              go_ret2
                              exact ⟨J21.toNat, false, by rw [show ((J21.toNat : Nat) : Int) = J21 by omega]; rfl, by omega, by omega, hp28.out⟩
                            · have hne2 : ¬ a = J21.toNat := fun e => hsame e.symm
                              have HQ2 : Hid (Split D a b pv J21.toNat (swp d2 J21.toNat a)) := Lib.hid (HP2.out.fin (by omega) (by omega) (by omega) (by rw [HS2.out]; omega))
                              go_wp2
                              go_region
                              go_wp2
                              have hp28 := Lib.hid (Pq.swap (Q := fun A => Split D a b pv J21.toNat A) HS2.out hg2 HR2.out HX2.out HY2.out 1 rfl HQ2.out)
                              clear HP2 hg2 HR2 HX2 HY2 HS2 hcx2 hcy2 fx2 fy2 s0 s1 s2 s3 hsame hne2 HQ2
                              go_ret2
                              exact ⟨J21.toNat, false, by rw [show ((J21.toNat : Nat) : Int) = J21 by omega]; rfl, by omega, by omega, hp28.out⟩
                    · have qg : decide (I15 ≤ J) = false := by simpa using hij
                      have HPG : Hid (Pq g n (fun A => Pt (plt pv) D a b pv (I15) (J) A) w wr) := hp16
                      clear hp16
                      go_wp2
                      go_quiet (fail)
                      go_wp2
                      have hp20 := Lib.hid (HPG.out.drewN nq)
                      clear HPG qg
                      generalize wr.drewN nq = wx at hp20 ⊢
                      go_loopw [11] (fun sv wq => ∃ J29 : Int, (a : Int) ≤ J29 ∧ J29 ≤ J ∧ sv = .int .i64 J29 ∧ Hid (Pq g n (fun A => Pt (plt pv) D a b pv (I15) (J29) A) w wq)) (fun sv _ => (intOf sv).toNat)
                      case atStart => exact ⟨J, by omega, by omega, rfl, hp20⟩
                      case round =>
                        obtain ⟨J29, ha31, hb32, rfl, hp30⟩ := hrel
                        by_cases hij : I15 ≤ J29
                        · exfalso; omega
                        · have qg : decide (I15 ≤ J29) = false := by simpa using hij
                          have HPG : Hid (Pq g n (fun A => Pt (plt pv) D a b pv (I15) (J29) A) w wr) := hp30
                          clear hp30
                          go_wp2
                          go_quiet (fail)
                          go_wp2
                          have hp34 := Lib.hid (HPG.out.drewN nq)
                          clear HPG qg
                          generalize wr.drewN nq = wx at hp34 ⊢
                          have hbrk : J29 < I15 := by omega
                          obtain ⟨d2, hs2, hp2, hr2, hg2⟩ := hp34.out
                          obtain ⟨x2, hx2, hcx2⟩ := hr2.get (show J29.toNat < n by omega)
                          obtain ⟨y2, hy2, hcy2⟩ := hr2.get (show a < n by omega)
                          have fx2 := hr2.free J29.toNat (by omega)
                          have fy2 := hr2.free a (by omega)
                          have s0 : (0 : Int) ≤ J29 := by omega
                          have s1 : J29 < (n : Int) := by omega
                          have s2 : (0 : Int) ≤ (a : Int) := by omega
                          have s3 : (a : Int) < (n : Int) := by omega
                          have HX2 := Lib.hid hx2
                          have HY2 := Lib.hid hy2
                          have HR2 := Lib.hid hr2
                          have HP2 := Lib.hid hp2
                          have HS2 := Lib.hid hs2
                          clear hx2 hy2 hr2 hp2 hs2 hp34
                          by_cases hsame : J29.toNat = a
                          · rw [hsame] at hcx2 fx2 HX2
                            have hxy2 : x2 = y2 := by have h1 := HX2.out; have h2 := HY2.out; rw [h2] at h1; injection h1 with h1; exact h1.symm
                            subst hxy2
                            have HQ2 : Hid (Split D a b pv J29.toNat (swp d2 J29.toNat a)) := Lib.hid (HP2.out.fin (by omega) (by omega) (by omega) (by rw [HS2.out]; omega))
                            rw [show swp d2 J29.toNat a = swp d2 a a by rw [hsame]] at HQ2
                            go_wp2
                            go_region
                            go_wp2
                            have hp36 := Lib.hid (Pq.swap (Q := fun A => Split D a b pv J29.toNat A) HS2.out hg2 HR2.out HX2.out HX2.out 1 rfl HQ2.out)
                            clear HP2 hg2 HR2 HX2 HY2 HS2 hcx2 hcy2 fx2 fy2 s0 s1 s2 s3 hsame HQ2
                            go_ret2
                            exact ⟨J29.toNat, false, by rw [show ((J29.toNat : Nat) : Int) = J29 by omega]; rfl, by omega, by omega, hp36.out⟩
                          · have hne2 : ¬ a = J29.toNat := fun e => hsame e.symm
                            have HQ2 : Hid (Split D a b pv J29.toNat (swp d2 J29.toNat a)) := Lib.hid (HP2.out.fin (by omega) (by omega) (by omega) (by rw [HS2.out]; omega))
                            go_wp2
                            go_region
                            go_wp2
                            have hp36 := Lib.hid (Pq.swap (Q := fun A => Split D a b pv J29.toNat A) HS2.out hg2 HR2.out HX2.out HY2.out 1 rfl HQ2.out)
                            clear HP2 hg2 HR2 HX2 HY2 HS2 hcx2 hcy2 fx2 fy2 s0 s1 s2 s3 hsame hne2 HQ2
                            go_ret2
                            exact ⟨J29.toNat, false, by rw [show ((J29.toNat : Nat) : Int) = J29 by omega]; rfl, by omega, by omega, hp36.out⟩
              · have q5 : decide (x < z) = false := by simpa using hxz
                have q6 : z ≤ x := by omega
                have HPX : Hid (Pq g n (fun A => Pt (plt pv) D a b pv (I2) (J8 - 1) A ∧ plt pv A[(I2).toNat]! = false) w wr) := Lib.hid (Pq.mk' hs1 ⟨hp1.1.down (by omega) (bang hx) (show plt pv x = false from decide_eq_false (by omega)), hp1.2⟩ hg1 hr1)
                clear hx hz hs1 hp1 hr1 hp9 hzp
                go_wp2
                go_quiet ((go_at_call 216; first | exact less_quiet _ _ | exact less_quiet2 _ _))
                go_wp2
                go_roundw
                case rel => exact ⟨J8 - 1, by omega, by omega, by go_num, HPX.out.drewN _⟩
                case measure => simp [intOf] <;> omega
            · have qg : decide (I2 ≤ J8) = false := by simpa using hij
              have HPG : Hid (Pq g n (fun A => Pt (plt pv) D a b pv (I2) (J8) A) w wr) := Lib.hid (hp9.out.imp fun A _ hA => hA.1)
              clear hp9
              go_wp2
              go_quiet (fail)
              go_wp2
              have hp13 := Lib.hid (HPG.out.drewN nq)
              clear HPG qg
              generalize wr.drewN nq = wx at hp13 ⊢
              have hbrk : J8 < I2 := by omega
              obtain ⟨d2, hs2, hp2, hr2, hg2⟩ := hp13.out
              obtain ⟨x2, hx2, hcx2⟩ := hr2.get (show J8.toNat < n by omega)
              obtain ⟨y2, hy2, hcy2⟩ := hr2.get (show a < n by omega)
              have fx2 := hr2.free J8.toNat (by omega)
              have fy2 := hr2.free a (by omega)
              have s0 : (0 : Int) ≤ J8 := by omega
              have s1 : J8 < (n : Int) := by omega
              have s2 : (0 : Int) ≤ (a : Int) := by omega
              have s3 : (a : Int) < (n : Int) := by omega
              have HX2 := Lib.hid hx2
              have HY2 := Lib.hid hy2
              have HR2 := Lib.hid hr2
              have HP2 := Lib.hid hp2
              have HS2 := Lib.hid hs2
              clear hx2 hy2 hr2 hp2 hs2 hp13
              by_cases hsame : J8.toNat = a
              · rw [hsame] at hcx2 fx2 HX2
                have hxy2 : x2 = y2 := by have h1 := HX2.out; have h2 := HY2.out; rw [h2] at h1; injection h1 with h1; exact h1.symm
                subst hxy2
                have HQ2 : Hid (Split D a b pv J8.toNat (swp d2 J8.toNat a)) := Lib.hid (HP2.out.fin (by omega) (by omega) (by omega) (by rw [HS2.out]; omega))
                rw [show swp d2 J8.toNat a = swp d2 a a by rw [hsame]] at HQ2
                go_wp2
                go_region
                go_wp2
                have hp37 := Lib.hid (Pq.swap (Q := fun A => Split D a b pv J8.toNat A) HS2.out hg2 HR2.out HX2.out HX2.out 1 rfl HQ2.out)
                clear HP2 hg2 HR2 HX2 HY2 HS2 hcx2 hcy2 fx2 fy2 s0 s1 s2 s3 hsame HQ2
                go_ret2
                exact ⟨J8.toNat, true, by rw [show ((J8.toNat : Nat) : Int) = J8 by omega]; rfl, by omega, by omega, hp37.out⟩
              · have hne2 : ¬ a = J8.toNat := fun e => hsame e.symm
                have HQ2 : Hid (Split D a b pv J8.toNat (swp d2 J8.toNat a)) := Lib.hid (HP2.out.fin (by omega) (by omega) (by omega) (by rw [HS2.out]; omega))
                go_wp2
                go_region
                go_wp2
                have hp37 := Lib.hid (Pq.swap (Q := fun A => Split D a b pv J8.toNat A) HS2.out hg2 HR2.out HX2.out HY2.out 1 rfl HQ2.out)
                clear HP2 hg2 HR2 HX2 HY2 HS2 hcx2 hcy2 fx2 fy2 s0 s1 s2 s3 hsame hne2 HQ2
                go_ret2
                exact ⟨J8.toNat, true, by rw [show ((J8.toNat : Nat) : Int) = J8 by omega]; rfl, by omega, by omega, hp37.out⟩
      · have qg : decide (I2 ≤ J0) = false := by simpa using hij
        have HPG : Hid (Pq g n (fun A => Pt (plt pv) D a b pv (I2) (J0) A) w wr) := hp3
        clear hp3
        go_wp2
        go_quiet (fail)
        go_wp2
        have hp7 := Lib.hid (HPG.out.drewN nq)
        clear HPG qg
        generalize wr.drewN nq = wx at hp7 ⊢
        go_loopw [11] (fun sv wq => ∃ J38 : Int, (a : Int) ≤ J38 ∧ J38 ≤ J0 ∧ sv = .int .i64 J38 ∧ Hid (Pq g n (fun A => Pt (plt pv) D a b pv (I2) (J38) A) w wq)) (fun sv _ => (intOf sv).toNat)
        case atStart => exact ⟨J0, by omega, by omega, rfl, hp7⟩
        case round =>
          obtain ⟨J38, ha40, hb41, rfl, hp39⟩ := hrel
          by_cases hij : I2 ≤ J38
          · exfalso; omega
          · have qg : decide (I2 ≤ J38) = false := by simpa using hij
            have HPG : Hid (Pq g n (fun A => Pt (plt pv) D a b pv (I2) (J38) A) w wr) := hp39
            clear hp39
            go_wp2
            go_quiet (fail)
            go_wp2
            have hp43 := Lib.hid (HPG.out.drewN nq)
            clear HPG qg
            generalize wr.drewN nq = wx at hp43 ⊢
            have hbrk : J38 < I2 := by omega
            obtain ⟨d2, hs2, hp2, hr2, hg2⟩ := hp43.out
            obtain ⟨x2, hx2, hcx2⟩ := hr2.get (show J38.toNat < n by omega)
            obtain ⟨y2, hy2, hcy2⟩ := hr2.get (show a < n by omega)
            have fx2 := hr2.free J38.toNat (by omega)
            have fy2 := hr2.free a (by omega)
            have s0 : (0 : Int) ≤ J38 := by omega
            have s1 : J38 < (n : Int) := by omega
            have s2 : (0 : Int) ≤ (a : Int) := by omega
            have s3 : (a : Int) < (n : Int) := by omega
            have HX2 := Lib.hid hx2
            have HY2 := Lib.hid hy2
            have HR2 := Lib.hid hr2
            have HP2 := Lib.hid hp2
            have HS2 := Lib.hid hs2
            clear hx2 hy2 hr2 hp2 hs2 hp43
            by_cases hsame : J38.toNat = a
            · rw [hsame] at hcx2 fx2 HX2
              have hxy2 : x2 = y2 := by have h1 := HX2.out; have h2 := HY2.out; rw [h2] at h1; injection h1 with h1; exact h1.symm
              subst hxy2
              have HQ2 : Hid (Split D a b pv J38.toNat (swp d2 J38.toNat a)) := Lib.hid (HP2.out.fin (by omega) (by omega) (by omega) (by rw [HS2.out]; omega))
              rw [show swp d2 J38.toNat a = swp d2 a a by rw [hsame]] at HQ2
              go_wp2
              go_region
              go_wp2
              have hp67 := Lib.hid (Pq.swap (Q := fun A => Split D a b pv J38.toNat A) HS2.out hg2 HR2.out HX2.out HX2.out 1 rfl HQ2.out)
              clear HP2 hg2 HR2 HX2 HY2 HS2 hcx2 hcy2 fx2 fy2 s0 s1 s2 s3 hsame HQ2
              go_ret2
              exact ⟨J38.toNat, true, by rw [show ((J38.toNat : Nat) : Int) = J38 by omega]; rfl, by omega, by omega, hp67.out⟩
            · have hne2 : ¬ a = J38.toNat := fun e => hsame e.symm
              have HQ2 : Hid (Split D a b pv J38.toNat (swp d2 J38.toNat a)) := Lib.hid (HP2.out.fin (by omega) (by omega) (by omega) (by rw [HS2.out]; omega))
              go_wp2
              go_region
              go_wp2
              have hp67 := Lib.hid (Pq.swap (Q := fun A => Split D a b pv J38.toNat A) HS2.out hg2 HR2.out HX2.out HY2.out 1 rfl HQ2.out)
              clear HP2 hg2 HR2 HX2 HY2 HS2 hcx2 hcy2 fx2 fy2 s0 s1 s2 s3 hsame hne2 HQ2
              go_ret2
              exact ⟨J38.toNat, true, by rw [show ((J38.toNat : Nat) : Int) = J38 by omega]; rfl, by omega, by omega, hp67.out⟩
  · have hne2 : ¬ a = p := fun e => hsame e.symm
    have HQ2 : Hid (Pt (plt pv) D a b pv ((a : Int) + 1) ((b : Int) - 1) (swp d2 a p)) := Lib.hid (Pt.init HPV.out (by omega) (by omega) (by rw [← HDs.out]; omega) HP2.out)
    go_wp2
    go_region
    go_wp2
    have hp1 := Lib.hid (Pq.swap (Q := fun A => Pt (plt pv) D a b pv ((a : Int) + 1) ((b : Int) - 1) A) HS2.out hg2 HR2.out HX2.out HY2.out 1 rfl HQ2.out)
    clear HP2 hg2 HR2 HX2 HY2 HS2 hcx2 hcy2 fx2 fy2 s0 s1 s2 s3 hsame hne2 HQ2 HPV HDs
    obtain ⟨I0, hI0⟩ : ∃ I0 : Int, I0 = (a : Int) + 1 := ⟨_, rfl⟩
    obtain ⟨J0, hJ0⟩ : ∃ J0 : Int, J0 = (b : Int) - 1 := ⟨_, rfl⟩
    rw [← hI0, ← hJ0] at hp1
    rw [← hI0, ← hJ0]
    have k1 : (a : Int) + 1 ≤ I0 := by omega
    have k2 : I0 ≤ b := by omega
    have k3 : (a : Int) ≤ J0 := by omega
    have k4 : J0 < b := by omega
    clear hI0 hJ0
    go_loopw [10] (fun sv wq => ∃ I68 : Int, I0 ≤ I68 ∧ I68 ≤ (b : Int) ∧ sv = .int .i64 I68 ∧ Hid (Pq g n (fun A => Pt (plt pv) D a b pv (I68) (J0) A) w wq)) (fun sv _ => ((b : Int) - intOf sv).toNat)
    case atStart => exact ⟨I0, by omega, by omega, rfl, hp1⟩
    case round =>
      obtain ⟨I68, ha70, hb71, rfl, hp69⟩ := hrel
      by_cases hij : I68 ≤ J0
      · obtain ⟨d1, hs1, hp1, hr1, hg1⟩ := hp69.out
        have hv0 : 0 ≤ I68 := by omega
        have hv1 : I68 < (n : Int) := by omega
        have ba0 : (0 : Int) ≤ (a : Int) := by omega
        have ba1 : (a : Int) < (n : Int) := by omega
        obtain ⟨x, hx, hcx⟩ := hr1.get (show I68.toNat < n by omega)
        obtain ⟨z, hz, hcz⟩ := hr1.get (show a < n by omega)
        have hzp : z = pv := (bang hz).symm.trans hp1.piv
        have qg : decide (I68 ≤ J0) = true := by simpa using hij
        by_cases hxz : x < z
        · have q5 : decide (x < z) = true := by simpa using hxz
          have HPX : Hid (Pq g n (fun A => Pt (plt pv) D a b pv (I68 + 1) (J0) A) w wr) := Lib.hid (Pq.mk' hs1 (hp1.up (by omega) (bang hx) (show plt pv x = true from decide_eq_true (by omega))) hg1 hr1)
          clear hx hz hs1 hp1 hr1 hp69 hzp
          go_wp2
          go_quiet ((go_at_call 216; first | exact less_quiet _ _ | exact less_quiet2 _ _))
          go_wp2
          go_roundw
          case rel => exact ⟨I68 + 1, by omega, by omega, by go_num, HPX.out.drewN _⟩
          case measure => simp [intOf] <;> omega
        · have q5 : decide (x < z) = false := by simpa using hxz
          have q6 : z ≤ x := by omega
          have HPX : Hid (Pq g n (fun A => Pt (plt pv) D a b pv (I68) (J0) A ∧ plt pv A[(I68).toNat]! = false) w wr) := Lib.hid (Pq.mk' hs1 ⟨hp1, by rw [bang hx]; exact (show plt pv x = false from decide_eq_false (by omega))⟩ hg1 hr1)
          clear hx hz hs1 hp1 hr1 hp69 hzp
          go_wp2
          go_quiet ((go_at_call 216; first | exact less_quiet _ _ | exact less_quiet2 _ _))
          go_wp2
          have hp72 := Lib.hid (HPX.out.drewN nq)
          clear HPX hcx hcz q5 q6 qg hxz hg1
          generalize wr.drewN nq = wx at hp72 ⊢
          go_loopw [11] (fun sv wq => ∃ J74 : Int, (a : Int) ≤ J74 ∧ J74 ≤ J0 ∧ sv = .int .i64 J74 ∧ Hid (Pq g n (fun A => Pt (plt pv) D a b pv (I68) (J74) A ∧ plt pv A[(I68).toNat]! = false) w wq)) (fun sv _ => (intOf sv).toNat)
          case atStart => exact ⟨J0, by omega, by omega, rfl, hp72⟩
          case round =>
            obtain ⟨J74, ha76, hb77, rfl, hp75⟩ := hrel
            by_cases hij : I68 ≤ J74
            · obtain ⟨d1, hs1, hp1, hr1, hg1⟩ := hp75.out
              have hv0 : 0 ≤ J74 := by omega
              have hv1 : J74 < (n : Int) := by omega
              have ba0 : (0 : Int) ≤ (a : Int) := by omega
              have ba1 : (a : Int) < (n : Int) := by omega
              obtain ⟨x, hx, hcx⟩ := hr1.get (show J74.toNat < n by omega)
              obtain ⟨z, hz, hcz⟩ := hr1.get (show a < n by omega)
              have hzp : z = pv := (bang hz).symm.trans hp1.1.piv
              have qg : decide (I68 ≤ J74) = true := by simpa using hij
              by_cases hxz : x < z
              · have q5 : decide (x < z) = true := by simpa using hxz
                have HPX : Hid (Pq g n (fun A => Pt (plt pv) D a b pv (I68) (J74) A ∧ plt pv A[(I68).toNat]! = false ∧ plt pv A[(J74).toNat]! = true) w wr) := Lib.hid (Pq.mk' hs1 ⟨hp1.1, hp1.2, by rw [bang hx]; exact (show plt pv x = true from decide_eq_true (by omega))⟩ hg1 hr1)
                clear hx hz hs1 hp1 hr1 hp75 hzp
                go_wp2
                go_quiet ((go_at_call 216; first | exact less_quiet _ _ | exact less_quiet2 _ _))
                go_wp2
                have hp78 := Lib.hid (HPX.out.drewN nq)
                clear HPX hcx hcz q5 qg hxz hg1
                generalize wr.drewN nq = wx at hp78 ⊢
                have hgo : I68 ≤ J74 := hij
                obtain ⟨d2, hs2, hp2, hr2, hg2⟩ := hp78.out
                obtain ⟨x2, hx2, hcx2⟩ := hr2.get (show I68.toNat < n by omega)
                obtain ⟨y2, hy2, hcy2⟩ := hr2.get (show J74.toNat < n by omega)
                have fx2 := hr2.free I68.toNat (by omega)
                have fy2 := hr2.free J74.toNat (by omega)
                have s0 : (0 : Int) ≤ I68 := by omega
                have s1 : I68 < (n : Int) := by omega
                have s2 : (0 : Int) ≤ J74 := by omega
                have s3 : J74 < (n : Int) := by omega
                have HX2 := Lib.hid hx2
                have HY2 := Lib.hid hy2
                have HR2 := Lib.hid hr2
                have HP2 := Lib.hid hp2
                have HS2 := Lib.hid hs2
                clear hx2 hy2 hr2 hp2 hs2 hp78
                have hij2 : I68 < J74 := by
                  have h3 := HP2.out.2.1
                  have h4 := HP2.out.2.2
                  rcases Int.lt_or_le I68 J74 with h5 | h5
                  · exact h5
                  · exfalso
                    rw [show J74 = I68 by omega, h3] at h4
                    cases h4
                have hne2 : ¬ I68.toNat = J74.toNat := by omega
                have HQ2 : Hid (Pt (plt pv) D a b pv (I68 + 1) (J74 - 1) (swp d2 I68.toNat J74.toNat)) := Lib.hid (HP2.out.1.swap (by omega) hij2 (by omega) (by rw [HS2.out]; omega) HP2.out.2.1 HP2.out.2.2)
                go_wp2
                go_region
                go_wp2
                have hp80 := Lib.hid (Pq.swap (Q := fun A => Pt (plt pv) D a b pv (I68 + 1) (J74 - 1) A) HS2.out hg2 HR2.out HX2.out HY2.out 1 rfl HQ2.out)
                clear HP2 hg2 HR2 HX2 HY2 HS2 hcx2 hcy2 fx2 fy2 s0 s1 s2 s3 hne2 hij2 HQ2
                go_loopw [10, 11] (fun si sj wr => ∃ I J : Int, (a : Int) + 1 ≤ I ∧ I ≤ b ∧ (a : Int) ≤ J ∧ J < b ∧ si = .int .i64 I ∧ sj = .int .i64 J ∧ Hid (Pq g n (fun A => Pt (plt pv) D a b pv (I) (J) A) w wr)) (fun si sj _ => (intOf sj - intOf si + 2).toNat)
                case atStart => exact ⟨I68 + 1, J74 - 1, by omega, by omega, by omega, by omega, rfl, rfl, hp80⟩
                case round =>
                  obtain ⟨I, J, hI0, hI1, hJ0, hJ1, rfl, rfl, hp0⟩ := hrel
                  go_wp2
                  go_loopw [10] (fun sv wq => ∃ I81 : Int, I ≤ I81 ∧ I81 ≤ (b : Int) ∧ sv = .int .i64 I81 ∧ Hid (Pq g n (fun A => Pt (plt pv) D a b pv (I81) (J) A) w wq)) (fun sv _ => ((b : Int) - intOf sv).toNat)
                  case atStart => exact ⟨I, by omega, by omega, rfl, hp0⟩
                  case round =>
                    obtain ⟨I81, ha83, hb84, rfl, hp82⟩ := hrel
                    by_cases hij : I81 ≤ J
                    · obtain ⟨d1, hs1, hp1, hr1, hg1⟩ := hp82.out
                      have hv0 : 0 ≤ I81 := by omega
                      have hv1 : I81 < (n : Int) := by omega
                      have ba0 : (0 : Int) ≤ (a : Int) := by omega
                      have ba1 : (a : Int) < (n : Int) := by omega
                      obtain ⟨x, hx, hcx⟩ := hr1.get (show I81.toNat < n by omega)
                      obtain ⟨z, hz, hcz⟩ := hr1.get (show a < n by omega)
                      have hzp : z = pv := (bang hz).symm.trans hp1.piv
                      have qg : decide (I81 ≤ J) = true := by simpa using hij
                      by_cases hxz : x < z
                      · have q5 : decide (x < z) = true := by simpa using hxz
                        have HPX : Hid (Pq g n (fun A => Pt (plt pv) D a b pv (I81 + 1) (J) A) w wr) := Lib.hid (Pq.mk' hs1 (hp1.up (by omega) (bang hx) (show plt pv x = true from decide_eq_true (by omega))) hg1 hr1)
                        clear hx hz hs1 hp1 hr1 hp82 hzp
                        go_wp2
                        go_quiet ((go_at_call 216; first | exact less_quiet _ _ | exact less_quiet2 _ _))
                        go_wp2
                        go_roundw
                        case rel => exact ⟨I81 + 1, by omega, by omega, by go_num, HPX.out.drewN _⟩
                        case measure => simp [intOf] <;> omega
                      · have q5 : decide (x < z) = false := by simpa using hxz
                        have q6 : z ≤ x := by omega
                        have HPX : Hid (Pq g n (fun A => Pt (plt pv) D a b pv (I81) (J) A ∧ plt pv A[(I81).toNat]! = false) w wr) := Lib.hid (Pq.mk' hs1 ⟨hp1, by rw [bang hx]; exact (show plt pv x = false from decide_eq_false (by omega))⟩ hg1 hr1)
                        clear hx hz hs1 hp1 hr1 hp82 hzp
                        go_wp2
                        go_quiet ((go_at_call 216; first | exact less_quiet _ _ | exact less_quiet2 _ _))
                        go_wp2
                        have hp85 := Lib.hid (HPX.out.drewN nq)
                        clear HPX hcx hcz q5 q6 qg hxz hg1
                        generalize wr.drewN nq = wx at hp85 ⊢
                        go_loopw [11] (fun sv wq => ∃ J87 : Int, (a : Int) ≤ J87 ∧ J87 ≤ J ∧ sv = .int .i64 J87 ∧ Hid (Pq g n (fun A => Pt (plt pv) D a b pv (I81) (J87) A ∧ plt pv A[(I81).toNat]! = false) w wq)) (fun sv _ => (intOf sv).toNat)
                        case atStart => exact ⟨J, by omega, by omega, rfl, hp85⟩
                        case round =>
                          obtain ⟨J87, ha89, hb90, rfl, hp88⟩ := hrel
                          by_cases hij : I81 ≤ J87
                          · obtain ⟨d1, hs1, hp1, hr1, hg1⟩ := hp88.out
                            have hv0 : 0 ≤ J87 := by omega
                            have hv1 : J87 < (n : Int) := by omega
                            have ba0 : (0 : Int) ≤ (a : Int) := by omega
                            have ba1 : (a : Int) < (n : Int) := by omega
                            obtain ⟨x, hx, hcx⟩ := hr1.get (show J87.toNat < n by omega)
                            obtain ⟨z, hz, hcz⟩ := hr1.get (show a < n by omega)
                            have hzp : z = pv := (bang hz).symm.trans hp1.1.piv
                            have qg : decide (I81 ≤ J87) = true := by simpa using hij
                            by_cases hxz : x < z
                            · have q5 : decide (x < z) = true := by simpa using hxz
                              have HPX : Hid (Pq g n (fun A => Pt (plt pv) D a b pv (I81) (J87) A ∧ plt pv A[(I81).toNat]! = false ∧ plt pv A[(J87).toNat]! = true) w wr) := Lib.hid (Pq.mk' hs1 ⟨hp1.1, hp1.2, by rw [bang hx]; exact (show plt pv x = true from decide_eq_true (by omega))⟩ hg1 hr1)
                              clear hx hz hs1 hp1 hr1 hp88 hzp
                              go_wp2
                              go_quiet ((go_at_call 216; first | exact less_quiet _ _ | exact less_quiet2 _ _))
                              go_wp2
                              have hp91 := Lib.hid (HPX.out.drewN nq)
                              clear HPX hcx hcz q5 qg hxz hg1
                              generalize wr.drewN nq = wx at hp91 ⊢
                              have hgo : I81 ≤ J87 := hij
                              obtain ⟨d2, hs2, hp2, hr2, hg2⟩ := hp91.out
                              obtain ⟨x2, hx2, hcx2⟩ := hr2.get (show I81.toNat < n by omega)
                              obtain ⟨y2, hy2, hcy2⟩ := hr2.get (show J87.toNat < n by omega)
                              have fx2 := hr2.free I81.toNat (by omega)
                              have fy2 := hr2.free J87.toNat (by omega)
                              have s0 : (0 : Int) ≤ I81 := by omega
                              have s1 : I81 < (n : Int) := by omega
                              have s2 : (0 : Int) ≤ J87 := by omega
                              have s3 : J87 < (n : Int) := by omega
                              have HX2 := Lib.hid hx2
                              have HY2 := Lib.hid hy2
                              have HR2 := Lib.hid hr2
                              have HP2 := Lib.hid hp2
                              have HS2 := Lib.hid hs2
                              clear hx2 hy2 hr2 hp2 hs2 hp91
                              have hij2 : I81 < J87 := by
                                have h3 := HP2.out.2.1
                                have h4 := HP2.out.2.2
                                rcases Int.lt_or_le I81 J87 with h5 | h5
                                · exact h5
                                · exfalso
                                  rw [show J87 = I81 by omega, h3] at h4
                                  cases h4
                              have hne2 : ¬ I81.toNat = J87.toNat := by omega
                              have HQ2 : Hid (Pt (plt pv) D a b pv (I81 + 1) (J87 - 1) (swp d2 I81.toNat J87.toNat)) := Lib.hid (HP2.out.1.swap (by omega) hij2 (by omega) (by rw [HS2.out]; omega) HP2.out.2.1 HP2.out.2.2)
                              go_wp2
                              go_region
                              go_wp2
                              have hp93 := Lib.hid (Pq.swap (Q := fun A => Pt (plt pv) D a b pv (I81 + 1) (J87 - 1) A) HS2.out hg2 HR2.out HX2.out HY2.out 1 rfl HQ2.out)
                              clear HP2 hg2 HR2 HX2 HY2 HS2 hcx2 hcy2 fx2 fy2 s0 s1 s2 s3 hne2 hij2 HQ2
                              go_roundw
                              case rel => first | exact ⟨I81 + 1, J87 - 1, by omega, by omega, by omega, by omega, by go_num, by go_num, hp93.out⟩ | ((repeat apply Exists.intro); exact ⟨⟨I81 + 1, J87 - 1, by omega, by omega, by omega, by omega, by go_num, by go_num, hp93.out⟩, rfl⟩)
                              case measure => simp [intOf] <;> omega
                            · have q5 : decide (x < z) = false := by simpa using hxz
                              have q6 : z ≤ x := by omega
                              have HPX : Hid (Pq g n (fun A => Pt (plt pv) D a b pv (I81) (J87 - 1) A ∧ plt pv A[(I81).toNat]! = false) w wr) := Lib.hid (Pq.mk' hs1 ⟨hp1.1.down (by omega) (bang hx) (show plt pv x = false from decide_eq_false (by omega)), hp1.2⟩ hg1 hr1)
                              clear hx hz hs1 hp1 hr1 hp88 hzp
                              go_wp2
                              go_quiet ((go_at_call 216; first | exact less_quiet _ _ | exact less_quiet2 _ _))
                              go_wp2
                              go_roundw
                              case rel => exact ⟨J87 - 1, by omega, by omega, by go_num, HPX.out.drewN _⟩
                              case measure => simp [intOf] <;> omega
                          · have qg : decide (I81 ≤ J87) = false := by simpa using hij
                            have HPG : Hid (Pq g n (fun A => Pt (plt pv) D a b pv (I81) (J87) A) w wr) := Lib.hid (hp88.out.imp fun A _ hA => hA.1)
                            clear hp88
                            go_wp2
                            go_quiet (fail)
                            go_wp2
                            have hp92 := Lib.hid (HPG.out.drewN nq)
                            clear HPG qg
                            generalize wr.drewN nq = wx at hp92 ⊢
                            have hbrk : J87 < I81 := by omega
                            obtain ⟨d2, hs2, hp2, hr2, hg2⟩ := hp92.out
                            obtain ⟨x2, hx2, hcx2⟩ := hr2.get (show J87.toNat < n by omega)
                            obtain ⟨y2, hy2, hcy2⟩ := hr2.get (show a < n by omega)
                            have fx2 := hr2.free J87.toNat (by omega)
                            have fy2 := hr2.free a (by omega)
                            have s0 : (0 : Int) ≤ J87 := by omega
                            have s1 : J87 < (n : Int) := by omega
                            have s2 : (0 : Int) ≤ (a : Int) := by omega
                            have s3 : (a : Int) < (n : Int) := by omega
                            have HX2 := Lib.hid hx2
                            have HY2 := Lib.hid hy2
                            have HR2 := Lib.hid hr2
                            have HP2 := Lib.hid hp2
                            have HS2 := Lib.hid hs2
                            clear hx2 hy2 hr2 hp2 hs2 hp92
                            by_cases hsame : J87.toNat = a
                            · rw [hsame] at hcx2 fx2 HX2
                              have hxy2 : x2 = y2 := by have h1 := HX2.out; have h2 := HY2.out; rw [h2] at h1; injection h1 with h1; exact h1.symm
                              subst hxy2
                              have HQ2 : Hid (Split D a b pv J87.toNat (swp d2 J87.toNat a)) := Lib.hid (HP2.out.fin (by omega) (by omega) (by omega) (by rw [HS2.out]; omega))
                              rw [show swp d2 J87.toNat a = swp d2 a a by rw [hsame]] at HQ2
                              go_wp2
                              go_region
                              go_wp2
                              have hp94 := Lib.hid (Pq.swap (Q := fun A => Split D a b pv J87.toNat A) HS2.out hg2 HR2.out HX2.out HX2.out 1 rfl HQ2.out)
                              clear HP2 hg2 HR2 HX2 HY2 HS2 hcx2 hcy2 fx2 fy2 s0 s1 s2 s3 hsame HQ2
                              go_ret2
                              exact ⟨J87.toNat, false, by rw [show ((J87.toNat : Nat) : Int) = J87 by omega]; rfl, by omega, by omega, hp94.out⟩
                            · have hne2 : ¬ a = J87.toNat := fun e => hsame e.symm
                              have HQ2 : Hid (Split D a b pv J87.toNat (swp d2 J87.toNat a)) := Lib.hid (HP2.out.fin (by omega) (by omega) (by omega) (by rw [HS2.out]; omega))
                              go_wp2
                              go_region
                              go_wp2
                              have hp94 := Lib.hid (Pq.swap (Q := fun A => Split D a b pv J87.toNat A) HS2.out hg2 HR2.out HX2.out HY2.out 1 rfl HQ2.out)
                              clear HP2 hg2 HR2 HX2 HY2 HS2 hcx2 hcy2 fx2 fy2 s0 s1 s2 s3 hsame hne2 HQ2
                              go_ret2
                              exact ⟨J87.toNat, false, by rw [show ((J87.toNat : Nat) : Int) = J87 by omega]; rfl, by omega, by omega, hp94.out⟩
                    · have qg : decide (I81 ≤ J) = false := by simpa using hij
                      have HPG : Hid (Pq g n (fun A => Pt (plt pv) D a b pv (I81) (J) A) w wr) := hp82
                      clear hp82
                      go_wp2
                      go_quiet (fail)
                      go_wp2
                      have hp86 := Lib.hid (HPG.out.drewN nq)
                      clear HPG qg
                      generalize wr.drewN nq = wx at hp86 ⊢
                      go_loopw [11] (fun sv wq => ∃ J95 : Int, (a : Int) ≤ J95 ∧ J95 ≤ J ∧ sv = .int .i64 J95 ∧ Hid (Pq g n (fun A => Pt (plt pv) D a b pv (I81) (J95) A) w wq)) (fun sv _ => (intOf sv).toNat)
                      case atStart => exact ⟨J, by omega, by omega, rfl, hp86⟩
                      case round =>
                        obtain ⟨J95, ha97, hb98, rfl, hp96⟩ := hrel
                        by_cases hij : I81 ≤ J95
                        · exfalso; omega
                        · have qg : decide (I81 ≤ J95) = false := by simpa using hij
                          have HPG : Hid (Pq g n (fun A => Pt (plt pv) D a b pv (I81) (J95) A) w wr) := hp96
                          clear hp96
                          go_wp2
                          go_quiet (fail)
                          go_wp2
                          have hp100 := Lib.hid (HPG.out.drewN nq)
                          clear HPG qg
                          generalize wr.drewN nq = wx at hp100 ⊢
                          have hbrk : J95 < I81 := by omega
                          obtain ⟨d2, hs2, hp2, hr2, hg2⟩ := hp100.out
                          obtain ⟨x2, hx2, hcx2⟩ := hr2.get (show J95.toNat < n by omega)
                          obtain ⟨y2, hy2, hcy2⟩ := hr2.get (show a < n by omega)
                          have fx2 := hr2.free J95.toNat (by omega)
                          have fy2 := hr2.free a (by omega)
                          have s0 : (0 : Int) ≤ J95 := by omega
                          have s1 : J95 < (n : Int) := by omega
                          have s2 : (0 : Int) ≤ (a : Int) := by omega
                          have s3 : (a : Int) < (n : Int) := by omega
                          have HX2 := Lib.hid hx2
                          have HY2 := Lib.hid hy2
                          have HR2 := Lib.hid hr2
                          have HP2 := Lib.hid hp2
                          have HS2 := Lib.hid hs2
                          clear hx2 hy2 hr2 hp2 hs2 hp100
                          by_cases hsame : J95.toNat = a
                          · rw [hsame] at hcx2 fx2 HX2
                            have hxy2 : x2 = y2 := by have h1 := HX2.out; have h2 := HY2.out; rw [h2] at h1; injection h1 with h1; exact h1.symm
                            subst hxy2
                            have HQ2 : Hid (Split D a b pv J95.toNat (swp d2 J95.toNat a)) := Lib.hid (HP2.out.fin (by omega) (by omega) (by omega) (by rw [HS2.out]; omega))
                            rw [show swp d2 J95.toNat a = swp d2 a a by rw [hsame]] at HQ2
                            go_wp2
                            go_region
                            go_wp2
                            have hp102 := Lib.hid (Pq.swap (Q := fun A => Split D a b pv J95.toNat A) HS2.out hg2 HR2.out HX2.out HX2.out 1 rfl HQ2.out)
                            clear HP2 hg2 HR2 HX2 HY2 HS2 hcx2 hcy2 fx2 fy2 s0 s1 s2 s3 hsame HQ2
                            go_ret2
                            exact ⟨J95.toNat, false, by rw [show ((J95.toNat : Nat) : Int) = J95 by omega]; rfl, by omega, by omega, hp102.out⟩
                          · have hne2 : ¬ a = J95.toNat := fun e => hsame e.symm
                            have HQ2 : Hid (Split D a b pv J95.toNat (swp d2 J95.toNat a)) := Lib.hid (HP2.out.fin (by omega) (by omega) (by omega) (by rw [HS2.out]; omega))
                            go_wp2
                            go_region
                            go_wp2
                            have hp102 := Lib.hid (Pq.swap (Q := fun A => Split D a b pv J95.toNat A) HS2.out hg2 HR2.out HX2.out HY2.out 1 rfl HQ2.out)
                            clear HP2 hg2 HR2 HX2 HY2 HS2 hcx2 hcy2 fx2 fy2 s0 s1 s2 s3 hsame hne2 HQ2
                            go_ret2
                            exact ⟨J95.toNat, false, by rw [show ((J95.toNat : Nat) : Int) = J95 by omega]; rfl, by omega, by omega, hp102.out⟩
              · have q5 : decide (x < z) = false := by simpa using hxz
                have q6 : z ≤ x := by omega
                have HPX : Hid (Pq g n (fun A => Pt (plt pv) D a b pv (I68) (J74 - 1) A ∧ plt pv A[(I68).toNat]! = false) w wr) := Lib.hid (Pq.mk' hs1 ⟨hp1.1.down (by omega) (bang hx) (show plt pv x = false from decide_eq_false (by omega)), hp1.2⟩ hg1 hr1)
                clear hx hz hs1 hp1 hr1 hp75 hzp
                go_wp2
                go_quiet ((go_at_call 216; first | exact less_quiet _ _ | exact less_quiet2 _ _))
                go_wp2
                go_roundw
                case rel => exact ⟨J74 - 1, by omega, by omega, by go_num, HPX.out.drewN _⟩
                case measure => simp [intOf] <;> omega
            · have qg : decide (I68 ≤ J74) = false := by simpa using hij
              have HPG : Hid (Pq g n (fun A => Pt (plt pv) D a b pv (I68) (J74) A) w wr) := Lib.hid (hp75.out.imp fun A _ hA => hA.1)
              clear hp75
              go_wp2
              go_quiet (fail)
              go_wp2
              have hp79 := Lib.hid (HPG.out.drewN nq)
              clear HPG qg
              generalize wr.drewN nq = wx at hp79 ⊢
              have hbrk : J74 < I68 := by omega
              obtain ⟨d2, hs2, hp2, hr2, hg2⟩ := hp79.out
              obtain ⟨x2, hx2, hcx2⟩ := hr2.get (show J74.toNat < n by omega)
              obtain ⟨y2, hy2, hcy2⟩ := hr2.get (show a < n by omega)
              have fx2 := hr2.free J74.toNat (by omega)
              have fy2 := hr2.free a (by omega)
              have s0 : (0 : Int) ≤ J74 := by omega
              have s1 : J74 < (n : Int) := by omega
              have s2 : (0 : Int) ≤ (a : Int) := by omega
              have s3 : (a : Int) < (n : Int) := by omega
              have HX2 := Lib.hid hx2
              have HY2 := Lib.hid hy2
              have HR2 := Lib.hid hr2
              have HP2 := Lib.hid hp2
              have HS2 := Lib.hid hs2
              clear hx2 hy2 hr2 hp2 hs2 hp79
              by_cases hsame : J74.toNat = a
              · rw [hsame] at hcx2 fx2 HX2
                have hxy2 : x2 = y2 := by have h1 := HX2.out; have h2 := HY2.out; rw [h2] at h1; injection h1 with h1; exact h1.symm
                subst hxy2
                have HQ2 : Hid (Split D a b pv J74.toNat (swp d2 J74.toNat a)) := Lib.hid (HP2.out.fin (by omega) (by omega) (by omega) (by rw [HS2.out]; omega))
                rw [show swp d2 J74.toNat a = swp d2 a a by rw [hsame]] at HQ2
                go_wp2
                go_region
                go_wp2
                have hp103 := Lib.hid (Pq.swap (Q := fun A => Split D a b pv J74.toNat A) HS2.out hg2 HR2.out HX2.out HX2.out 1 rfl HQ2.out)
                clear HP2 hg2 HR2 HX2 HY2 HS2 hcx2 hcy2 fx2 fy2 s0 s1 s2 s3 hsame HQ2
                go_ret2
                exact ⟨J74.toNat, true, by rw [show ((J74.toNat : Nat) : Int) = J74 by omega]; rfl, by omega, by omega, hp103.out⟩
              · have hne2 : ¬ a = J74.toNat := fun e => hsame e.symm
                have HQ2 : Hid (Split D a b pv J74.toNat (swp d2 J74.toNat a)) := Lib.hid (HP2.out.fin (by omega) (by omega) (by omega) (by rw [HS2.out]; omega))
                go_wp2
                go_region
                go_wp2
                have hp103 := Lib.hid (Pq.swap (Q := fun A => Split D a b pv J74.toNat A) HS2.out hg2 HR2.out HX2.out HY2.out 1 rfl HQ2.out)
                clear HP2 hg2 HR2 HX2 HY2 HS2 hcx2 hcy2 fx2 fy2 s0 s1 s2 s3 hsame hne2 HQ2
                go_ret2
                exact ⟨J74.toNat, true, by rw [show ((J74.toNat : Nat) : Int) = J74 by omega]; rfl, by omega, by omega, hp103.out⟩
      · have qg : decide (I68 ≤ J0) = false := by simpa using hij
        have HPG : Hid (Pq g n (fun A => Pt (plt pv) D a b pv (I68) (J0) A) w wr) := hp69
        clear hp69
        go_wp2
        go_quiet (fail)
        go_wp2
        have hp73 := Lib.hid (HPG.out.drewN nq)
        clear HPG qg
        generalize wr.drewN nq = wx at hp73 ⊢
        go_loopw [11] (fun sv wq => ∃ J104 : Int, (a : Int) ≤ J104 ∧ J104 ≤ J0 ∧ sv = .int .i64 J104 ∧ Hid (Pq g n (fun A => Pt (plt pv) D a b pv (I68) (J104) A) w wq)) (fun sv _ => (intOf sv).toNat)
        case atStart => exact ⟨J0, by omega, by omega, rfl, hp73⟩
        case round =>
          obtain ⟨J104, ha106, hb107, rfl, hp105⟩ := hrel
          by_cases hij : I68 ≤ J104
          · exfalso; omega
          · have qg : decide (I68 ≤ J104) = false := by simpa using hij
            have HPG : Hid (Pq g n (fun A => Pt (plt pv) D a b pv (I68) (J104) A) w wr) := hp105
            clear hp105
            go_wp2
            go_quiet (fail)
            go_wp2
            have hp109 := Lib.hid (HPG.out.drewN nq)
            clear HPG qg
            generalize wr.drewN nq = wx at hp109 ⊢
            have hbrk : J104 < I68 := by omega
            obtain ⟨d2, hs2, hp2, hr2, hg2⟩ := hp109.out
            obtain ⟨x2, hx2, hcx2⟩ := hr2.get (show J104.toNat < n by omega)
            obtain ⟨y2, hy2, hcy2⟩ := hr2.get (show a < n by omega)
            have fx2 := hr2.free J104.toNat (by omega)
            have fy2 := hr2.free a (by omega)
            have s0 : (0 : Int) ≤ J104 := by omega
            have s1 : J104 < (n : Int) := by omega
            have s2 : (0 : Int) ≤ (a : Int) := by omega
            have s3 : (a : Int) < (n : Int) := by omega
            have HX2 := Lib.hid hx2
            have HY2 := Lib.hid hy2
            have HR2 := Lib.hid hr2
            have HP2 := Lib.hid hp2
            have HS2 := Lib.hid hs2
            clear hx2 hy2 hr2 hp2 hs2 hp109
            by_cases hsame : J104.toNat = a
            · rw [hsame] at hcx2 fx2 HX2
              have hxy2 : x2 = y2 := by have h1 := HX2.out; have h2 := HY2.out; rw [h2] at h1; injection h1 with h1; exact h1.symm
              subst hxy2
              have HQ2 : Hid (Split D a b pv J104.toNat (swp d2 J104.toNat a)) := Lib.hid (HP2.out.fin (by omega) (by omega) (by omega) (by rw [HS2.out]; omega))
              rw [show swp d2 J104.toNat a = swp d2 a a by rw [hsame]] at HQ2
              go_wp2
              go_region
              go_wp2
              have hp133 := Lib.hid (Pq.swap (Q := fun A => Split D a b pv J104.toNat A) HS2.out hg2 HR2.out HX2.out HX2.out 1 rfl HQ2.out)
              clear HP2 hg2 HR2 HX2 HY2 HS2 hcx2 hcy2 fx2 fy2 s0 s1 s2 s3 hsame HQ2
              go_ret2
              exact ⟨J104.toNat, true, by rw [show ((J104.toNat : Nat) : Int) = J104 by omega]; rfl, by omega, by omega, hp133.out⟩
            · have hne2 : ¬ a = J104.toNat := fun e => hsame e.symm
              have HQ2 : Hid (Split D a b pv J104.toNat (swp d2 J104.toNat a)) := Lib.hid (HP2.out.fin (by omega) (by omega) (by omega) (by rw [HS2.out]; omega))
              go_wp2
              go_region
              go_wp2
              have hp133 := Lib.hid (Pq.swap (Q := fun A => Split D a b pv J104.toNat A) HS2.out hg2 HR2.out HX2.out HY2.out 1 rfl HQ2.out)
              clear HP2 hg2 HR2 HX2 HY2 HS2 hcx2 hcy2 fx2 fy2 s0 s1 s2 s3 hsame hne2 HQ2
              go_ret2
              exact ⟨J104.toNat, true, by rw [show ((J104.toNat : Nat) : Int) = J104 by omega]; rfl, by omega, by omega, hp133.out⟩
end Go.Proofs.YtlpjlphofjghhaaGreatDoor.So
/- The library's sort at uint64, in order: the partial insertion sort. -/
namespace Go.Proofs.YtlpjlphofjghhaaGreatDoor.So
open Go.ChangeShapes Go.WideShapes Go.ChangeAt Go.RowKit Rw
open Go.Sort (swp ltInt PermIn SortedIn partialIns partialInsertionSort scanSorted shiftDown shiftUp swo_ltInt)
set_option linter.unusedVariables false

section
variable {a b s i : Nat} {A : Array Int} {x y : Int}
theorem pins_up (hi : i < b) (hx : A[i]! = x) (hy : A[i - 1]! = y) (h : ¬ x < y) : partialIns ltInt a b (s + 1) i A = partialIns ltInt a b (s + 1) (i + 1) A := by
  have e : scanSorted ltInt A b i = scanSorted ltInt A b (i + 1) := by
    rw [scanSorted, hx, hy, lt_f h, decide_eq_true hi]; rfl
  rw [Go.Sort.partialIns_succ, Go.Sort.partialIns_succ, e]
theorem pins_end : partialIns ltInt a b (s + 1) b A = (A, true) := by
  have e : scanSorted ltInt A b b = b := by rw [scanSorted, decide_eq_false (Nat.lt_irrefl b)]; rfl
  rw [Go.Sort.partialIns_succ, e, if_pos rfl]
theorem scan_stop (hi : i < b) (hx : A[i]! = x) (hy : A[i - 1]! = y) (h : x < y) : scanSorted ltInt A b i = i := by
  rw [scanSorted, hx, hy, lt_t h, decide_eq_true hi]; rfl
theorem pins_stop (hi : i < b) (hx : A[i]! = x) (hy : A[i - 1]! = y) (h : x < y) (h5 : b - a < 50) : partialIns ltInt a b (s + 1) i A = (A, false) := by
  rw [Go.Sort.partialIns_succ, scan_stop hi hx hy h, if_neg (by omega), if_pos h5]
theorem pins_go (hi : i < b) (hx : A[i]! = x) (hy : A[i - 1]! = y) (h : x < y) (h5 : ¬ b - a < 50) : partialIns ltInt a b (s + 1) i A = partialIns ltInt a b s i (Go.Sort.fixUp ltInt b i (Go.Sort.fixDown ltInt a i (swp A i (i - 1)))) := by
  rw [Go.Sort.partialIns_succ, scan_stop hi hx hy h, if_neg (by omega), if_neg h5]
theorem down_go {m : Nat} (hi : i = m + 1) (hx : A[i]! = x) (hy : A[m]! = y) (h : x < y) : shiftDown ltInt i A = shiftDown ltInt m (swp A i m) := by
  subst hi
  rw [shiftDown, hx, hy, lt_t h]; rfl
theorem down_stop {m : Nat} (hi : i = m + 1) (hx : A[i]! = x) (hy : A[m]! = y) (h : ¬ x < y) : shiftDown ltInt i A = A := by
  subst hi
  rw [shiftDown, hx, hy, lt_f h]; rfl
theorem down_end (hi : i = 0) : shiftDown ltInt i A = A := by subst hi; rw [shiftDown]
theorem up_go (hi : i < b) (hx : A[i]! = x) (hy : A[i - 1]! = y) (h : x < y) : shiftUp ltInt b i A = shiftUp ltInt b (i + 1) (swp A i (i - 1)) := by
  conv => lhs; rw [shiftUp]
  rw [if_pos hi, hx, hy, lt_t h]; rfl
theorem up_stop (hx : A[i]! = x) (hy : A[i - 1]! = y) (h : ¬ x < y) : shiftUp ltInt b i A = A := by
  rw [shiftUp, hx, hy, lt_f h]; simp
theorem up_end (hi : ¬ i < b) : shiftUp ltInt b i A = A := by rw [shiftUp, if_neg hi]
end

set_option maxHeartbeats 20000000 in
set_option maxRecDepth 100000 in
theorem partial_srt (g n c : Nat) (D : Array Int) (a b : Nat) (w : World) (hD : D.size = n) (h : Row w g n D.toList) (ha : a < b) (hb : b ≤ n) (hB : Go.Sort.Below ltInt a b D) (hn : n ≤ 1152921504606846976) :
    Calls Tryz.prog 215 #[.slice (some ⟨g, 0, none⟩) n c, .int .i64 a, .int .i64 b] w fun e w' => ∃ t : Bool, e = .returned (.bool t) ∧ Pq g n (fun A => PermIn a b D A ∧ (t = true → SortedIn ltInt a b A)) w w' := by
  have HSP := Lib.hid (Go.Sort.partialInsertionSort_holds swo_ltInt D a b ha (by rw [hD]; exact hb) hB)
  obtain ⟨T, hT⟩ : ∃ T, partialInsertionSort ltInt D a b = T := ⟨_, rfl⟩
  rw [hT] at HSP
  have hpS : Hid (Pq g n (fun A => partialIns ltInt a b 5 (a + 1) A = T) w w) := Lib.hid (Pq.start hD hT h)
  clear h hT hD hB
  go_enter Tryz.func215, Tryz.ntmps215
  go_wp2
  go_loopw [7, 8] (fun si sj wr => ∃ (I : Int) (j : Nat), (a : Int) + 1 ≤ I ∧ I ≤ b ∧ j ≤ 5 ∧ si = .int .i64 I ∧ sj = .int .i64 j ∧ Hid (Pq g n (fun A => partialIns ltInt a b (5 - j) I.toNat A = T) w wr)) (fun _ sj _ => 5 - (intOf sj).toNat)
  case atStart => exact ⟨(a : Int) + 1, 0, by omega, by omega, by omega, rfl, rfl, by rw [show ((a : Int) + 1).toNat = a + 1 by omega]; exact hpS⟩
  case round =>
    obtain ⟨I, j, hI0, hI1, hj, rfl, rfl, hp0⟩ := hrel
    by_cases hj5 : j < 5
    · have qj : decide ((j : Int) < 5) = true := by simp; omega
      obtain ⟨s, hs⟩ : ∃ s, 5 - j = s + 1 := ⟨4 - j, by omega⟩
      rw [hs] at hp0
      go_wp2
      go_loopw [7] (fun sv wq => ∃ I1 : Int, (a : Int) + 1 ≤ I1 ∧ I1 ≤ b ∧ sv = .int .i64 I1 ∧ Hid (Pq g n (fun A => partialIns ltInt a b (s + 1) I1.toNat A = T) w wq)) (fun sv _ => ((b : Int) - intOf sv).toNat)
      case atStart => exact ⟨I, hI0, hI1, rfl, hp0⟩
      case round =>
        clear hp0
        obtain ⟨I1, k0, k1, rfl, hpa⟩ := hrel
        by_cases hib : I1 < (b : Int)
        · obtain ⟨m, hm⟩ := Int.eq_ofNat_of_zero_le (show 0 ≤ I1 - 1 by omega)
          have v0 : 0 ≤ I1 := by omega
          have v1 : I1 < (n : Int) := by omega
          have v2 : (0 : Int) ≤ (m : Int) := by omega
          have v3 : (m : Int) < (n : Int) := by omega
          have hne : I1.toNat ≠ m := by omega
          have w1 : IntKind.i64.wrap (I1 - 1) = (m : Int) := by rw [hm]; exact IntWalk.i64_in _ (by omega)
          obtain ⟨d1, hs1, hp1, hr1, hg1⟩ := hpa.out
          obtain ⟨x, hx, hcx⟩ := hr1.get (show I1.toNat < n by omega)
          obtain ⟨y, hy, hcy⟩ := hr1.get (show m < n by omega)
          have fx := hr1.free I1.toNat (by omega)
          have fy := hr1.free m (by omega)
          have HX := Lib.hid hx
          have HY := Lib.hid hy
          have HR1 := Lib.hid hr1
          have HP1 := Lib.hid hp1
          have HS1 := Lib.hid hs1
          have HM := Lib.hid hm
          have HVM : Hid (I1.toNat = m + 1) := Lib.hid (by omega)
          clear hx hy hr1 hp1 hm hs1 hpa
          have qg : decide (I1 < (b : Int)) = true := by simpa using hib
          have HYP : Hid (d1[I1.toNat - 1]! = y) := Lib.hid (by rw [HVM.out]; exact bang HY.out)
          by_cases hxy : x < y
          · have q5 : decide (x < y) = true := by simpa using hxy
            have qe : (I1 == (b : Int)) = false := by rw [beq_eq_false_iff_ne]; omega
            by_cases h50 : (b : Int) - a < 50
            · have HQ : Hid (Pq g n (fun A => PermIn a b D A ∧ (false = true → SortedIn ltInt a b A)) w wr) := Lib.hid (Pq.mk' HS1.out (by
                have h9 := HP1.out
                rw [pins_stop (by omega) (bang HX.out) HYP.out hxy (by omega)] at h9
                have h8 := HSP.out.1
                rw [← h9] at h8
                exact ⟨h8, fun e => by cases e⟩) hg1 HR1.out)
              go_wp2
              go_quiet ((go_at_call 216; first | exact less_quiet _ _ | exact less_quiet2 _ _))
              go_wp2
              go_ret
              exact ⟨false, rfl, HQ.out.drewN _⟩
            · have HG9 : Hid (partialIns ltInt a b s I1.toNat (Go.Sort.fixUp ltInt b I1.toNat (Go.Sort.fixDown ltInt a I1.toNat (swp d1 I1.toNat (I1.toNat - 1)))) = T) := Lib.hid (by
                have h9 := HP1.out
                rw [pins_go (by omega) (bang HX.out) HYP.out hxy (by omega)] at h9
                exact h9)
              clear HYP
              go_wp2
              go_quiet ((go_at_call 216; first | exact less_quiet _ _ | exact less_quiet2 _ _))
              go_wp2
              generalize hwx : wr.drewN nq = wx
              have hcx2 : wx.cell? ⟨g, I1.toNat, none⟩ = some (.int .u64 x) := by rw [← hwx]; exact hcx
              have hcy2 : wx.cell? ⟨g, m, none⟩ = some (.int .u64 y) := by rw [← hwx]; exact hcy
              have fx2 : wx.frozen? ⟨g, I1.toNat, none⟩ = false := by rw [← hwx]; exact fx
              have fy2 : wx.frozen? ⟨g, m, none⟩ = false := by rw [← hwx]; exact fy
              have HRX : Hid (Row wx g n d1.toList) := by rw [← hwx]; exact HR1.out.drewN nq
              have HGX : Hid (w.grownBy wx (some g)) := by rw [← hwx]; exact hg1.trans (grown_drewN _ _ _)
              clear hwx hcx hcy fx fy HR1 hg1
              go_wp2
              go_region
              by_cases hl2 : 2 ≤ I1 - (a : Int) <;> by_cases hr2 : 2 ≤ (b : Int) - I1
              · have HQ : Hid (partialIns ltInt a b s I1.toNat (shiftUp ltInt b (I1 + 1).toNat (shiftDown ltInt m (swp d1 I1.toNat m))) = T) := Lib.hid (by
                  have h9 := HG9.out
                  unfold Go.Sort.fixUp Go.Sort.fixDown at h9
                  rw [if_pos (by omega), if_pos (by omega)] at h9
                  rw [show I1.toNat - 1 = m by have := HVM.out; omega] at h9; rw [show (I1 + 1).toNat = I1.toNat + 1 by omega]; exact h9)
                go_wp2
                have hps := Lib.hid (Pq.swap (Q := fun A => partialIns ltInt a b s I1.toNat (shiftUp ltInt b (I1 + 1).toNat (shiftDown ltInt m A)) = T) HS1.out HGX.out HRX.out HX.out HY.out 1 rfl HQ.out)
                have HMS := HM
                clear HX HY HRX HGX HP1 HS1 HM HVM HG9 HQ hcx2 hcy2 fx2 fy2 v0 v1 v2 v3 hne w1 q5 qg qe hxy
                generalize ((wx.drew.setCell ⟨g, I1.toNat, none⟩ (.int .u64 y)).setCell ⟨g, m, none⟩ (.int .u64 x)) = wy at hps ⊢
                go_loopw [9] (fun sv wq => ∃ V1 : Int, 0 ≤ V1 ∧ V1 < (b : Int) ∧ sv = .int .i64 V1 ∧ Hid (Pq g n (fun A => partialIns ltInt a b s I1.toNat (shiftUp ltInt b (I1 + 1).toNat (shiftDown ltInt (V1).toNat A)) = T) w wq)) (fun sv _ => (intOf sv).toNat)
                case atStart => exact ⟨(m : Int), by have := HMS.out; omega, by have := HMS.out; omega, by first | rfl | go_num, by rw [show ((m : Int)).toNat = m from rfl]; exact hps⟩
                case round =>
                  obtain ⟨V1, hl4, hu5, rfl, hp2⟩ := hrel
                  by_cases hvt : 1 ≤ V1
                  · obtain ⟨m, hm⟩ := Int.eq_ofNat_of_zero_le (show 0 ≤ V1 - 1 by omega)
                    have v0 : 0 ≤ V1 := by omega
                    have v1 : V1 < (n : Int) := by omega
                    have v2 : (0 : Int) ≤ (m : Int) := by omega
                    have v3 : (m : Int) < (n : Int) := by omega
                    have hne : V1.toNat ≠ m := by omega
                    have w1 : IntKind.i64.wrap (V1 - 1) = (m : Int) := by rw [hm]; exact IntWalk.i64_in _ (by omega)
                    obtain ⟨d1, hs1, hp1, hr1, hg1⟩ := hp2.out
                    obtain ⟨x, hx, hcx⟩ := hr1.get (show V1.toNat < n by omega)
                    obtain ⟨y, hy, hcy⟩ := hr1.get (show m < n by omega)
                    have fx := hr1.free V1.toNat (by omega)
                    have fy := hr1.free m (by omega)
                    have HX := Lib.hid hx
                    have HY := Lib.hid hy
                    have HR1 := Lib.hid hr1
                    have HP1 := Lib.hid hp1
                    have HS1 := Lib.hid hs1
                    have HM := Lib.hid hm
                    have HVM : Hid (V1.toNat = m + 1) := Lib.hid (by omega)
                    clear hx hy hr1 hp1 hm hs1 hp2
                    by_cases hxy : x < y
                    · have q5 : decide (x < y) = true := by simpa using hxy
                      have HQ : Hid (partialIns ltInt a b s I1.toNat (shiftUp ltInt b (I1 + 1).toNat (shiftDown ltInt ((m : Int)).toNat (swp d1 V1.toNat m))) = T) := Lib.hid (by have h9 := HP1.out; rw [down_go HVM.out (bang HX.out) (bang HY.out) hxy] at h9; exact h9)
                      go_wp2
                      go_quiet ((go_at_call 216; first | exact less_quiet _ _ | exact less_quiet2 _ _))
                      go_wp2
                      go_region
                      go_wp2
                      go_roundw
                      case rel => exact ⟨(m : Int), by have := HM.out; omega, by have := HM.out; omega, by first | rfl | go_num, Pq.swap HS1.out (hg1.trans (grown_drewN _ _ _)) (HR1.out.drewN _) HX.out HY.out 1 rfl HQ.out⟩
                      case measure => simp [intOf]; have := HM.out; omega
                    · have q5 : decide (x < y) = false := by simpa using hxy
                      have q6 : y ≤ x := by omega
                      have HQ : Hid (partialIns ltInt a b s I1.toNat (shiftUp ltInt b (I1 + 1).toNat d1) = T) := Lib.hid (by have h9 := HP1.out; rw [down_stop HVM.out (bang HX.out) (bang HY.out) hxy] at h9; exact h9)
                      go_wp2
                      go_quiet ((go_at_call 216; first | exact less_quiet _ _ | exact less_quiet2 _ _))
                      go_wp2
                      have hp3 := Lib.hid ((Pq.mk' (P := fun A => partialIns ltInt a b s I1.toNat (shiftUp ltInt b (I1 + 1).toNat A) = T) HS1.out HQ.out hg1 HR1.out).drewN nq)
                      clear HX HY HR1 HP1 HS1 HM HVM hcx hcy fx fy hg1 v0 v1 v2 v3 hne w1 q5 q6 hxy HQ
                      generalize wr.drewN nq = wx at hp3 ⊢
                      go_loopw [10] (fun sv wq => ∃ V6 : Int, I1 + 1 ≤ V6 ∧ V6 ≤ (b : Int) ∧ sv = .int .i64 V6 ∧ Hid (Pq g n (fun A => partialIns ltInt a b s I1.toNat (shiftUp ltInt b (V6).toNat A) = T) w wq)) (fun sv _ => ((b : Int) - intOf sv).toNat)
                      case atStart => exact ⟨I1 + 1, by omega, by omega, by first | rfl | go_num, hp3⟩
                      case round =>
                        obtain ⟨V6, hl9, hu10, rfl, hp7⟩ := hrel
                        by_cases hvt : V6 < (b : Int)
                        · obtain ⟨m, hm⟩ := Int.eq_ofNat_of_zero_le (show 0 ≤ V6 - 1 by omega)
                          have v0 : 0 ≤ V6 := by omega
                          have v1 : V6 < (n : Int) := by omega
                          have v2 : (0 : Int) ≤ (m : Int) := by omega
                          have v3 : (m : Int) < (n : Int) := by omega
                          have hne : V6.toNat ≠ m := by omega
                          have w1 : IntKind.i64.wrap (V6 - 1) = (m : Int) := by rw [hm]; exact IntWalk.i64_in _ (by omega)
                          obtain ⟨d1, hs1, hp1, hr1, hg1⟩ := hp7.out
                          obtain ⟨x, hx, hcx⟩ := hr1.get (show V6.toNat < n by omega)
                          obtain ⟨y, hy, hcy⟩ := hr1.get (show m < n by omega)
                          have fx := hr1.free V6.toNat (by omega)
                          have fy := hr1.free m (by omega)
                          have HX := Lib.hid hx
                          have HY := Lib.hid hy
                          have HR1 := Lib.hid hr1
                          have HP1 := Lib.hid hp1
                          have HS1 := Lib.hid hs1
                          have HM := Lib.hid hm
                          have HVM : Hid (V6.toNat = m + 1) := Lib.hid (by omega)
                          clear hx hy hr1 hp1 hm hs1 hp7
                          by_cases hxy : x < y
                          · have q5 : decide (x < y) = true := by simpa using hxy
                            have HQ : Hid (partialIns ltInt a b s I1.toNat (shiftUp ltInt b (V6 + 1).toNat (swp d1 V6.toNat m)) = T) := Lib.hid (by have h9 := HP1.out; rw [up_go (by omega) (bang HX.out) (by rw [HVM.out]; exact bang HY.out) hxy] at h9; rw [show (V6 + 1).toNat = V6.toNat + 1 by omega]; rw [show V6.toNat - 1 = m by have := HVM.out; omega] at h9; exact h9)
                            go_wp2
                            go_quiet ((go_at_call 216; first | exact less_quiet _ _ | exact less_quiet2 _ _))
                            go_wp2
                            go_region
                            go_wp2
                            go_roundw
                            case rel => exact ⟨V6 + 1, by have := HM.out; omega, by have := HM.out; omega, by first | rfl | go_num, Pq.swap HS1.out (hg1.trans (grown_drewN _ _ _)) (HR1.out.drewN _) HX.out HY.out 1 rfl HQ.out⟩
                            case measure => simp [intOf]; have := HM.out; omega
                          · have q5 : decide (x < y) = false := by simpa using hxy
                            have q6 : y ≤ x := by omega
                            have HQ : Hid (partialIns ltInt a b s I1.toNat d1 = T) := Lib.hid (by have h9 := HP1.out; rw [up_stop (bang HX.out) (by rw [HVM.out]; exact bang HY.out) hxy] at h9; exact h9)
                            go_wp2
                            go_quiet ((go_at_call 216; first | exact less_quiet _ _ | exact less_quiet2 _ _))
                            go_wp2
                            have hp8 := Lib.hid ((Pq.mk' (P := fun A => partialIns ltInt a b s I1.toNat A = T) HS1.out HQ.out hg1 HR1.out).drewN nq)
                            clear HX HY HR1 HP1 HS1 HM HVM hcx hcy fx fy hg1 v0 v1 v2 v3 hne w1 q5 q6 hxy HQ
                            generalize wr.drewN nq = wx at hp8 ⊢
                            go_roundw
                            case rel => first | exact ⟨I1, j + 1, by omega, by omega, by omega, rfl, by go_num, by rw [show 5 - (j + 1) = s by omega]; exact hp8.out⟩ | ((repeat apply Exists.intro); exact ⟨⟨I1, j + 1, by omega, by omega, by omega, rfl, by go_num, by rw [show 5 - (j + 1) = s by omega]; exact hp8.out⟩, rfl⟩)
                            case measure => simp [intOf] <;> omega
                        · have HQ : Hid (Pq g n (fun A => partialIns ltInt a b s I1.toNat A = T) w wr) := Lib.hid (hp7.out.imp fun A _ h9 => by rw [up_end (by omega)] at h9; exact h9)
                          clear hp7
                          go_wp2
                          go_roundw
                          case rel => first | exact ⟨I1, j + 1, by omega, by omega, by omega, rfl, by go_num, by rw [show 5 - (j + 1) = s by omega]; exact HQ.out⟩ | ((repeat apply Exists.intro); exact ⟨⟨I1, j + 1, by omega, by omega, by omega, rfl, by go_num, by rw [show 5 - (j + 1) = s by omega]; exact HQ.out⟩, rfl⟩)
                          case measure => simp [intOf] <;> omega
                  · have HQ : Hid (Pq g n (fun A => partialIns ltInt a b s I1.toNat (shiftUp ltInt b (I1 + 1).toNat A) = T) w wr) := Lib.hid (hp2.out.imp fun A _ h9 => by rw [down_end (show V1.toNat = 0 by omega)] at h9; exact h9)
                    clear hp2
                    go_wp2
                    go_loopw [10] (fun sv wq => ∃ V11 : Int, I1 + 1 ≤ V11 ∧ V11 ≤ (b : Int) ∧ sv = .int .i64 V11 ∧ Hid (Pq g n (fun A => partialIns ltInt a b s I1.toNat (shiftUp ltInt b (V11).toNat A) = T) w wq)) (fun sv _ => ((b : Int) - intOf sv).toNat)
                    case atStart => exact ⟨I1 + 1, by omega, by omega, by first | rfl | go_num, HQ⟩
                    case round =>
                      obtain ⟨V11, hl14, hu15, rfl, hp12⟩ := hrel
                      by_cases hvt : V11 < (b : Int)
                      · obtain ⟨m, hm⟩ := Int.eq_ofNat_of_zero_le (show 0 ≤ V11 - 1 by omega)
                        have v0 : 0 ≤ V11 := by omega
                        have v1 : V11 < (n : Int) := by omega
                        have v2 : (0 : Int) ≤ (m : Int) := by omega
                        have v3 : (m : Int) < (n : Int) := by omega
                        have hne : V11.toNat ≠ m := by omega
                        have w1 : IntKind.i64.wrap (V11 - 1) = (m : Int) := by rw [hm]; exact IntWalk.i64_in _ (by omega)
                        obtain ⟨d1, hs1, hp1, hr1, hg1⟩ := hp12.out
                        obtain ⟨x, hx, hcx⟩ := hr1.get (show V11.toNat < n by omega)
                        obtain ⟨y, hy, hcy⟩ := hr1.get (show m < n by omega)
                        have fx := hr1.free V11.toNat (by omega)
                        have fy := hr1.free m (by omega)
                        have HX := Lib.hid hx
                        have HY := Lib.hid hy
                        have HR1 := Lib.hid hr1
                        have HP1 := Lib.hid hp1
                        have HS1 := Lib.hid hs1
                        have HM := Lib.hid hm
                        have HVM : Hid (V11.toNat = m + 1) := Lib.hid (by omega)
                        clear hx hy hr1 hp1 hm hs1 hp12
                        by_cases hxy : x < y
                        · have q5 : decide (x < y) = true := by simpa using hxy
                          have HQ : Hid (partialIns ltInt a b s I1.toNat (shiftUp ltInt b (V11 + 1).toNat (swp d1 V11.toNat m)) = T) := Lib.hid (by have h9 := HP1.out; rw [up_go (by omega) (bang HX.out) (by rw [HVM.out]; exact bang HY.out) hxy] at h9; rw [show (V11 + 1).toNat = V11.toNat + 1 by omega]; rw [show V11.toNat - 1 = m by have := HVM.out; omega] at h9; exact h9)
                          go_wp2
                          go_quiet ((go_at_call 216; first | exact less_quiet _ _ | exact less_quiet2 _ _))
                          go_wp2
                          go_region
                          go_wp2
                          go_roundw
                          case rel => exact ⟨V11 + 1, by have := HM.out; omega, by have := HM.out; omega, by first | rfl | go_num, Pq.swap HS1.out (hg1.trans (grown_drewN _ _ _)) (HR1.out.drewN _) HX.out HY.out 1 rfl HQ.out⟩
                          case measure => simp [intOf]; have := HM.out; omega
                        · have q5 : decide (x < y) = false := by simpa using hxy
                          have q6 : y ≤ x := by omega
                          have HQ : Hid (partialIns ltInt a b s I1.toNat d1 = T) := Lib.hid (by have h9 := HP1.out; rw [up_stop (bang HX.out) (by rw [HVM.out]; exact bang HY.out) hxy] at h9; exact h9)
                          go_wp2
                          go_quiet ((go_at_call 216; first | exact less_quiet _ _ | exact less_quiet2 _ _))
                          go_wp2
                          have hp13 := Lib.hid ((Pq.mk' (P := fun A => partialIns ltInt a b s I1.toNat A = T) HS1.out HQ.out hg1 HR1.out).drewN nq)
                          clear HX HY HR1 HP1 HS1 HM HVM hcx hcy fx fy hg1 v0 v1 v2 v3 hne w1 q5 q6 hxy HQ
                          generalize wr.drewN nq = wx at hp13 ⊢
                          go_roundw
                          case rel => first | exact ⟨I1, j + 1, by omega, by omega, by omega, rfl, by go_num, by rw [show 5 - (j + 1) = s by omega]; exact hp13.out⟩ | ((repeat apply Exists.intro); exact ⟨⟨I1, j + 1, by omega, by omega, by omega, rfl, by go_num, by rw [show 5 - (j + 1) = s by omega]; exact hp13.out⟩, rfl⟩)
                          case measure => simp [intOf] <;> omega
                      · have HQ : Hid (Pq g n (fun A => partialIns ltInt a b s I1.toNat A = T) w wr) := Lib.hid (hp12.out.imp fun A _ h9 => by rw [up_end (by omega)] at h9; exact h9)
                        clear hp12
                        go_wp2
                        go_roundw
                        case rel => first | exact ⟨I1, j + 1, by omega, by omega, by omega, rfl, by go_num, by rw [show 5 - (j + 1) = s by omega]; exact HQ.out⟩ | ((repeat apply Exists.intro); exact ⟨⟨I1, j + 1, by omega, by omega, by omega, rfl, by go_num, by rw [show 5 - (j + 1) = s by omega]; exact HQ.out⟩, rfl⟩)
                        case measure => simp [intOf] <;> omega
              · have HQ : Hid (partialIns ltInt a b s I1.toNat (shiftDown ltInt m (swp d1 I1.toNat m)) = T) := Lib.hid (by
                  have h9 := HG9.out
                  unfold Go.Sort.fixUp Go.Sort.fixDown at h9
                  rw [if_neg (by omega), if_pos (by omega)] at h9
                  rw [show I1.toNat - 1 = m by have := HVM.out; omega] at h9; exact h9)
                go_wp2
                have hps := Lib.hid (Pq.swap (Q := fun A => partialIns ltInt a b s I1.toNat (shiftDown ltInt m A) = T) HS1.out HGX.out HRX.out HX.out HY.out 1 rfl HQ.out)
                have HMS := HM
                clear HX HY HRX HGX HP1 HS1 HM HVM HG9 HQ hcx2 hcy2 fx2 fy2 v0 v1 v2 v3 hne w1 q5 qg qe hxy
                generalize ((wx.drew.setCell ⟨g, I1.toNat, none⟩ (.int .u64 y)).setCell ⟨g, m, none⟩ (.int .u64 x)) = wy at hps ⊢
                go_loopw [9] (fun sv wq => ∃ V16 : Int, 0 ≤ V16 ∧ V16 < (b : Int) ∧ sv = .int .i64 V16 ∧ Hid (Pq g n (fun A => partialIns ltInt a b s I1.toNat (shiftDown ltInt (V16).toNat A) = T) w wq)) (fun sv _ => (intOf sv).toNat)
                case atStart => exact ⟨(m : Int), by have := HMS.out; omega, by have := HMS.out; omega, by first | rfl | go_num, by rw [show ((m : Int)).toNat = m from rfl]; exact hps⟩
                case round =>
                  obtain ⟨V16, hl19, hu20, rfl, hp17⟩ := hrel
                  by_cases hvt : 1 ≤ V16
                  · obtain ⟨m, hm⟩ := Int.eq_ofNat_of_zero_le (show 0 ≤ V16 - 1 by omega)
                    have v0 : 0 ≤ V16 := by omega
                    have v1 : V16 < (n : Int) := by omega
                    have v2 : (0 : Int) ≤ (m : Int) := by omega
                    have v3 : (m : Int) < (n : Int) := by omega
                    have hne : V16.toNat ≠ m := by omega
                    have w1 : IntKind.i64.wrap (V16 - 1) = (m : Int) := by rw [hm]; exact IntWalk.i64_in _ (by omega)
                    obtain ⟨d1, hs1, hp1, hr1, hg1⟩ := hp17.out
                    obtain ⟨x, hx, hcx⟩ := hr1.get (show V16.toNat < n by omega)
                    obtain ⟨y, hy, hcy⟩ := hr1.get (show m < n by omega)
                    have fx := hr1.free V16.toNat (by omega)
                    have fy := hr1.free m (by omega)
                    have HX := Lib.hid hx
                    have HY := Lib.hid hy
                    have HR1 := Lib.hid hr1
                    have HP1 := Lib.hid hp1
                    have HS1 := Lib.hid hs1
                    have HM := Lib.hid hm
                    have HVM : Hid (V16.toNat = m + 1) := Lib.hid (by omega)
                    clear hx hy hr1 hp1 hm hs1 hp17
                    by_cases hxy : x < y
                    · have q5 : decide (x < y) = true := by simpa using hxy
                      have HQ : Hid (partialIns ltInt a b s I1.toNat (shiftDown ltInt ((m : Int)).toNat (swp d1 V16.toNat m)) = T) := Lib.hid (by have h9 := HP1.out; rw [down_go HVM.out (bang HX.out) (bang HY.out) hxy] at h9; exact h9)
                      go_wp2
                      go_quiet ((go_at_call 216; first | exact less_quiet _ _ | exact less_quiet2 _ _))
                      go_wp2
                      go_region
                      go_wp2
                      go_roundw
                      case rel => exact ⟨(m : Int), by have := HM.out; omega, by have := HM.out; omega, by first | rfl | go_num, Pq.swap HS1.out (hg1.trans (grown_drewN _ _ _)) (HR1.out.drewN _) HX.out HY.out 1 rfl HQ.out⟩
                      case measure => simp [intOf]; have := HM.out; omega
                    · have q5 : decide (x < y) = false := by simpa using hxy
                      have q6 : y ≤ x := by omega
                      have HQ : Hid (partialIns ltInt a b s I1.toNat d1 = T) := Lib.hid (by have h9 := HP1.out; rw [down_stop HVM.out (bang HX.out) (bang HY.out) hxy] at h9; exact h9)
                      go_wp2
                      go_quiet ((go_at_call 216; first | exact less_quiet _ _ | exact less_quiet2 _ _))
                      go_wp2
                      have hp18 := Lib.hid ((Pq.mk' (P := fun A => partialIns ltInt a b s I1.toNat A = T) HS1.out HQ.out hg1 HR1.out).drewN nq)
                      clear HX HY HR1 HP1 HS1 HM HVM hcx hcy fx fy hg1 v0 v1 v2 v3 hne w1 q5 q6 hxy HQ
                      generalize wr.drewN nq = wx at hp18 ⊢
                      go_roundw
                      case rel => first | exact ⟨I1, j + 1, by omega, by omega, by omega, rfl, by go_num, by rw [show 5 - (j + 1) = s by omega]; exact hp18.out⟩ | ((repeat apply Exists.intro); exact ⟨⟨I1, j + 1, by omega, by omega, by omega, rfl, by go_num, by rw [show 5 - (j + 1) = s by omega]; exact hp18.out⟩, rfl⟩)
                      case measure => simp [intOf] <;> omega
                  · have HQ : Hid (Pq g n (fun A => partialIns ltInt a b s I1.toNat A = T) w wr) := Lib.hid (hp17.out.imp fun A _ h9 => by rw [down_end (show V16.toNat = 0 by omega)] at h9; exact h9)
                    clear hp17
                    go_wp2
                    go_roundw
                    case rel => first | exact ⟨I1, j + 1, by omega, by omega, by omega, rfl, by go_num, by rw [show 5 - (j + 1) = s by omega]; exact HQ.out⟩ | ((repeat apply Exists.intro); exact ⟨⟨I1, j + 1, by omega, by omega, by omega, rfl, by go_num, by rw [show 5 - (j + 1) = s by omega]; exact HQ.out⟩, rfl⟩)
                    case measure => simp [intOf] <;> omega
              · have HQ : Hid (partialIns ltInt a b s I1.toNat (shiftUp ltInt b (I1 + 1).toNat (swp d1 I1.toNat m)) = T) := Lib.hid (by
                  have h9 := HG9.out
                  unfold Go.Sort.fixUp Go.Sort.fixDown at h9
                  rw [if_pos (by omega), if_neg (by omega)] at h9
                  rw [show I1.toNat - 1 = m by have := HVM.out; omega] at h9; rw [show (I1 + 1).toNat = I1.toNat + 1 by omega]; exact h9)
                go_wp2
                have hps := Lib.hid (Pq.swap (Q := fun A => partialIns ltInt a b s I1.toNat (shiftUp ltInt b (I1 + 1).toNat A) = T) HS1.out HGX.out HRX.out HX.out HY.out 1 rfl HQ.out)
                have HMS := HM
                clear HX HY HRX HGX HP1 HS1 HM HVM HG9 HQ hcx2 hcy2 fx2 fy2 v0 v1 v2 v3 hne w1 q5 qg qe hxy
                generalize ((wx.drew.setCell ⟨g, I1.toNat, none⟩ (.int .u64 y)).setCell ⟨g, m, none⟩ (.int .u64 x)) = wy at hps ⊢
                go_loopw [10] (fun sv wq => ∃ V24 : Int, I1 + 1 ≤ V24 ∧ V24 ≤ (b : Int) ∧ sv = .int .i64 V24 ∧ Hid (Pq g n (fun A => partialIns ltInt a b s I1.toNat (shiftUp ltInt b (V24).toNat A) = T) w wq)) (fun sv _ => ((b : Int) - intOf sv).toNat)
                case atStart => exact ⟨I1 + 1, by omega, by omega, by first | rfl | go_num, hps⟩
                case round =>
                  obtain ⟨V24, hl27, hu28, rfl, hp25⟩ := hrel
                  by_cases hvt : V24 < (b : Int)
                  · obtain ⟨m, hm⟩ := Int.eq_ofNat_of_zero_le (show 0 ≤ V24 - 1 by omega)
                    have v0 : 0 ≤ V24 := by omega
                    have v1 : V24 < (n : Int) := by omega
                    have v2 : (0 : Int) ≤ (m : Int) := by omega
                    have v3 : (m : Int) < (n : Int) := by omega
                    have hne : V24.toNat ≠ m := by omega
                    have w1 : IntKind.i64.wrap (V24 - 1) = (m : Int) := by rw [hm]; exact IntWalk.i64_in _ (by omega)
                    obtain ⟨d1, hs1, hp1, hr1, hg1⟩ := hp25.out
                    obtain ⟨x, hx, hcx⟩ := hr1.get (show V24.toNat < n by omega)
                    obtain ⟨y, hy, hcy⟩ := hr1.get (show m < n by omega)
                    have fx := hr1.free V24.toNat (by omega)
                    have fy := hr1.free m (by omega)
                    have HX := Lib.hid hx
                    have HY := Lib.hid hy
                    have HR1 := Lib.hid hr1
                    have HP1 := Lib.hid hp1
                    have HS1 := Lib.hid hs1
                    have HM := Lib.hid hm
                    have HVM : Hid (V24.toNat = m + 1) := Lib.hid (by omega)
                    clear hx hy hr1 hp1 hm hs1 hp25
                    by_cases hxy : x < y
                    · have q5 : decide (x < y) = true := by simpa using hxy
                      have HQ : Hid (partialIns ltInt a b s I1.toNat (shiftUp ltInt b (V24 + 1).toNat (swp d1 V24.toNat m)) = T) := Lib.hid (by have h9 := HP1.out; rw [up_go (by omega) (bang HX.out) (by rw [HVM.out]; exact bang HY.out) hxy] at h9; rw [show (V24 + 1).toNat = V24.toNat + 1 by omega]; rw [show V24.toNat - 1 = m by have := HVM.out; omega] at h9; exact h9)
                      go_wp2
                      go_quiet ((go_at_call 216; first | exact less_quiet _ _ | exact less_quiet2 _ _))
                      go_wp2
                      go_region
                      go_wp2
                      go_roundw
                      case rel => exact ⟨V24 + 1, by have := HM.out; omega, by have := HM.out; omega, by first | rfl | go_num, Pq.swap HS1.out (hg1.trans (grown_drewN _ _ _)) (HR1.out.drewN _) HX.out HY.out 1 rfl HQ.out⟩
                      case measure => simp [intOf]; have := HM.out; omega
                    · have q5 : decide (x < y) = false := by simpa using hxy
                      have q6 : y ≤ x := by omega
                      have HQ : Hid (partialIns ltInt a b s I1.toNat d1 = T) := Lib.hid (by have h9 := HP1.out; rw [up_stop (bang HX.out) (by rw [HVM.out]; exact bang HY.out) hxy] at h9; exact h9)
                      go_wp2
                      go_quiet ((go_at_call 216; first | exact less_quiet _ _ | exact less_quiet2 _ _))
                      go_wp2
                      have hp26 := Lib.hid ((Pq.mk' (P := fun A => partialIns ltInt a b s I1.toNat A = T) HS1.out HQ.out hg1 HR1.out).drewN nq)
                      clear HX HY HR1 HP1 HS1 HM HVM hcx hcy fx fy hg1 v0 v1 v2 v3 hne w1 q5 q6 hxy HQ
                      generalize wr.drewN nq = wx at hp26 ⊢
                      go_roundw
                      case rel => first | exact ⟨I1, j + 1, by omega, by omega, by omega, rfl, by go_num, by rw [show 5 - (j + 1) = s by omega]; exact hp26.out⟩ | ((repeat apply Exists.intro); exact ⟨⟨I1, j + 1, by omega, by omega, by omega, rfl, by go_num, by rw [show 5 - (j + 1) = s by omega]; exact hp26.out⟩, rfl⟩)
                      case measure => simp [intOf] <;> omega
                  · have HQ : Hid (Pq g n (fun A => partialIns ltInt a b s I1.toNat A = T) w wr) := Lib.hid (hp25.out.imp fun A _ h9 => by rw [up_end (by omega)] at h9; exact h9)
                    clear hp25
                    go_wp2
                    go_roundw
                    case rel => first | exact ⟨I1, j + 1, by omega, by omega, by omega, rfl, by go_num, by rw [show 5 - (j + 1) = s by omega]; exact HQ.out⟩ | ((repeat apply Exists.intro); exact ⟨⟨I1, j + 1, by omega, by omega, by omega, rfl, by go_num, by rw [show 5 - (j + 1) = s by omega]; exact HQ.out⟩, rfl⟩)
                    case measure => simp [intOf] <;> omega
              · have HQ : Hid (partialIns ltInt a b s I1.toNat (swp d1 I1.toNat m) = T) := Lib.hid (by
                  have h9 := HG9.out
                  unfold Go.Sort.fixUp Go.Sort.fixDown at h9
                  rw [if_neg (by omega), if_neg (by omega)] at h9
                  rw [show I1.toNat - 1 = m by have := HVM.out; omega] at h9; exact h9)
                go_wp2
                have hps := Lib.hid (Pq.swap (Q := fun A => partialIns ltInt a b s I1.toNat A = T) HS1.out HGX.out HRX.out HX.out HY.out 1 rfl HQ.out)
                have HMS := HM
                clear HX HY HRX HGX HP1 HS1 HM HVM HG9 HQ hcx2 hcy2 fx2 fy2 v0 v1 v2 v3 hne w1 q5 qg qe hxy
                generalize ((wx.drew.setCell ⟨g, I1.toNat, none⟩ (.int .u64 y)).setCell ⟨g, m, none⟩ (.int .u64 x)) = wy at hps ⊢
                go_roundw
                case rel => first | exact ⟨I1, j + 1, by omega, by omega, by omega, rfl, by go_num, by rw [show 5 - (j + 1) = s by omega]; exact hps.out⟩ | ((repeat apply Exists.intro); exact ⟨⟨I1, j + 1, by omega, by omega, by omega, rfl, by go_num, by rw [show 5 - (j + 1) = s by omega]; exact hps.out⟩, rfl⟩)
                case measure => simp [intOf] <;> omega
          · have q5 : decide (x < y) = false := by simpa using hxy
            have q6 : y ≤ x := by omega
            have HQ : Hid (Pq g n (fun A => partialIns ltInt a b (s + 1) (I1 + 1).toNat A = T) w wr) := Lib.hid (Pq.mk' HS1.out (by
              have h9 := HP1.out
              rw [pins_up (by omega) (bang HX.out) HYP.out hxy] at h9
              rw [show (I1 + 1).toNat = I1.toNat + 1 by omega]; exact h9) hg1 HR1.out)
            go_wp2
            go_quiet ((go_at_call 216; first | exact less_quiet _ _ | exact less_quiet2 _ _))
            go_wp2
            go_roundw
            case rel => first | exact ⟨I1 + 1, by omega, by omega, by go_num, HQ.out.drewN _⟩ | ((repeat apply Exists.intro); exact ⟨⟨I1 + 1, by omega, by omega, by go_num, HQ.out.drewN _⟩, rfl⟩)
            case measure => simp [intOf] <;> omega
        · have qg : decide (I1 < (b : Int)) = false := by simpa using hib
          obtain rfl : I1 = (b : Int) := by omega
          have HQ : Hid (Pq g n (fun A => PermIn a b D A ∧ SortedIn ltInt a b A) w wr) := Lib.hid (hpa.out.imp fun A _ h9 => by
            rw [show ((b : Int)).toNat = b from rfl, pins_end] at h9
            have h8 := HSP.out
            rw [← h9] at h8
            exact ⟨h8.1, h8.2 rfl⟩)
          clear hpa
          go_wp2
          go_quiet (fail)
          go_wp2
          go_ret
          exact ⟨true, rfl, (HQ.out.imp fun A _ h => ⟨h.1, fun _ => h.2⟩).drewN _⟩
    · have HQ : Hid (Pq g n (fun A => PermIn a b D A ∧ (false = true → SortedIn ltInt a b A)) w wr) := Lib.hid (hp0.out.imp fun A _ h9 => by
        rw [show 5 - j = 0 by omega, partialIns] at h9
        have h8 := HSP.out.1
        rw [← h9] at h8
        exact ⟨h8, fun e => by cases e⟩)
      clear hp0
      go_wp2
      go_ret
      exact ⟨false, rfl, HQ.out⟩
end Go.Proofs.YtlpjlphofjghhaaGreatDoor.So
/- The library's sort at uint64, in order: the choice of a pivot turns nothing. -/
namespace Go.Proofs.YtlpjlphofjghhaaGreatDoor.So
open Go.ChangeShapes Go.WideShapes Go.ChangeAt Go.RowKit Rw
set_option linter.unusedVariables false

set_option maxHeartbeats 4000000 in
set_option maxRecDepth 100000 in
theorem pivot_srt (g n c : Nat) (d : List Int) (a b : Nat) (w : World) (h : Row w g n d) (hab : a + 12 < b) (hb : b ≤ n) (hn : n ≤ 1152921504606846976) :
    Calls Tryz.prog 213 #[.slice (some ⟨g, 0, none⟩) n c, .int .i64 a, .int .i64 b] w (Piv a b (fun w' => Row w' g n d ∧ w.grownBy w' (some g))) := by
  have hgl := h.lt (by omega)
  have HR := Lib.hid h
  clear h
  obtain ⟨q, hq⟩ : ∃ q : Nat, b = a + q := ⟨b - a, by omega⟩
  obtain ⟨t, ht⟩ : ∃ t : Nat, t = q / 4 := ⟨_, rfl⟩
  have e1 : (b : Int) - (a : Int) = (q : Int) := by omega
  have e2 : (q : Int) / 4 = (t : Int) := by omega
  have ht0 : 3 ≤ t := by omega
  have ht1 : t * 4 ≤ q := by omega
  have hqb : a + q = b := by omega
  have HQ := Lib.hid hqb
  clear hq ht hqb
  have hqn : a + q ≤ n := by have := HQ.out; omega
  have ra : Row (w.alloc (.cells #[.int .i64 0] 3)) g n d := ⟨HR.out.len, fun j x hx => alloc_cell (HR.out.cell j x hx) _, fun j hj => alloc_frozen (HR.out.free j hj) hgl _⟩
  have sc : ∃ k : Int, (w.alloc (.cells #[.int .i64 0] 3)).cell? ⟨w.heap.size, 0, none⟩ = some (.int .i64 k) := ⟨0, by go_simp⟩
  have sf : (w.alloc (.cells #[.int .i64 0] 3)).frozen? ⟨w.heap.size, 0, none⟩ = false := by go_simp
  have hne : w.heap.size ≠ g := by omega
  have RA := Lib.hid ra
  have SC := Lib.hid sc
  have SF := Lib.hid sf
  have HNE := Lib.hid hne
  clear ra sc sf hne
  by_cases h50 : 50 ≤ q
  · go_enter Tryz.func213, Tryz.ntmps213
    go_wp2_with fail
    rw [show (a : Int) + (t : Int) = ((a + t : Nat) : Int) by omega]
    refine (adjacent_any g n c w.heap.size d (a + t) _ RA.out (by omega) (by omega) hn SC.out SF.out HNE.out).mono ?_
    rintro e w1 ⟨r1, rfl, hr1, h1⟩
    have H1 := Lib.hid h1
    clear h1
    go_wp2_with fail
    rw [show (a : Int) + (t : Int) * 2 = ((a + t * 2 : Nat) : Int) by omega]
    refine (adjacent_any g n c w.heap.size d (a + t * 2) _ H1.out.row (by omega) (by omega) hn H1.out.cell H1.out.free HNE.out).mono ?_
    rintro e w2 ⟨r2, rfl, hr2, h2⟩
    have H2 := Lib.hid h2
    clear h2
    go_wp2_with fail
    rw [show (a : Int) + (t : Int) * 3 = ((a + t * 3 : Nat) : Int) by omega]
    refine (adjacent_any g n c w.heap.size d (a + t * 3) _ H2.out.row (by omega) (by omega) hn H2.out.cell H2.out.free HNE.out).mono ?_
    rintro e w3 ⟨r3, rfl, hr3, h3⟩
    have H3 := Lib.hid h3
    clear h3
    go_wp2_with fail
    refine (median_any g n c w.heap.size d r1 r2 r3 _ H3.out.row (by omega) (by omega) (by omega) hn H3.out.cell H3.out.free HNE.out).mono ?_
    rintro e W9 ⟨r, rfl, hr, h4⟩
    have HT := Lib.hid (((H1.out.trans H2.out).trans H3.out).trans h4); clear h4
    obtain ⟨k, hk⟩ := HT.out.cell
    have hP : Row W9 g n d ∧ w.grownBy W9 (some g) := ⟨HT.out.row, grown_new HT.out.grown _⟩
    have HPP := Lib.hid hP
    clear hP
    by_cases k0 : k = 0
    · subst k0
      go_wp2_with fail
      go_ret2
      exact ⟨r, 1, rfl, by have := HQ.out; omega, by have := HQ.out; omega, by omega, HPP.out⟩
    · have q0 : (k == 0) = false := by simpa using k0
      by_cases k12 : k = 12
      · subst k12
        go_wp2_with fail
        go_ret2
        exact ⟨r, 2, rfl, by have := HQ.out; omega, by have := HQ.out; omega, by omega, HPP.out⟩
      · have q12 : (k == 12) = false := by simpa using k12
        go_wp2_with fail
        go_ret2
        exact ⟨r, 0, rfl, by have := HQ.out; omega, by have := HQ.out; omega, by omega, HPP.out⟩
  · have h50' : q < 50 := by omega
    go_enter Tryz.func213, Tryz.ntmps213
    go_wp2_with fail
    rw [show (a : Int) + (t : Int) = ((a + t : Nat) : Int) by omega, show (a : Int) + (t : Int) * 2 = ((a + t * 2 : Nat) : Int) by omega, show (a : Int) + (t : Int) * 3 = ((a + t * 3 : Nat) : Int) by omega]
    refine (median_any g n c w.heap.size d (a + t) (a + t * 2) (a + t * 3) _ RA.out (by omega) (by omega) (by omega) hn SC.out SF.out HNE.out).mono ?_
    rintro e W9 ⟨r, rfl, hr, h4⟩
    have HT := Lib.hid h4; clear h4
    obtain ⟨k, hk⟩ := HT.out.cell
    have hP : Row W9 g n d ∧ w.grownBy W9 (some g) := ⟨HT.out.row, grown_new HT.out.grown _⟩
    have HPP := Lib.hid hP
    clear hP
    by_cases k0 : k = 0
    · subst k0
      go_wp2_with fail
      go_ret2
      exact ⟨r, 1, rfl, by have := HQ.out; omega, by have := HQ.out; omega, by omega, HPP.out⟩
    · have q0 : (k == 0) = false := by simpa using k0
      by_cases k12 : k = 12
      · subst k12
        go_wp2_with fail
        go_ret2
        exact ⟨r, 2, rfl, by have := HQ.out; omega, by have := HQ.out; omega, by omega, HPP.out⟩
      · have q12 : (k == 12) = false := by simpa using k12
        go_wp2_with fail
        go_ret2
        exact ⟨r, 0, rfl, by have := HQ.out; omega, by have := HQ.out; omega, by omega, HPP.out⟩
end Go.Proofs.YtlpjlphofjghhaaGreatDoor.So
/- The library's sort at uint64, in order: a part reversed; what breaks patterns. -/
namespace Go.Proofs.YtlpjlphofjghhaaGreatDoor.So
open Go.ChangeShapes Go.WideShapes Go.ChangeAt Go.RowKit Rw
open Go.Sort (swp ltInt PermIn SortedIn)
set_option linter.unusedVariables false

/-- A row of which P holds; the random walk's number, in block rb. -/
def Sq (g n rb : Nat) (P : Array Int → Prop) (w w' : World) : Prop := ∃ (A : Array Int) (v : Int), A.size = n ∧ P A ∧ Row w' g n A.toList ∧ w'.cell? ⟨rb, 0, none⟩ = some (.int .u64 v) ∧ w'.frozen? ⟨rb, 0, none⟩ = false ∧ w.grownBy w' (some g)
theorem Sq.of {g n rb : Nat} {P : Array Int → Prop} {w w1 w2 : World} {v : Int} (h : Pq g n P w1 w2) (hg : w.grownBy w1 (some g)) (hc : w1.cell? ⟨rb, 0, none⟩ = some (.int .u64 v)) (hf : w1.frozen? ⟨rb, 0, none⟩ = false) (hne : rb ≠ g) : Sq g n rb P w w2 := by
  obtain ⟨A, h0, h1, h2, h3⟩ := h
  exact ⟨A, v, h0, h1, h2, h3.cell hc (by simp; exact hne), grown_frozen h3 hf (Lw.lt_heap hc) (by simp; exact hne), hg.trans h3⟩
set_option maxHeartbeats 2000000 in
set_option maxRecDepth 100000 in
theorem reverse_srt (g n c : Nat) (D : Array Int) (a b : Nat) (w : World) (hD : D.size = n) (h : Row w g n D.toList) (ha : a ≤ b) (hb : b ≤ n) (hn : n ≤ 9223372036854775807) :
    Calls Tryz.prog 214 #[.slice (some ⟨g, 0, none⟩) n c, .int .i64 a, .int .i64 b] w fun e w' => e = .returned (.tuple #[]) ∧ Pq g n (fun A => PermIn a b D A) w w' := by
  have HR : Hid (Pq g n (fun A => PermIn a b D A) w w) := Lib.hid (Pq.start hD (Go.Sort.permIn_refl D a b) h)
  clear h hD
  go_enter Tryz.func214, Tryz.ntmps214
  go_wp2
  go_loopw [6, 7] (fun si sj wr => ∃ (i : Nat) (j : Int), a ≤ i ∧ i ≤ n ∧ -1 ≤ j ∧ j < b ∧ si = .int .i64 i ∧ sj = .int .i64 j ∧ Hid (Pq g n (fun A => PermIn a b D A) w wr)) (fun si sj _ => (intOf sj - intOf si).toNat)
  case atStart => exact ⟨a, (b : Int) - 1, by omega, by omega, by omega, by omega, rfl, rfl, HR.out⟩
  case round =>
    obtain ⟨i, j, hai, hi, hj0, hj1, rfl, rfl, hpm⟩ := hrel
    by_cases hlt : (i : Int) < j
    · obtain ⟨m, rfl⟩ := Int.eq_ofNat_of_zero_le (show 0 ≤ j by omega)
      have him : i < m := by omega
      have hmn : m < n := by omega
      obtain ⟨d1, hs1, hp1, hr1, hg1⟩ := hpm.out
      have HQ : Hid (PermIn a b D (swp d1 i m)) := Lib.hid (Go.Sort.permIn_trans _ _ _ _ _ hp1 (Go.Sort.swp_permIn d1 a b i m hai (by omega) (by omega) (by omega) (by omega)))
      have HS1 := Lib.hid hs1
      obtain ⟨x, hx, hcx⟩ := hr1.get (show i < n by omega)
      obtain ⟨y, hy, hcy⟩ := hr1.get hmn
      have fx := hr1.free i (by omega)
      have fy := hr1.free m hmn
      have HX := Lib.hid hx
      have HY := Lib.hid hy
      have HR1 := Lib.hid hr1
      have HP1 := Lib.hid hp1
      clear hx hy hr1 hp1 hpm hs1
      have b0 : (0 : Int) ≤ (i : Int) := by omega
      have b1 : (i : Int) < (n : Int) := by omega
      have b2 : (0 : Int) ≤ (m : Int) := by omega
      have b3 : (m : Int) < (n : Int) := by omega
      have hne : i ≠ m := by omega
      go_wp2
      go_region
      go_wp2
      go_roundw
      case rel => exact ⟨i + 1, (m : Int) - 1, by omega, by omega, by omega, by omega, by go_num, rfl, Pq.swap HS1.out hg1 HR1.out HX.out HY.out 1 rfl HQ.out⟩
      case measure => simp [intOf]; omega
    · go_wp2
      go_end0
      exact ⟨rfl, hpm.out⟩

set_option maxHeartbeats 8000000 in
set_option maxRecDepth 100000 in
theorem break_srt (g n c : Nat) (D : Array Int) (a b : Nat) (w : World) (hD : D.size = n) (h : Row w g n D.toList) (hab : a + 12 < b) (hb : b ≤ n) (hn : n ≤ 200) :
    Calls Tryz.prog 212 #[.slice (some ⟨g, 0, none⟩) n c, .int .i64 a, .int .i64 b] w fun e w' => e = .returned (.tuple #[]) ∧ Pq g n (fun A => PermIn a b D A) w w' := by
  have hgl := h.lt (by omega)
  have HR := Lib.hid h
  clear h
  obtain ⟨q, hq⟩ : ∃ q : Nat, b = a + q := ⟨b - a, by omega⟩
  obtain ⟨t, ht⟩ : ∃ t : Nat, t = q / 4 := ⟨_, rfl⟩
  have e1 : (b : Int) - (a : Int) = (q : Int) := by omega
  have e2 : (q : Int) / 4 = (t : Int) := by omega
  have ht0 : 3 ≤ t := by omega
  have ht1 : t * 4 ≤ q := by omega
  have hqn : a + q ≤ n := by omega
  have hq8 : 8 ≤ q := by omega
  have hqb : a + q ≤ b := by omega
  clear hq ht
  go_enter Tryz.func212, Tryz.ntmps212
  go_wp2_with fail
  refine (next_any q _ (by omega) (by omega)).mono ?_
  rintro e w1 ⟨M, rfl, hM0, hM1, rfl⟩
  have st0 : Sq g n w.heap.size (fun A => PermIn a b D A) w (w.alloc (.cells #[.int .u64 q] 309)) :=
    ⟨D, q, hD, Go.Sort.permIn_refl D a b, ⟨HR.out.len, fun j x hx => alloc_cell (HR.out.cell j x hx) _, fun j hj => alloc_frozen (HR.out.free j hj) hgl _⟩, by go_simp, by go_simp, World.grownBy_alloc w _ _⟩
  have ST0 := Lib.hid st0
  have hrb : w.heap.size ≠ g := by omega
  clear st0 hD
  go_wp2_with fail
  go_loopw [9, 10] (fun si _ wr => ∃ I : Int, (a : Int) + t * 2 - 1 ≤ I ∧ I ≤ (a : Int) + t * 2 + 2 ∧ si = .int .i64 I ∧ Hid (Sq g n w.heap.size (fun A => PermIn a b D A) w wr)) (fun si _ _ => ((a : Int) + t * 2 + 2 - intOf si).toNat)
  case atStart => exact ⟨_, by omega, by omega, rfl, ST0⟩
  case round =>
    clear ST0
    obtain ⟨I, hI0, hI1, rfl, hst⟩ := hrel
    by_cases hlt : I ≤ (a : Int) + t * 2 + 1
    · obtain ⟨d1, v, hs1, hp1, hr1, hc1, hf1, hg1⟩ := hst.out
      have HR1 := Lib.hid hr1
      have HP1 := Lib.hid hp1
      have HS1 := Lib.hid hs1
      have HG1 := Lib.hid hg1
      have hl1 : g < wr.heap.size := hr1.lt (by omega)
      clear hr1 hp1 hg1 hst hs1
      go_wp2_with fail
      refine (xor_any w.heap.size v _ hc1 hf1).mono ?_
      rintro e w2 ⟨v2, rfl, hv2, hvc, hvf, hvg⟩
      have hrw := HR1.out.grown hvg (fun e => hrb e.symm) hl1
      have HG2 := Lib.hid (grown_via HG1.out hvg (Nat.le_refl _))
      obtain ⟨o, ho⟩ : ∃ o : Nat, o = v2 &&& (M - 1) := ⟨_, rfl⟩
      have hoM : o ≤ M - 1 := by rw [ho]; exact Nat.and_le_right
      have hand : bits .and .u64 (v2 : Int) ((M : Int) - 1) = (o : Int) := by
        rw [show (M : Int) - 1 = ((M - 1 : Nat) : Int) by omega, bits_and_u64_nat _ _ hv2 (by omega), ho]
      clear ho hc1 hf1 hvg HR1 HG1
      by_cases hoq : q ≤ o
      · obtain ⟨o2, ho2⟩ : ∃ o2 : Nat, o = q + o2 := ⟨o - q, by omega⟩
        have e3 : (o : Int) - (q : Int) = (o2 : Int) := by omega
        have ho : o2 < q := by omega
        have w1 : IntKind.i64.wrap ((a : Int) + (o2 : Int)) = (a : Int) + (o2 : Int) := IntWalk.i64_in _ (by omega)
        have t1 : ((a : Int) + (o2 : Int)).toNat = a + o2 := by omega
        have s0 : (0 : Int) ≤ I := by omega
        have s1 : I < (n : Int) := by omega
        have s2 : (0 : Int) ≤ (a : Int) + (o2 : Int) := by omega
        have s3 : (a : Int) + (o2 : Int) < (n : Int) := by omega
        obtain ⟨x, hx, hcx⟩ := hrw.get (show I.toNat < n by omega)
        obtain ⟨y, hy, hcy⟩ := hrw.get (show a + o2 < n by omega)
        have fx := hrw.free I.toNat (by omega)
        have fy := hrw.free (a + o2) (by omega)
        have HX := Lib.hid hx
        have HY := Lib.hid hy
        have HRW := Lib.hid hrw
        clear hx hy hrw
        by_cases hsame : I.toNat = a + o2
        · rw [hsame] at hcx fx HX
          have hxy : x = y := by have h1 := HX.out; have h2 := HY.out; rw [h2] at h1; injection h1 with h1; exact h1.symm
          subst hxy
          go_wp2
          go_region
          go_wp2
          have HQ : Hid (PermIn a b D (swp d1 (a + o2) (a + o2))) := Lib.hid (Go.Sort.permIn_trans _ _ _ _ _ HP1.out (Go.Sort.swp_permIn d1 a b (a + o2) (a + o2) (by omega) (by omega) (by omega) (by omega) (by rw [HS1.out]; omega)))
          have hps := Lib.hid (Pq.swap (Q := fun A => PermIn a b D A) HS1.out (World.grownBy.refl _ _) HRW.out HX.out HX.out 1 rfl HQ.out)
          clear hsame
          go_roundw
          case rel => first | exact ⟨I + 1, by omega, by omega, by go_num, Sq.of hps.out HG2.out hvc hvf hrb⟩ | ((repeat apply Exists.intro); exact ⟨⟨I + 1, by omega, by omega, by go_num, Sq.of hps.out HG2.out hvc hvf hrb⟩, rfl⟩)
          case measure => simp [intOf] <;> omega
        · have hne2 : ¬ a + o2 = I.toNat := fun e => hsame e.symm
          go_wp2
          go_region
          go_wp2
          have HQ : Hid (PermIn a b D (swp d1 I.toNat (a + o2))) := Lib.hid (Go.Sort.permIn_trans _ _ _ _ _ HP1.out (Go.Sort.swp_permIn d1 a b I.toNat (a + o2) (by omega) (by omega) (by omega) (by omega) (by rw [HS1.out]; omega)))
          have hps := Lib.hid (Pq.swap (Q := fun A => PermIn a b D A) HS1.out (World.grownBy.refl _ _) HRW.out HX.out HY.out 1 rfl HQ.out)
          go_roundw
          case rel => first | exact ⟨I + 1, by omega, by omega, by go_num, Sq.of hps.out HG2.out hvc hvf hrb⟩ | ((repeat apply Exists.intro); exact ⟨⟨I + 1, by omega, by omega, by go_num, Sq.of hps.out HG2.out hvc hvf hrb⟩, rfl⟩)
          case measure => simp [intOf] <;> omega
      · have hoq' : o < q := by omega
        have ho : o < q := by omega
        have w1 : IntKind.i64.wrap ((a : Int) + (o : Int)) = (a : Int) + (o : Int) := IntWalk.i64_in _ (by omega)
        have t1 : ((a : Int) + (o : Int)).toNat = a + o := by omega
        have s0 : (0 : Int) ≤ I := by omega
        have s1 : I < (n : Int) := by omega
        have s2 : (0 : Int) ≤ (a : Int) + (o : Int) := by omega
        have s3 : (a : Int) + (o : Int) < (n : Int) := by omega
        obtain ⟨x, hx, hcx⟩ := hrw.get (show I.toNat < n by omega)
        obtain ⟨y, hy, hcy⟩ := hrw.get (show a + o < n by omega)
        have fx := hrw.free I.toNat (by omega)
        have fy := hrw.free (a + o) (by omega)
        have HX := Lib.hid hx
        have HY := Lib.hid hy
        have HRW := Lib.hid hrw
        clear hx hy hrw
        by_cases hsame : I.toNat = a + o
        · rw [hsame] at hcx fx HX
          have hxy : x = y := by have h1 := HX.out; have h2 := HY.out; rw [h2] at h1; injection h1 with h1; exact h1.symm
          subst hxy
          go_wp2
          go_region
          go_wp2
          have HQ : Hid (PermIn a b D (swp d1 (a + o) (a + o))) := Lib.hid (Go.Sort.permIn_trans _ _ _ _ _ HP1.out (Go.Sort.swp_permIn d1 a b (a + o) (a + o) (by omega) (by omega) (by omega) (by omega) (by rw [HS1.out]; omega)))
          have hps := Lib.hid (Pq.swap (Q := fun A => PermIn a b D A) HS1.out (World.grownBy.refl _ _) HRW.out HX.out HX.out 1 rfl HQ.out)
          clear hsame
          go_roundw
          case rel => first | exact ⟨I + 1, by omega, by omega, by go_num, Sq.of hps.out HG2.out hvc hvf hrb⟩ | ((repeat apply Exists.intro); exact ⟨⟨I + 1, by omega, by omega, by go_num, Sq.of hps.out HG2.out hvc hvf hrb⟩, rfl⟩)
          case measure => simp [intOf] <;> omega
        · have hne2 : ¬ a + o = I.toNat := fun e => hsame e.symm
          go_wp2
          go_region
          go_wp2
          have HQ : Hid (PermIn a b D (swp d1 I.toNat (a + o))) := Lib.hid (Go.Sort.permIn_trans _ _ _ _ _ HP1.out (Go.Sort.swp_permIn d1 a b I.toNat (a + o) (by omega) (by omega) (by omega) (by omega) (by rw [HS1.out]; omega)))
          have hps := Lib.hid (Pq.swap (Q := fun A => PermIn a b D A) HS1.out (World.grownBy.refl _ _) HRW.out HX.out HY.out 1 rfl HQ.out)
          go_roundw
          case rel => first | exact ⟨I + 1, by omega, by omega, by go_num, Sq.of hps.out HG2.out hvc hvf hrb⟩ | ((repeat apply Exists.intro); exact ⟨⟨I + 1, by omega, by omega, by go_num, Sq.of hps.out HG2.out hvc hvf hrb⟩, rfl⟩)
          case measure => simp [intOf] <;> omega
    · obtain ⟨d1, v, hs1, hp1, hr1, hc1, hf1, hg1⟩ := hst.out
      have HPM : Hid (Pq g n (fun A => PermIn a b D A) w wr) := ⟨d1, hs1, hp1, hr1, hg1⟩
      clear hs1 hp1 hr1 hc1 hf1 hg1 hst
      go_wp2_with fail
      go_end0
      exact ⟨rfl, HPM.out⟩
end Go.Proofs.YtlpjlphofjghhaaGreatDoor.So
/- The library's sort at uint64, in order: pdqsort. -/

namespace Go.Proofs.YtlpjlphofjghhaaGreatDoor.So
open Go.ChangeShapes Go.WideShapes Go.ChangeAt Go.RowKit Rw
open Go.Sort (swp ltInt PermIn SortedIn swo_ltInt)
set_option linter.unusedVariables false

/-- Where the part from A to B rises, all from a to b does. -/
def Fin (D : Array Int) (a b A B : Nat) (X : Array Int) : Prop := ∀ X', PermIn A B X X' → SortedIn ltInt A B X' → PermIn a b D X' ∧ SortedIn ltInt a b X'
section
variable {D X Y : Array Int} {a b A B r : Nat} {pv : Int}
theorem Fin.perm (h : Fin D a b A B X) (hp : PermIn A B X Y) : Fin D a b A B Y := fun X' h1 h2 => h X' (Go.Sort.permIn_trans _ _ _ _ _ hp h1) h2
theorem bl_perm (h : Go.Sort.Below ltInt A B X) (hB : B ≤ X.size) (hp : PermIn A B X Y) : Go.Sort.Below ltInt A B Y := Go.Sort.Below.permA Go.Sort.permIn_all hB h hp
theorem bl_sub (h : Go.Sort.Below ltInt A B X) (hr : r ≤ B) : Go.Sort.Below ltInt A r X := by
  rcases h with h | h
  · exact .inl h
  · exact .inr fun i h1 h2 => h i h1 (by omega)
theorem nlt {x y : Int} (h : y ≤ x) : ltInt x y = false := decide_eq_false (by omega)
theorem ge_of {x y : Int} (h : ltInt x y = false) : y ≤ x := by have := of_decide_eq_false h; omega
theorem fin_left (h : Fin D a b A B X) (hs : Split Y A B pv r X) (hA : A ≤ r) (hr : r < B) (hB : B ≤ X.size) {Z : Array Int} (h1 : PermIn A r X Z) (h2 : SortedIn ltInt A r Z) : Fin D a b (r + 1) B Z ∧ Go.Sort.Below ltInt (r + 1) B Z := by
  have z1 : ∀ k, A ≤ k → k < r → Z[k]! < pv := Go.Sort.permIn_all X Z A r (fun v => v < pv) (by omega) h1 (fun k k1 k2 => hs.lo k k1 k2)
  have z2 : ∀ k, r ≤ k → Z[k]! = X[k]! := fun k hk => h1.2.1 k (.inr hk)
  refine ⟨fun X' p s => ?_, .inr fun i i1 i2 => ?_⟩
  · have zs : Z.size = X.size := h1.1
    have x1 : ∀ k, k < r + 1 → X'[k]! = Z[k]! := fun k hk => p.2.1 k (.inl hk)
    have x2 : ∀ k, r + 1 ≤ k → k < B → pv ≤ X'[k]! := Go.Sort.permIn_all Z X' (r + 1) B (fun v => pv ≤ v) (by omega) p (fun k k1 k2 => by rw [z2 k (by omega)]; exact hs.hi k (by omega) k2)
    refine h X' (Go.Sort.permIn_trans _ _ _ _ _ (Go.Sort.permIn_mono _ _ _ _ _ _ (Nat.le_refl _) (by omega) hB h1) (Go.Sort.permIn_mono _ _ _ _ _ _ (by omega) (Nat.le_refl _) (by omega) p)) fun i j hi hij hj => nlt ?_
    by_cases c1 : j < r
    · rw [x1 i (by omega), x1 j (by omega)]
      exact ge_of (h2 i j hi hij c1)
    · by_cases c2 : j = r
      · subst c2
        rw [x1 i (by omega), x1 j (by omega), z2 j (Nat.le_refl _), hs.piv]
        have := z1 i hi hij
        omega
      · by_cases c3 : i < r
        · have := z1 i hi c3
          have := x2 j (by omega) hj
          rw [x1 i (by omega)]; omega
        · by_cases c4 : i = r
          · subst c4
            rw [x1 i (by omega), z2 i (Nat.le_refl _), hs.piv]
            exact x2 j (by omega) hj
          · exact ge_of (s i j (by omega) hij hj)
  · rw [show r + 1 - 1 = r by omega, z2 i (by omega), z2 r (Nat.le_refl _), hs.piv]
    exact nlt (hs.hi i (by omega) i2)
theorem bl_right (hs : Split Y A B pv r X) : Go.Sort.Below ltInt (r + 1) B X := .inr fun i i1 i2 => by
  rw [show r + 1 - 1 = r by omega, hs.piv]
  exact nlt (hs.hi i (by omega) i2)
theorem fin_right (h : Fin D a b A B X) (hb : Go.Sort.Below ltInt A B X) (hs : Split Y A B pv r X) (hA : A ≤ r) (hr : r < B) (hB : B ≤ X.size) {Z : Array Int} (h1 : PermIn (r + 1) B X Z) (h2 : SortedIn ltInt (r + 1) B Z) : Fin D a b A r Z ∧ Go.Sort.Below ltInt A r Z := by
  have z1 : ∀ k, r + 1 ≤ k → k < B → pv ≤ Z[k]! := Go.Sort.permIn_all X Z (r + 1) B (fun v => pv ≤ v) hB h1 (fun k k1 k2 => hs.hi k (by omega) k2)
  have z2 : ∀ k, k < r + 1 → Z[k]! = X[k]! := fun k hk => h1.2.1 k (.inl hk)
  have zs : Z.size = X.size := h1.1
  refine ⟨fun X' p s => ?_, ?_⟩
  · have x1 : ∀ k, r ≤ k → X'[k]! = Z[k]! := fun k hk => p.2.1 k (.inr hk)
    have x2 : ∀ k, A ≤ k → k < r → X'[k]! < pv := Go.Sort.permIn_all Z X' A r (fun v => v < pv) (by omega) p (fun k k1 k2 => by rw [z2 k (by omega)]; exact hs.lo k k1 k2)
    refine h X' (Go.Sort.permIn_trans _ _ _ _ _ (Go.Sort.permIn_mono _ _ _ _ _ _ (by omega) (Nat.le_refl _) hB h1) (Go.Sort.permIn_mono _ _ _ _ _ _ (Nat.le_refl _) (by omega) (by omega) p)) fun i j hi hij hj => nlt ?_
    by_cases c1 : j < r
    · exact ge_of (s i j hi hij c1)
    · by_cases c2 : j = r
      · subst c2
        rw [x1 j (Nat.le_refl _), z2 j (by omega), hs.piv]
        have := x2 i hi hij
        omega
      · by_cases c3 : i < r
        · have := x2 i hi c3
          have := z1 j (by omega) hj
          rw [x1 j (by omega)]; omega
        · by_cases c4 : i = r
          · subst c4
            rw [x1 i (Nat.le_refl _), z2 i (by omega), hs.piv, x1 j (by omega)]
            exact z1 j (by omega) hj
          · rw [x1 i (by omega), x1 j (by omega)]
            exact ge_of (h2 i j (by omega) hij hj)
  · rcases hb with hb | hb
    · exact .inl hb
    · exact .inr fun i i1 i2 => by rw [z2 i (by omega), z2 (A - 1) (by omega)]; exact hb i i1 (by omega)
theorem fin_eq (h : Fin D a b A B X) (hs : SplitE Y A B pv r X) (hge : ∀ k, A ≤ k → k < B → pv ≤ Y[k]!) (hA : A < r) (hr : r ≤ B) (hB : B ≤ X.size) : Fin D a b r B X ∧ Go.Sort.Below ltInt r B X := by
  have g1 : ∀ k, A ≤ k → k < B → pv ≤ X[k]! := Go.Sort.permIn_all Y X A B (fun v => pv ≤ v) (by rw [← hs.perm.1]; exact hB) hs.perm hge
  refine ⟨fun X' p s => ?_, .inr fun i i1 i2 => ?_⟩
  · have x1 : ∀ k, k < r → X'[k]! = X[k]! := fun k hk => p.2.1 k (.inl hk)
    have x2 : ∀ k, r ≤ k → k < B → pv < X'[k]! := Go.Sort.permIn_all X X' r B (fun v => pv < v) hB p (fun k k1 k2 => hs.hi k k1 k2)
    refine h X' (Go.Sort.permIn_mono _ _ _ _ _ _ (by omega) (Nat.le_refl _) hB p) fun i j hi hij hj => nlt ?_
    by_cases c1 : i < r
    · have h3 := hs.lo i hi c1
      by_cases c2 : j < r
      · rw [x1 i c1, x1 j c2]
        have := g1 j (by omega) hj
        omega
      · have := x2 j (by omega) hj
        rw [x1 i c1]; omega
    · exact ge_of (s i j (by omega) hij hj)
  · have := hs.lo (r - 1) (by omega) (by omega)
    have := hs.hi i i1 i2
    exact nlt (by omega)
end

set_option maxHeartbeats 8000000 in
set_option maxRecDepth 100000 in
theorem pdq_srt (k : Nat) : ∀ (g n c : Nat) (D : Array Int) (a b : Nat) (lim : Int) (w : World), b - a ≤ k → D.size = n → Row w g n D.toList → Go.Sort.Below ltInt a b D → a ≤ b → b ≤ n → n ≤ 200 → 0 < n → 0 ≤ lim → lim ≤ 9223372036854775807 →
    Calls Tryz.prog 198 #[.slice (some ⟨g, 0, none⟩) n c, .int .i64 a, .int .i64 b, .int .i64 lim] w fun e w' => e = .returned (.tuple #[]) ∧ Pq g n (fun X => PermIn a b D X ∧ SortedIn ltInt a b X) w w' := by
  induction k using Nat.strongRecOn with
  | _ k ih =>
  intro g n c D a b lim w hk hD h hbl hab hb hn hn0 hl0 hl1
  have HI := Lib.hid ih
  have HPS : Hid (Pq g n (fun X => Fin D a b a b X ∧ Go.Sort.Below ltInt a b X) w w) := Lib.hid (Pq.start hD ⟨fun X' h1 h2 => ⟨h1, h2⟩, hbl⟩ h)
  clear ih h hD hbl
  go_enter Tryz.func198, Tryz.ntmps198
  go_wp2_with fail
  go_loopw [1, 2, 3, 8, 9] (fun sa sb sl s8 s9 wr => ∃ (A B : Nat) (L : Int) (wb wp : Bool), a ≤ A ∧ A ≤ B ∧ B ≤ b ∧ sa = .int .i64 A ∧ sb = .int .i64 B ∧ sl = .int .i64 L ∧ 0 ≤ L ∧ L ≤ 9223372036854775807 ∧ s8 = .bool wb ∧ s9 = .bool wp ∧ Hid (Pq g n (fun X => Fin D a b A B X ∧ Go.Sort.Below ltInt A B X) w wr)) (fun sa sb _ _ _ _ => (intOf sb - intOf sa).toNat)
  case atStart => exact ⟨a, b, lim, true, true, Nat.le_refl _, hab, Nat.le_refl _, rfl, rfl, rfl, hl0, hl1, rfl, rfl, HPS⟩
  case round =>
    clear HPS
    obtain ⟨A, B, L, wb, wp, hA, hAB, hB, rfl, rfl, rfl, hL0, hL1, rfl, rfl, hpm⟩ := hrel
    obtain ⟨q, hq⟩ : ∃ q : Nat, B = A + q := ⟨B - A, by omega⟩
    have e1 : (B : Int) - (A : Int) = (q : Int) := by omega
    have hq1 : B ≤ A + q := by omega
    have hq2 : A + q ≤ B := by omega
    clear hq
    by_cases hq12 : q ≤ 12
    · obtain ⟨d1, hs1, hp1, hr1, hg1⟩ := hpm.out
      have HR1 := Lib.hid hr1
      have HP1 := Lib.hid hp1
      have HS1 := Lib.hid hs1
      clear hr1 hp1 hpm hs1
      go_wp2_with fail
      refine (insertion_srt g n c d1 A B _ HS1.out HR1.out (by omega) (by omega) (by omega)).mono ?_
      rintro e w2 ⟨rfl, h2⟩
      have H2 := Lib.hid h2
      clear h2
      go_wp2_with fail
      refine bodyPost_ret (v := .tuple #[]) (by simp [results, Tryz.results198]) rfl ?_
      exact ⟨rfl, Pq.trans hg1 (H2.out.imp fun X _ hX => HP1.out.1 X hX.1 hX.2)⟩
    by_cases hL : L = 0
    · subst hL
      obtain ⟨d1, hs1, hp1, hr1, hg1⟩ := hpm.out
      have HR1 := Lib.hid hr1
      have HP1 := Lib.hid hp1
      have HS1 := Lib.hid hs1
      clear hr1 hp1 hpm hs1
      go_wp2_with fail
      refine (heap_srt g n c d1 A B _ HS1.out HR1.out (by omega) (by omega) (by omega)).mono ?_
      rintro e w2 ⟨rfl, h2⟩
      have H2 := Lib.hid h2
      clear h2
      go_wp2_with fail
      refine bodyPost_ret (v := .tuple #[]) (by simp [results, Tryz.results198]) rfl ?_
      exact ⟨rfl, Pq.trans hg1 (H2.out.imp fun X _ hX => HP1.out.1 X hX.1 hX.2)⟩
    have qL : (L == 0) = false := by simpa using hL
    have hLp : 1 ≤ L := by omega
    clear hL
    go_upto_if 35 with (fail)
    go_cut [3] from 19 to 133 (fun s3 wx => ∃ L2 : Int, s3 = .int .i64 L2 ∧ 0 ≤ L2 ∧ L2 ≤ 9223372036854775807 ∧ Hid (Pq g n (fun X => Fin D a b A B X ∧ Go.Sort.Below ltInt A B X) w wx))
    case first =>
      cases wb
      · obtain ⟨d1, hs1, hp1, hr1, hg1⟩ := hpm.out
        have HR1 := Lib.hid hr1
        have HP1 := Lib.hid hp1
        have HS1 := Lib.hid hs1
        clear hr1 hp1 hpm hs1
        go_wp2_with fail
        refine (break_srt g n c d1 A B _ HS1.out HR1.out (by omega) (by omega) hn).mono ?_
        rintro e w2 ⟨rfl, h2⟩
        have H2 := Lib.hid h2
        clear h2
        go_wp2_with fail
        go_meet
        exact ⟨L - 1, rfl, by omega, by omega, Pq.trans hg1 (H2.out.imp fun X _ hX => ⟨HP1.out.1.perm hX, bl_perm HP1.out.2 (by rw [HS1.out]; omega) hX⟩)⟩
      · go_wp2_with fail
        go_meet
        exact ⟨L, rfl, by omega, by omega, hpm⟩
    case rest =>
      clear hpm qL hLp hL0 hL1
      obtain ⟨L2, rfl, hL2, hL3, hpm⟩ := hcut
      obtain ⟨d1, hs1, hp1, hr1, hg1⟩ := hpm.out
      have HR1 := Lib.hid hr1
      have HP1 := Lib.hid hp1
      have HS1 := Lib.hid hs1
      clear hr1 hp1 hpm hs1
      go_wp2_with fail
      refine (pivot_srt g n c d1.toList A B _ HR1.out (by omega) (by omega) (by omega)).mono ?_
      rintro e w2 ⟨p, t, rfl, hp0, hp1, ht, h2, h3⟩
      have hpm2 : Hid (Pq g n (fun X => Fin D a b A B X ∧ Go.Sort.Below ltInt A B X) w w2) := Lib.hid ⟨d1, HS1.out, HP1.out, h2, hg1.trans h3⟩
      clear h2 h3 HR1 HP1 HS1 hg1
      go_upto_if 50 with (fail)
      go_cut [11, 12] from 19 to 133 (fun s11 s12 wx => ∃ (p2 : Nat) (t2 : Int), s11 = .int .i64 p2 ∧ s12 = .int .i64 t2 ∧ A ≤ p2 ∧ p2 < B ∧ (t2 = 0 ∨ t2 = 1) ∧ Hid (Pq g n (fun X => Fin D a b A B X ∧ Go.Sort.Below ltInt A B X) w wx))
      case first =>
        rcases ht with rfl | rfl | rfl
        · go_wp2_with fail
          go_meet
          exact ⟨p, 0, rfl, rfl, hp0, hp1, by omega, hpm2⟩
        · go_wp2_with fail
          go_meet
          exact ⟨p, 1, rfl, rfl, hp0, hp1, by omega, hpm2⟩
        · obtain ⟨d2, hs2, hd2, hr2, hg2⟩ := hpm2.out
          have HR2 := Lib.hid hr2
          have HD2 := Lib.hid hd2
          have HS2 := Lib.hid hs2
          clear hr2 hd2 hpm2 hs2
          go_wp2_with fail
          refine (reverse_srt g n c d2 A B _ HS2.out HR2.out (by omega) (by omega) (by omega)).mono ?_
          rintro e w3 ⟨rfl, h3⟩
          have H3 := Lib.hid h3
          clear h3
          go_wp2_with fail
          go_meet
          exact ⟨B - 1 - (p - A), 1, by rw [show ((B - 1 - (p - A) : Nat) : Int) = (B : Int) - 1 - ((p : Int) - (A : Int)) by omega], rfl, by omega, by omega, by omega, Pq.trans hg2 (H3.out.imp fun X _ hX => ⟨HD2.out.1.perm hX, bl_perm HD2.out.2 (by rw [HS2.out]; omega) hX⟩)⟩
      case rest =>
        clear hpm2 hp0 hp1 ht
        obtain ⟨p2, t2, rfl, rfl, hp0, hp1, ht, hpm⟩ := hcut
        go_upto_region 15 with (fail)
        go_cut [68] from 19 to 133 (fun s68 wx => ∃ bb : Bool, s68 = .bool bb ∧ Hid (Pq g n (fun X => Fin D a b A B X ∧ Go.Sort.Below ltInt A B X) w wx))
        case first =>
          cases wb <;> cases wp <;> rcases ht with rfl | rfl
          all_goals
            go_wp2_with fail
            go_meet
            exact ⟨_, rfl, hpm⟩
        case rest =>
          clear hpm ht
          obtain ⟨bb, rfl, hpm⟩ := hcut
          cases bb
          · have htok : True := trivial
            go_upto_region 17 with (fail)
            go_cut [87] from 19 to 133 (fun s87 wx => ∃ bb : Bool, s87 = .bool bb ∧ Hid (Pq g n (fun X => Fin D a b A B X ∧ Go.Sort.Below ltInt A B X ∧ (bb = true → ∀ i, A ≤ i → i < B → X[p2]! ≤ X[i]!)) w wx))
            case first =>
              by_cases hA0 : A = 0
              · have q1 : decide ((0 : Int) < (A : Int)) = false := by simp; omega
                have q2 : decide (0 < A) = false := by simp; omega
                have HQ : Hid (Pq g n (fun X => Fin D a b A B X ∧ Go.Sort.Below ltInt A B X ∧ ((0 : Nat) = 1 → ∀ i, A ≤ i → i < B → X[p2]! ≤ X[i]!)) w _) := Lib.hid (hpm.out.imp fun X _ hX => ⟨hX.1, hX.2, fun e => by cases e⟩)
                clear hpm
                go_wp2_with fail
                go_quiet (fail)
                go_wp2_with fail
                go_meet
                exact ⟨false, rfl, (HQ.out.drewN _).imp fun X _ hX => ⟨hX.1, hX.2.1, fun e => by cases e⟩⟩
              · obtain ⟨d3, hs3, hd3, hr3, hg3⟩ := hpm.out
                obtain ⟨m, hm⟩ := Int.eq_ofNat_of_zero_le (show 0 ≤ (A : Int) - 1 by omega)
                obtain ⟨x, hx, hcx⟩ := hr3.get (show m < n by omega)
                obtain ⟨y, hy, hcy⟩ := hr3.get (show p2 < n by omega)
                have w1 : IntKind.i64.wrap ((A : Int) - 1) = (m : Int) := by rw [hm]; exact IntWalk.i64_in _ (by omega)
                have v2 : (0 : Int) ≤ (m : Int) := by omega
                have v3 : (m : Int) < (n : Int) := by omega
                have v4 : (0 : Int) ≤ (p2 : Int) := by omega
                have v5 : (p2 : Int) < (n : Int) := by omega
                have q1 : decide ((0 : Int) < (A : Int)) = true := by simp; omega
                have q2 : decide (0 < A) = true := by simp; omega
                have HQ : Hid (Pq g n (fun X => Fin D a b A B X ∧ Go.Sort.Below ltInt A B X ∧ ((!decide (x < y)) = true → ∀ i, A ≤ i → i < B → X[p2]! ≤ X[i]!)) w _) := Lib.hid ⟨d3, hs3, ⟨hd3.1, hd3.2, fun e i i1 i2 => by
                  have e1 : ¬ x < y := by simpa using e
                  rcases hd3.2 with h0 | h0
                  · exact absurd h0 hA0
                  · have h5 := ge_of (h0 i i1 i2)
                    rw [show A - 1 = m by omega, bang hx] at h5
                    rw [bang hy]; omega⟩, hr3, hg3⟩
                clear hx hy hr3 hd3 hg3 hm hA0 hpm hs3
                go_wp2_with fail
                go_quiet ((go_at_call 216; first | exact less_quiet _ _ | exact less_quiet2 _ _))
                go_wp2_with fail
                go_meet
                exact ⟨_, rfl, HQ.out.drewN _⟩
            case rest =>
              clear hpm
              obtain ⟨bb, rfl, hpm⟩ := hcut
              obtain ⟨d4, hs4, hd4, hr4, hg4⟩ := hpm.out
              have HR4 := Lib.hid hr4
              have HD4 := Lib.hid hd4
              have HS4 := Lib.hid hs4
              clear hr4 hd4 hpm hs4
              cases bb
              · go_wp2_with fail
                refine (part_srt g n c d4 A B p2 _ HS4.out HR4.out (by omega) (by omega) hp0 hp1 (by omega)).mono ?_
                rintro e w5 ⟨r, t5, rfl, hr0, hr1, d5, hs5, hsp, hr5, hg5⟩
                have HR5 := Lib.hid hr5
                have HS5 := Lib.hid hs5
                have HG5 := Lib.hid (hg4.trans hg5)
                have HD5 : Hid (Fin D a b A B d5 ∧ Go.Sort.Below ltInt A B d5 ∧ Split d4 A B d4[p2]! r d5) := Lib.hid ⟨HD4.out.1.perm hsp.perm, bl_perm HD4.out.2.1 (by rw [HS4.out]; omega) hsp.perm, hsp⟩
                clear hr5 hs5 hsp hg5 hg4 HR4 HD4 HS4
                by_cases hlr : r - A < B - r
                · have hlr' : (r : Int) - (A : Int) < (B : Int) - (r : Int) := by omega
                  go_wp2_with fail
                  refine (HI.out (r - A) (by omega) g n c d5 A r L2 _ (Nat.le_refl _) HS5.out HR5.out (bl_sub HD5.out.2.1 (by omega)) (by omega) (by omega) hn hn0 hL2 hL3).mono ?_
                  rintro e w6 ⟨rfl, h6⟩
                  have hpm6 : Hid (Pq g n (fun X => Fin D a b (r + 1) B X ∧ Go.Sort.Below ltInt (r + 1) B X) w w6) := Lib.hid (Pq.trans HG5.out (h6.imp fun X _ hX => fin_left HD5.out.1 HD5.out.2.2 hr0 hr1 (by rw [HS5.out]; omega) hX.1 hX.2))
                  clear h6 HR5 HD5 HG5 HS5
                  go_wp2_with fail
                  go_roundw
                  case rel => first | exact ⟨r + 1, B, L2, _, _, by omega, by omega, by omega, by first | rfl | go_num, by first | rfl | go_num, rfl, hL2, hL3, rfl, rfl, hpm6⟩ | ((repeat apply Exists.intro); exact ⟨⟨r + 1, B, L2, _, _, by omega, by omega, by omega, by first | rfl | go_num, by first | rfl | go_num, rfl, hL2, hL3, rfl, rfl, hpm6⟩, rfl⟩)
                  case measure => simp [intOf] <;> omega
                · have hlr' : (B : Int) - (r : Int) ≤ (r : Int) - (A : Int) := by omega
                  go_wp2_with fail
                  rw [show (r : Int) + 1 = ((r + 1 : Nat) : Int) by omega]
                  refine (HI.out (B - (r + 1)) (by omega) g n c d5 (r + 1) B L2 _ (Nat.le_refl _) HS5.out HR5.out (bl_right HD5.out.2.2) (by omega) (by omega) hn hn0 hL2 hL3).mono ?_
                  rintro e w6 ⟨rfl, h6⟩
                  have hpm6 : Hid (Pq g n (fun X => Fin D a b A r X ∧ Go.Sort.Below ltInt A r X) w w6) := Lib.hid (Pq.trans HG5.out (h6.imp fun X _ hX => fin_right HD5.out.1 HD5.out.2.1 HD5.out.2.2 hr0 hr1 (by rw [HS5.out]; omega) hX.1 hX.2))
                  clear h6 HR5 HD5 HG5 HS5
                  go_wp2_with fail
                  go_roundw
                  case rel => first | exact ⟨A, r, L2, _, _, by omega, by omega, by omega, by first | rfl | go_num, by first | rfl | go_num, rfl, hL2, hL3, rfl, rfl, hpm6⟩ | ((repeat apply Exists.intro); exact ⟨⟨A, r, L2, _, _, by omega, by omega, by omega, by first | rfl | go_num, by first | rfl | go_num, rfl, hL2, hL3, rfl, rfl, hpm6⟩, rfl⟩)
                  case measure => simp [intOf] <;> omega
              · go_wp2_with fail
                refine (partEq_srt g n c d4 A B p2 _ HS4.out HR4.out (by omega) (by omega) hp0 hp1 (by omega)).mono ?_
                rintro e w5 ⟨r, rfl, hr0, hr1, h5⟩
                have hpm5 : Hid (Pq g n (fun X => Fin D a b r B X ∧ Go.Sort.Below ltInt r B X) w w5) := Lib.hid (Pq.trans hg4 (h5.imp fun X hXs hX => fin_eq (HD4.out.1.perm hX.perm) hX (fun k k1 k2 => HD4.out.2.2 (by first | rfl | trivial) k k1 k2) hr0 hr1 (by rw [hXs]; omega)))
                clear h5 HR4 HD4 hg4 HS4
                go_wp2_with fail
                go_roundw
                case rel => first | exact ⟨r, B, L2, _, _, by omega, by omega, by omega, by first | rfl | go_num, by first | rfl | go_num, rfl, hL2, hL3, rfl, rfl, hpm5⟩ | ((repeat apply Exists.intro); exact ⟨⟨r, B, L2, _, _, by omega, by omega, by omega, by first | rfl | go_num, by first | rfl | go_num, rfl, hL2, hL3, rfl, rfl, hpm5⟩, rfl⟩)
                case measure => simp [intOf] <;> omega
          · obtain ⟨d3, hs3, hd3, hr3, hg3⟩ := hpm.out
            have HR3 := Lib.hid hr3
            have HD3 := Lib.hid hd3
            have HS3 := Lib.hid hs3
            clear hr3 hd3 hpm hs3
            go_wp2_with fail
            refine (partial_srt g n c d3 A B _ HS3.out HR3.out (by omega) (by omega) HD3.out.2 (by omega)).mono ?_
            rintro e w3 ⟨t3, rfl, h3⟩
            have HX3 := Lib.hid (Pq.trans hg3 h3)
            clear h3 HR3 hg3
            cases t3
            · have hpm : Hid (Pq g n (fun X => Fin D a b A B X ∧ Go.Sort.Below ltInt A B X) w w3) := Lib.hid (HX3.out.imp fun X _ hX => ⟨HD3.out.1.perm hX.1, bl_perm HD3.out.2 (by rw [HS3.out]; omega) hX.1⟩)
              clear HX3 HD3 HS3
              go_upto_region 17 with (fail)
              go_cut [87] from 19 to 133 (fun s87 wx => ∃ bb : Bool, s87 = .bool bb ∧ Hid (Pq g n (fun X => Fin D a b A B X ∧ Go.Sort.Below ltInt A B X ∧ (bb = true → ∀ i, A ≤ i → i < B → X[p2]! ≤ X[i]!)) w wx))
              case first =>
                by_cases hA0 : A = 0
                · have q1 : decide ((0 : Int) < (A : Int)) = false := by simp; omega
                  have q2 : decide (0 < A) = false := by simp; omega
                  have HQ : Hid (Pq g n (fun X => Fin D a b A B X ∧ Go.Sort.Below ltInt A B X ∧ ((0 : Nat) = 1 → ∀ i, A ≤ i → i < B → X[p2]! ≤ X[i]!)) w _) := Lib.hid (hpm.out.imp fun X _ hX => ⟨hX.1, hX.2, fun e => by cases e⟩)
                  clear hpm
                  go_wp2_with fail
                  go_quiet (fail)
                  go_wp2_with fail
                  go_meet
                  exact ⟨false, rfl, (HQ.out.drewN _).imp fun X _ hX => ⟨hX.1, hX.2.1, fun e => by cases e⟩⟩
                · obtain ⟨d3, hs3, hd3, hr3, hg3⟩ := hpm.out
                  obtain ⟨m, hm⟩ := Int.eq_ofNat_of_zero_le (show 0 ≤ (A : Int) - 1 by omega)
                  obtain ⟨x, hx, hcx⟩ := hr3.get (show m < n by omega)
                  obtain ⟨y, hy, hcy⟩ := hr3.get (show p2 < n by omega)
                  have w1 : IntKind.i64.wrap ((A : Int) - 1) = (m : Int) := by rw [hm]; exact IntWalk.i64_in _ (by omega)
                  have v2 : (0 : Int) ≤ (m : Int) := by omega
                  have v3 : (m : Int) < (n : Int) := by omega
                  have v4 : (0 : Int) ≤ (p2 : Int) := by omega
                  have v5 : (p2 : Int) < (n : Int) := by omega
                  have q1 : decide ((0 : Int) < (A : Int)) = true := by simp; omega
                  have q2 : decide (0 < A) = true := by simp; omega
                  have HQ : Hid (Pq g n (fun X => Fin D a b A B X ∧ Go.Sort.Below ltInt A B X ∧ ((!decide (x < y)) = true → ∀ i, A ≤ i → i < B → X[p2]! ≤ X[i]!)) w _) := Lib.hid ⟨d3, hs3, ⟨hd3.1, hd3.2, fun e i i1 i2 => by
                    have e1 : ¬ x < y := by simpa using e
                    rcases hd3.2 with h0 | h0
                    · exact absurd h0 hA0
                    · have h5 := ge_of (h0 i i1 i2)
                      rw [show A - 1 = m by omega, bang hx] at h5
                      rw [bang hy]; omega⟩, hr3, hg3⟩
                  clear hx hy hr3 hd3 hg3 hm hA0 hpm hs3
                  go_wp2_with fail
                  go_quiet ((go_at_call 216; first | exact less_quiet _ _ | exact less_quiet2 _ _))
                  go_wp2_with fail
                  go_meet
                  exact ⟨_, rfl, HQ.out.drewN _⟩
              case rest =>
                clear hpm
                obtain ⟨bb, rfl, hpm⟩ := hcut
                obtain ⟨d4, hs4, hd4, hr4, hg4⟩ := hpm.out
                have HR4 := Lib.hid hr4
                have HD4 := Lib.hid hd4
                have HS4 := Lib.hid hs4
                clear hr4 hd4 hpm hs4
                cases bb
                · go_wp2_with fail
                  refine (part_srt g n c d4 A B p2 _ HS4.out HR4.out (by omega) (by omega) hp0 hp1 (by omega)).mono ?_
                  rintro e w5 ⟨r, t5, rfl, hr0, hr1, d5, hs5, hsp, hr5, hg5⟩
                  have HR5 := Lib.hid hr5
                  have HS5 := Lib.hid hs5
                  have HG5 := Lib.hid (hg4.trans hg5)
                  have HD5 : Hid (Fin D a b A B d5 ∧ Go.Sort.Below ltInt A B d5 ∧ Split d4 A B d4[p2]! r d5) := Lib.hid ⟨HD4.out.1.perm hsp.perm, bl_perm HD4.out.2.1 (by rw [HS4.out]; omega) hsp.perm, hsp⟩
                  clear hr5 hs5 hsp hg5 hg4 HR4 HD4 HS4
                  by_cases hlr : r - A < B - r
                  · have hlr' : (r : Int) - (A : Int) < (B : Int) - (r : Int) := by omega
                    go_wp2_with fail
                    refine (HI.out (r - A) (by omega) g n c d5 A r L2 _ (Nat.le_refl _) HS5.out HR5.out (bl_sub HD5.out.2.1 (by omega)) (by omega) (by omega) hn hn0 hL2 hL3).mono ?_
                    rintro e w6 ⟨rfl, h6⟩
                    have hpm6 : Hid (Pq g n (fun X => Fin D a b (r + 1) B X ∧ Go.Sort.Below ltInt (r + 1) B X) w w6) := Lib.hid (Pq.trans HG5.out (h6.imp fun X _ hX => fin_left HD5.out.1 HD5.out.2.2 hr0 hr1 (by rw [HS5.out]; omega) hX.1 hX.2))
                    clear h6 HR5 HD5 HG5 HS5
                    go_wp2_with fail
                    go_roundw
                    case rel => first | exact ⟨r + 1, B, L2, _, _, by omega, by omega, by omega, by first | rfl | go_num, by first | rfl | go_num, rfl, hL2, hL3, rfl, rfl, hpm6⟩ | ((repeat apply Exists.intro); exact ⟨⟨r + 1, B, L2, _, _, by omega, by omega, by omega, by first | rfl | go_num, by first | rfl | go_num, rfl, hL2, hL3, rfl, rfl, hpm6⟩, rfl⟩)
                    case measure => simp [intOf] <;> omega
                  · have hlr' : (B : Int) - (r : Int) ≤ (r : Int) - (A : Int) := by omega
                    go_wp2_with fail
                    rw [show (r : Int) + 1 = ((r + 1 : Nat) : Int) by omega]
                    refine (HI.out (B - (r + 1)) (by omega) g n c d5 (r + 1) B L2 _ (Nat.le_refl _) HS5.out HR5.out (bl_right HD5.out.2.2) (by omega) (by omega) hn hn0 hL2 hL3).mono ?_
                    rintro e w6 ⟨rfl, h6⟩
                    have hpm6 : Hid (Pq g n (fun X => Fin D a b A r X ∧ Go.Sort.Below ltInt A r X) w w6) := Lib.hid (Pq.trans HG5.out (h6.imp fun X _ hX => fin_right HD5.out.1 HD5.out.2.1 HD5.out.2.2 hr0 hr1 (by rw [HS5.out]; omega) hX.1 hX.2))
                    clear h6 HR5 HD5 HG5 HS5
                    go_wp2_with fail
                    go_roundw
                    case rel => first | exact ⟨A, r, L2, _, _, by omega, by omega, by omega, by first | rfl | go_num, by first | rfl | go_num, rfl, hL2, hL3, rfl, rfl, hpm6⟩ | ((repeat apply Exists.intro); exact ⟨⟨A, r, L2, _, _, by omega, by omega, by omega, by first | rfl | go_num, by first | rfl | go_num, rfl, hL2, hL3, rfl, rfl, hpm6⟩, rfl⟩)
                    case measure => simp [intOf] <;> omega
                · go_wp2_with fail
                  refine (partEq_srt g n c d4 A B p2 _ HS4.out HR4.out (by omega) (by omega) hp0 hp1 (by omega)).mono ?_
                  rintro e w5 ⟨r, rfl, hr0, hr1, h5⟩
                  have hpm5 : Hid (Pq g n (fun X => Fin D a b r B X ∧ Go.Sort.Below ltInt r B X) w w5) := Lib.hid (Pq.trans hg4 (h5.imp fun X hXs hX => fin_eq (HD4.out.1.perm hX.perm) hX (fun k k1 k2 => HD4.out.2.2 (by first | rfl | trivial) k k1 k2) hr0 hr1 (by rw [hXs]; omega)))
                  clear h5 HR4 HD4 hg4 HS4
                  go_wp2_with fail
                  go_roundw
                  case rel => first | exact ⟨r, B, L2, _, _, by omega, by omega, by omega, by first | rfl | go_num, by first | rfl | go_num, rfl, hL2, hL3, rfl, rfl, hpm5⟩ | ((repeat apply Exists.intro); exact ⟨⟨r, B, L2, _, _, by omega, by omega, by omega, by first | rfl | go_num, by first | rfl | go_num, rfl, hL2, hL3, rfl, rfl, hpm5⟩, rfl⟩)
                  case measure => simp [intOf] <;> omega
            · have HQ : Hid (Pq g n (fun X => PermIn a b D X ∧ SortedIn ltInt a b X) w w3) := Lib.hid (HX3.out.imp fun X _ hX => HD3.out.1 X hX.1 (hX.2 rfl))
              clear HX3 HD3 HS3
              go_wp2_with fail
              refine bodyPost_ret (v := .tuple #[]) (by simp [results, Tryz.results198]) rfl ?_
              exact ⟨rfl, HQ.out⟩
end Go.Proofs.YtlpjlphofjghhaaGreatDoor.So
/- slices.Sort at []uint64 of a row of the call's own: it is permuted, and rises. -/
namespace Go.Proofs.YtlpjlphofjghhaaGreatDoor.So
open Go.ChangeShapes Go.WideShapes Go.ChangeAt Go.RowKit Rw
open Go.Sort (swp ltInt PermIn SortedIn swo_ltInt)
set_option linter.unusedVariables false

theorem pdq_zero' (g n c : Nat) (D : Array Int) (lim : Int) (w : World) (hD : D.size = n) (h : Row w g n D.toList) (hn : n ≤ 200) (hn0 : 0 < n) (h0 : 0 ≤ lim) (h1 : lim ≤ 9223372036854775807) :
    Calls Tryz.prog 198 #[.slice (some ⟨g, 0, none⟩) n c, .int .i64 0, .int .i64 n, .int .i64 lim] w fun e w' => e = .returned (.tuple #[]) ∧ Pq g n (fun X => PermIn 0 n D X ∧ SortedIn ltInt 0 n X) w w' :=
  pdq_srt n g n c D 0 n lim w (by omega) hD h (.inl rfl) (Nat.zero_le _) (Nat.le_refl _) hn hn0 h0 h1
set_option maxHeartbeats 1000000 in
theorem sort_srt (g n c : Nat) (D : Array Int) (w : World) (hD : D.size = n) (h : Row w g n D.toList) (hn : n ≤ 200) (hn0 : 0 < n) :
    Calls Tryz.prog 175 #[.slice (some ⟨g, 0, none⟩) n c] w fun e w' => e = .returned (.tuple #[]) ∧ Pq g n (fun X => PermIn 0 n D X ∧ SortedIn ltInt 0 n X) w w' := by
  have HR := Lib.hid h
  have HD := Lib.hid hD
  have hbl := bitLen_small n (by omega)
  clear h hD
  go_enter Tryz.func175, Tryz.ntmps175
  go_wp2_with fail
  refine (len_any n _ (by omega)).mono ?_
  rintro e w1 ⟨rfl, rfl⟩
  go_wp2_with fail
  refine (pdq_zero' g n c D _ _ HD.out HR.out hn hn0 (by omega) (by omega)).mono ?_
  rintro e w2 ⟨rfl, h2⟩
  have H2 := Lib.hid h2
  clear h2
  go_wp2_with fail
  go_end0
  exact ⟨rfl, H2.out⟩
theorem insertion_none' (A : Option Addr) (c : Nat) (w : World) :
    Calls Tryz.prog 210 #[.slice A 0 c, .int .i64 0, .int .i64 0] w fun e w' => e = .returned (.tuple #[]) ∧ w = w' := by
  go_enter Tryz.func210, Tryz.ntmps210
  go_wp2
  refine wp_loop_rounds 1 ?_
  rw [rounds_succ]
  go_wp2
  go_end0
  exact ⟨rfl, rfl⟩
set_option maxRecDepth 100000 in
theorem pdq_none' (A : Option Addr) (c : Nat) (lim : Int) (w : World) :
    Calls Tryz.prog 198 #[.slice A 0 c, .int .i64 0, .int .i64 0, .int .i64 lim] w fun e w' => e = .returned (.tuple #[]) ∧ w = w' := by
  go_enter Tryz.func198, Tryz.ntmps198
  go_wp2_with fail
  refine wp_loop_rounds 1 ?_
  rw [rounds_succ]
  go_wp2_with fail
  refine (insertion_none' A c _).mono ?_
  rintro e w1 ⟨rfl, rfl⟩
  go_wp2_with fail
  refine bodyPost_ret (v := .tuple #[]) (by simp [results, Tryz.results198]) rfl ?_
  exact ⟨rfl, rfl⟩
theorem len_zero' (w : World) : Calls Tryz.prog 199 #[.int .u64 0] w fun e w' => ∃ l : Int, e = .returned (.int .i64 l) ∧ w = w' :=
  (len_any 0 w (by omega)).mono fun e w' ⟨h1, h2⟩ => ⟨_, h1, h2⟩
theorem sort_none' (A : Option Addr) (c : Nat) (w : World) :
    Calls Tryz.prog 175 #[.slice A 0 c] w fun e w' => e = .returned (.tuple #[]) ∧ w = w' := by
  go_enter Tryz.func175, Tryz.ntmps175
  go_wp2_with fail
  refine (len_zero' _).mono ?_
  rintro e w1 ⟨l, rfl, rfl⟩
  go_wp2_with fail
  refine (pdq_none' A c l _).mono ?_
  rintro e w2 ⟨rfl, rfl⟩
  go_wp2_with fail
  go_end0
  exact ⟨rfl, rfl⟩
theorem bang_get {A : Array Int} {i : Nat} (h : i < A.toList.length) : A[i]! = A.toList[i] := bang (List.getElem?_eq_getElem h)
theorem rises {n : Nat} {D X : Array Int} (hD : D.size = n) (hX : X.size = n) (h : PermIn 0 n D X ∧ SortedIn ltInt 0 n X) : X.toList.Perm D.toList ∧ X.toList.Pairwise (· ≤ ·) := by
  obtain ⟨⟨h1, h2, h3⟩, h4⟩ := h
  constructor
  · have e1 : X.extract 0 n = X := by rw [← hX]; exact Array.extract_size
    have e2 : D.extract 0 n = D := by rw [← hD]; exact Array.extract_size
    rw [e1, e2] at h3
    exact h3
  · rw [List.pairwise_iff_getElem]
    intro i j hi hj hij
    have := ge_of (h4 i j (Nat.zero_le _) hij (by rw [← hX]; simpa using hj))
    rw [bang_get hi, bang_get hj] at this
    exact this

theorem sortU_any (w : World) (base : Nat) (A : Option Addr) (n c : Nat) (acc : List Int) (hn : acc.length = n) (hrow : w.ownsRow base 30 1 (.slice A n c) n (acc.map (Value.int .u64))) (hsz : n ≤ 200) :
    Calls Tryz.prog 175 #[.slice A n c] w fun e w' => e = .returned (.tuple #[]) ∧ ∃ acc' : List Int, acc'.Perm acc ∧ acc'.Pairwise (· ≤ ·) ∧ Rd (Value.int .u64) w' w'.heap.size A n c acc' ∧ w.grownBy w' (Value.slice A n c).ownBlock := by
  subst hn
  by_cases h0 : acc.length = 0
  · obtain rfl := List.eq_nil_of_length_eq_zero h0
    refine (sort_none' A c w).mono ?_
    rintro e w' ⟨rfl, rfl⟩
    exact ⟨rfl, [], List.Perm.refl _, List.Pairwise.nil, Rd.own_rd hrow, World.grownBy.refl _ _⟩
  · rcases hrow.2 with ⟨_, h1⟩ | ⟨b, cap, cur, hs, hbase, hb, hnc, hcm, hcs, htake⟩
    · omega
    injection hs with hA _ hc
    subst hA hc
    have hlt : b < w.heap.size := (Array.getElem?_eq_some_iff.1 hb).1
    have hR : Row w b acc.length acc.toArray.toList := by
      refine ⟨rfl, fun j x hx => ?_, fun j hj => by simp [World.frozen?, hb]⟩
      obtain ⟨hj, rfl⟩ := List.getElem?_eq_some_iff.1 hx
      rw [hrow.cellAt j (by rw [Nat.mul_one]; exact hj), List.getElem?_map, List.getElem?_eq_getElem hj]
      rfl
    refine (sort_srt b acc.length c acc.toArray w rfl hR hsz (by omega)).mono ?_
    rintro e w' ⟨rfl, X, hX, hP, h2, h3⟩
    obtain ⟨p1, p2⟩ := rises rfl hX hP
    refine ⟨rfl, X.toList, p1, p2, ⟨by simpa using hX, hnc, by unfold maxLen at hcm; exact hcm, fun _ => ⟨b, 0, rfl, Nat.lt_of_lt_of_le hlt h3.size, fun j x hx => by rw [Nat.zero_add]; exact h2.cell j x hx⟩⟩, h3⟩
end Go.Proofs.YtlpjlphofjghhaaGreatDoor.So
