/- The document's bag (layer 15): with, Swap, Proved, Publish, Unlist. -/
import Derived.Test.YtlpjlphofjghhaaGreatDoorBagRef
import Derived.Test.YtlpjlphofjghhaaGreatDoorCellSwapsWalk
namespace Go.Proofs.YtlpjlphofjghhaaGreatDoor.Ba
open Go.ChangeShapes Go.WideShapes Go.ChangeAt Go.RowKit Go.Maps Rw Hi Mt
set_option linter.unusedVariables false

/-- Where the document's bag lies. -/
structure Db where
  A : Option Addr
  n : Nat
  c : Nat
  A2 : Option Addr
  n2 : Nat
  c2 : Nat
abbrev Db.val (d : Db) : Value := .agg #[.slice d.A d.n d.c, .slice d.A2 d.n2 d.c2]
/-- A slice of structs that is nil, or whose place has no spot. -/
def Flt (A : Option Addr) (c : Nat) : Prop := (A = none ∧ c = 0) ∨ ∃ b o, A = some ⟨b, o, none⟩
/-- The document's bag: entries, the list. -/
structure Dq (K : Nat → Prop) (w : World) (d : Db) (D : List (Int × Ex)) (S : List Int) : Prop where
  l : Rb w w.heap.size d.A d.n d.c D
  s : Rd (Value.int .u64) w w.heap.size d.A2 d.n2 d.c2 S
  fl : Flt d.A d.c
  kl : Kn K d.n d.A
  ks : Kn K d.n2 d.A2
theorem Dq.later {K : Nat → Prop} {w w' : World} {d : Db} {D : List (Int × Ex)} {S : List Int} (h : Dq K w d D S) (hb : Below w.heap.size w w') : Dq K w' d D S := ⟨h.l.later hb, h.s.later hb, h.fl, h.kl, h.ks⟩
theorem own_flt {w : World} {base : Nat} {e : TypeId} {sz n c : Nat} {A : Option Addr} {xs : List Value} (h : w.ownsRow base e sz (.slice A n c) n xs) : Flt A c := by
  rcases h.2 with ⟨h1, _⟩ | ⟨g, cap, cur, h1, _⟩
  · injection h1 with h1 _ h2; exact .inl ⟨h1, h2⟩
  · injection h1 with h1 _ h2; exact .inr ⟨g, 0, h1⟩
theorem flat_sets (xs : List (Int × Ex)) (k : Nat) (y : Int × Ex) (hk : k < xs.length) : (((((flat enc5 xs).set (k * 5) (.int .u64 y.1)).set (k * 5 + 1) (.int .u64 y.2.word)).set (k * 5 + 2) (.int .u64 y.2.born)).set (k * 5 + 3) (.int .u64 y.2.since)).set (k * 5 + 4) (.int .u64 y.2.proved) = flat enc5 (xs.set k y) := by
  have hl : (flat enc5 xs).length = xs.length * 5 := flat_len enc5_len xs
  have h1 := setsL_eq (enc5 y) (flat enc5 xs) (k * 5) (by rw [hl, enc5_len]; omega)
  have h2 : setsL (flat enc5 xs) (k * 5) (enc5 y) = (((((flat enc5 xs).set (k * 5) (.int .u64 y.1)).set (k * 5 + 1) (.int .u64 y.2.word)).set (k * 5 + 2) (.int .u64 y.2.born)).set (k * 5 + 3) (.int .u64 y.2.since)).set (k * 5 + 4) (.int .u64 y.2.proved) := rfl
  rw [← h2, h1, enc5_len, show k * 5 + 5 = (k + 1) * 5 by omega, flat_take enc5_len, flat_drop enc5_len, List.set_eq_take_append_cons_drop, if_pos hk]
  have : xs.take k ++ y :: xs.drop (k + 1) = (xs.take k ++ [y]) ++ xs.drop (k + 1) := by simp
  rw [this, flat_append, flat_append]
  congr 2
section
variable {K : Nat → Prop} (A A2 : Option Addr) (n c n2 c2 : Nat) (D : List (Int × Ex)) (S : List Int) (w : World)
set_option maxRecDepth 100000 in
set_option maxHeartbeats 2000000 in
theorem rwith_at (k : Nat) (y : Int × Ex) (h : Dq K w ⟨A, n, c, A2, n2, c2⟩ D S) (hKK : ∀ g, w.heap.size ≤ g → K g) (hk : k < n) (hn : n ≤ 1000) :
    Calls Tryz.prog 52 #[.agg #[.slice A n c, .slice A2 n2 c2], .int .i64 k, .agg #[.int .u64 y.1, .int .u64 y.2.word, .int .u64 y.2.born, .int .u64 y.2.since, .int .u64 y.2.proved]] w fun e w' => ∃ A' c', e = .returned (.agg #[.slice A' n c', .slice A2 n2 c2]) ∧ Dq K w' ⟨A', n, c', A2, n2, c2⟩ (D.set k y) S ∧ Below w.heap.size w w' := by
  obtain ⟨i0, hi, hz0, hz1, hz2⟩ := info_parts info_entry
  have HD := Lib.hid h
  have HKK := Lib.hid hKK
  have hlen : D.length = n := h.l.len
  have HLEN := Lib.hid hlen
  clear h hlen hKK
  go_enter Tryz.func52, Tryz.ntmps52
  go_upto_region 2 with (fail)
  have b1 : Below w.heap.size w (((w.alloc (.cells #[.slice A n c, .slice A2 n2 c2] 29)).alloc (.cells #[.int .u64 y.1, .int .u64 y.2.word, .int .u64 y.2.born, .int .u64 y.2.since, .int .u64 y.2.proved] 124)).alloc (.cells #[.slice none 0 0, .slice none 0 0] 29)) := (((Below.refl _ _).alloc (Nat.le_refl _) _).alloc (by simp) _).alloc (by simp; omega) _
  have v0 : (((w.alloc (.cells #[.slice A n c, .slice A2 n2 c2] 29)).alloc (.cells #[.int .u64 y.1, .int .u64 y.2.word, .int .u64 y.2.born, .int .u64 y.2.since, .int .u64 y.2.proved] 124)).alloc (.cells #[.slice none 0 0, .slice none 0 0] 29)).cell? ⟨w.heap.size, 0, none⟩ = some (.slice A n c) := by go_simp
  have v1 : (((w.alloc (.cells #[.slice A n c, .slice A2 n2 c2] 29)).alloc (.cells #[.int .u64 y.1, .int .u64 y.2.word, .int .u64 y.2.born, .int .u64 y.2.since, .int .u64 y.2.proved] 124)).alloc (.cells #[.slice none 0 0, .slice none 0 0] 29)).cell? ⟨w.heap.size, 1, none⟩ = some (.slice A2 n2 c2) := by go_simp
  have vf : (((w.alloc (.cells #[.slice A n c, .slice A2 n2 c2] 29)).alloc (.cells #[.int .u64 y.1, .int .u64 y.2.word, .int .u64 y.2.born, .int .u64 y.2.since, .int .u64 y.2.proved] 124)).alloc (.cells #[.slice none 0 0, .slice none 0 0] 29)).frozen? ⟨w.heap.size, 0, none⟩ = false := by go_simp
  have e0 : (((w.alloc (.cells #[.slice A n c, .slice A2 n2 c2] 29)).alloc (.cells #[.int .u64 y.1, .int .u64 y.2.word, .int .u64 y.2.born, .int .u64 y.2.since, .int .u64 y.2.proved] 124)).alloc (.cells #[.slice none 0 0, .slice none 0 0] 29)).cell? ⟨w.heap.size + 1, 0, none⟩ = some (.int .u64 y.1) := by go_simp
  have e1 : (((w.alloc (.cells #[.slice A n c, .slice A2 n2 c2] 29)).alloc (.cells #[.int .u64 y.1, .int .u64 y.2.word, .int .u64 y.2.born, .int .u64 y.2.since, .int .u64 y.2.proved] 124)).alloc (.cells #[.slice none 0 0, .slice none 0 0] 29)).cell? ⟨w.heap.size + 1, 1, none⟩ = some (.int .u64 y.2.word) := by go_simp
  have e2 : (((w.alloc (.cells #[.slice A n c, .slice A2 n2 c2] 29)).alloc (.cells #[.int .u64 y.1, .int .u64 y.2.word, .int .u64 y.2.born, .int .u64 y.2.since, .int .u64 y.2.proved] 124)).alloc (.cells #[.slice none 0 0, .slice none 0 0] 29)).cell? ⟨w.heap.size + 1, 2, none⟩ = some (.int .u64 y.2.born) := by go_simp
  have e3 : (((w.alloc (.cells #[.slice A n c, .slice A2 n2 c2] 29)).alloc (.cells #[.int .u64 y.1, .int .u64 y.2.word, .int .u64 y.2.born, .int .u64 y.2.since, .int .u64 y.2.proved] 124)).alloc (.cells #[.slice none 0 0, .slice none 0 0] 29)).cell? ⟨w.heap.size + 1, 3, none⟩ = some (.int .u64 y.2.since) := by go_simp
  have e4 : (((w.alloc (.cells #[.slice A n c, .slice A2 n2 c2] 29)).alloc (.cells #[.int .u64 y.1, .int .u64 y.2.word, .int .u64 y.2.born, .int .u64 y.2.since, .int .u64 y.2.proved] 124)).alloc (.cells #[.slice none 0 0, .slice none 0 0] 29)).cell? ⟨w.heap.size + 1, 4, none⟩ = some (.int .u64 y.2.proved) := by go_simp
  have r0 : (((w.alloc (.cells #[.slice A n c, .slice A2 n2 c2] 29)).alloc (.cells #[.int .u64 y.1, .int .u64 y.2.word, .int .u64 y.2.born, .int .u64 y.2.since, .int .u64 y.2.proved] 124)).alloc (.cells #[.slice none 0 0, .slice none 0 0] 29)).cell? ⟨w.heap.size + 2, 0, none⟩ = some (.slice none 0 0) := by go_simp
  have r1 : (((w.alloc (.cells #[.slice A n c, .slice A2 n2 c2] 29)).alloc (.cells #[.int .u64 y.1, .int .u64 y.2.word, .int .u64 y.2.born, .int .u64 y.2.since, .int .u64 y.2.proved] 124)).alloc (.cells #[.slice none 0 0, .slice none 0 0] 29)).cell? ⟨w.heap.size + 2, 1, none⟩ = some (.slice none 0 0) := by go_simp
  have z0 : (((w.alloc (.cells #[.slice A n c, .slice A2 n2 c2] 29)).alloc (.cells #[.int .u64 y.1, .int .u64 y.2.word, .int .u64 y.2.born, .int .u64 y.2.since, .int .u64 y.2.proved] 124)).alloc (.cells #[.slice none 0 0, .slice none 0 0] 29)).frozen? ⟨w.heap.size + 2, 0, none⟩ = false := by go_simp
  have z1 : (((w.alloc (.cells #[.slice A n c, .slice A2 n2 c2] 29)).alloc (.cells #[.int .u64 y.1, .int .u64 y.2.word, .int .u64 y.2.born, .int .u64 y.2.since, .int .u64 y.2.proved] 124)).alloc (.cells #[.slice none 0 0, .slice none 0 0] 29)).frozen? ⟨w.heap.size + 2, 1, none⟩ = false := by go_simp
  have hs3 : w.heap.size + 2 < (((w.alloc (.cells #[.slice A n c, .slice A2 n2 c2] 29)).alloc (.cells #[.int .u64 y.1, .int .u64 y.2.word, .int .u64 y.2.born, .int .u64 y.2.since, .int .u64 y.2.proved] 124)).alloc (.cells #[.slice none 0 0, .slice none 0 0] 29)).heap.size := by simp
  obtain ⟨W3, hW3⟩ : ∃ W3, (((w.alloc (.cells #[.slice A n c, .slice A2 n2 c2] 29)).alloc (.cells #[.int .u64 y.1, .int .u64 y.2.word, .int .u64 y.2.born, .int .u64 y.2.since, .int .u64 y.2.proved] 124)).alloc (.cells #[.slice none 0 0, .slice none 0 0] 29)) = W3 := ⟨_, rfl⟩
  rw [hW3] at b1 v0 v1 vf e0 e1 e2 e3 e4 r0 r1 z0 z1 hs3 ⊢
  have B1 := Lib.hid b1
  have RF : Hid (Rb W3 W3.heap.size A n c D) := Lib.hid (HD.out.later b1).l
  have HD3 := Lib.hid (HD.out.later b1)
  clear hW3 b1
  have hkd : k < D.length := by have := HLEN.out; omega
  obtain ⟨x, hx⟩ : ∃ x, D[k]? = some x := ⟨_, List.getElem?_eq_getElem hkd⟩
  have hfl : (flat enc5 D).length = n * 5 := by rw [flat_len enc5_len, HLEN.out]
  have hfa : ∀ i, i < 5 → (flat enc5 D)[k * 5 + i]? = (enc5 x)[i]? := fun i hi => flat_at enc5_len D k x i hx hi
  have HFL := Lib.hid hfl
  have HFA := Lib.hid hfa
  clear hx hfl hfa
  go_wp2_with (
    at_builtin
    refine append_rs enc5_len rfl _ _ 26 rfl W3.heap.size 124 i0 _ 40 Tryz.underlying26 hi hz0 hz1 hz2 rfl (by decide) (.slice none 0 0) 0 [] rfl (World.ownsRow_nil _ _ _ _) _ A n c D rfl RF.out enc5_one n (Nat.zero_add _) (flat enc5 D) rfl (by unfold maxLen; omega) (by omega) (Nat.le_refl _) ?_
    intro A5 c5 w5 ho5 hg5 hat5
    refine Hid.out ?_)
  refine Lib.hid ?_
  have b5 : Below W3.heap.size W3 w5 := (Below.refl _ _).grown hg5 (Nat.le_refl _) (fun j hj => by cases hj)
  have hlt : ∀ i, i < 5 → k * 5 + i < n * 5 := fun i hi => by omega
  rcases ho5.2 with ⟨_, h0⟩ | ⟨g5, cap, cur, h1, hbase, hg, hnc, hcm, hcs, htake⟩
  · omega
  injection h1 with h1 _ h2
  subst h1 h2
  have q0 : w5.cell? ⟨g5, k * 5, none⟩ = some (.int .u64 x.1) := by rw [ho5.cellAt (k * 5) (by omega)]; exact HFA.out 0 (by omega)
  have q1 : w5.cell? ⟨g5, k * 5 + 1, none⟩ = some (.int .u64 x.2.word) := by rw [ho5.cellAt (k * 5 + 1) (by omega)]; exact HFA.out 1 (by omega)
  have q2 : w5.cell? ⟨g5, k * 5 + 2, none⟩ = some (.int .u64 x.2.born) := by rw [ho5.cellAt (k * 5 + 2) (by omega)]; exact HFA.out 2 (by omega)
  have q3 : w5.cell? ⟨g5, k * 5 + 3, none⟩ = some (.int .u64 x.2.since) := by rw [ho5.cellAt (k * 5 + 3) (by omega)]; exact HFA.out 3 (by omega)
  have q4 : w5.cell? ⟨g5, k * 5 + 4, none⟩ = some (.int .u64 x.2.proved) := by rw [ho5.cellAt (k * 5 + 4) (by omega)]; exact HFA.out 4 (by omega)
  have qf : ∀ o, w5.frozen? ⟨g5, o, none⟩ = false := fun o => by simp [World.frozen?, hg]
  have qf0 := qf (k * 5)
  have qf1 := qf (k * 5 + 1)
  have qf2 := qf (k * 5 + 2)
  have qf3 := qf (k * 5 + 3)
  have qf4 := qf (k * 5 + 4)
  have hg5l : g5 < w5.heap.size := (Array.getElem?_eq_some_iff.1 hg).1
  have u0 := (b5.cell (p := ⟨w.heap.size, 0, none⟩) (by show w.heap.size < _; omega)).trans v0
  have u1 := (b5.cell (p := ⟨w.heap.size, 1, none⟩) (by show w.heap.size < _; omega)).trans v1
  have uf := (b5.frozen (p := ⟨w.heap.size, 0, none⟩) (by show w.heap.size < _; omega)).trans vf
  have d0 := (b5.cell (p := ⟨w.heap.size + 1, 0, none⟩) (by show w.heap.size + 1 < _; omega)).trans e0
  have d1 := (b5.cell (p := ⟨w.heap.size + 1, 1, none⟩) (by show w.heap.size + 1 < _; omega)).trans e1
  have d2 := (b5.cell (p := ⟨w.heap.size + 1, 2, none⟩) (by show w.heap.size + 1 < _; omega)).trans e2
  have d3 := (b5.cell (p := ⟨w.heap.size + 1, 3, none⟩) (by show w.heap.size + 1 < _; omega)).trans e3
  have d4 := (b5.cell (p := ⟨w.heap.size + 1, 4, none⟩) (by show w.heap.size + 1 < _; omega)).trans e4
  have t0 := (b5.cell (p := ⟨w.heap.size + 2, 0, none⟩) (by show w.heap.size + 2 < _; omega)).trans r0
  have t1 := (b5.cell (p := ⟨w.heap.size + 2, 1, none⟩) (by show w.heap.size + 2 < _; omega)).trans r1
  have tz0 := (b5.frozen (p := ⟨w.heap.size + 2, 0, none⟩) (by show w.heap.size + 2 < _; omega)).trans z0
  have tz1 := (b5.frozen (p := ⟨w.heap.size + 2, 1, none⟩) (by show w.heap.size + 2 < _; omega)).trans z1
  have hne0 : g5 ≠ w.heap.size := by omega
  have hbg : w.heap.size ≤ g5 := by omega
  have hne1 : g5 ≠ w.heap.size + 1 := by omega
  have hne2 : g5 ≠ w.heap.size + 2 := by omega
  have hk0 : decide ((0 : Int) ≤ (k : Int)) = true := decide_eq_true (by omega)
  have HO5 := Lib.hid ho5
  have B5 := Lib.hid (B1.out.trans (b5.mono (by omega)))
  have HD5 := Lib.hid (HD3.out.later b5)
  have hs5 : w.heap.size + 2 < w5.heap.size := by have := b5.size; omega
  clear ho5 hg5 hat5 b5 v0 v1 vf e0 e1 e2 e3 e4 r0 r1 z0 z1 qf hg hnc hcm hcs htake hbase
  go_wp2_with fail
  have o1 := (HO5.out.stored (k * 5) (.int .u64 y.1)).1
  have o2 := (o1.stored (k * 5 + 1) (.int .u64 y.2.word)).1
  have o3 := (o2.stored (k * 5 + 2) (.int .u64 y.2.born)).1
  have o4 := (o3.stored (k * 5 + 3) (.int .u64 y.2.since)).1
  have o5 := (o4.stored (k * 5 + 4) (.int .u64 y.2.proved)).1
  have hset : ((((((((w5.setCell ⟨g5, k * 5, none⟩ (.int .u64 y.1)).setCell ⟨g5, k * 5 + 1, none⟩ (.int .u64 y.2.word)).setCell ⟨g5, k * 5 + 2, none⟩ (.int .u64 y.2.born)).setCell ⟨g5, k * 5 + 3, none⟩ (.int .u64 y.2.since)).setCell ⟨g5, k * 5 + 4, none⟩ (.int .u64 y.2.proved)).setCell ⟨w.heap.size, 0, none⟩ (.slice (some ⟨g5, 0, none⟩) n c5)).setCell ⟨w.heap.size + 1 + 1, 0, none⟩ (.slice (some ⟨g5, 0, none⟩) n c5)).setCell ⟨w.heap.size + 1 + 1, 1, none⟩ (.slice A2 n2 c2)).ownsRow W3.heap.size 124 5 (.slice (some ⟨g5, 0, none⟩) n c5) n (flat enc5 (D.set k y)) := by
    rw [← flat_sets D k y (by have := HLEN.out; omega)]
    refine Hi.own_same o5 (fun g' hg' => ?_)
    have hg : g' = g5 := by simpa [Value.ownBlock] using hg'.symm
    subst hg
    exact (heap_setCell_other _ ⟨w.heap.size + 1 + 1, 1, none⟩ g' _ hne2).trans ((heap_setCell_other _ ⟨w.heap.size + 1 + 1, 0, none⟩ g' _ hne2).trans (heap_setCell_other _ ⟨w.heap.size, 0, none⟩ g' _ hne0))
  have hfin : Below w.heap.size w ((((((((w5.setCell ⟨g5, k * 5, none⟩ (.int .u64 y.1)).setCell ⟨g5, k * 5 + 1, none⟩ (.int .u64 y.2.word)).setCell ⟨g5, k * 5 + 2, none⟩ (.int .u64 y.2.born)).setCell ⟨g5, k * 5 + 3, none⟩ (.int .u64 y.2.since)).setCell ⟨g5, k * 5 + 4, none⟩ (.int .u64 y.2.proved)).setCell ⟨w.heap.size, 0, none⟩ (.slice (some ⟨g5, 0, none⟩) n c5)).setCell ⟨w.heap.size + 1 + 1, 0, none⟩ (.slice (some ⟨g5, 0, none⟩) n c5)).setCell ⟨w.heap.size + 1 + 1, 1, none⟩ (.slice A2 n2 c2)) := by
    have x1 := B5.out.setCell (p := ⟨g5, k * 5, none⟩) hbg (.int .u64 y.1)
    have x2 := x1.setCell (p := ⟨g5, k * 5 + 1, none⟩) hbg (.int .u64 y.2.word)
    have x3 := x2.setCell (p := ⟨g5, k * 5 + 2, none⟩) hbg (.int .u64 y.2.born)
    have x4 := x3.setCell (p := ⟨g5, k * 5 + 3, none⟩) hbg (.int .u64 y.2.since)
    have x5 := x4.setCell (p := ⟨g5, k * 5 + 4, none⟩) hbg (.int .u64 y.2.proved)
    have x6 := x5.setCell (p := ⟨w.heap.size, 0, none⟩) (Nat.le_refl _) (.slice (some ⟨g5, 0, none⟩) n c5)
    have x7 := x6.setCell (p := ⟨w.heap.size + 1 + 1, 0, none⟩) (by show w.heap.size ≤ w.heap.size + 1 + 1; omega) (.slice (some ⟨g5, 0, none⟩) n c5)
    exact x7.setCell (p := ⟨w.heap.size + 1 + 1, 1, none⟩) (by show w.heap.size ≤ w.heap.size + 1 + 1; omega) _
  have hd := HD.out.later hfin
  exact bodyPost_ret (v := .agg #[.slice (some ⟨g5, 0, none⟩) n c5, .slice A2 n2 c2]) (by simp [results, Tryz.results52, go_sem, t0, t1]) rfl ⟨_, _, rfl, ⟨Rs.own_rs enc5_len (by simp [HLEN.out]) hset, hd.s, own_flt hset, Kn.own hset (fun g hg => HKK.out g (by omega)), hd.ks⟩, hfin⟩
end
end Go.Proofs.YtlpjlphofjghhaaGreatDoor.Ba
