/- Contracts of layer 11 (slots): slots at a block. -/
import Derived.Test.YtbedboekfkobjaaGreatDoorSlotsB
namespace Go.Proofs.YtbedboekfkobjaaGreatDoor.St
open Go.ChangeShapes Go.WideShapes Go.ChangeAt Go.RowKit Rw Hi
set_option linter.unusedVariables false

/-- Slots at block p: the row lies at r; all of it from block B on. -/
structure Ss (w : World) (B p : Nat) (r : Option Nat) (l : List Sx) : Prop where
  row : ∃ A c, w.cell? ⟨p, 0, none⟩ = some (.slice A l.length c) ∧ w.ownsRow B 43 3 (.slice A l.length c) l.length (flat enc3 l) ∧ (Value.slice A l.length c).ownBlock = r
  free0 : w.frozen? ⟨p, 0, none⟩ = false
  lo : B ≤ p
  ne : r ≠ some p
theorem Ss.lt {w : World} {B p : Nat} {r : Option Nat} {l : List Sx} (h : Ss w B p r l) : p < w.heap.size := by obtain ⟨A, c, h1, _⟩ := h.row; exact Lw.lt_heap h1
theorem Ss.rowlt {w : World} {B p : Nat} {r : Option Nat} {l : List Sx} (h : Ss w B p r l) : ∀ g, r = some g → B ≤ g ∧ g < w.heap.size := by
  intro g hg
  obtain ⟨A, c, _, ho, e⟩ := h.row
  exact ho.lt g (e.trans hg)
theorem Ss.same {w w' : World} {B p : Nat} {r : Option Nat} {l : List Sx} (h : Ss w B p r l) (hp : w'.heap[p]? = w.heap[p]?) (hr : ∀ g, r = some g → w'.heap[g]? = w.heap[g]?) : Ss w' B p r l := by
  obtain ⟨A, c, h1, h2, h3⟩ := h.row
  have hc : ∀ o, w'.cell? ⟨p, o, none⟩ = w.cell? ⟨p, o, none⟩ := fun o => by unfold World.cell?; simp only [hp]
  have hf : ∀ o, w'.frozen? ⟨p, o, none⟩ = w.frozen? ⟨p, o, none⟩ := fun o => by unfold World.frozen?; simp only [hp]
  exact ⟨⟨A, c, (hc 0).trans h1, own_same h2 (fun g hg => hr g (h3.symm.trans hg)), h3⟩, (hf 0).trans h.free0, h.lo, h.ne⟩
theorem Ss.fr {w w' : World} {B p : Nat} {r a b : Option Nat} {l : List Sx} (h : Ss w B p r l) (hf : Fr a b w w') (h1 : some p ≠ a) (h2 : some p ≠ b) (h3 : ∀ g, r = some g → some g ≠ a ∧ some g ≠ b) : Ss w' B p r l :=
  h.same (hf.block p h.lt h1 h2) (fun g hg => hf.block g (h.rowlt g hg).2 (h3 g hg).1 (h3 g hg).2)
theorem Ss.later {w w' : World} {B p : Nat} {r : Option Nat} {l : List Sx} (h : Ss w B p r l) (hb : Below w.heap.size w w') : Ss w' B p r l :=
  h.same (hb.block p h.lt) (fun g hg => hb.block g (h.rowlt g hg).2)
/-- As a slice. -/
theorem Ss.rs {w : World} {B p : Nat} {r : Option Nat} {l : List Sx} (h : Ss w B p r l) : ∃ A c, w.cell? ⟨p, 0, none⟩ = some (.slice A l.length c) ∧ Rs enc3 3 w w.heap.size A l.length c l := by
  obtain ⟨A, c, h1, h2, _⟩ := h.row
  exact ⟨A, c, h1, Rs.own_rs enc3_len rfl h2⟩
/-- A new row is stored. -/
theorem Ss.put {w w1 : World} {B p : Nat} {r : Option Nat} {l l' : List Sx} {A' : Option Addr} {n' c' : Nat} (h : Ss w B p r l) (hn : l'.length = n') (hg : w.grownBy w1 r) (ho : w1.ownsRow B 43 3 (.slice A' n' c') n' (flat enc3 l'))
    (hA : (Value.slice A' n' c').ownBlock = r ∨ ∃ g, (Value.slice A' n' c').ownBlock = some g ∧ w.heap.size ≤ g) :
    ∃ r', Ss (w1.setCell ⟨p, 0, none⟩ (.slice A' n' c')) B p r' l' ∧ Fr (some p) r w (w1.setCell ⟨p, 0, none⟩ (.slice A' n' c')) ∧ (∀ g, r' = some g → r = some g ∨ w.heap.size ≤ g) := by
  subst hn
  obtain ⟨A, c, h1, h2, h3⟩ := h.row
  have hlt := h.lt
  have e0 : w1.cell? ⟨p, 0, none⟩ = some (.slice A l.length c) := (hg.cell h1 (fun e => h.ne e.symm))
  have ef : w1.frozen? ⟨p, 0, none⟩ = false := grown_frozen hg h.free0 hlt (fun e => h.ne e.symm)
  have hne : (Value.slice A' l'.length c').ownBlock ≠ some p := by
    rcases hA with e | ⟨g, e, hge⟩
    · rw [e]; exact h.ne
    · rw [e]; intro e2; injection e2 with e2; omega
  refine ⟨_, ⟨⟨A', c', World.cell?_setCell_same _ _ _ e0, own_same ho (fun g hg' => heap_setCell_other _ _ g _ (fun e => hne (by rw [hg', show g = p from e]))), rfl⟩, by simpa using ef, h.lo, hne⟩,
    (Fr.of_grown hg (.inr (.inr rfl))).then (a' := some p) (b' := none) (Fr.of_grown (grown_setCell _ _ _) (.inr (.inl rfl))) (fun k hk _ => .inl hk.symm) (fun k hk _ => by cases hk), fun g hg' => ?_⟩
  rcases hA with e | ⟨g2, e, hge⟩
  · exact .inl (e.symm.trans hg')
  · rw [e] at hg'; injection hg' with hg'; subst hg'; exact .inr hge
/-- The id of one is stored. -/
theorem Ss.fill {w w1 : World} {B p : Nat} {r : Option Nat} {l : List Sx} {k : Nat} {x : Sx} (h : Ss w B p r l) (hb : Below w.heap.size w w1) (hx : l[k]? = some x) (i : Int) {g c : Nat} (hc : w.cell? ⟨p, 0, none⟩ = some (.slice (some ⟨g, 0, none⟩) l.length c)) :
    Ss (w1.setCell ⟨g, k * 3 + 2, none⟩ (.int .u64 i)) B p r (fillAt l k x i) ∧ Fr (some p) r w (w1.setCell ⟨g, k * 3 + 2, none⟩ (.int .u64 i)) ∧ r = some g := by
  have h' := h.later hb
  have hcw : w1.cell? ⟨p, 0, none⟩ = some (.slice (some ⟨g, 0, none⟩) l.length c) := (hb.cell (p := ⟨p, 0, none⟩) h.lt).trans hc
  obtain ⟨A, c2, h1, h2, h3⟩ := h'.row
  rw [hcw] at h1
  injection h1 with h1
  injection h1 with h1 _ h4
  subst h1 h4
  have hr : r = some g := h3.symm
  subst hr
  have hpg : g ≠ p := fun e => h.ne (by rw [e])
  obtain ⟨o1, o2⟩ := h2.stored (k * 3 + 2) (.int .u64 i)
  rw [flat_set enc3_len l k 2 x (x.1, x.2.1, i) (.int .u64 i) hx (by omega) rfl] at o1
  have hln : (fillAt l k x i).length = l.length := fillAt_len l k x i
  refine ⟨⟨⟨some ⟨g, 0, none⟩, c, ?_, ?_, rfl⟩, ?_, h.lo, h.ne⟩, ?_, rfl⟩
  · rw [hln]; exact (World.cell?_setCell_other _ _ _ _ (fun e => by injection e with e; exact hpg e)).trans hcw
  · rw [hln]; exact o1
  · simpa using (hb.frozen (p := ⟨p, 0, none⟩) h.lt).trans h.free0
  · exact ⟨o2.os.trans hb.os, o2.tape.trans hb.tape, o2.output.trans hb.output, Nat.le_trans hb.size o2.size, fun q hq _ hne => (o2.block q (Nat.lt_of_lt_of_le hq hb.size) hne).trans (hb.block q hq)⟩

theorem new_any (w : World) (B : Nat) (hB : B ≤ w.heap.size) :
    Calls Tryz.prog 10 #[] w fun e w' => ∃ p, e = .returned (.pointer (some ⟨p, 0, none⟩)) ∧ Ss w' B p none [] ∧ w.heap.size ≤ p ∧ Below w.heap.size w w' := by
  go_enter Tryz.func10, Tryz.ntmps10
  go_wp2_with fail
  go_ret
  exact ⟨w.heap.size, rfl, ⟨⟨none, 0, by go_simp, World.ownsRow_nil _ _ _ _, rfl⟩, by go_simp, hB, by simp⟩, Nat.le_refl _, (Below.refl _ _).alloc (Nat.le_refl _) _⟩
theorem clone_nil (w : World) :
    Calls Tryz.prog 11 #[.pointer none] w fun e w' => e = .returned (.pointer none) ∧ w = w' := by
  go_enter Tryz.func11, Tryz.ntmps11
  go_wp2_with fail
  go_ret
  exact ⟨rfl, rfl⟩
theorem all_nil (w : World) :
    Calls Tryz.prog 22 #[.pointer none] w fun e w' => e = .returned (.slice none 0 0) ∧ w = w' := by
  go_enter Tryz.func22, Tryz.ntmps22
  go_wp2_with fail
  go_ret
  exact ⟨rfl, rfl⟩
theorem waiting_nil (w : World) :
    Calls Tryz.prog 23 #[.pointer none] w fun e w' => e = .returned (.int .i64 0) ∧ w = w' := by
  go_enter Tryz.func23, Tryz.ntmps23
  go_wp2_with fail
  go_ret
  exact ⟨rfl, rfl⟩
theorem park_nil (t d : Int) (w : World) :
    Calls Tryz.prog 13 #[.pointer none, .int .i64 t, .int .u64 d] w fun e w' => e = .returned (.int .i64 1) ∧ w = w' := by
  go_enter Tryz.func13, Tryz.ntmps13
  go_wp2_with fail
  go_ret
  exact ⟨rfl, rfl⟩
theorem fill_nil (i : Int) (w : World) :
    Calls Tryz.prog 12 #[.pointer none, .int .u64 i] w fun e w' => e = .returned (.tuple #[.int .i64 0, .bool false]) ∧ w = w' := by
  go_enter Tryz.func12, Tryz.ntmps12
  go_wp2_with fail
  go_ret2
  exact ⟨rfl, rfl⟩
theorem place_nil (t : Int) (w : World) :
    Calls Tryz.prog 43 #[.pointer none, .int .i64 t] w fun e w' => e = .returned (.int .i64 (-1)) ∧ Below w.heap.size w w' := by
  go_enter Tryz.func43, Tryz.ntmps43
  go_wp2_with fail
  go_ret
  exact ⟨rfl, (Below.refl _ _).alloc (Nat.le_refl _) _⟩
theorem take_nil (t : Int) (w : World) :
    Calls Tryz.prog 15 #[.pointer none, .int .i64 t] w fun e w' => e = .returned (.tuple #[.int .u64 0, .bool false]) ∧ Below w.heap.size w w' := by
  go_enter Tryz.func15, Tryz.ntmps15
  go_wp2_with fail
  refine (place_nil t _).mono ?_
  rintro e w1 ⟨rfl, hb⟩
  go_wp2_with fail
  go_ret2
  exact ⟨rfl, hb⟩
set_option maxRecDepth 100000 in
theorem of_nil (t : Int) (w : World) :
    Calls Tryz.prog 18 #[.pointer none, .int .i64 t] w fun e w' => e = .returned (.tuple #[.agg #[.int .i64 0, .int .u64 0, .int .u64 0], .bool false]) ∧ Below w.heap.size w w' := by
  go_enter Tryz.func18, Tryz.ntmps18
  go_wp2_with fail
  refine (place_nil t _).mono ?_
  rintro e w1 ⟨rfl, hb⟩
  have hs := hb.size
  simp at hs
  have z0 : w1.cell? ⟨w.heap.size, 0, none⟩ = some (.int .i64 0) := (hb.cell (p := ⟨w.heap.size, 0, none⟩) (by simp)).trans (by go_simp)
  have z1 : w1.cell? ⟨w.heap.size, 1, none⟩ = some (.int .u64 0) := (hb.cell (p := ⟨w.heap.size, 1, none⟩) (by simp)).trans (by go_simp)
  have z2 : w1.cell? ⟨w.heap.size, 2, none⟩ = some (.int .u64 0) := (hb.cell (p := ⟨w.heap.size, 2, none⟩) (by simp)).trans (by go_simp)
  have q0 : w1.frozen? ⟨w.heap.size, 0, none⟩ = false := (hb.frozen (p := ⟨w.heap.size, 0, none⟩) (by simp)).trans (by go_simp)
  have q1 : w1.frozen? ⟨w.heap.size, 1, none⟩ = false := (hb.frozen (p := ⟨w.heap.size, 1, none⟩) (by simp)).trans (by go_simp)
  have q2 : w1.frozen? ⟨w.heap.size, 2, none⟩ = false := (hb.frozen (p := ⟨w.heap.size, 2, none⟩) (by simp)).trans (by go_simp)
  have HB := Lib.hid (((Below.refl w.heap.size w).alloc (Nat.le_refl _) (.cells #[.int .i64 0, .int .u64 0, .int .u64 0] 43)).trans (hb.mono (by simp)))
  clear hb
  go_wp2_with fail
  exact bodyPost_ret (v := .tuple #[.agg #[.int .i64 0, .int .u64 0, .int .u64 0], .bool false]) (by simp [results, Tryz.results18, go_sem, z0, z1, z2]) rfl ⟨rfl, ((HB.out.setCell (Nat.le_refl _) _).setCell (Nat.le_refl _) _).setCell (Nat.le_refl _) _⟩

theorem place_any (w : World) (B p : Nat) (r : Option Nat) (l : List Sx) (t : Int) (h : Ss w B p r l) :
    Calls Tryz.prog 43 #[.pointer (some ⟨p, 0, none⟩), .int .i64 t] w fun e w' => e = .returned (.int .i64 (ixZ (hit t) l)) ∧ Below w.heap.size w w' := by
  obtain ⟨A, c, h1, hr⟩ := h.rs
  have hl := h.lt
  have HR := Lib.hid hr
  clear h hr
  generalize hn : l.length = n at *
  clear hn
  go_enter Tryz.func43, Tryz.ntmps43
  go_wp2_with fail
  refine (index_of A n c _ w.heap.size t l _ (HR.out.alloc (Nat.le_refl _) _) (by simp) (by go_simp)).mono ?_
  rintro e w1 ⟨rfl, hb⟩
  go_wp2_with fail
  go_ret
  exact ⟨rfl, ((Below.refl _ _).alloc (Nat.le_refl _) _).trans (hb.mono (by simp))⟩
theorem all_any (w : World) (B p : Nat) (r : Option Nat) (l : List Sx) (h : Ss w B p r l) (hreach : l.length ≤ 1000) :
    Calls Tryz.prog 22 #[.pointer (some ⟨p, 0, none⟩)] w fun e w' => ∃ A c, e = .returned (.slice A l.length c) ∧ w'.ownsRow w.heap.size 43 3 (.slice A l.length c) l.length (flat enc3 l) ∧ Below w.heap.size w w' := by
  obtain ⟨A, c, h1, hr⟩ := h.rs
  have HR := Lib.hid hr
  clear h hr
  generalize hn : l.length = n at *
  clear hn
  go_enter Tryz.func22, Tryz.ntmps22
  go_wp2_with fail
  refine (sclone_any A n c l _ w HR.out (Nat.le_refl _) (by omega)).mono ?_
  rintro e w1 ⟨A1, c1, rfl, ho, hb⟩
  have HO := Lib.hid ho
  clear ho
  go_wp2_with fail
  go_ret
  exact ⟨_, _, rfl, HO.out, hb⟩
theorem clone_any (w : World) (B p : Nat) (r : Option Nat) (l : List Sx) (h : Ss w B p r l) (hreach : l.length ≤ 1000) :
    Calls Tryz.prog 11 #[.pointer (some ⟨p, 0, none⟩)] w fun e w' => ∃ p' r', e = .returned (.pointer (some ⟨p', 0, none⟩)) ∧ Ss w' B p' r' l ∧ w.heap.size ≤ p' ∧ (∀ g, r' = some g → w.heap.size ≤ g) ∧ Below w.heap.size w w' := by
  obtain ⟨A, c, h1, hr⟩ := h.rs
  have hlt := h.lt
  have hlo := h.lo
  have HR := Lib.hid hr
  clear h hr
  generalize hn : l.length = n at *
  have HN := Lib.hid hn
  clear hn
  go_enter Tryz.func11, Tryz.ntmps11
  go_wp2_with fail
  refine (sclone_any A n c l _ w HR.out (Nat.le_refl _) (by omega)).mono ?_
  rintro e w1 ⟨A1, c1, rfl, ho, hb⟩
  have HO := Lib.hid ho
  have hs := hb.size
  clear ho
  go_wp2_with fail
  go_ret
  have hlt2 := HO.out.lt
  refine ⟨w1.heap.size, (Value.slice A1 n c1).ownBlock, rfl, ⟨⟨A1, c1, by rw [HN.out]; go_simp, ?_, by rw [HN.out]⟩, by go_simp, by omega, ?_⟩, hs, fun g hg => (hlt2 g hg).1, hb.alloc hs _⟩
  · rw [HN.out]
    exact own_mono (own_same HO.out (fun g hg => RowKit.Below.heap_alloc w1 _ g (hlt2 g hg).2)) (show B ≤ w.heap.size by omega)
  · intro e
    have := (hlt2 _ e).2
    omega
set_option maxHeartbeats 1000000 in
theorem waiting_any (w : World) (B p : Nat) (r : Option Nat) (l : List Sx) (h : Ss w B p r l) (hreach : l.length ≤ 1000) :
    Calls Tryz.prog 23 #[.pointer (some ⟨p, 0, none⟩)] w fun e w' => e = .returned (.int .i64 (waitN l)) ∧ Below w.heap.size w w' := by
  obtain ⟨A, c, h1, hr⟩ := h.rs
  have HR := Lib.hid hr
  clear h hr
  generalize hn : l.length = n at *
  have HL := Lib.hid hn
  clear hn
  go_enter Tryz.func23, Tryz.ntmps23
  go_wp2_with fail
  go_loopw [3, 13] (fun s i wr => ∃ k q : Nat, k ≤ n ∧ i = .int .i64 k ∧ s = .int .i64 q ∧ q ≤ k ∧ q = waitN (l.take k) ∧ Below w.heap.size w wr) (fun _ i _ => n - (intOf i).toNat)
  case atStart => exact ⟨0, 0, Nat.zero_le _, rfl, rfl, Nat.le_refl _, rfl, Below.refl _ _⟩
  case round =>
    obtain ⟨k, q, hk, rfl, rfl, hqk, hq, hbr⟩ := hrel
    have HQ := Lib.hid hq
    have hbs := hbr.size
    clear hq
    by_cases hlt : k < n
    · obtain ⟨b, o, x, rfl, hb, hx, c0, c1, c2⟩ := three_at HR.out hlt
      have d0 := (hbr.cell (p := ⟨b, o + k * 3, none⟩) (by simp only; omega)).trans c0
      have d1 := (hbr.cell (p := ⟨b, o + k * 3 + 1, none⟩) (by simp only; omega)).trans c1
      have d2 := (hbr.cell (p := ⟨b, o + k * 3 + 2, none⟩) (by simp only; omega)).trans c2
      obtain ⟨x0, x1, x2⟩ := x
      have HW := Lib.hid (waitN_snoc hx)
      simp only at d0 d1 d2
      clear c0 c1 c2 hx
      go_wp2_with fail
      refine (waits_any x0 x1 x2 _).mono ?_
      rintro e w1 ⟨rfl, hb1⟩
      have hb2 : Below w.heap.size w w1 := (hbr.alloc hbs (.cells #[.int .i64 x0, .int .u64 x1, .int .u64 x2] 43)).trans (hb1.mono (by simp; omega))
      have HB2 := Lib.hid hb2
      clear hb1 hb2
      cases hz : (x2 == 0 : Bool) with
      | true =>
        have hq2 : q + 1 = waitN (l.take (k + 1)) := by rw [HW.out, HQ.out]; simp [free, hz]
        have HQ2 := Lib.hid hq2
        clear hq2
        go_wp2_with fail
        go_roundw
        case rel => exact ⟨k + 1, q + 1, by omega, by go_num, by go_num, by omega, HQ2.out, HB2.out⟩
        case measure => simp [intOf]; omega
      | false =>
        have hq2 : q = waitN (l.take (k + 1)) := by rw [HW.out, HQ.out]; simp [free, hz]
        have HQ2 := Lib.hid hq2
        clear hq2
        go_wp2_with fail
        go_roundw
        case rel => exact ⟨k + 1, q, by omega, by go_num, rfl, by omega, HQ2.out, HB2.out⟩
        case measure => simp [intOf]; omega
    · obtain rfl : k = n := by omega
      have hq2 : q = waitN l := by rw [HQ.out, List.take_of_length_le (by have := HL.out; omega)]
      have HQ2 := Lib.hid hq2
      clear hq2 HQ
      go_wp2_with fail
      go_ret
      exact ⟨by rw [← HQ2.out]; rfl, hbr⟩
end Go.Proofs.YtbedboekfkobjaaGreatDoor.St
