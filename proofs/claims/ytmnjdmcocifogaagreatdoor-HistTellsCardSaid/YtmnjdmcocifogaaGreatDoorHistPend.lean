/- Layer 9: Pending. -/
import Derived.Test.YtmnjdmcocifogaaGreatDoorHistWaits
import Derived.Test.YtmnjdmcocifogaaGreatDoorSortIntOwn
import Derived.Shelf.Slices.In.SortNone
namespace Go.Proofs.YtmnjdmcocifogaaGreatDoor.Hi
open Go.ChangeShapes Go.WideShapes Go.ChangeAt Go.RowKit Go.Maps Rw Tx Go.Shelf Go.Sort
set_option linter.unusedVariables false

theorem row_ne9 {w : World} {base : Nat} {e : TypeId} {v : Value} {n : Nat} {xs : List Value} (h : w.ownsRow base e 1 v n xs) {g : Nat} (hg : g < base) : some g ≠ v.ownBlock := fun e => by
  have := (h.lt g e.symm).1; omega
theorem info_i : (Tryz.prog.info? 3).map (fun i => (i.zero, i.size, i.bytes)) = some (some (.int .i64 0), 1, 8) := by kernel_rfl
theorem one_i (y : Int) : (Value.int .i64 y).oneCell' = true := rfl
theorem struckI {left : Lit → Bool} {x k : Int} : (left (.int .i64 k) && !(Lit.int .i64 k).sameKey (.int .i64 x)) = false ↔ left (.int .i64 k) = false ∨ k = x := by
  have : (Lit.int .i64 k).sameKey (.int .i64 x) = decide (k = x) := by simp [Lit.sameKey]
  rw [this]
  cases left (.int .i64 k) <;> simp
theorem own_size {w : World} {b n : Nat} {D : DataW Unit} (h : w.ownsMap Tryz.prog 3 (plainElem Tryz.prog 3) b n D) : Maps.size D ≤ n := by
  obtain ⟨es, clock, hb, F, hs, hD⟩ := h
  rw [hD]
  show (List.foldr DataW.insert [] _).length ≤ n
  rw [length_sorted]
  simpa using hs
theorem sortI_any (w : World) (base : Nat) (e : TypeId) (A : Option Addr) (n c : Nat) (acc : List Int) (hn : acc.length = n) (hrow : w.ownsRow base e 1 (.slice A n c) n (acc.map (Value.int .i64))) (hsz : n < 4611686018427387904) :
    Calls Tryz.prog 41 #[.slice A n c] w fun e' w' => e' = .returned (.tuple #[]) ∧
      w'.ownsRow base e 1 (.slice A n c) n ((acc.mergeSort Sf.le).map (Value.int .i64)) ∧ w.grownBy w' (Value.slice A n c).ownBlock := by
  by_cases h0 : 0 < n
  · exact Sf.sortI_own w base e A n c acc hn hrow h0 hsz
  · obtain rfl : n = 0 := by omega
    obtain rfl := List.eq_nil_of_length_eq_zero hn
    refine (Any.slices_Sort_int_none Sf.siLays A c w).mono ?_
    rintro e' w' ⟨rfl, rfl⟩
    exact ⟨rfl, by simpa using hrow, World.grownBy.refl _ _⟩
/-- These, and no others, wait; they rise. -/
def Pn (l : List Ev) (ps : List Int) : Prop := ps.Pairwise (· < ·) ∧ ∀ t, t ∈ ps ↔ 0 < cnt l t
theorem pn_sort {l : List Ev} {acc : List Int} (h1 : acc.Nodup) (h2 : ∀ t, t ∈ acc ↔ 0 < cnt l t) : Pn l (acc.mergeSort Sf.le) := by
  have hp := List.mergeSort_perm acc Sf.le
  have hs := List.pairwise_mergeSort (le := Sf.le) (fun a b c h1 h2 => by have h1 := of_decide_eq_true h1; have h2 := of_decide_eq_true h2; exact decide_eq_true (by omega)) (fun a b => by unfold Sf.le; simp; omega) acc
  refine ⟨(hs.and (hp.nodup_iff.2 h1)).imp ?_, fun t => by rw [hp.mem_iff, h2]⟩
  rintro a b ⟨h3, h4⟩
  have := of_decide_eq_true h3
  omega
/-- Two such are one. -/
theorem rise_eq : ∀ (a b : List Int), a.Pairwise (· < ·) → b.Pairwise (· < ·) → (∀ t, t ∈ a ↔ t ∈ b) → a = b
  | [], [], _, _, _ => rfl
  | [], y :: b, _, _, h => by have := (h y).2 (by simp); simp at this
  | x :: a, [], _, _, h => by have := (h x).1 (by simp); simp at this
  | x :: a, y :: b, h1, h2, h => by
    obtain ⟨p1, p2⟩ := List.pairwise_cons.1 h1
    obtain ⟨q1, q2⟩ := List.pairwise_cons.1 h2
    have e : x = y := by
      rcases List.mem_cons.1 ((h x).1 (by simp)) with e | hx
      · exact e
      · rcases List.mem_cons.1 ((h y).2 (by simp)) with e | hy
        · exact e.symm
        · have := p1 y hy; have := q1 x hx; omega
    subst e
    rw [rise_eq a b p2 q2 (fun t => ?_)]
    constructor
    · intro ht
      rcases List.mem_cons.1 ((h t).1 (by simp [ht])) with e | hx
      · have := p1 t ht; omega
      · exact hx
    · intro ht
      rcases List.mem_cons.1 ((h t).2 (by simp [ht])) with e | hx
      · have := q1 t ht; omega
      · exact hx
theorem Pn.eq {l : List Ev} {a b : List Int} (h1 : Pn l a) (h2 : Pn l b) : a = b := rise_eq a b h1.1 h2.1 (fun t => by rw [h1.2, h2.2])

set_option maxRecDepth 100000 in
set_option maxHeartbeats 4000000 in
theorem pending_any (w : World) (B p : Nat) (r : Option Nat) (s : Int) (l : List Ev) (h : Hs w B p r s l) (hok : ∀ e ∈ l, e.ok) (hn : l.length ≤ 1000) :
    Calls Tryz.prog 19 #[.pointer (some ⟨p, 0, none⟩)] w fun e w' => ∃ A n c ps, e = .returned (.slice A n c) ∧ w'.ownsRow w.heap.size 3 1 (.slice A n c) n (ps.map (Value.int .i64)) ∧ Pn l ps ∧ ps.length = n ∧ Below w.heap.size w w' := by
  obtain ⟨i0, hi, hz0, hz1, hz2⟩ := info_parts info_i
  obtain ⟨A0, c0, hc1, hrs⟩ := h.rs
  have HR := Lib.hid hrs
  have HOK := Lib.hid hok
  clear h hok hrs
  generalize hN : l.length = N at *
  have HN := Lib.hid hN
  clear hN
  go_enter Tryz.func19, Tryz.ntmps19
  go_wp2_with fail
  refine (waits_any A0 N c0 _ l w HR.out (Nat.le_refl _) hn HOK.out).mono ?_
  rintro e w1 ⟨q, D, rfl, ho, ht, hq, hb1, hl1⟩
  have HT := Lib.hid ht
  have hds := own_size ho
  have hds2 : Maps.size D ≤ 1000 := by omega
  have HDS := Lib.hid hds2
  have HB1 := Lib.hid hb1
  clear ht hc1 hds hds2 hb1
  go_wp2_with (at_range; refine wpList_range_own _ rfl _ 80 rfl 3 3 lawI Tryz.underlying80 _ w.heap.size q D rfl ho ?_; intro w0 hrg0 hg0 hs0)
  go_frame
  have hb0 : Below w.heap.size w w0 := HB1.out.trans ((Below.refl _ _).grown hg0 (by omega) (fun j hj => by cases hj))
  have HB0 := Lib.hid hb0
  clear hb0 hg0
  obtain ⟨it, hit⟩ : ∃ it, w1.heap.size = it := ⟨_, rfl⟩
  rw [hit] at hrg0 hs0 hl1 ⊢
  clear hit
  go_loopw [3] (fun v wr => ∃ (lf : Lit → Bool) (ct : Nat) (A : Option Addr) (n c : Nat) (acc : List Int), v = .slice A n c ∧ acc.length = n ∧ wr.ranges Tryz.prog 3 (plainElem Tryz.prog 3) w.heap.size it q D lf ct ∧
      wr.ownsRow (it + 1) 3 1 (.slice A n c) n (acc.map (Value.int .i64)) ∧ Below w.heap.size w wr ∧ it + 1 ≤ wr.heap.size ∧ n + ct ≤ 1000 ∧ Hid (acc.Nodup ∧ ∀ t, t ∈ acc ↔ 0 < cnt l t ∧ lf (.int .i64 t) = false))
    (fun _ wr => wr.rangeLeft w.heap.size it)
  case atStart =>
    refine ⟨_, _, none, 0, 0, [], rfl, rfl, hrg0, World.ownsRow_nil _ _ _ _, HB0.out, by omega, by have := HDS.out; omega, ⟨List.nodup_nil, fun t => ⟨fun h => (by cases h), ?_⟩⟩⟩
    rintro ⟨h1, h2⟩
    have h3 := HT.out.at_ t
    rw [Maps.atKey_of_not_has h2] at h3
    have := litI h3
    omega
  case round =>
    clear hrg0 hs0 HB0 HB1
    obtain ⟨lf, ct, A, n, c, acc, rfl, hlen, hrg, hrow, hbr, hsz, hct, hacc⟩ := hrel
    go_wp2_with (at_next; refine wpList_next_ranges_ii _ rfl _ rfl 3 3 .i64 .i64 lawI Tryz.underlying3 Tryz.underlying3 w.heap.size it q _ _ _ rfl hrg ?_ ?_)
    · intro _ hl0
      have hpn := pn_sort hacc.out.1 (fun t => by rw [hacc.out.2]; exact ⟨fun h => h.1, fun h => ⟨h, hl0 _⟩⟩)
      have HPN := Lib.hid hpn
      have HLEN := Lib.hid hlen
      have HROW := Lib.hid hrow
      clear hacc hrg hl0 hpn hlen hrow
      go_wp2_with fail
      refine (sortI_any wr (it + 1) 3 A n c acc HLEN.out HROW.out (by omega)).mono ?_
      rintro e w2 ⟨rfl, hrow2, hg2⟩
      have hb2 : Below w.heap.size w w2 := hbr.grown hg2 hbr.size (fun j hj => by have := (HROW.out.lt j hj).1; omega)
      have HB2 := Lib.hid hb2
      have HR2 := Lib.hid hrow2
      clear hb2 hrow2 hg2 hbr
      go_wp2_with fail
      go_ret
      exact ⟨A, n, c, _, rfl, own_mono HR2.out (by omega), HPN.out, by rw [(List.mergeSort_perm acc Sf.le).length_eq]; exact HLEN.out, HB2.out⟩
    · intro x cc w2 ct1 hwx hwc hlx hat hrg1 hlt hg1 hs1 hen
      have hcc : cnt l x = cc := (litI ((HT.out.at_ x).symm.trans (hat _)))
      have hb2 : Below w.heap.size w w2 := hbr.grown hg1 hbr.size (fun j hj => by cases hj; omega)
      have hrow1 := hrow.kept hg1 (Or.inr (row_ne9 hrow (by omega)).symm)
      have HB2 := Lib.hid hb2
      have HCC := Lib.hid hcc
      have HLX := Lib.hid hlx
      have HLEN := Lib.hid hlen
      have HROW := Lib.hid hrow1
      have hs2 : it + 1 ≤ w2.heap.size := by omega
      have HLO := Lib.hid hrow.lt
      have hne : ∀ g, g < it + 1 → some g ≠ (Value.slice A n c).ownBlock := fun g hg => row_ne9 hrow hg
      have HNE := Lib.hid hne
      have HRG := Lib.hid hrg
      clear hrow hrow1 hb2 hcc hlx hat hg1 hs1 hbr hlen hne hrg
      by_cases hpos : 0 < cc
      · have hd : decide (0 < cc) = true := decide_eq_true hpos
        have hd2 : decide (cc > 0) = true := decide_eq_true hpos
        have hn3 : acc.length = n := HLEN.out
        go_wp2_with (at_builtin; (refine append_rd _ rfl _ _ 42 rfl (it + 1) 3 i0 (.int .i64 0) 8 Tryz.underlying42 hi hz0 hz1 hz2 rfl _ n _ rfl (HROW.out.alloc _) _ _ 1 1 [x] rfl (rd_one (enc := Value.int .i64) w2 x _) one_i (n + 1) rfl ((acc ++ [x]).map (Value.int .i64)) List.map_append.symm (by unfold maxLen; omega) (by omega) (by simp; omega) ?_); intro A3 c3 w3 hrow3 hg3 hat3)
        have s3 := hg3.size
        simp at s3
        go_roundw
        case rel =>
          refine ⟨_, ct1, A3, n + 1, c3, acc ++ [x], rfl, by simp [HLEN.out], (hrg1.alloc _).kept hg3 (HNE.out _ (by omega)) (HNE.out _ (by omega)), hrow3, ?_, by omega, by omega, ?_⟩
          · exact (HB2.out.alloc HB2.out.size _).grown hg3 (by have := HB2.out.size; simp; omega) (fun j hj => by have := (HLO.out j hj).1; omega)
          · refine ⟨List.nodup_append.2 ⟨hacc.out.1, by simp, fun a ha b hb => ?_⟩, fun t => ?_⟩
            · simp at hb
              subst hb
              intro e
              subst e
              have := ((hacc.out.2 a).1 ha).2
              rw [HLX.out] at this
              cases this
            · rw [List.mem_append, hacc.out.2, struckI]
              simp
              constructor
              · rintro (⟨h1, h2⟩ | rfl)
                · exact ⟨h1, .inl h2⟩
                · exact ⟨by rw [HCC.out]; exact hpos, .inr rfl⟩
              · rintro ⟨h1, h2 | rfl⟩
                · exact .inl ⟨h1, h2⟩
                · exact .inr rfl
        case measure => rw [((hrg1.alloc _).kept hg3 (HNE.out _ (by omega)) (HNE.out _ (by omega))).left_eq, HRG.out.left_eq]; exact hlt
      · have hd : decide (0 < cc) = false := decide_eq_false hpos
        have hd2 : decide (cc > 0) = false := decide_eq_false hpos
        go_wp2_with fail
        go_roundw
        case rel =>
          refine ⟨_, ct1, A, n, c, acc, rfl, HLEN.out, hrg1, HROW.out, HB2.out, hs2, by omega, ⟨hacc.out.1, fun t => ?_⟩⟩
          rw [hacc.out.2, struckI]
          constructor
          · rintro ⟨h1, h2⟩; exact ⟨h1, .inl h2⟩
          · rintro ⟨h1, h2 | rfl⟩
            · exact ⟨h1, h2⟩
            · rw [HCC.out] at h1; omega
        case measure => rw [hrg1.left_eq, HRG.out.left_eq]; exact hlt
end Go.Proofs.YtmnjdmcocifogaaGreatDoor.Hi
