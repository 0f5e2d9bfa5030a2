/- Layer 14 (lease): contracts of Held, Flagged and Leaks. -/
import Derived.Test.YtbdcdofjcljliaaGreatDoorLeaseB
import Derived.Test.YtbdcdofjcljliaaGreatDoorSortU
namespace Go.Proofs.YtbdcdofjcljliaaGreatDoor.Le
open Go.ChangeShapes Go.WideShapes Go.ChangeAt Go.RowKit Go.Maps Rw Hi Mt Ck
set_option linter.unusedVariables false

section
variable (w : World) {ops : Array Oper} {rest : List Oper} {o : Oper} {a : Act} {Q : Exit → Act → World → Prop}
theorem nextL (hg : o.guard = none) (it : Operand) (hop : o.op = Op.next it false) (b r : Nat) (l left : List (Int × Ls)) (hit : a.eval it = .pointer (some ⟨r, 0, none⟩)) (h : Rg Tryz.prog 22 eL w b r l left)
    (hDone : left = [] → wpList Tryz.prog ops Q rest (a.put o.dst (.tuple #[.bool false])) w)
    (hMore : ∀ y (q : Ls) w', (y, q) ∈ left → U64 y → Rg Tryz.prog 22 eL w' b r l (wo left y) → w'.rangeLeft b r < w.rangeLeft b r → w.grownBy w' (some r) → w'.heap.size = w.heap.size →
      (Instr.entry (.pointer (some ⟨r, 0, none⟩))).run Tryz.prog w' = .ok (.tuple #[.int .u64 y, .agg #[.int .i64 q.thread, .int .u64 q.since, .bool q.flag]]) w' → wpList Tryz.prog ops Q rest (a.put o.dst (.tuple #[.bool true, .int .u64 y, .agg #[.int .i64 q.thread, .int .u64 q.since, .bool q.flag]])) w') : wpList Tryz.prog ops Q (o :: rest) a w :=
  next1 w hg it hop 22 Tryz.underlying22 b r l left hit h hDone fun y x w' h1 h2 h3 h4 h5 h6 h7 => by
    exact hMore y x w' h1 h2 h3 h4 h5 h6 h7
end
theorem grown_of_below {w w' : World} (h : Below w.heap.size w w') : w.grownBy w' none := ⟨h.os, h.tape, h.output, h.size, fun k hk _ => h.block k hk⟩
theorem own_keep {w w' : World} {base e size n : Nat} {v : Value} {xs : List Value} (h : w.ownsRow base e size v n xs) (hb : Below w.heap.size w w') : w'.ownsRow base e size v n xs :=
  h.kept (grown_of_below hb) (by cases hv : v.ownBlock with | none => exact .inl rfl | some k => exact .inr (by simp))
theorem info_u64 : (Tryz.prog.info? 22).map (fun i => (i.zero, i.size, i.bytes)) = some (some (.int .u64 0), 1, 8) := by kernel_rfl
theorem one_u64 (y : Int) : (Value.int .u64 y).oneCell' = true := rfl
theorem clo_held (w : World) (t s th : Int) (f : Bool) (cb : Nat) (hc : w.cell? ⟨cb, 0, none⟩ = some (.int .i64 th)) :
    Calls Tryz.prog 57 #[.agg #[.int .i64 t, .int .u64 s, .bool f], .pointer (some ⟨cb, 0, none⟩)] w fun e w' => e = .returned (.bool (t == th)) ∧ Below w.heap.size w w' := by
  have hl := Lw.lt_heap hc
  go_enter Tryz.func57, Tryz.ntmps57
  go_wp2
  go_ret
  exact ⟨rfl, (Below.refl _ _).alloc (Nat.le_refl _) _⟩
theorem clo_flag (w : World) (t s : Int) (f : Bool) :
    Calls Tryz.prog 58 #[.agg #[.int .i64 t, .int .u64 s, .bool f]] w fun e w' => e = .returned (.bool f) ∧ Below w.heap.size w w' := by
  go_enter Tryz.func58, Tryz.ntmps58
  go_wp2
  go_ret
  exact ⟨rfl, (Below.refl _ _).alloc (Nat.le_refl _) _⟩

set_option maxHeartbeats 4000000 in
set_option maxRecDepth 100000 in
theorem where_held (w : World) (x : At) (leak : Int) (L : List (Int × Ls)) (M : List (Int × Bool)) (T : List (Int × Int)) (th : Int) (cb : Nat) (hcb : w.cell? ⟨cb, 0, none⟩ = some (.int .i64 th)) (h : Bk w x leak L M T) (hL : L.length ≤ 200) :
    Calls Tryz.prog 56 #[ptr x.p, .func (.func 57) #[] #[.pointer (some ⟨cb, 0, none⟩)]] w fun e w' => ∃ (A : Option Addr) (c : Nat) (ks : List Int), e = .returned (.slice A ks.length c) ∧ ks.Perm ((L.filter (fun a => a.2.thread == th)).map Prod.fst) ∧ ks.Pairwise (· ≤ ·) ∧ Rd (Value.int .u64) w' w'.heap.size A ks.length c ks ∧ Below w.heap.size w w' := by
  have c1 := h.c1
  obtain ⟨i0, hi, hz0, hz1, hz2⟩ := info_parts info_u64
  obtain ⟨hlp, hla, hlb, hlq, hlm⟩ := h.lt
  have HK := Lib.hid h
  clear h
  go_enter Tryz.func56, Tryz.ntmps56
  go_wp2_with (at_range; refine range1 _ rfl _ 49 rfl 22 57 Tryz.underlying22 Tryz.underlying49 x.a L rfl HK.out.leases ?_; intro w0 hrg0 hg0 hs0)
  go_frame
  have hb0 : Below w.heap.size w w0 := (Below.refl _ w).grown hg0 (Nat.le_refl _) (fun g hg => by cases hg)
  have k0 : w0.cell? ⟨cb, 0, none⟩ = some (.int .i64 th) := hg0.cell hcb (by simp)
  have hcl := Lw.lt_heap hcb
  clear hg0
  go_loopw [5] (fun v wr => ∃ (left : List (Int × Ls)) (A : Option Addr) (c n : Nat) (acc seen : List (Int × Ls)), v = .slice A n c ∧ acc.length = n ∧ Rg Tryz.prog 22 eL wr x.a w.heap.size L left ∧ wr.ownsRow (w.heap.size + 1) 22 1 (.slice A n c) n (acc.map (fun a => Value.int .u64 a.1)) ∧
      w.heap.size + 1 ≤ wr.heap.size ∧ n + left.length ≤ L.length ∧ wr.cell? ⟨cb, 0, none⟩ = some (.int .i64 th) ∧ Hid (Below w.heap.size w wr ∧ acc = seen.filter (fun a => a.2.thread == th) ∧ (seen ++ left).Perm L))
    (fun _ wr => wr.rangeLeft x.a w.heap.size)
  case atStart => exact ⟨L, none, 0, 0, [], [], rfl, rfl, hrg0, World.ownsRow_nil _ _ _ _, by omega, by omega, k0, hb0, rfl, List.Perm.refl _⟩
  case round =>
    clear hrg0 hb0 k0
    obtain ⟨left, A, c, n, acc, seen, rfl, hn, hrg, hrow, hsz, hcnt, k0, hh⟩ := hrel
    go_wp2_with (at_next; refine nextL _ rfl _ rfl x.a w.heap.size L left rfl hrg ?_ ?_)
    · intro hl0
      subst hl0
      have HR := Lib.hid hrow
      have HG := Lib.hid hrg
      clear hrow hrg
      go_wp2_with fail
      refine (So.sortU_any wr (w.heap.size + 1) A n c (acc.map Prod.fst) (by simpa using hn) (by rw [List.map_map]; exact HR.out) (by simp at hcnt; omega)).mono ?_
      rintro e w2 ⟨rfl, ks, hp, hris, hrd, hg2⟩
      have HRIS := Lib.hid hris
      have HP := Lib.hid hp
      have HRD := Lib.hid hrd
      have HG2 := Lib.hid hg2
      have hlen : ks.length = n := by rw [hp.length_eq]; simpa using hn
      clear hp hrd hg2 hris
      go_wp2_with fail
      go_ret
      subst hlen
      refine ⟨A, c, ks, rfl, ?_, HRIS.out, HRD.out, hh.out.1.grown HG2.out (by omega) (fun g hg => by have := (HR.out.lt g hg).1; omega)⟩
      refine HP.out.trans ?_
      rw [hh.out.2.1]
      have hp2 := hh.out.2.2
      rw [List.append_nil] at hp2
      exact (hp2.filter _).map _
    · intro y q w1 hmem hy0 hy1 hrg1 hlt1 hg1 hs1 hen
      obtain ⟨t, s, f⟩ := q
      have hrow1 := hrow.kept hg1 (Or.inr (fun e => by have := (hrow.lt _ e).1; omega))
      have k1 : w1.cell? ⟨cb, 0, none⟩ = some (.int .i64 th) := hg1.cell k0 (by simp; omega)
      have HB1 := Lib.hid (hh.out.1.grown hg1 (by omega) (fun g hg => by injection hg with hg; omega))
      have HS := Lib.hid hh.out.2
      have HM := Lib.hid hmem
      have HN1 := Lib.hid hrg1.nd
      have HNL := Lib.hid hrg.ndl
      have hlt1' := hrg.lt
      have hlw : (wo left y).length + 1 = left.length := wo_len hrg.ndl (mem_key.2 ⟨_, hmem⟩)
      have HLT := Lib.hid hlt1
      clear hrow hrg hg1 hh hmem hlt1 k0
      go_wp2_with fail
      refine (clo_held _ t s th f cb (alloc_cell k1 _)).mono ?_
      rintro e w2 ⟨rfl, hb2⟩
      have hs2 := hb2.size
      simp at hs2
      have bw2 : Below w1.heap.size w1 w2 := ((Below.refl _ w1).alloc (Nat.le_refl _) _).trans (hb2.mono (by simp))
      have gw2 : w1.grownBy w2 none := ⟨bw2.os, bw2.tape, bw2.output, bw2.size, fun k hk _ => bw2.block k hk⟩
      have hrg2 := hrg1.kept gw2 (by simp) (by simp)
      have hrow2 := own_keep hrow1 bw2
      have k2 : w2.cell? ⟨cb, 0, none⟩ = some (.int .i64 th) := gw2.cell k1 (by simp)
      have HB2 := Lib.hid (HB1.out.grown gw2 (by omega) (fun g hg => by cases hg))
      have hlk2 : w2.rangeLeft x.a w.heap.size = w1.rangeLeft x.a w.heap.size := hrg1.left_kept gw2 (by simp) (by simp)
      have HLK2 := Lib.hid hlk2
      clear hrow1 hrg1 hen hb2 bw2 gw2 HB1 hlk2 k1
      cases hP : t == th with
      | true =>
        have hrd : Rd (Value.int .u64) (w2.alloc (.cells #[.int .u64 y] 22)) (w2.heap.size + 1) (some ⟨w2.heap.size, 0, none⟩) 1 1 [y] := rd_one (enc := Value.int .u64) w2 y 22
        have HRD := Lib.hid hrd
        have HROW2 := Lib.hid hrow2
        have HPP := Lib.hid hP
        clear hrd hP
        go_wp2_with (at_builtin; (refine append_rd _ rfl _ _ 28 rfl (w.heap.size + 1) 22 i0 (.int .u64 0) 8 Tryz.underlying28 hi hz0 hz1 hz2 rfl _ n _ rfl (hrow2.alloc _) _ _ 1 1 [y] rfl HRD.out one_u64 (n + 1) rfl ((acc ++ [(y, (⟨t, s, f⟩ : Ls))]).map (fun a => Value.int .u64 a.1)) (by simp) (by unfold maxLen; omega) (by omega) (by simp; omega) ?_; intro A3 c3 w3 hrow3 hg3 hat3))
        have s3 := hg3.size
        simp at s3
        have hne3 : ∀ g, g < w.heap.size + 1 → some g ≠ (Value.slice A n c).ownBlock := fun g hg e => by have := (HROW2.out.lt g e.symm).1; omega
        go_roundw
        case rel =>
          refine ⟨wo left y, A3, c3, n + 1, acc ++ [(y, ⟨t, s, f⟩)], seen ++ [(y, ⟨t, s, f⟩)], rfl, by simp [hn], (hrg2.alloc _).kept hg3 (hne3 _ (by omega)) (hne3 _ (by omega)), hrow3, by omega, by omega, hg3.cell (alloc_cell k2 _) (hne3 _ (by show cb < _; omega)), ?_, ?_, ?_⟩
          · exact (HB2.out.alloc (by omega) _).grown hg3 (by simp; omega) (fun g hg => by have := (HROW2.out.lt g hg).1; omega)
          · rw [HS.out.1, List.filter_append]
            congr 1
            simp [HPP.out]
          · rw [List.append_assoc]
            exact (List.Perm.append_left seen (perm_wo HNL.out HM.out).symm).trans HS.out.2
        case measure =>
          rw [(hrg2.alloc _).left_kept hg3 (hne3 _ (by omega)) (hne3 _ (by omega)), hrg2.left_kept (World.grownBy_alloc w2 _ none) (by simp) (by simp), HLK2.out]
          exact HLT.out
      | false =>
        have HPP := Lib.hid hP
        clear hP
        go_wp2_with fail
        go_roundw
        case rel =>
          refine ⟨wo left y, A, c, n, acc, seen ++ [(y, ⟨t, s, f⟩)], rfl, hn, hrg2, hrow2, by omega, by omega, k2, HB2.out, ?_, ?_⟩
          · rw [HS.out.1, List.filter_append]
            simp [HPP.out]
          · rw [List.append_assoc]
            exact (List.Perm.append_left seen (perm_wo HNL.out HM.out).symm).trans HS.out.2
        case measure => rw [HLK2.out]; exact HLT.out

set_option maxHeartbeats 4000000 in
set_option maxRecDepth 100000 in
theorem where_flagged (w : World) (x : At) (leak : Int) (L : List (Int × Ls)) (M : List (Int × Bool)) (T : List (Int × Int))  (h : Bk w x leak L M T) (hL : L.length ≤ 200) :
    Calls Tryz.prog 56 #[ptr x.p, .func (.func 58) #[] #[]] w fun e w' => ∃ (A : Option Addr) (c : Nat) (ks : List Int), e = .returned (.slice A ks.length c) ∧ ks.Perm ((L.filter (fun a => a.2.flag)).map Prod.fst) ∧ ks.Pairwise (· ≤ ·) ∧ Rd (Value.int .u64) w' w'.heap.size A ks.length c ks ∧ Below w.heap.size w w' := by
  have c1 := h.c1
  obtain ⟨i0, hi, hz0, hz1, hz2⟩ := info_parts info_u64
  obtain ⟨hlp, hla, hlb, hlq, hlm⟩ := h.lt
  have HK := Lib.hid h
  clear h
  go_enter Tryz.func56, Tryz.ntmps56
  go_wp2_with (at_range; refine range1 _ rfl _ 49 rfl 22 57 Tryz.underlying22 Tryz.underlying49 x.a L rfl HK.out.leases ?_; intro w0 hrg0 hg0 hs0)
  go_frame
  have hb0 : Below w.heap.size w w0 := (Below.refl _ w).grown hg0 (Nat.le_refl _) (fun g hg => by cases hg)

  clear hg0
  go_loopw [5] (fun v wr => ∃ (left : List (Int × Ls)) (A : Option Addr) (c n : Nat) (acc seen : List (Int × Ls)), v = .slice A n c ∧ acc.length = n ∧ Rg Tryz.prog 22 eL wr x.a w.heap.size L left ∧ wr.ownsRow (w.heap.size + 1) 22 1 (.slice A n c) n (acc.map (fun a => Value.int .u64 a.1)) ∧
      w.heap.size + 1 ≤ wr.heap.size ∧ n + left.length ≤ L.length ∧ Hid (Below w.heap.size w wr ∧ acc = seen.filter (fun a => a.2.flag) ∧ (seen ++ left).Perm L))
    (fun _ wr => wr.rangeLeft x.a w.heap.size)
  case atStart => exact ⟨L, none, 0, 0, [], [], rfl, rfl, hrg0, World.ownsRow_nil _ _ _ _, by omega, by omega, hb0, rfl, List.Perm.refl _⟩
  case round =>
    clear hrg0 hb0
    obtain ⟨left, A, c, n, acc, seen, rfl, hn, hrg, hrow, hsz, hcnt, hh⟩ := hrel
    go_wp2_with (at_next; refine nextL _ rfl _ rfl x.a w.heap.size L left rfl hrg ?_ ?_)
    · intro hl0
      subst hl0
      have HR := Lib.hid hrow
      have HG := Lib.hid hrg
      clear hrow hrg
      go_wp2_with fail
      refine (So.sortU_any wr (w.heap.size + 1) A n c (acc.map Prod.fst) (by simpa using hn) (by rw [List.map_map]; exact HR.out) (by simp at hcnt; omega)).mono ?_
      rintro e w2 ⟨rfl, ks, hp, hris, hrd, hg2⟩
      have HRIS := Lib.hid hris
      have HP := Lib.hid hp
      have HRD := Lib.hid hrd
      have HG2 := Lib.hid hg2
      have hlen : ks.length = n := by rw [hp.length_eq]; simpa using hn
      clear hp hrd hg2 hris
      go_wp2_with fail
      go_ret
      subst hlen
      refine ⟨A, c, ks, rfl, ?_, HRIS.out, HRD.out, hh.out.1.grown HG2.out (by omega) (fun g hg => by have := (HR.out.lt g hg).1; omega)⟩
      refine HP.out.trans ?_
      rw [hh.out.2.1]
      have hp2 := hh.out.2.2
      rw [List.append_nil] at hp2
      exact (hp2.filter _).map _
    · intro y q w1 hmem hy0 hy1 hrg1 hlt1 hg1 hs1 hen
      obtain ⟨t, s, f⟩ := q
      have hrow1 := hrow.kept hg1 (Or.inr (fun e => by have := (hrow.lt _ e).1; omega))

      have HB1 := Lib.hid (hh.out.1.grown hg1 (by omega) (fun g hg => by injection hg with hg; omega))
      have HS := Lib.hid hh.out.2
      have HM := Lib.hid hmem
      have HN1 := Lib.hid hrg1.nd
      have HNL := Lib.hid hrg.ndl
      have hlt1' := hrg.lt
      have hlw : (wo left y).length + 1 = left.length := wo_len hrg.ndl (mem_key.2 ⟨_, hmem⟩)
      have HLT := Lib.hid hlt1
      clear hrow hrg hg1 hh hmem hlt1
      go_wp2_with fail
      refine (clo_flag _ t s f).mono ?_
      rintro e w2 ⟨rfl, hb2⟩
      have hs2 := hb2.size
      simp at hs2
      have bw2 : Below w1.heap.size w1 w2 := ((Below.refl _ w1).alloc (Nat.le_refl _) _).trans (hb2.mono (by simp))
      have gw2 : w1.grownBy w2 none := ⟨bw2.os, bw2.tape, bw2.output, bw2.size, fun k hk _ => bw2.block k hk⟩
      have hrg2 := hrg1.kept gw2 (by simp) (by simp)
      have hrow2 := own_keep hrow1 bw2

      have HB2 := Lib.hid (HB1.out.grown gw2 (by omega) (fun g hg => by cases hg))
      have hlk2 : w2.rangeLeft x.a w.heap.size = w1.rangeLeft x.a w.heap.size := hrg1.left_kept gw2 (by simp) (by simp)
      have HLK2 := Lib.hid hlk2
      clear hrow1 hrg1 hen hb2 bw2 gw2 HB1 hlk2
      cases hP : f with
      | true =>
        have hrd : Rd (Value.int .u64) (w2.alloc (.cells #[.int .u64 y] 22)) (w2.heap.size + 1) (some ⟨w2.heap.size, 0, none⟩) 1 1 [y] := rd_one (enc := Value.int .u64) w2 y 22
        have HRD := Lib.hid hrd
        have HROW2 := Lib.hid hrow2
        have HPP := Lib.hid hP
        clear hrd hP
        go_wp2_with (at_builtin; (refine append_rd _ rfl _ _ 28 rfl (w.heap.size + 1) 22 i0 (.int .u64 0) 8 Tryz.underlying28 hi hz0 hz1 hz2 rfl _ n _ rfl (hrow2.alloc _) _ _ 1 1 [y] rfl HRD.out one_u64 (n + 1) rfl ((acc ++ [(y, (⟨t, s, f⟩ : Ls))]).map (fun a => Value.int .u64 a.1)) (by simp) (by unfold maxLen; omega) (by omega) (by simp; omega) ?_; intro A3 c3 w3 hrow3 hg3 hat3))
        have s3 := hg3.size
        simp at s3
        have hne3 : ∀ g, g < w.heap.size + 1 → some g ≠ (Value.slice A n c).ownBlock := fun g hg e => by have := (HROW2.out.lt g e.symm).1; omega
        go_roundw
        case rel =>
          refine ⟨wo left y, A3, c3, n + 1, acc ++ [(y, ⟨t, s, f⟩)], seen ++ [(y, ⟨t, s, f⟩)], rfl, by simp [hn], (hrg2.alloc _).kept hg3 (hne3 _ (by omega)) (hne3 _ (by omega)), hrow3, by omega, by omega, ?_, ?_, ?_⟩
          · exact (HB2.out.alloc (by omega) _).grown hg3 (by simp; omega) (fun g hg => by have := (HROW2.out.lt g hg).1; omega)
          · rw [HS.out.1, List.filter_append]
            congr 1
            simp [HPP.out]
          · rw [List.append_assoc]
            exact (List.Perm.append_left seen (perm_wo HNL.out HM.out).symm).trans HS.out.2
        case measure =>
          rw [(hrg2.alloc _).left_kept hg3 (hne3 _ (by omega)) (hne3 _ (by omega)), hrg2.left_kept (World.grownBy_alloc w2 _ none) (by simp) (by simp), HLK2.out]
          exact HLT.out
      | false =>
        have HPP := Lib.hid hP
        clear hP
        go_wp2_with fail
        go_roundw
        case rel =>
          refine ⟨wo left y, A, c, n, acc, seen ++ [(y, ⟨t, s, f⟩)], rfl, hn, hrg2, hrow2, by omega, by omega, HB2.out, ?_, ?_⟩
          · rw [HS.out.1, List.filter_append]
            simp [HPP.out]
          · rw [List.append_assoc]
            exact (List.Perm.append_left seen (perm_wo HNL.out HM.out).symm).trans HS.out.2
        case measure => rw [HLK2.out]; exact HLT.out

set_option maxRecDepth 100000 in
theorem held_any (w : World) (x : At) (leak : Int) (L : List (Int × Ls)) (M : List (Int × Bool)) (T : List (Int × Int)) (th : Int) (h : Bk w x leak L M T) (hL : L.length ≤ 200) :
    Calls Tryz.prog 36 #[ptr x.p, .int .i64 th] w fun e w' => ∃ (A : Option Addr) (c : Nat) (ks : List Int), e = .returned (.slice A ks.length c) ∧ ks.Perm ((L.filter (fun a => a.2.thread == th)).map Prod.fst) ∧ ks.Pairwise (· ≤ ·) ∧ Rd (Value.int .u64) w' w'.heap.size A ks.length c ks ∧ Below w.heap.size w w' := by
  have hb0 : ∀ o, Below w.heap.size w (w.alloc o) := fun o => (Below.refl _ w).alloc (Nat.le_refl _) _
  have HK := Lib.hid h
  clear h
  go_enter Tryz.func36, Tryz.ntmps36
  go_wp2_with fail
  refine (where_held _ x leak L M T th w.heap.size (by go_simp) (HK.out.later (hb0 _)) hL).mono ?_
  rintro e w1 ⟨A, c, ks, rfl, hp, hris, hrd, hb1⟩
  have HB := Lib.hid ((hb0 _).trans (hb1.mono (by simp)))
  have HRD := Lib.hid hrd
  clear hrd hb1
  go_wp2_with fail
  go_ret
  exact ⟨A, c, ks, rfl, hp, hris, HRD.out, HB.out⟩
set_option maxRecDepth 100000 in
theorem flagged_any (w : World) (x : At) (leak : Int) (L : List (Int × Ls)) (M : List (Int × Bool)) (T : List (Int × Int)) (h : Bk w x leak L M T) (hL : L.length ≤ 200) :
    Calls Tryz.prog 40 #[ptr x.p] w fun e w' => ∃ (A : Option Addr) (c : Nat) (ks : List Int), e = .returned (.slice A ks.length c) ∧ ks.Perm ((L.filter (fun a => a.2.flag)).map Prod.fst) ∧ ks.Pairwise (· ≤ ·) ∧ Rd (Value.int .u64) w' w'.heap.size A ks.length c ks ∧ Below w.heap.size w w' := by
  have HK := Lib.hid h
  clear h
  go_enter Tryz.func40, Tryz.ntmps40
  go_wp2_with fail
  refine (where_flagged _ x leak L M T HK.out hL).mono ?_
  rintro e w1 ⟨A, c, ks, rfl, hp, hris, hrd, hb1⟩
  go_wp2_with fail
  go_ret
  exact ⟨A, c, ks, rfl, hp, hris, hrd, hb1⟩
end Go.Proofs.YtbdcdofjcljliaaGreatDoor.Le
