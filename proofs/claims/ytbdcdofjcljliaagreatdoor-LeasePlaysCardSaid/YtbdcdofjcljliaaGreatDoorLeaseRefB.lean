/- The document's book (layer 14): holds, Forget, Mark, End. -/
import Derived.Test.YtbdcdofjcljliaaGreatDoorLeaseRef
import Derived.Test.YtbdcdofjcljliaaGreatDoorWheelRef
namespace Go.Proofs.YtbdcdofjcljliaaGreatDoor.Le
open Go.ChangeShapes Go.WideShapes Go.ChangeAt Go.RowKit Go.Maps Rw Hi Mt
set_option linter.unusedVariables false

/-- Four cells of a block that may be stored into. -/
def V4 (w : World) (g : Nat) (a b c d : Value) : Prop := (w.cell? ⟨g, 0, none⟩ = some a ∧ w.cell? ⟨g, 1, none⟩ = some b ∧ w.cell? ⟨g, 2, none⟩ = some c ∧ w.cell? ⟨g, 3, none⟩ = some d) ∧ w.frozen? ⟨g, 0, none⟩ = false ∧ w.frozen? ⟨g, 1, none⟩ = false ∧ w.frozen? ⟨g, 2, none⟩ = false ∧ w.frozen? ⟨g, 3, none⟩ = false
theorem V4.new (w : World) (t : TypeId) (a b c d : Value) : V4 (w.alloc (.cells #[a, b, c, d] t)) w.heap.size a b c d := by
  unfold V4
  refine ⟨⟨?_, ?_, ?_, ?_⟩, ?_, ?_, ?_, ?_⟩ <;> go_simp
theorem V4.below {w w' : World} {g B : Nat} {a b c d : Value} (h : V4 w g a b c d) (hb : Below B w w') (hg : g < B) : V4 w' g a b c d := by
  obtain ⟨⟨h0, h1, h2, h3⟩, f0, f1, f2, f3⟩ := h
  exact ⟨⟨(hb.cell (p := ⟨g, 0, none⟩) hg).trans h0, (hb.cell (p := ⟨g, 1, none⟩) hg).trans h1, (hb.cell (p := ⟨g, 2, none⟩) hg).trans h2, (hb.cell (p := ⟨g, 3, none⟩) hg).trans h3⟩,
    (hb.frozen (p := ⟨g, 0, none⟩) hg).trans f0, (hb.frozen (p := ⟨g, 1, none⟩) hg).trans f1, (hb.frozen (p := ⟨g, 2, none⟩) hg).trans f2, (hb.frozen (p := ⟨g, 3, none⟩) hg).trans f3⟩
/-- Where the document's book lies. -/
structure Da where
  A : Option Addr
  n : Nat
  c : Nat
  A2 : Option Addr
  n2 : Nat
  c2 : Nat
  A3 : Option Addr
  n3 : Nat
  c3 : Nat
abbrev Da.val (leak : Int) (d : Da) : Value := .agg #[.int .u64 leak, .slice d.A d.n d.c, .slice d.A2 d.n2 d.c2, .slice d.A3 d.n3 d.c3]
/-- The document's book: leases, marks, timers. -/
structure Dk (w : World) (d : Da) (D : List (Int × Ls)) (M : List Int) (T : List (Int × Int)) : Prop where
  l : Rl w w.heap.size d.A d.n d.c D
  m : Rd (Value.int .u64) w w.heap.size d.A2 d.n2 d.c2 M
  t : Wl.Tr w w.heap.size d.A3 d.n3 d.c3 T
  fm : Wl.Fm d.A3 d.c3
  fl : Wl.Fm d.A d.c
theorem Dk.later {w w' : World} {d : Da} {D : List (Int × Ls)} {M : List Int} {T : List (Int × Int)} (h : Dk w d D M T) (hb : Below w.heap.size w w') : Dk w' d D M T := ⟨h.l.later hb, h.m.later hb, h.t.later hb, h.fm, h.fl⟩
def hx (D : List (Int × Ls)) (id th : Int) : Int := if holds D id th = true then fx D id else -1
theorem boxes (leak : Int) (A A2 A3 : Option Addr) (n c n2 c2 n3 c3 : Nat) (w : World) : Below w.heap.size w ((w.alloc (.cells #[.int .u64 leak, .slice A n c, .slice A2 n2 c2, .slice A3 n3 c3] 31)).alloc (.cells #[.int .u64 0, .slice none 0 0, .slice none 0 0, .slice none 0 0] 31)) ∧ V4 ((w.alloc (.cells #[.int .u64 leak, .slice A n c, .slice A2 n2 c2, .slice A3 n3 c3] 31)).alloc (.cells #[.int .u64 0, .slice none 0 0, .slice none 0 0, .slice none 0 0] 31)) w.heap.size (.int .u64 leak) (.slice A n c) (.slice A2 n2 c2) (.slice A3 n3 c3) ∧ V4 ((w.alloc (.cells #[.int .u64 leak, .slice A n c, .slice A2 n2 c2, .slice A3 n3 c3] 31)).alloc (.cells #[.int .u64 0, .slice none 0 0, .slice none 0 0, .slice none 0 0] 31)) (w.heap.size + 1) (.int .u64 0) (.slice none 0 0) (.slice none 0 0) (.slice none 0 0) ∧ ((w.alloc (.cells #[.int .u64 leak, .slice A n c, .slice A2 n2 c2, .slice A3 n3 c3] 31)).alloc (.cells #[.int .u64 0, .slice none 0 0, .slice none 0 0, .slice none 0 0] 31)).heap.size = w.heap.size + 2 := by
  have hb1 : Below w.heap.size w (w.alloc (.cells #[.int .u64 leak, .slice A n c, .slice A2 n2 c2, .slice A3 n3 c3] 31)) := (Below.refl _ _).alloc (Nat.le_refl _) _
  refine ⟨hb1.alloc (by simp) _, (V4.new w _ _ _ _ _).below ((Below.refl (w.heap.size + 1) _).alloc (by simp) _) (by omega), ?_, by simp⟩
  have := V4.new (w.alloc (.cells #[.int .u64 leak, .slice A n c, .slice A2 n2 c2, .slice A3 n3 c3] 31)) 31 (.int .u64 0) (.slice none 0 0) (.slice none 0 0) (.slice none 0 0)
  simpa using this
section
variable (leak : Int) (A A2 A3 : Option Addr) (n c n2 c2 n3 c3 : Nat) (D : List (Int × Ls)) (M : List Int) (T : List (Int × Int)) (w : World)
set_option maxRecDepth 100000 in
theorem rholds_any (id th : Int) (h : Rl w w.heap.size A n c D) (hn : n ≤ 100000) :
    Calls Tryz.prog 29 #[.agg #[.int .u64 leak, .slice A n c, .slice A2 n2 c2, .slice A3 n3 c3], .int .u64 id, .int .i64 th] w fun e w' => e = .returned (.int .i64 (hx D id th)) ∧ Below w.heap.size w w' := by
  have hb0 : Below w.heap.size w (w.alloc (.cells #[.int .u64 leak, .slice A n c, .slice A2 n2 c2, .slice A3 n3 c3] 31)) := (Below.refl _ _).alloc (Nat.le_refl _) _
  have HB0 := Lib.hid hb0
  have HF := Lib.hid (rfind_any leak A A2 A3 n c n2 c2 n3 c3 w.heap.size D (w.alloc (.cells #[.int .u64 leak, .slice A n c, .slice A2 n2 c2, .slice A3 n3 c3] 31)) id (h.below hb0) (by simp) hn)
  have HLEN := Lib.hid h.len
  rcases fx_cases D id with ⟨h1, h2⟩ | ⟨k, ⟨t, s, f⟩, hk, hne, h2, h1⟩
  · have e : hx D id th = -1 := by unfold hx holds; rw [h1]; rfl
    rw [h2] at HF
    rw [e]
    clear h hb0 h1 h2 e
    go_enter Tryz.func29, Tryz.ntmps29
    go_wp2_with fail
    refine HF.out.mono ?_
    rintro e w1 ⟨rfl, hb1⟩
    go_wp2_with fail
    go_ret
    exact ⟨rfl, HB0.out.trans (hb1.mono (by simp))⟩
  · have hkn : k < n := by have := (List.getElem?_eq_some_iff.1 hk).1; have := HLEN.out; omega
    obtain ⟨b, o, x', t', s', f', rfl, hb, ha, c0, c1, c2', c3'⟩ := four_at h hkn
    have e9 := ha.symm.trans hk
    injection e9 with e9
    injection e9 with e9 e10
    injection e10 with e10 e11 e12
    subst e9 e10 e11 e12
    rw [h2] at HF
    have e : hx D x' th = if (t' == th) = true then (k : Int) else -1 := by
      unfold hx holds; rw [h1, h2]; simp
    rw [e]
    have HC := Lib.hid c1
    clear h hb0 h1 h2 e c0 c1 c2' c3' ha hk hne
    by_cases ht : t' = th
    · have e1 : (t' != th) = false := by simpa using ht
      have e2 : (t' == th) = true := by simpa using ht
      rw [if_pos e2]
      clear ht e2
      go_enter Tryz.func29, Tryz.ntmps29
      go_wp2_with fail
      refine HF.out.mono ?_
      rintro e w1 ⟨rfl, hb1⟩
      have B1 := Lib.hid (HB0.out.trans (hb1.mono (by simp)))
      have d1 := (B1.out.cell (p := ⟨b, o + k * 4 + 1, none⟩) hb).trans HC.out
      have v1 : w1.cell? ⟨w.heap.size, 1, none⟩ = some (.slice (some ⟨b, o, none⟩) n c) := (hb1.cell (p := ⟨w.heap.size, 1, none⟩) (by simp)).trans (by go_simp)
      clear hb1
      go_wp2_with fail
      go_ret
      exact ⟨rfl, B1.out⟩
    · have e1 : (t' != th) = true := by simpa using ht
      have e2 : ¬ (t' == th) = true := by simpa using ht
      rw [if_neg e2]
      clear ht e2
      go_enter Tryz.func29, Tryz.ntmps29
      go_wp2_with fail
      refine HF.out.mono ?_
      rintro e w1 ⟨rfl, hb1⟩
      have B1 := Lib.hid (HB0.out.trans (hb1.mono (by simp)))
      have d1 := (B1.out.cell (p := ⟨b, o + k * 4 + 1, none⟩) hb).trans HC.out
      have v1 : w1.cell? ⟨w.heap.size, 1, none⟩ = some (.slice (some ⟨b, o, none⟩) n c) := (hb1.cell (p := ⟨w.heap.size, 1, none⟩) (by simp)).trans (by go_simp)
      clear hb1
      go_wp2_with fail
      go_ret
      exact ⟨rfl, B1.out⟩
set_option maxRecDepth 100000 in
set_option maxHeartbeats 4000000 in
theorem rforget_any (id : Int) (h : Dk w ⟨A, n, c, A2, n2, c2, A3, n3, c3⟩ D M T) (hn : n2 ≤ 100000) :
    Calls Tryz.prog 14 #[.agg #[.int .u64 leak, .slice A n c, .slice A2 n2 c2, .slice A3 n3 c3], .int .u64 id] w fun e w' => ∃ A2' c2', e = .returned (.agg #[.int .u64 leak, .slice A n c, .slice A2' (M.filter (· != id)).length c2', .slice A3 n3 c3]) ∧ Dk w' ⟨A, n, c, A2', (M.filter (· != id)).length, c2', A3, n3, c3⟩ D (M.filter (· != id)) T ∧
      w'.ownsRow w.heap.size 22 1 (.slice A2' (M.filter (· != id)).length c2') (M.filter (· != id)).length ((M.filter (· != id)).map (Value.int .u64)) ∧ Below w.heap.size w w' := by
  obtain ⟨i0, hi, hz0, hz1, hz2⟩ := info_parts info_u64'
  obtain ⟨hb1, hvf, hvr, hsz⟩ := boxes leak A A2 A3 n c n2 c2 n3 c3 w
  have HD := Lib.hid h
  have HR := Lib.hid h.m
  have HLEN := Lib.hid h.m.len
  have HB1 := Lib.hid hb1
  have HVF := Lib.hid hvf
  have HVR := Lib.hid hvr
  have HSZ := Lib.hid hsz
  clear h hb1 hvf hvr hsz
  go_enter Tryz.func14, Tryz.ntmps14
  go_wp2_with fail
  generalize ((w.alloc (.cells #[.int .u64 leak, .slice A n c, .slice A2 n2 c2, .slice A3 n3 c3] 31)).alloc (.cells #[.int .u64 0, .slice none 0 0, .slice none 0 0, .slice none 0 0] 31)) = W1 at *
  go_loopw [5, 7, 11] (fun v x9 i wr => ∃ (k q c' : Nat) (A' : Option Addr), k ≤ n2 ∧ i = .int .i64 k ∧ v = .slice A' q c' ∧ q ≤ k ∧ Hid (q = ((M.take k).filter (· != id)).length) ∧
      Hid (wr.ownsRow (w.heap.size + 2) 22 1 (.slice A' q c') q (((M.take k).filter (· != id)).map (Value.int .u64))) ∧ Hid (Below (w.heap.size + 2) W1 wr) ∧ w.heap.size + 2 ≤ wr.heap.size) (fun _ _ i _ => n2 - (intOf i).toNat)
  case atStart => exact ⟨0, 0, 0, none, Nat.zero_le _, rfl, rfl, Nat.zero_le _, rfl, World.ownsRow_nil _ _ _ _, Below.refl _ _, by rw [HSZ.out]; exact Nat.le_refl _⟩
  case round =>
    obtain ⟨k, q, c', A', hk, rfl, rfl, hqk, HQL, HROW, HBR, hsz⟩ := hrel
    have HBW := Lib.hid (HB1.out.trans (HBR.out.mono (by omega)))
    by_cases hlt : k < n2
    · obtain ⟨b, o, y, rfl, hb, hy, hcy⟩ := HR.out.get hlt
      have d0 := (HBW.out.cell (p := ⟨b, o + k, none⟩) hb).trans hcy
      have HAA : Hid (M.take (k + 1) = M.take k ++ [y]) := Lib.hid (by
        obtain ⟨hl, e⟩ := List.getElem?_eq_some_iff.1 hy
        rw [List.take_succ_eq_append_getElem hl, e])
      clear hcy hy
      by_cases hx : y = id
      · have e1 : (y != id) = false := by simpa using hx
        have EW : Hid ((M.take (k + 1)).filter (· != id) = (M.take k).filter (· != id)) := Lib.hid (by rw [HAA.out, List.filter_append]; simp [hx])
        clear hx
        go_wp2_with fail
        go_roundw
        case rel => exact ⟨k + 1, q, c', A', by omega, by go_num, rfl, by omega, Lib.hid (by rw [EW.out]; exact HQL.out), Lib.hid (by rw [EW.out]; exact HROW.out), HBR, hsz⟩
        case measure => simp [intOf]; omega
      · have e1 : (y != id) = true := by simpa using hx
        have EW : Hid ((M.take (k + 1)).filter (· != id) = (M.take k).filter (· != id) ++ [y]) := Lib.hid (by rw [HAA.out, List.filter_append]; simp [hx])
        have HRD := Lib.hid (rd_one (enc := Value.int .u64) wr y 22)
        have HROW2 := Lib.hid (HROW.out.alloc (.cells #[.int .u64 y] 22))
        have HB3 := Lib.hid (HBR.out.alloc (by omega) (.cells #[.int .u64 y] 22))
        have HMP : Hid (((M.take k).filter (· != id)).map (Value.int .u64) ++ [y].map (Value.int .u64) = ((M.take (k + 1)).filter (· != id)).map (Value.int .u64)) := Lib.hid (by rw [EW.out]; simp)
        clear hx
        go_wp2_with (
          at_builtin
          refine append_rd _ rfl _ _ 28 rfl (w.heap.size + 2) 22 i0 (.int .u64 0) 8 Tryz.underlying28 hi hz0 hz1 hz2 rfl _ q _ rfl HROW2.out _ _ 1 1 [y] rfl HRD.out (fun _ => rfl) (q + 1) rfl _ HMP.out (by unfold maxLen; omega) (by omega) (by simp; omega) ?_
          intro A4 c4 w4 hrow4 hg4 hat4
          have HROW4 := Lib.hid hrow4
          have HB4 := Lib.hid (HB3.out.grown hg4 (by simp; omega) (fun j hj => (HROW2.out.lt j hj).1))
          have hs4 := hg4.size
          simp at hs4
          clear hrow4 hg4 hat4)
        go_roundw
        case rel => exact ⟨k + 1, q + 1, c4, A4, by omega, by go_num, rfl, by omega, Lib.hid (by rw [EW.out, List.length_append, ← HQL.out]; rfl), HROW4, HB4, by omega⟩
        case measure => simp [intOf]; omega
    · have ht : M.take k = M := List.take_of_length_le (by have := HLEN.out; omega)
      have hrow := HROW.out
      have hql := HQL.out
      rw [ht] at hrow hql
      subst hql
      have HROW2 := Lib.hid hrow
      obtain ⟨⟨f0, f1, f2, f3⟩, g0, g1, g2, g3⟩ := HVF.out.below HBR.out (by omega)
      obtain ⟨⟨r0, r1, r2, r3⟩, z0, z1, z2, z3⟩ := HVR.out.below HBR.out (by omega)
      clear hrow HROW HQL ht HVF HVR HBR
      go_wp2_with fail
      have hfin : Below w.heap.size w (((((wr.setCell ⟨w.heap.size, 2, none⟩ (.slice A' (M.filter (· != id)).length c')).setCell ⟨w.heap.size + 1, 0, none⟩ (.int .u64 leak)).setCell ⟨w.heap.size + 1, 1, none⟩ (.slice A n c)).setCell ⟨w.heap.size + 1, 2, none⟩ ((.slice A' (M.filter (· != id)).length c'))).setCell ⟨w.heap.size + 1, 3, none⟩ (.slice A3 n3 c3)) := by
        repeat' (first | exact HBW.out | apply Below.setCell | apply below_drewN | apply Below.drew | apply Below.alloc)
        all_goals (first | (simp; done) | (simp; omega))
      have hset : (((((wr.setCell ⟨w.heap.size, 2, none⟩ (.slice A' (M.filter (· != id)).length c')).setCell ⟨w.heap.size + 1, 0, none⟩ (.int .u64 leak)).setCell ⟨w.heap.size + 1, 1, none⟩ (.slice A n c)).setCell ⟨w.heap.size + 1, 2, none⟩ ((.slice A' (M.filter (· != id)).length c'))).setCell ⟨w.heap.size + 1, 3, none⟩ (.slice A3 n3 c3)).ownsRow (w.heap.size + 2) 22 1 (.slice A' (M.filter (· != id)).length c') (M.filter (· != id)).length ((M.filter (· != id)).map (Value.int .u64)) := by
        refine Hi.own_same HROW2.out (fun g' hg' => ?_)
        have hg := (HROW2.out.lt g' hg').1
        rw [heap_setCell_other _ _ g' _ (fun e => by have e : g' = w.heap.size + 1 := e; omega), heap_setCell_other _ _ g' _ (fun e => by have e : g' = w.heap.size + 1 := e; omega), heap_setCell_other _ _ g' _ (fun e => by have e : g' = w.heap.size + 1 := e; omega), heap_setCell_other _ _ g' _ (fun e => by have e : g' = w.heap.size + 1 := e; omega), heap_setCell_other _ _ g' _ (fun e => by have e : g' = w.heap.size := e; omega)]
      refine bodyPost_ret (v := .agg #[.int .u64 leak, .slice A n c, .slice A' (M.filter (· != id)).length c', .slice A3 n3 c3]) (by simp [results, Tryz.results14, go_sem, r0, r1, r2, r3]) rfl ⟨A', c', rfl, ⟨(HD.out.later hfin).l, Rd.own_rd hset, (HD.out.later hfin).t, HD.out.fm, HD.out.fl⟩, own_mono hset (by omega), hfin⟩
end
end Go.Proofs.YtbdcdofjcljliaaGreatDoor.Le
