/- DeleteFunc and Equal at slots. -/
import Derived.Test.YtbedboekfkobjaaGreatDoorSlotsD
import Derived.BigQuiet
import Derived.RegionTactic
namespace Go.Proofs.YtbedboekfkobjaaGreatDoor.St
open Go.ChangeShapes Go.WideShapes Go.ChangeAt Go.RowKit Rw Hi
set_option linter.unusedVariables false

theorem slot_same (w : World) (a b c : Int) : (Op.equalIn 10000 43 (.agg #[.int .i64 a, .int .u64 b, .int .u64 c]) (.agg #[.int .i64 a, .int .u64 b, .int .u64 c])).run Tryz.prog w = .ok true w := by
  rw [show (10000 : Nat) = 9999 + 1 from rfl, run_equalIn_agg w 9999 _ _ _ (by kernel_rfl) (by kernel_rfl)]
  rw [show (9999 : Nat) = 9998 + 1 from rfl]
  simp only [Program.fieldsOf, Tryz.underlying43]
  go_simp
theorem slot_ne (w : World) (a b c : Int) : (binOp .neq 43 (.agg #[.int .i64 a, .int .u64 b, .int .u64 c]) (.agg #[.int .i64 a, .int .u64 b, .int .u64 c])).run Tryz.prog w = .ok (.bool false) w := by
  rw [run_neq_struct, slot_same]
  rfl
theorem slot_guard : Tryz.prog.eqGuardType Tryz.prog.depth 43 = false := by kernel_rfl
set_option maxHeartbeats 1000000 in
theorem sequal_same (A A' : Option Addr) (n c c' : Nat) (xs : List Sx) (B B' : Nat) (w : World) (h : Rs enc3 3 w B A n c xs) (h' : Rs enc3 3 w B' A' n c' xs) :
    Calls Tryz.prog 28 #[.slice A n c, .slice A' n c'] w fun e w' => e = .returned (.bool true) ∧ ∃ q, w.drewN q = w' := by
  have hn : n ≤ 9223372036854775807 := by have := h.cap; have := h.top; omega
  have HR := Lib.hid h
  have HR' := Lib.hid h'
  have hg := slot_guard
  have hne := fun W => slot_ne W
  clear h h'
  go_enter Tryz.func28, Tryz.ntmps28
  go_wp2
  go_loopw [5, 13] (fun _ i wr => ∃ k q : Nat, k ≤ n ∧ i = .int .i64 k ∧ wr = w.drewN q) (fun _ i _ => n - (intOf i).toNat)
  case atStart => exact ⟨0, 0, Nat.zero_le _, rfl, rfl⟩
  case round =>
    obtain ⟨k, q, hk, rfl, rfl⟩ := hrel
    by_cases hlt : k < n
    · obtain ⟨b, o, x, rfl, hb, hx, c0, c1, c2⟩ := three_at HR.out hlt
      obtain ⟨b', o', y, rfl, hb', hy, d0, d1, d2⟩ := three_at HR'.out hlt
      obtain rfl : x = y := by rw [hx] at hy; injection hy
      clear hx hy
      obtain ⟨x0, x1, x2⟩ := x
      simp only at c0 c1 c2 d0 d1 d2
      go_wp2
      go_quiet (fail)
      go_wp2
      go_roundw
      case rel => exact ⟨k + 1, _, by omega, by go_num, rfl⟩
      case measure => simp [intOf]; omega
    · have hk' : k = n := by omega
      go_wp2
      go_ret
      exact ⟨rfl, _, rfl⟩
theorem whose_any (a b c t : Int) (q : Nat) (w : World) (hc : w.cell? ⟨q, 0, none⟩ = some (.int .i64 t)) :
    Calls Tryz.prog 27 #[.agg #[.int .i64 a, .int .u64 b, .int .u64 c], .pointer (some ⟨q, 0, none⟩)] w fun e w' => e = .returned (.bool (a == t)) ∧ Below w.heap.size w w' := by
  have hq : q < w.heap.size := Lw.lt_heap hc
  go_enter Tryz.func27, Tryz.ntmps27
  go_wp2_with fail
  go_ret
  exact ⟨rfl, (Below.refl _ _).alloc (Nat.le_refl _) _⟩
/-- While DeleteFunc walks: a are kept of the first b. -/
structure Kp (t : Int) (l D : List Sx) (a b : Nat) : Prop where
  len : D.length = l.length
  lt : a < b
  le : b ≤ l.length
  front : D.take a = others t (l.take b)
  back : D.drop b = l.drop b
theorem Kp.start {t : Int} {l : List Sx} {k : Nat} (h : l.findIdx? (hit t) = some k) : Kp t l l k (k + 1) := by
  obtain ⟨x, hx, hp, hk⟩ := ix_hit h
  refine ⟨rfl, Nat.lt_succ_self _, hk, ?_, rfl⟩
  have h2 : others t (l.take k) = l.take k := by
    refine others_none ?_
    rw [List.findIdx?_eq_none_iff]
    intro y hy
    obtain ⟨j, hj, rfl⟩ := List.getElem_of_mem hy
    rw [List.findIdx?_eq_some_iff_getElem] at h
    obtain ⟨_, _, h3⟩ := h
    have hjk : j < k := by simp at hj; omega
    have := h3 j hjk
    simp only [List.getElem_take]
    simpa using this
  rw [List.take_add_one, hx]
  unfold others at h2 ⊢
  rw [List.filter_append, h2]
  simp [hp]
theorem Kp.drop_ {t : Int} {l D : List Sx} {a b : Nat} {x : Sx} (h : Kp t l D a b) (hx : l[b]? = some x) (hp : hit t x = true) : Kp t l D a (b + 1) := by
  have hb := (List.getElem?_eq_some_iff.1 hx).1
  refine ⟨h.len, by have := h.lt; omega, hb, ?_, ?_⟩
  · rw [h.front, List.take_add_one, hx]; simp [others, hp]
  · rw [← List.drop_drop, ← List.drop_drop, h.back]
theorem Kp.keep {t : Int} {l D : List Sx} {a b : Nat} {x : Sx} (h : Kp t l D a b) (hx : l[b]? = some x) (hp : hit t x = false) : Kp t l (D.set a x) (a + 1) (b + 1) := by
  have hb := (List.getElem?_eq_some_iff.1 hx).1
  have ha : a < D.length := by have := h.lt; have := h.len; omega
  refine ⟨by simp [h.len], by have := h.lt; omega, hb, ?_, ?_⟩
  · rw [List.take_add_one, List.take_set_of_le (Nat.le_refl _), h.front, List.take_add_one, hx]
    simp [others, hp, ha]
  · rw [List.drop_set_of_lt (by have := h.lt; omega), ← List.drop_drop, ← List.drop_drop, h.back]
theorem Kp.at_ {t : Int} {l D : List Sx} {a b : Nat} (h : Kp t l D a b) : D[b]? = l[b]? := by
  have h1 := congrArg (fun z => z[0]?) h.back
  simpa using h1
theorem flat_set3 (D : List Sx) (a : Nat) (x y : Sx) (h : D[a]? = some y) : (((flat enc3 D).set (a * 3) (.int .i64 x.1)).set (a * 3 + 1) (.int .u64 x.2.1)).set (a * 3 + 2) (.int .u64 x.2.2) = flat enc3 (D.set a x) := by
  have hlt := (List.getElem?_eq_some_iff.1 h).1
  have e1 := flat_set enc3_len D a 0 y (x.1, y.2.1, y.2.2) (.int .i64 x.1) h (by omega) rfl
  rw [Nat.add_zero] at e1
  rw [e1, flat_set enc3_len (D.set a (x.1, y.2.1, y.2.2)) a 1 (x.1, y.2.1, y.2.2) (x.1, x.2.1, y.2.2) (.int .u64 x.2.1) (by simp [hlt]) (by omega) rfl, List.set_set]
  rw [flat_set enc3_len (D.set a (x.1, x.2.1, y.2.2)) a 2 (x.1, x.2.1, y.2.2) x (.int .u64 x.2.2) (by simp [hlt]) (by omega) rfl, List.set_set]

set_option maxHeartbeats 4000000 in
set_option maxRecDepth 100000 in
theorem deletef_any (g n c base q : Nat) (t : Int) (l : List Sx) (w : World) (h : w.ownsRow base 43 3 (.slice (some ⟨g, 0, none⟩) n c) n (flat enc3 l)) (hl : l.length = n) (hc : w.cell? ⟨q, 0, none⟩ = some (.int .i64 t)) (hqg : q ≠ g) :
    Calls Tryz.prog 25 #[.slice (some ⟨g, 0, none⟩) n c, .func (.func 27) #[] #[.pointer (some ⟨q, 0, none⟩)]] w fun e w' =>
      ∃ m, m = (others t l).length ∧ e = .returned (.slice (some ⟨g, 0, none⟩) m c) ∧ w'.ownsRow base 43 3 (.slice (some ⟨g, 0, none⟩) m c) m (flat enc3 (others t l)) ∧ w.grownBy w' (some g) := by
  have hrs := Rs.own_rs enc3_len hl h
  have hnc := hrs.cap
  have hcm := hrs.top
  have hgl := (h.lt g rfl).2
  have hql : q < w.heap.size := Lw.lt_heap hc
  have hix := index_any 27 #[.pointer (some ⟨q, 0, none⟩)] (hit t) (some ⟨g, 0, none⟩) n c _ l w hrs (Nat.le_refl _) (fun args w => by simp [go_sem]) (fun a b c W hb => whose_any a b c t q W ((hb.cell (p := ⟨q, 0, none⟩) hql).trans hc))
  have HIX := Lib.hid hix
  have HO := Lib.hid h
  have HL := Lib.hid hl
  clear h hl hrs hix
  cases hf : l.findIdx? (hit t) with
  | none =>
    have HZ := Lib.hid (ixZ_none hf)
    have HN := Lib.hid (others_none hf)
    clear hf
    go_enter Tryz.func25, Tryz.ntmps25
    go_wp2_with fail
    refine HIX.out.mono ?_
    rw [HZ.out]
    rintro e w1 ⟨rfl, hb⟩
    go_wp2_with fail
    go_ret
    refine ⟨n, by rw [HN.out, HL.out], rfl, ?_, hb.os, hb.tape, hb.output, hb.size, fun k hk _ => hb.block k hk⟩
    rw [HN.out]
    exact own_same HO.out (fun j hj => hb.block j (HO.out.lt j hj).2)
  | some k =>
    have HZ := Lib.hid (ixZ_some hf)
    have HK := Lib.hid (Kp.start hf)
    obtain ⟨x', hx', _, hkn⟩ := ix_hit hf
    rw [HL.out] at hkn
    have hk1 : ((k : Int) == -1) = false := beq_eq_false_iff_ne.2 (by omega)
    clear hf hx'
    go_enter Tryz.func25, Tryz.ntmps25
    go_wp2_with fail
    refine HIX.out.mono ?_
    rw [HZ.out]
    rintro e w1 ⟨rfl, hb⟩
    have HO1 := Lib.hid (own_same HO.out (fun j hj => hb.block j (HO.out.lt j hj).2))
    have HG1 : Hid (w.grownBy w1 (some g)) := Lib.hid ⟨hb.os, hb.tape, hb.output, hb.size, fun k hk _ => hb.block k hk⟩
    clear hb HO HIX
    go_wp2_with fail
    go_loopw [5, 6] (fun u v wr => ∃ (a b : Nat) (D : List Sx), u = .int .i64 a ∧ v = .int .i64 b ∧ b ≤ n ∧ a < b ∧ Kp t l D a b ∧ wr.ownsRow base 43 3 (.slice (some ⟨g, 0, none⟩) n c) n (flat enc3 D) ∧ w.grownBy wr (some g)) (fun _ v _ => n - (intOf v).toNat)
    case atStart => exact ⟨k, k + 1, l, rfl, by go_num, by omega, by omega, HK.out, HO1.out, HG1.out⟩
    case round =>
      clear HO1 HG1 HK
      obtain ⟨a, b, D, rfl, rfl, hbn, hab, hkp, ho, hg⟩ := hrel
      have hgs := hg.size
      have cq : wr.cell? ⟨q, 0, none⟩ = some (.int .i64 t) := hg.cell hc (fun e => hqg (by injection e))
      have HKP := Lib.hid hkp
      have HO := Lib.hid ho
      have HG := Lib.hid hg
      clear hkp hg
      by_cases hlt : b < n
      · obtain ⟨b', o', x, hA, hb', hx, c0, c1, c2⟩ := three_at (Rs.own_rs enc3_len (HKP.out.len.trans HL.out) ho) hlt
        injection hA with hA
        injection hA with e1 e2
        subst e1 e2
        simp only [Nat.zero_add] at c0 c1 c2
        rw [HKP.out.at_] at hx
        have HX := Lib.hid hx
        obtain ⟨x0, x1, x2⟩ := x
        simp only at c0 c1 c2
        have hgwr : g < wr.heap.size := by omega
        clear hx ho
        go_wp2_with fail
        refine (whose_any x0 x1 x2 t q _ (by rw [World.cell?_alloc_lt _ _ _ (by show q < _; omega)]; exact cq)).mono ?_
        rintro e w2 ⟨rfl, hb2⟩
        have hb3 : Below wr.heap.size wr w2 := ((Below.refl wr.heap.size wr).alloc (Nat.le_refl _) (.cells #[.int .i64 x0, .int .u64 x1, .int .u64 x2] 43)).trans (hb2.mono (by simp))
        have y0 : w2.cell? ⟨wr.heap.size, 0, none⟩ = some (.int .i64 x0) := (hb2.cell (p := ⟨wr.heap.size, 0, none⟩) (by simp)).trans (by go_simp)
        have y1 : w2.cell? ⟨wr.heap.size, 1, none⟩ = some (.int .u64 x1) := (hb2.cell (p := ⟨wr.heap.size, 1, none⟩) (by simp)).trans (by go_simp)
        have y2 : w2.cell? ⟨wr.heap.size, 2, none⟩ = some (.int .u64 x2) := (hb2.cell (p := ⟨wr.heap.size, 2, none⟩) (by simp)).trans (by go_simp)
        have HO2 := Lib.hid (own_same HO.out (fun j hj => hb3.block j (HO.out.lt j hj).2))
        have hg2 : w.grownBy w2 (some g) := ⟨hb3.os.trans HG.out.os, hb3.tape.trans HG.out.tape, hb3.output.trans HG.out.output, Nat.le_trans hgs hb3.size, fun k hk hne => (hb3.block k (Nat.lt_of_lt_of_le hk hgs)).trans (HG.out.block k hk hne)⟩
        have HG2 := Lib.hid hg2
        clear hb2 hb3 hg2
        cases hq : (x0 == t : Bool) with
        | true =>
          have HK2 := Lib.hid (HKP.out.drop_ HX.out hq)
          go_wp2_with fail
          go_roundw
          case rel => exact ⟨a, b + 1, D, rfl, by go_num, by omega, by omega, HK2.out, HO2.out, HG2.out⟩
          case measure => simp [intOf]; omega
        | false =>
          have HK2 := Lib.hid (HKP.out.keep HX.out hq)
          have haD : a < D.length := by have := HKP.out.len; have := HL.out; omega
          have hy := List.getElem?_eq_getElem haD
          obtain ⟨s1, s2⟩ := HO2.out.stored (a * 3) (.int .i64 x0)
          obtain ⟨s3, s4⟩ := s1.stored (a * 3 + 1) (.int .u64 x1)
          obtain ⟨s5, s6⟩ := s3.stored (a * 3 + 2) (.int .u64 x2)
          rw [flat_set3 D a (x0, x1, x2) _ hy] at s5
          have S5 := Lib.hid s5
          have hg3 := HG2.out.trans (s2.trans (s4.trans s6))
          have HG3 := Lib.hid hg3
          have z0 : ∃ u, w2.cell? ⟨g, a * 3, none⟩ = some u := by rw [HO2.out.cellAt _ (by omega), List.getElem?_eq_getElem (by rw [HO2.out.1]; omega)]; exact ⟨_, rfl⟩
          have z1 : ∃ u, w2.cell? ⟨g, a * 3 + 1, none⟩ = some u := by rw [HO2.out.cellAt _ (by omega), List.getElem?_eq_getElem (by rw [HO2.out.1]; omega)]; exact ⟨_, rfl⟩
          have z2 : ∃ u, w2.cell? ⟨g, a * 3 + 2, none⟩ = some u := by rw [HO2.out.cellAt _ (by omega), List.getElem?_eq_getElem (by rw [HO2.out.1]; omega)]; exact ⟨_, rfl⟩
          obtain ⟨u0, z0⟩ := z0
          obtain ⟨u1, z1⟩ := z1
          obtain ⟨u2, z2⟩ := z2
          have f0 := HO2.out.frozenAt (a * 3)
          have f1 := HO2.out.frozenAt (a * 3 + 1)
          have f2 := HO2.out.frozenAt (a * 3 + 2)
          clear s1 s2 s3 s4 s5 s6 hy hg3 haD
          go_wp2_with fail
          go_roundw
          case rel => exact ⟨a + 1, b + 1, D.set a (x0, x1, x2), by go_num, by go_num, by omega, by omega, HK2.out, S5.out, HG3.out⟩
          case measure => simp [intOf]; omega
      · obtain rfl : b = n := by omega
        have hfr : D.take a = others t l := by rw [HKP.out.front, List.take_of_length_le (by rw [HL.out]; exact Nat.le_refl _)]
        have hm : a = (others t l).length := by
          rw [← hfr, List.length_take, HKP.out.len, HL.out]
          omega
        obtain ⟨zs, hzl, hcl⟩ := run_clear_any (P := Tryz.prog) wr 50 43 0 _ 3 Tryz.underlying50 zero_slot (by intro u hu; simp [Value.cells] at hu; rcases hu with rfl | rfl | rfl <;> rfl) rfl g (a * 3) (b - a) (c - a) (by omega)
          (fun j hj => by rw [ho.cellAt _ (by omega), List.getElem?_eq_getElem (by rw [ho.1]; omega)]; rfl) (fun j hj => ho.frozenAt _)
        obtain ⟨s1, s2⟩ := own_sets (w := wr) zs (a * 3) ho
        have s3 := own_front s1 (show a ≤ b by omega)
        have hls : (setsL (flat enc3 D) (a * 3) zs).take (a * 3) = flat enc3 (others t l) := by
          rw [setsL_eq zs _ _ (by rw [flat_len enc3_len, hzl, HKP.out.len, HL.out]; omega), List.append_assoc, List.take_append_of_le_length (by rw [List.length_take, flat_len enc3_len, HKP.out.len, HL.out]; omega), List.take_take, Nat.min_self, flat_take enc3_len, hfr]
        rw [hls] at s3
        have S3 := Lib.hid s3
        have HG3 := Lib.hid (HG.out.trans s2)
        have HM := Lib.hid hm
        have hca : ¬ c = a := by omega
        clear s1 s2 s3 hls hm hfr hzl ho
        go_wp2_with fail
        go_ret
        exact ⟨a, HM.out, rfl, S3.out, HG3.out⟩
end Go.Proofs.YtbedboekfkobjaaGreatDoor.St
