/- The walk of hackneylaw03.SnapOrder. -/
import Derived.Test.YtiglheagefpgoaaAwake4
import Derived.Test.YtiglheagefpgoaaWordMath
import Derived.Test.YtiglheagefpgoaaAfter
import Derived.Deep.RegionHeld3
namespace Go.Proofs.Ytiglheagefpgoaa.Sn
open Go.ChangeShapes Go.WideShapes Go.ChangeAt Go.RowKit Rw Sl Ck
set_option linter.unusedVariables false

theorem len_val (v : Value) (ys : List Int) (m : Nat) (B : Nat) (w : World) (h : Snap w B v ys) (hm : ys.length = m) :
    Calls Try.prog 46 #[v] w fun e w' => e = .returned (.int .i64 m) ∧ Below w.heap.size w w' := by
  subst hm; exact len_any v ys B w h
theorem idx_val (v : Value) (ys : List Int) (x r : Int) (w : World) (h : Snap w w.heap.size v ys) (hr : sIdx ys x = r) :
    Calls Try.prog 47 #[v, .int .u64 x] w fun e w' => e = .returned (.int .i64 r) ∧ Below w.heap.size w w' := by
  subst hr; exact idx_any v ys x w h
theorem equal_same (A A' : Option Addr) (n c m c' : Nat) (ys zs : List Int) (B B' : Nat) (w : World) (h : Rd (Value.int .u64) w B A n c ys) (h' : Rd (Value.int .u64) w B' A' m c' zs) (he : ys = zs) :
    Calls Try.prog 43 #[.slice A n c, .slice A' m c'] w fun e w' => e = .returned (.bool true) ∧ Below w.heap.size w w' :=
  (equal_any A A' n c m c' ys zs B B' w h h').mono fun e w' ⟨h1, q, h2⟩ => ⟨by rw [h1, decide_eq_true he], h2 ▸ below_drewN (Below.refl _ _) q⟩

/-- The three cells that are read at the end. -/
def Three (W : World) (a b c : Nat) (x y z : Value) (w : World) : Prop := w.cell? ⟨a, 0, none⟩ = some x ∧ w.cell? ⟨b, 0, none⟩ = some y ∧ w.cell? ⟨c, 0, none⟩ = some z ∧ Below W.heap.size W w
theorem Three.on {W : World} {a b c : Nat} {x y z : Value} {w w' : World} (h : Three W a b c x y z w) (hb : Below w.heap.size w w') : Three W a b c x y z w' :=
  ⟨(hb.cell (p := ⟨a, 0, none⟩) (Lw.lt_heap h.1)).trans h.1, (hb.cell (p := ⟨b, 0, none⟩) (Lw.lt_heap h.2.1)).trans h.2.1, (hb.cell (p := ⟨c, 0, none⟩) (Lw.lt_heap h.2.2.1)).trans h.2.2.1, h.2.2.2.trans (hb.mono h.2.2.2.size)⟩
theorem Three.bel {W : World} {a b c : Nat} {x y z : Value} {w : World} (h : Three W a b c x y z w) : Below W.heap.size W w := h.2.2.2
theorem Three.drew {W : World} {a b c : Nat} {x y z : Value} {w : World} (h : Three W a b c x y z w) : Three W a b c x y z w.drew := ⟨h.1, h.2.1, h.2.2.1, h.2.2.2.drew⟩

set_option maxHeartbeats 8000000 in
set_option maxRecDepth 100000 in
theorem order_any (A : Option Addr) (n c : Nat) (xs : List Int) (x : Int) (w : World) (h : Rd (Value.int .u64) w w.heap.size A n c xs) (hok : U64s xs) (hn : n ≤ 100) (hx : 0 ≤ x ∧ x ≤ 18446744073709551615) :
    Calls Try.prog 11 #[.slice A n c, .int .u64 x] w fun e w' => e = .returned (.bool true) ∧ Below w.heap.size w w' := by
  have hlen := h.len
  have hsl : (sOf xs).length ≤ 100 := by have := sOf_len xs; omega
  have R := Lib.hid h
  have HO := Lib.hid hok
  have HL := Lib.hid hlen
  clear h hok hlen
  go_enter Try.func11, Try.ntmps11
  go_wp2_with fail
  refine (awake3_any _).mono ?_
  rintro e w1 ⟨rfl, hb1⟩
  go_wp2_with fail
  refine (of_any A n c xs _ (R.out.later hb1) HO.out (by omega)).mono ?_
  rintro e w2 ⟨u, rfl, hs2, hb2⟩
  obtain ⟨A2, n2, c2, rfl⟩ := hs2.form
  have hb : Below w.heap.size w w2 := hb1.trans (hb2.mono hb1.size)
  have HS2 := Lib.hid hs2
  clear hs2 hb1 hb2
  have hsz := hb.size
  go_wp2_with fail
  refine (len_any _ (sOf xs) w2.heap.size _ (HS2.out.below ((Below.refl _ _).alloc (Nat.le_refl _) _))).mono ?_
  rintro e w3 ⟨rfl, hb3⟩
  have hc3 : w3.cell? ⟨w2.heap.size, 0, none⟩ = some (.slice A2 n2 c2) := (hb3.cell (p := ⟨w2.heap.size, 0, none⟩) (by simp)).trans (by go_simp)
  have hb3' : Below w2.heap.size w2 w3 := ((Below.refl _ _).alloc (Nat.le_refl _) _).trans (hb3.mono (by simp))
  clear hb3
  obtain ⟨g, hg⟩ : ∃ g, g = w2.heap.size := ⟨_, rfl⟩
  rw [← hg] at hc3 hsz ⊢
  have hbw : Below w.heap.size w w3 := hb.trans (hb3'.mono hb.size)
  have hS3 : Snap w3 w3.heap.size (.agg #[.slice A2 n2 c2]) (sOf xs) := HS2.out.later hb3'
  have HS3 := Lib.hid hS3
  clear hS3 HS2 hb hg hb3' w2
  go_wp2_with fail
  go_loopw [6, 24] (fun la i wr => ∃ k : Nat, k ≤ (sOf xs).length ∧ i = .int .i64 k ∧ la = .int .i64 (sLast xs k) ∧ Below w3.heap.size w3 wr) (fun _ i _ => (sOf xs).length - (intOf i).toNat)
  case atStart => exact ⟨0, Nat.zero_le _, rfl, by simp [sLast], Below.refl _ _⟩
  case round =>
    obtain ⟨k, hk, rfl, rfl, hbr⟩ := hrel
    have hcr : wr.cell? ⟨g, 0, none⟩ = some (.slice A2 n2 c2) := (hbr.cell (p := ⟨g, 0, none⟩) (Lw.lt_heap hc3)).trans hc3
    by_cases hlt : k < (sOf xs).length
    · obtain ⟨y, hy⟩ : ∃ y, (sOf xs)[k]? = some y := ⟨_, List.getElem?_eq_getElem hlt⟩
      have q1 : ¬ sIdx xs y ≤ sLast xs k := by have := sLast_lt hy; omega
      have q2 : (sIdx (sOf xs) y != (k : Int)) = false := by rw [sIdx_nodup (nodup_sOf xs) hy]; simp
      have HY := Lib.hid hy
      clear hy
      go_wp2_with fail
      refine (at_in _ (sOf xs) k y _ _ (HS3.out.later hbr) (Nat.le_refl _) HY.out).mono ?_
      rintro e w4 ⟨rfl, hb4⟩
      have hb4' : Below w3.heap.size w3 w4 := hbr.trans (hb4.mono hbr.size)
      have hc4 : w4.cell? ⟨g, 0, none⟩ = some (.slice A2 n2 c2) := (hb4'.cell (p := ⟨g, 0, none⟩) (Lw.lt_heap hc3)).trans hc3
      go_wp2_with fail
      refine (index_any A n c xs y _ _ ((R.out.later hbw).later hb4')).mono ?_
      rintro e w5 ⟨rfl, rfl⟩
      go_wp2_with fail
      refine (idx_any _ (sOf xs) y _ (HS3.out.later hb4')).mono ?_
      rintro e w5 ⟨rfl, hb5⟩
      go_wp2_with fail
      go_roundw
      case rel => exact ⟨k + 1, by omega, by go_num, by rw [sLast_succ HY.out], hb4'.trans (hb5.mono hb4'.size)⟩
      case measure => simp [intOf]; omega
    · go_wp2_with fail
      refine (without_any _ (sOf xs) x _ (HS3.out.later hbr) (by omega)).mono ?_
      rintro e w4 ⟨u4, rfl, hs4, hb4⟩
      have hl4 := sWithout_len (sOf xs) x
      go_wp2_with fail
      refine (with_any _ (sWithout (sOf xs) x) x _ hs4 (by omega) hx).mono ?_
      rintro e w5 ⟨u5, rfl, hs5, hb5⟩
      obtain ⟨A5, n5, c5, rfl⟩ := hs5.form
      have hb5' : Below w3.heap.size w3 w5 := (hbr.trans (hb4.mono hbr.size)).trans (hb5.mono (by have := hbr.size; have := hb4.size; omega))
      have hc5 : w5.cell? ⟨g, 0, none⟩ = some (.slice A2 n2 c2) := (hb5'.cell (p := ⟨g, 0, none⟩) (Lw.lt_heap hc3)).trans hc3
      have hg5 : g < w5.heap.size := Lw.lt_heap hc5
      clear hs4 hb4 hb5
      have HS5 := Lib.hid hs5
      clear hs5 hcr
      go_wp2_with fail
      have hcW : ((w5.alloc (.cells #[.slice A5 n5 c5] 65)).alloc (.cells #[.slice A2 n2 c2] 65)).cell? ⟨w5.heap.size, 0, none⟩ = some (.slice A5 n5 c5) := by go_simp
      have hbW : Below w5.heap.size w5 ((w5.alloc (.cells #[.slice A5 n5 c5] 65)).alloc (.cells #[.slice A2 n2 c2] 65)) := ((Below.refl _ _).alloc (Nat.le_refl _) _).alloc (by simp) _
      have hcE : ((w5.alloc (.cells #[.slice A5 n5 c5] 65)).alloc (.cells #[.slice A2 n2 c2] 65)).cell? ⟨w5.heap.size + 1, 0, none⟩ = some (.slice A2 n2 c2) := by go_simp
      have hfE : ((w5.alloc (.cells #[.slice A5 n5 c5] 65)).alloc (.cells #[.slice A2 n2 c2] 65)).frozen? ⟨w5.heap.size + 1, 0, none⟩ = false := by go_simp
      go_loopw [60] (fun i wq => ∃ (k : Nat) (A6 : Option Addr) (n6 c6 : Nat), k ≤ n ∧ i = .int .i64 k ∧ Below w5.heap.size w5 wq ∧ wq.cell? ⟨w5.heap.size, 0, none⟩ = some (.slice A5 n5 c5) ∧ wq.cell? ⟨w5.heap.size + 1, 0, none⟩ = some (.slice A6 n6 c6) ∧ wq.frozen? ⟨w5.heap.size + 1, 0, none⟩ = false ∧
          Snap wq wq.heap.size (.agg #[.slice A6 n6 c6]) (sOut (xs.take k) (sOf xs))) (fun i _ => n - (intOf i).toNat)
      case atStart => exact ⟨0, A2, n2, c2, Nat.zero_le _, rfl, hbW, hcW, hcE, hfE, by simpa [sOut] using (HS3.out.later hb5').later hbW⟩
      case round =>
        clear hbW hcW hcE hfE
        obtain ⟨k, A6, n6, c6, hk, rfl, hbq, hq1, hq2, hq3, hsq⟩ := hrel
        have HSQ := Lib.hid hsq
        clear hsq
        by_cases hlt : k < n
        · obtain ⟨b, o, y, rfl, hby, hy, hcy⟩ := R.out.get hlt
          have hcy' : wr.cell? ⟨b, o + k, none⟩ = some (.int .u64 y) := (hbq.cell (p := ⟨b, o + k, none⟩) (by have := hb5'.size; have := hbw.size; show b < _; omega)).trans ((hb5'.cell (p := ⟨b, o + k, none⟩) (by have := hbw.size; show b < _; omega)).trans ((hbw.cell (p := ⟨b, o + k, none⟩) hby).trans hcy))
          have hol := sOut_len (xs.take k) (sOf xs)
          have HY := Lib.hid hy
          clear hy hcy
          go_wp2_with fail
          refine (without_any _ _ y _ HSQ.out (by omega)).mono ?_
          rintro e w7 ⟨u7, rfl, hs7, hb7⟩
          obtain ⟨A7, n7, c7, rfl⟩ := hs7.form
          have hE7 : w7.cell? ⟨w5.heap.size + 1, 0, none⟩ = some (.slice A6 n6 c6) := (hb7.cell (p := ⟨w5.heap.size + 1, 0, none⟩) (Lw.lt_heap hq2)).trans hq2
          have hF7 : w7.frozen? ⟨w5.heap.size + 1, 0, none⟩ = false := (hb7.frozen (p := ⟨w5.heap.size + 1, 0, none⟩) (Lw.lt_heap hq2)).trans hq3
          have hT7 : w7.cell? ⟨w5.heap.size, 0, none⟩ = some (.slice A5 n5 c5) := (hb7.cell (p := ⟨w5.heap.size, 0, none⟩) (Lw.lt_heap hq1)).trans hq1
          go_wp2_with fail
          go_roundw
          case rel =>
            refine ⟨k + 1, A7, n7, c7, by omega, by go_num, ?_, by go_simp, by go_simp, by go_simp, ?_⟩
            · exact (hbq.trans (hb7.mono hbq.size)).setCell (p := ⟨w5.heap.size + 1, 0, none⟩) (by simp) _
            · rw [sOut_take HY.out]
              have := hs7.setOther hE7 (fun y => by simp) (.slice A7 n7 c7)
              simpa using this
          case measure => simp [intOf]; omega
        · have hkn : k = n := by omega
          have e0 : sOut (xs.take k) (sOf xs) = [] := by rw [List.take_of_length_le (by have := HL.out; omega)]; exact sOut_all xs
          have hE : Snap wr wr.heap.size (.agg #[.slice A6 n6 c6]) [] := by have := HSQ.out; rwa [e0] at this
          have hT : Snap wr wr.heap.size (.agg #[.slice A5 n5 c5]) (sWith (sWithout (sOf xs) x) x) := HS5.out.later hbq
          have hS : Snap wr wr.heap.size (.agg #[.slice A2 n2 c2]) (sOf xs) := (HS3.out.later hb5').later hbq
          have hq0 : wr.cell? ⟨g, 0, none⟩ = some (.slice A2 n2 c2) := (hbq.cell (p := ⟨g, 0, none⟩) hg5).trans hc5
          have hbe : Below w.heap.size w wr := (hbw.trans (hb5'.mono hbw.size)).trans (hbq.mono (by have := hbw.size; have := hb5'.size; omega))
          have hTl : (sWith (sWithout (sOf xs) x) x).length ≤ 101 := by have := sWith_len (sWithout (sOf xs) x) x; omega
          have hi := sBack_idx (sOf xs) x
          have hwl := sWith_len (sOf xs) x
          obtain ⟨L, hL⟩ : ∃ L : Nat, (sWith (sWithout (sOf xs) x) x).length = L := ⟨_, rfl⟩
          rw [hL] at hi hTl
          have r1 : IntKind.i64.wrap ((L : Int) - 1) = (L : Int) - 1 := IntWalk.i64_in _ (by omega)
          have HE := Lib.hid hE
          have HT := Lib.hid hT
          have HS := Lib.hid hS
          have HI := Lib.hid hi
          have HLL := Lib.hid hL
          have HBE := Lib.hid hbe
          have HW := Lib.hid (sWithout_with (sOf xs) x)
          have hwo := sWithout_len (sOf xs) x
          have hwo2 := sWithout_len (sWith (sOf xs) x) x
          clear hE hT hS hi hL hbe e0 HSQ HS3 HS5 hkn
          have st : Three wr g w5.heap.size (w5.heap.size + 1) (.slice A2 n2 c2) (.slice A5 n5 c5) (.slice A6 n6 c6) wr := ⟨hq0, hq1, hq2, Below.refl _ _⟩
          go_wp2_with fail
          generalize w5.heap.size = g5 at st ⊢
          clear hq0 hq1 hq2 hq3
          go_region_held3 (fun w' => w'.cell? ⟨g, 0, none⟩ = some (.slice A2 n2 c2) ∧ w'.cell? ⟨g5, 0, none⟩ = some (.slice A5 n5 c5) ∧ w'.cell? ⟨g5 + 1, 0, none⟩ = some (.slice A6 n6 c6) ∧ Below wr.heap.size wr w') (first | exact st | exact st.drew)
            (first
              | (go_at_call 46; (with_reducible refine (len_val (.agg #[.slice A6 n6 c6]) [] 0 _ _ (HE.out.later st.drew.bel) List.length_nil).mono ?_); rintro e w' ⟨rfl, hb⟩; replace st := st.drew.on hb)
              | (go_at_call 47; (with_reducible refine (idx_val _ _ x _ _ (HT.out.later st.bel) HI.out).mono ?_); rintro e w' ⟨rfl, hb⟩; replace st := st.on hb)
              | (go_at_call 46; (with_reducible refine (len_val (.agg #[.slice A5 n5 c5]) _ L _ _ (HT.out.later st.bel) HLL.out).mono ?_); rintro e w' ⟨rfl, hb⟩; replace st := st.on hb)
              | (go_at_call 41; (with_reducible refine (with_any _ _ x _ (HS.out.later st.bel) (by omega) hx).mono ?_); rintro e w' ⟨u, rfl, hu, hb⟩; replace st := st.on hb; have HU := Lib.hid hu; clear hu)
              | (go_at_call 39; (with_reducible refine (without_any u _ x _ HU.out (by omega)).mono ?_); rintro e w' ⟨v, rfl, hv, hb⟩; replace st := st.on hb; have HV := Lib.hid hv; clear hv HU)
              | (go_at_call 44; (with_reducible refine (all_any v _ _ HV.out (by omega)).mono ?_); rintro e w' ⟨A8, c8, rfl, hown8, hb⟩; replace st := st.on hb; have H8 := Lib.hid (Rd.own_rd hown8); clear hown8 HV)
              | (go_at_call 39; (with_reducible refine (without_any (.agg #[.slice A2 n2 c2]) _ x _ (HS.out.later st.bel) (by omega)).mono ?_); rintro e w' ⟨v9, rfl, hv, hb⟩; replace st := st.on hb; have HV9 := Lib.hid hv; replace H8 := Lib.hid (H8.out.later hb); clear hv)
              | (go_at_call 44; (with_reducible refine (all_any v9 _ _ HV9.out (by omega)).mono ?_); rintro e w' ⟨A9, c9, rfl, hown9, hb⟩; replace st := st.on hb; replace H8 := Lib.hid (H8.out.later hb); have H9 := Lib.hid (Rd.own_rd hown9); clear hown9 HV9)
              | (go_at_call 43; (with_reducible refine (equal_same _ _ _ _ _ _ _ _ _ _ _ H8.out H9.out HW.out).mono ?_); rintro e w' ⟨rfl, hb⟩; replace st := st.on hb))
          go_wp2_with fail
          go_ret
          exact ⟨rfl, HBE.out.trans (st.bel.mono HBE.out.size)⟩

set_option maxRecDepth 100000 in
theorem order_long (A : Option Addr) (n c : Nat) (x : Int) (w : World) (hn : 100 < n) (hm : n ≤ 9223372036854775807) :
    Calls Try.prog 11 #[.slice A n c, .int .u64 x] w fun e w' => e = .returned (.bool true) ∧ Below w.heap.size w w' := by
  go_enter Try.func11, Try.ntmps11
  go_wp2_with fail
  refine (awake3_any _).mono ?_
  rintro e w1 ⟨rfl, hb1⟩
  go_wp2_with fail
  go_ret
  exact ⟨rfl, hb1⟩
end Go.Proofs.Ytiglheagefpgoaa.Sn
