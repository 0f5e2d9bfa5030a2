/- The walk of hackneylaw09.HistStays. -/
import Derived.Test.YtmnjdmcocifogaaGreatDoorHistOpen
import Derived.Test.YtmnjdmcocifogaaGreatDoorAfter
namespace Go.Proofs.YtmnjdmcocifogaaGreatDoor.Hi
open Go.ChangeShapes Go.WideShapes Go.ChangeAt Go.RowKit Rw Tx
set_option linter.unusedVariables false

/-- A slice of the call's own with these events, apart from a history. -/
structure Was (w : World) (p : Nat) (r : Option Nat) (A : Option Addr) (k c : Nat) (L : List Ev) : Prop where
  own : w.ownsRow 0 26 6 (.slice A k c) k (flat encE L)
  len : L.length = k
  ne : ∀ g, (Value.slice A k c).ownBlock = some g → g ≠ p ∧ r ≠ some g
theorem Was.rs {w : World} {p : Nat} {r : Option Nat} {A : Option Addr} {k c : Nat} {L : List Ev} (h : Was w p r A k c L) : Rs encE 6 w w.heap.size A k c L := Rs.own_rs encE_len h.len h.own
theorem Was.fr {w w' : World} {p : Nat} {r : Option Nat} {A : Option Addr} {k c : Nat} {L : List Ev} (h : Was w p r A k c L) (hf : Fr (some p) r w w') : Was w' p r A k c L :=
  ⟨own_same h.own fun g hg => hf.block g (h.own.lt g hg).2 (fun e => (h.ne g hg).1 (by injection e)) (fun e => (h.ne g hg).2 e.symm), h.len, h.ne⟩
theorem Was.below {w w' : World} {p : Nat} {r : Option Nat} {A : Option Addr} {k c : Nat} {L : List Ev} (h : Was w p r A k c L) (hb : Below w.heap.size w w') : Was w' p r A k c L :=
  ⟨own_same h.own fun g hg => hb.block g (h.own.lt g hg).2, h.len, h.ne⟩
theorem Was.row {w : World} {p : Nat} {r r' : Option Nat} {A : Option Addr} {k c : Nat} {L : List Ev} (h : Was w p r A k c L) (hr : r' = r ∨ ∃ g, r' = some g ∧ w.heap.size ≤ g) : Was w p r' A k c L :=
  ⟨h.own, h.len, fun g hg => ⟨(h.ne g hg).1, by
    rcases hr with rfl | ⟨g', rfl, hg'⟩
    · exact (h.ne g hg).2
    · intro e
      injection e with e
      have := (h.own.lt g hg).2
      omega⟩⟩

theorem Was.step {w w' : World} {p : Nat} {r r' : Option Nat} {A : Option Addr} {k c : Nat} {L : List Ev} (h : Was w p r A k c L) (hf : Fr (some p) r w w') (hr : r' = r ∨ ∃ g, r' = some g ∧ w.heap.size ≤ g) : Was w' p r' A k c L :=
  ⟨(h.fr hf).own, h.len, (h.row hr).ne⟩
set_option maxRecDepth 100000 in
theorem stays_long (A : Option Addr) (n c : Nat) (w : World) (hT : Tab w) (hn : n ≤ 9223372036854775807) (h : 100 < n) :
    Calls Tryz.prog 4 #[.slice A n c] w fun e w' => e = .returned (.bool true) ∧ Below w.heap.size w w' := by
  have t0 : decide ((100 : Int) < (n : Int)) = true := decide_eq_true (by omega)
  have t0' : decide (100 < n) = true := decide_eq_true (by omega)
  go_enter Tryz.func4, Tryz.ntmps4
  go_wp2_with fail
  refine (awake9_any _ hT).mono ?_
  rintro e w1 ⟨rfl, hb1⟩
  go_wp2_with fail
  go_ret
  exact ⟨rfl, hb1⟩
theorem take_left {α : Type} (L : List α) (e : α) (k : Nat) (h : L.length = k) : (L ++ [e]).take k = L := by
  subst h; simp
set_option maxHeartbeats 8000000 in
set_option maxRecDepth 100000 in
theorem stays_any (A : Option Addr) (n c : Nat) (xs : List Ev) (w : World) (hT : Tab w) (h : Rs encE 6 w w.heap.size A n c xs) (hn : n ≤ 100) (hok : ∀ x ∈ xs, x.ok) :
    Calls Tryz.prog 4 #[.slice A n c] w fun e w' => e = .returned (.bool true) ∧ Below w.heap.size w w' := by
  have HT := Lib.hid hT
  have R := Lib.hid h
  have HK := Lib.hid hok
  have hnc := h.cap
  have htop := h.top
  clear hT h hok
  go_enter Tryz.func4, Tryz.ntmps4
  go_wp2_with fail
  refine (awake9_any _ HT.out).mono ?_
  rintro e w1 ⟨rfl, hb1⟩
  go_wp2_with fail
  refine (new_any _ w.heap.size hb1.size).mono ?_
  rintro e w2 ⟨p, rfl, h2, hp2, hb2⟩
  have b2 : Below w.heap.size w w2 := hb1.trans (hb2.mono hb1.size)
  have hpw : w.heap.size ≤ p := by have := hb1.size; omega
  have H2 := Lib.hid h2
  have HB2 := Lib.hid b2
  clear h2 b2 hb2 hb1 hp2
  go_wp2_with fail
  go_loopw [4, 17] (fun v i wr => ∃ (k c4 : Nat) (A4 : Option Addr) (r : Option Nat) (s : Int) (L : List Ev), k ≤ n ∧ i = .int .i64 k ∧ v = .slice A4 k c4 ∧ Was wr p r A4 k c4 L ∧
      Hs wr w.heap.size p r s L ∧ Below w.heap.size w wr ∧ 0 ≤ s ∧ s ≤ 3 * k ∧ ∀ x ∈ L, x.step ≤ s) (fun _ i _ => n - (intOf i).toNat)
  case atStart => exact ⟨0, 0, none, none, 0, [], Nat.zero_le _, rfl, rfl, ⟨World.ownsRow_nil _ _ _ _, rfl, fun g hg => by cases hg⟩, H2.out, HB2.out, by omega, by omega, fun x hx => by cases hx⟩
  case round =>
    clear H2 HB2
    obtain ⟨k, c4, A4, r, s, L, hk, rfl, rfl, hwas, hh, hb, hs0, hs1, hLs⟩ := hrel
    have HW := Lib.hid hwas
    have HH := Lib.hid hh
    have HB := Lib.hid hb
    have HL := Lib.hid hLs
    have hpl := hh.lt
    clear hwas hh hb hLs
    by_cases hlt : k < n
    · obtain ⟨b, o, x, rfl, hbb, hx, c0, c1, c2, c3, c4', c5⟩ := six_at R.out hlt
      have hxk := HK.out x (List.mem_of_getElem? hx)
      have hbel := HB.out
      rw [← hbel.cell (p := ⟨b, _, none⟩) hbb] at c0 c1 c2 c3 c4' c5
      have hs := hbel.size
      clear hbel hx
      obtain ⟨x0, x1, x2, x3, x4, x5⟩ := x
      have hx0 := hxk.step
      unfold U64 at hx0
      simp only at c0 c1 c2 c3 c4' c5 hx0
      obtain ⟨q, hq, hq3⟩ : ∃ q : Nat, x0 % 4 = q ∧ q ≤ 3 := ⟨(x0 % 4).toNat, by omega, by omega⟩
      have HQ := Lib.hid hq
      have HXK := Lib.hid hxk
      clear hq hxk
      go_wp2_with fail
      rw [HQ.out]
      have e0 : (wr.alloc (.cells #[.int .u64 x0, .int .i64 x1, .int .i64 x2, .int .i64 x3, .int .u64 x4, .int .i64 x5] 26)).heap.size = wr.heap.size + 1 := by simp
      have HX : Hid (Six wr.heap.size ⟨x0, x1, x2, x3, x4, x5⟩ (wr.alloc (.cells #[.int .u64 x0, .int .i64 x1, .int .i64 x2, .int .i64 x3, .int .u64 x4, .int .i64 x5] 26))) := Lib.hid (by refine ⟨?_, ?_, ?_, ?_, ?_, ?_⟩ <;> simp)
      have hba : Below wr.heap.size wr (wr.alloc (.cells #[.int .u64 x0, .int .i64 x1, .int .i64 x2, .int .i64 x3, .int .u64 x4, .int .i64 x5] 26)) := (Below.refl _ _).alloc (Nat.le_refl _) _
      have HW1 := Lib.hid (HW.out.below hba)
      have HH1 := Lib.hid (HH.out.later hba)
      have HB1 := Lib.hid (HB.out.trans (hba.mono hs))
      have hrl : ∀ g, r = some g → g < wr.heap.size := fun g hg => (HH.out.row g hg).2
      clear hba HW HH HB c0 c1 c2 c3 c4' c5
      generalize (wr.alloc (.cells #[.int .u64 x0, .int .i64 x1, .int .i64 x2, .int .i64 x3, .int .u64 x4, .int .i64 x5] 26)) = W at *
      generalize wr.heap.size = g at *
      go_loopw [24] (fun j wq => ∃ a : Nat, a ≤ q ∧ j = .int .u64 a ∧ Hs wq w.heap.size p r (s + a) L ∧ Fr (some p) r W wq) (fun j _ => q - (intOf j).toNat)
      case atStart => exact ⟨0, Nat.zero_le _, rfl, by simpa using HH1.out, Fr.refl _ _ _⟩
      case round =>
        obtain ⟨a, ha, rfl, hh, hfr⟩ := hrel
        have HH2 := Lib.hid hh
        have HF := Lib.hid hfr
        clear hh hfr
        by_cases hlt2 : a < q
        · go_wp2_with fail
          refine (advance_any _ _ _ _ _ _ HH2.out (by omega)).mono ?_
          rintro e w3 ⟨rfl, hh3, hf3⟩
          have HH3 := Lib.hid hh3
          have HF3 := Lib.hid (HF.out.then hf3 (fun k e _ => .inl e.symm) (fun k e _ => .inr e.symm))
          clear hh3 hf3
          go_wp2_with fail
          go_roundw
          case rel => exact ⟨a + 1, by omega, by go_num, by have := HH3.out; rw [show s + ((a + 1 : Nat) : Int) = s + a + 1 by omega]; exact this, HF3.out⟩
          case measure => simp [intOf]; omega
        · obtain rfl : a = q := by omega
          have hgW : g < W.heap.size := by omega
          have hgp : some g ≠ some p := fun e => by injection e; omega
          have hgr : some g ≠ r := fun e => by have := hrl g e.symm; omega
          obtain ⟨c0, c1, c2, c3, c4', c5⟩ := HX.out
          rw [← HF.out.cell (p := ⟨g, _, none⟩) hgW hgp hgr] at c0 c1 c2 c3 c4' c5
          simp only at c0 c1 c2 c3 c4' c5
          have HW2 := Lib.hid (HW1.out.fr HF.out)
          have HB2 := Lib.hid (HB1.out.trans (HF.out.below HB1.out.size (fun k e => by injection e; omega) (fun k e => (HH1.out.row k e).1)))
          clear HX HW1 HH1 HB1
          go_wp2_with fail
          refine (add_any _ _ _ _ _ _ x1 x2 x3 x4 x5 HH2.out (by have := HW2.out.len; omega)).mono ?_
          rintro e w3 ⟨rfl, r3, hh3, hf3, hr3⟩
          obtain ⟨ev, hev⟩ : ∃ ev : Ev, ev = ⟨s + a, x1, x2, x3, x4, x5⟩ := ⟨_, rfl⟩
          rw [← hev] at hh3
          have hes : ev.step = s + a := by rw [hev]
          have HW3 := Lib.hid (HW2.out.step hf3 hr3)
          have HB3 := Lib.hid (HB2.out.trans (hf3.below HB2.out.size (fun k e => by injection e; omega) (fun k e => (HH2.out.row k e).1)))
          have HH3 := Lib.hid hh3
          clear hh3 hf3 hev HW2 HH2 HB2 HF c0 c1 c2 c3 c4' c5 hr3
          have hlen : (L ++ [ev]).length = k + 1 := by have := HW3.out.len; simp; omega
          have HLEN := Lib.hid hlen
          clear hlen
          go_wp2_with fail
          refine (all_any _ _ _ _ _ _ HH3.out (by rw [HLEN.out]; omega)).mono ?_
          rw [HLEN.out]
          rintro e w4 ⟨A7, c7, rfl, ho7, hb7⟩
          have HW4 := Lib.hid (HW3.out.below hb7)
          have HH4 := Lib.hid (HH3.out.later hb7)
          have HB4 := Lib.hid (HB3.out.trans (hb7.mono HB3.out.size))
          have HO7 := Lib.hid ho7
          have hp3 : p < w3.heap.size := HH3.out.lt
          have hr3l : ∀ g', r3 = some g' → g' < w3.heap.size := fun g' e => (HH3.out.row g' e).2
          have hs4 := hb7.size
          clear HW3 HH3 HB3 ho7 hb7
          have HR7 := Lib.hid (Rs.own_rs encE_len HLEN.out HO7.out)
          obtain ⟨b7, o7, e7, hA7, hb7, hx7, q0, q1, q2, q3, q4, q5⟩ := six_at HR7.out (k := k) (by omega)
          subst hA7
          obtain rfl : ev = e7 := by
            rw [List.getElem?_append_right (by have := HW4.out.len; omega)] at hx7
            have := HW4.out.len
            simpa [this] using hx7
          have hcap : k + 1 ≤ c7 := HR7.out.cap
          have htop7 : c7 ≤ 9223372036854775807 := HR7.out.top
          have hfront := HR7.out.front (i := k) (by omega)
          rw [take_left L ev k HW4.out.len] at hfront
          have HE : Hid (∀ x : After w4, Calls Tryz.prog 23 #[.slice (some ⟨b7, o7, none⟩) k c7, .slice A4 k c4] x.1 fun e w' => e = .returned (.bool true) ∧ Below x.1.heap.size x.1 w') :=
            Lib.hid fun x => (evequal_same _ _ k c7 c4 L w4.heap.size w4.heap.size x.1 (hfront.below x.2) (HW4.out.rs.below x.2)).mono fun e w' ⟨e1, q, e2⟩ => ⟨e1, e2 ▸ below_drewN (Below.refl _ _) q⟩
          rw [hes] at q0
          have hq0 : ∀ x : After w4, x.1.cell? ⟨b7, o7 + k * 6, none⟩ = some (.int .u64 (s + a)) := fun x => x.cell q0
          clear hx7 q0 q1 q2 q3 q4 q5 hfront
          obtain ⟨hb7lo, hb7hi⟩ := HO7.out.lt b7 rfl
          obtain rfl : o7 = 0 := by
            rcases HO7.out.2 with ⟨e, _⟩ | ⟨g', cap, cur, e, _⟩
            · cases e
            · injection e with e _ _
              injection e with e
              injection e
          rcases Nat.eq_zero_or_pos k with hk0 | hk0
          · subst hk0
            have HWY : True := trivial
            go_wp2_with fail
            refine region_after (by kernel_rfl) (by kernel_rfl) ?_
            repeat (go_big_quiet_step (first | (go_at_call 23; exact After.call (HE.out _))))
            refine wpQuiet_nil ?_
            rintro W5 ⟨⟨W5, hb5⟩, rfl⟩
            have HH5 := Lib.hid (HH4.out.later hb5)
            have HB5 := Lib.hid (HB4.out.trans (hb5.mono HB4.out.size))
            have HO7' := Lib.hid (own_same HO7.out (fun g' hg' => hb5.block g' (HO7.out.lt g' hg').2))
            have hs5 := hb5.size
            clear HH4 HB4 HO7 hb5 HE hq0 HR7 HWY
            go_wp2_with fail
            refine (all_any _ _ _ _ _ _ HH5.out (by rw [HLEN.out]; omega)).mono ?_
            rw [HLEN.out]
            rintro e w6 ⟨A8, c8, rfl, ho8, hb8⟩
            have HH6 := Lib.hid (HH5.out.later hb8)
            have HB6 := Lib.hid (HB5.out.trans (hb8.mono HB5.out.size))
            have HO7 := Lib.hid (own_same HO7'.out (fun g' hg' => hb8.block g' (HO7'.out.lt g' hg').2))
            have HO8 := Lib.hid ho8
            have hs6 := hb8.size
            have hp5 := HH5.out.lt
            have hr5 := HH5.out.row
            have HR7 := Lib.hid (Rs.own_rs encE_len HLEN.out HO7.out)
            have hf7 := HO7.out.frozenAt 4
            obtain ⟨b9, o9, e9, hA9, hb9, hx9, q0, q1, q2, q3, q4, q5⟩ := six_at HR7.out (k := 0) (by omega)
            obtain ⟨rfl, rfl⟩ : b7 = b9 ∧ 0 = o9 := by injection hA9 with e; injection e with e1 e2; exact ⟨e1, e2⟩
            have HR5 := Lib.hid hr5
            clear HH5 HB5 HO7' ho8 hb8 HR7 hA9 q0 q1 q2 q3 q5 hr5 hx9
            simp only [Nat.zero_mul, Nat.zero_add] at q4 hf7
            go_wp2_with fail
            go_roundw
            case rel =>
              refine ⟨0 + 1, c8, A8, r3, s + a, L ++ [ev], by omega, by go_num, rfl, ⟨own_mono (own_same HO8.out (fun g' hg' => heap_setCell_other w6 _ g' _ (fun e => by have := (HO8.out.lt g' hg').1; have e : g' = b7 := e; omega))) (Nat.zero_le _), HLEN.out, fun g' hg' => ⟨fun e => by have := (HO8.out.lt g' hg').1; omega, fun e => by have := (HO8.out.lt g' hg').1; have := (HR5.out g' e).2; omega⟩⟩, HH6.out.same (heap_setCell_other w6 _ p _ (fun e => by have e : p = b7 := e; omega)) (fun g' hg' => heap_setCell_other w6 _ g' _ (fun e => by have := hr3l g' hg'; have e : g' = b7 := e; omega)), ?_, by omega, by omega, ?_⟩
              · exact HB6.out.setCell (by have := HB6.out.size; simp; omega) _
              · intro y hy
                rcases List.mem_append.1 hy with hy | hy
                · have := HL.out y hy; omega
                · simp at hy; subst hy; omega
            case measure => simp [intOf]; omega
          · obtain ⟨m, rfl⟩ : ∃ m, k = m + 1 := ⟨k - 1, by omega⟩
            obtain ⟨by_, oy, y, hAy, hby, hy, y0, -⟩ := six_at HW4.out.rs (k := m) (by omega)
            subst hAy
            have hys : y.step ≤ s := HL.out y (List.mem_of_getElem? hy)
            have hd : decide (s + (a : Int) < y.step) = false := decide_eq_false (by omega)
            have hy0 : ∀ x : After w4, x.1.cell? ⟨by_, oy + m * 6, none⟩ = some (.int .u64 y.step) := fun x => x.cell y0
            have HWY : True := trivial
            simp only [Nat.zero_add] at hq0
            clear hy y0
            go_wp2_with fail
            refine region_after (by kernel_rfl) (by kernel_rfl) ?_
            repeat (go_big_quiet_step (first | (go_at_call 23; exact After.call (HE.out _))))
            refine wpQuiet_nil ?_
            rintro W5 ⟨⟨W5, hb5⟩, rfl⟩
            have HH5 := Lib.hid (HH4.out.later hb5)
            have HB5 := Lib.hid (HB4.out.trans (hb5.mono HB4.out.size))
            have HO7' := Lib.hid (own_same HO7.out (fun g' hg' => hb5.block g' (HO7.out.lt g' hg').2))
            have hs5 := hb5.size
            clear HH4 HB4 HO7 hb5 HE hq0 HR7 HWY
            go_wp2_with fail
            refine (all_any _ _ _ _ _ _ HH5.out (by rw [HLEN.out]; omega)).mono ?_
            rw [HLEN.out]
            rintro e w6 ⟨A8, c8, rfl, ho8, hb8⟩
            have HH6 := Lib.hid (HH5.out.later hb8)
            have HB6 := Lib.hid (HB5.out.trans (hb8.mono HB5.out.size))
            have HO7 := Lib.hid (own_same HO7'.out (fun g' hg' => hb8.block g' (HO7'.out.lt g' hg').2))
            have HO8 := Lib.hid ho8
            have hs6 := hb8.size
            have hp5 := HH5.out.lt
            have hr5 := HH5.out.row
            have HR7 := Lib.hid (Rs.own_rs encE_len HLEN.out HO7.out)
            have hf7 := HO7.out.frozenAt 4
            obtain ⟨b9, o9, e9, hA9, hb9, hx9, q0, q1, q2, q3, q4, q5⟩ := six_at HR7.out (k := 0) (by omega)
            obtain ⟨rfl, rfl⟩ : b7 = b9 ∧ 0 = o9 := by injection hA9 with e; injection e with e1 e2; exact ⟨e1, e2⟩
            have HR5 := Lib.hid hr5
            clear HH5 HB5 HO7' ho8 hb8 HR7 hA9 q0 q1 q2 q3 q5 hr5 hx9
            simp only [Nat.zero_mul, Nat.zero_add] at q4 hf7
            go_wp2_with fail
            go_roundw
            case rel =>
              refine ⟨(m + 1) + 1, c8, A8, r3, s + a, L ++ [ev], by omega, by go_num, rfl, ⟨own_mono (own_same HO8.out (fun g' hg' => heap_setCell_other w6 _ g' _ (fun e => by have := (HO8.out.lt g' hg').1; have e : g' = b7 := e; omega))) (Nat.zero_le _), HLEN.out, fun g' hg' => ⟨fun e => by have := (HO8.out.lt g' hg').1; omega, fun e => by have := (HO8.out.lt g' hg').1; have := (HR5.out g' e).2; omega⟩⟩, HH6.out.same (heap_setCell_other w6 _ p _ (fun e => by have e : p = b7 := e; omega)) (fun g' hg' => heap_setCell_other w6 _ g' _ (fun e => by have := hr3l g' hg'; have e : g' = b7 := e; omega)), ?_, by omega, by omega, ?_⟩
              · exact HB6.out.setCell (by have := HB6.out.size; simp; omega) _
              · intro y hy
                rcases List.mem_append.1 hy with hy | hy
                · have := HL.out y hy; omega
                · simp at hy; subst hy; omega
            case measure => simp [intOf]; omega
    · have hke : k = n := by omega
      subst hke
      go_wp2_with fail
      refine (add_nil _ _ _ _ _ _).mono ?_
      rintro e w3 ⟨rfl, rfl⟩
      go_wp2_with fail
      refine (now_nil _).mono ?_
      rintro e w3 ⟨rfl, rfl⟩
      go_wp2_with fail
      refine (advance_nil _).mono ?_
      rintro e w3 ⟨rfl, rfl⟩
      go_wp2_with fail
      refine (all_nil _).mono ?_
      rintro e w3 ⟨rfl, rfl⟩
      go_wp2_with fail
      refine (pending_nil _).mono ?_
      rintro e w3 ⟨rfl, rfl⟩
      go_wp2_with fail
      refine (clone_nil _).mono ?_
      rintro e w3 ⟨rfl, rfl⟩
      go_wp2_with fail
      go_ret
      exact ⟨rfl, HB.out⟩
end Go.Proofs.YtmnjdmcocifogaaGreatDoor.Hi
