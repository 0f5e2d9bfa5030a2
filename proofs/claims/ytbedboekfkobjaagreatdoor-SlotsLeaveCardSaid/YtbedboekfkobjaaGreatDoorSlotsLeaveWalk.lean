/- The walk of hackneylaw11.SlotsLeave. -/
import Derived.Test.YtbedboekfkobjaaGreatDoorSlotsE
import Derived.Test.YtbedboekfkobjaaGreatDoorAwake11
namespace Go.Proofs.YtbedboekfkobjaaGreatDoor.St
open Go.ChangeShapes Go.WideShapes Go.ChangeAt Go.RowKit Rw Hi
set_option linter.unusedVariables false

set_option maxRecDepth 100000 in
theorem leave_long (A : Option Addr) (n c : Nat) (t i : Int) (w : World) (hT : Tx.Tab w) (hn : n ≤ 9223372036854775807) (h : 60 < n ∨ i = 0) :
    Calls Tryz.prog 6 #[.slice A n c, .int .i64 t, .int .u64 i] w fun e w' => e = .returned (.bool true) ∧ Below w.heap.size w w' := by
  have hb0 : Below w.heap.size w (w.alloc (.cells #[.int .i64 t] 3)) := (Below.refl _ _).alloc (Nat.le_refl _) _
  have HB0 := Lib.hid hb0
  have HT := Lib.hid (hT.below hb0)
  clear hb0 hT
  by_cases h1 : 60 < n
  · have t0 : decide ((60 : Int) < (n : Int)) = true := decide_eq_true (by omega)
    have t0' : decide (60 < n) = true := decide_eq_true (by omega)
    go_enter Tryz.func6, Tryz.ntmps6
    go_wp2_with fail
    refine (awake11_any _ HT.out).mono ?_
    rintro e w1 ⟨rfl, hb1⟩
    go_wp2_with fail
    go_ret
    exact ⟨rfl, HB0.out.trans (hb1.mono HB0.out.size)⟩
  · have t0 : decide ((60 : Int) < (n : Int)) = false := decide_eq_false (by omega)
    have t0' : decide (60 < n) = false := decide_eq_false (by omega)
    have hi : i = 0 := by omega
    subst hi
    go_enter Tryz.func6, Tryz.ntmps6
    go_wp2_with fail
    refine (awake11_any _ HT.out).mono ?_
    rintro e w1 ⟨rfl, hb1⟩
    go_wp2_with fail
    go_ret
    exact ⟨rfl, HB0.out.trans (hb1.mono HB0.out.size)⟩

set_option maxHeartbeats 1000000 in
theorem deletef_gen (A : Option Addr) (n c base q : Nat) (t : Int) (l : List Sx) (w : World) (h : w.ownsRow base 43 3 (.slice A n c) n (flat enc3 l)) (hl : l.length = n) (hc : w.cell? ⟨q, 0, none⟩ = some (.int .i64 t)) (hq : q < base) :
    Calls Tryz.prog 25 #[.slice A n c, .func (.func 27) #[] #[.pointer (some ⟨q, 0, none⟩)]] w fun e w' =>
      ∃ m, m = (others t l).length ∧ e = .returned (.slice A m c) ∧ w'.ownsRow base 43 3 (.slice A m c) m (flat enc3 (others t l)) ∧ w.grownBy w' (Value.slice A n c).ownBlock := by
  cases A with
  | some a =>
    obtain ⟨g, rfl⟩ : ∃ g, a = ⟨g, 0, none⟩ := by
      rcases h.2 with ⟨h', _⟩ | ⟨g, cap, cur, h', _⟩
      · injection h' with h1 _ _; cases h1
      · injection h' with h1 _ _; injection h1 with h1; exact ⟨g, h1⟩
    exact deletef_any g n c base q t l w h hl hc (fun e => by have := (h.lt g rfl).1; omega)
  | none =>
    obtain ⟨rfl, rfl⟩ : n = 0 ∧ c = 0 := by
      rcases h.2 with ⟨h', _⟩ | ⟨g, cap, cur, h', _⟩
      · injection h' with _ h2 h3; exact ⟨h2, h3⟩
      · injection h' with h1 _ _; cases h1
    obtain rfl := List.eq_nil_of_length_eq_zero hl
    have hql : q < w.heap.size := Lw.lt_heap hc
    have hix := index_any 27 #[.pointer (some ⟨q, 0, none⟩)] (hit t) none 0 0 w.heap.size [] w Rs.nil_ (Nat.le_refl _) (fun args w => by simp [go_sem]) (fun a b c W hb => whose_any a b c t q W ((hb.cell (p := ⟨q, 0, none⟩) hql).trans hc))
    rw [show ixZ (hit t) [] = -1 from rfl] at hix
    clear h hl
    go_enter Tryz.func25, Tryz.ntmps25
    go_wp2_with fail
    refine hix.mono ?_
    rintro e w1 ⟨rfl, hb⟩
    go_wp2_with fail
    go_ret
    exact ⟨0, rfl, rfl, World.ownsRow_nil _ _ _ _, hb.os, hb.tape, hb.output, hb.size, fun k hk _ => hb.block k hk⟩
/-- Who leaves takes nothing along. -/
theorem leave_take (w : World) (B p n : Nat) (r : Option Nat) (R : List Int) (t : Int) (h : Ss w B p r (wt R)) (hn : R.Nodup) (hRn : R.length = n) :
    Calls Tryz.prog 15 #[.pointer (some ⟨p, 0, none⟩), .int .i64 t] w fun e w' => ∃ (R2 : List Int) (m : Nat), R2.length = m ∧ m ≤ n ∧ e = .returned (.tuple #[.int .u64 0, .bool (decide (m < n))]) ∧ others t (wt R) = wt R2 ∧ Ss w' B p r (wt R2) ∧ Fr (some p) r w w' := by
  subst hRn
  cases hf : (wt R).findIdx? (hit t) with
  | none =>
    refine (take_miss_any _ _ _ _ _ t h hf).mono ?_
    rintro e w' ⟨rfl, hb⟩
    exact ⟨R, R.length, rfl, Nat.le_refl _, by rw [decide_eq_false (Nat.lt_irrefl _)], others_none hf, h.later hb, hb.os, hb.tape, hb.output, hb.size, fun k hk _ _ => hb.block k hk⟩
  | some k =>
    obtain ⟨x, hx, _, hk⟩ := ix_hit hf
    obtain ⟨u, hu, rfl⟩ := wt_at hx
    have hkR : k < R.length := (List.getElem?_eq_some_iff.1 hu).1
    have hlen : (R.eraseIdx k).length + 1 = R.length := by rw [List.length_eraseIdx]; simp [hkR]; omega
    refine (take_hit_any _ _ _ _ _ t k _ h hf hx).mono ?_
    rintro e w' ⟨rfl, hs, hfr⟩
    refine ⟨R.eraseIdx k, (R.eraseIdx k).length, rfl, by omega, by rw [decide_eq_true (by omega)], ?_, ?_, hfr⟩
    · rw [wt_leave hn hf, wt_erase]
    · rw [← wt_erase]; exact hs

set_option maxHeartbeats 8000000 in
set_option maxRecDepth 100000 in
theorem leave_any (A : Option Addr) (n c : Nat) (xs : List Int) (who i : Int) (w : World) (hT : Tx.Tab w) (h : Rd (Value.int .i64) w w.heap.size A n c xs) (hn : n ≤ 60) (hi : i ≠ 0) :
    Calls Tryz.prog 6 #[.slice A n c, .int .i64 who, .int .u64 i] w fun e w' => e = .returned (.bool true) ∧ Below w.heap.size w w' := by
  have hb0 : Below w.heap.size w (w.alloc (.cells #[.int .i64 who] 3)) := (Below.refl _ _).alloc (Nat.le_refl _) _
  have HI := Lib.hid hi
  have e0 : (i == 0) = false := by simpa using hi
  have R' := Lib.hid ((h.below hb0).more (B' := (w.alloc (.cells #[.int .i64 who] 3)).heap.size) (by simp))
  have t0 : decide ((60 : Int) < (n : Int)) = false := decide_eq_false (by omega)
  have t0' : decide (60 < n) = false := decide_eq_false (by omega)
  have HT := Lib.hid (hT.below hb0)
  have hcw : (w.alloc (.cells #[.int .i64 who] 3)).cell? ⟨w.heap.size, 0, none⟩ = some (.int .i64 who) := by go_simp
  have HCW := Lib.hid hcw
  have HB0 := Lib.hid hb0
  have hqs : w.heap.size < (w.alloc (.cells #[.int .i64 who] 3)).heap.size := by simp
  clear hT h hb0 hi hcw
  obtain ⟨q, hq⟩ : ∃ q, w.heap.size = q := ⟨_, rfl⟩
  go_enter Tryz.func6, Tryz.ntmps6
  go_wp2_with fail
  rw [hq] at HCW hqs
  clear hq
  generalize (w.alloc (.cells #[.int .i64 who] 3)) = W0 at *
  refine (awake11_any _ HT.out).mono ?_
  rintro e w1 ⟨rfl, hb1⟩
  go_wp2_with fail
  refine (new_any _ W0.heap.size hb1.size).mono ?_
  rintro e w2 ⟨p, rfl, h2, hp2, hb2⟩
  have b2 : Below W0.heap.size W0 w2 := hb1.trans (hb2.mono hb1.size)
  have H2 := Lib.hid h2
  have HB2 := Lib.hid b2
  clear h2 b2 hb1 hb2 hp2 t0 t0'
  go_wp2_with fail
  go_loopw [31] (fun i wr => ∃ (k : Nat) (r : Option Nat) (R : List Int), k ≤ n ∧ i = .int .i64 k ∧ R.Nodup ∧ R.length ≤ k ∧ Ss wr W0.heap.size p r (wt R) ∧ Below W0.heap.size W0 wr) (fun i _ => n - (intOf i).toNat)
  case atStart => exact ⟨0, none, [], Nat.zero_le _, rfl, List.nodup_nil, Nat.zero_le _, H2.out, HB2.out⟩
  case round =>
    clear H2 HB2
    obtain ⟨k, r, R, hk, rfl, hnd, hRk, hss, hbr⟩ := hrel
    have HS := Lib.hid hss
    have HND := Lib.hid hnd
    have HB := Lib.hid hbr
    have hbs := hbr.size
    clear hss hnd
    by_cases hlt : k < n
    · obtain ⟨b, o, t, rfl, hb, ht, c0⟩ := R'.out.get hlt
      have d0 := (hbr.cell (p := ⟨b, o + k, none⟩) hb).trans c0
      clear c0 ht hbr
      go_wp2_with fail
      cases hf : (wt R).findIdx? (hit t) with
      | some j =>
        obtain ⟨x, hx, _, _⟩ := ix_hit hf
        refine (of_hit _ _ _ _ _ t j x HS.out hf hx).mono ?_
        obtain ⟨x0, x1, x2⟩ := x
        rintro e w3 ⟨rfl, hb3⟩
        have hb4 : Below wr.heap.size wr (w3.alloc (.cells #[.int .i64 x0, .int .u64 x1, .int .u64 x2] 43)) := hb3.alloc hb3.size _
        have S3 := Lib.hid (HS.out.later hb4)
        have B3 := Lib.hid (HB.out.trans (hb4.mono hbs))
        have hw3 := hb3.size
        clear hb3 hb4 hx
        go_wp2_with fail
        refine (park_hit_any _ _ _ _ _ t 3 j S3.out hf).mono ?_
        rintro e w4 ⟨rfl, hb4⟩
        have S4 := Lib.hid (S3.out.later hb4)
        have B4 := Lib.hid (B3.out.trans (hb4.mono B3.out.size))
        clear hb4 S3 B3 hf
        go_wp2_with fail
        go_roundw
        case rel => exact ⟨k + 1, r, R, by omega, by go_num, HND.out, by omega, S4.out, B4.out⟩
        case measure => simp [intOf]; omega
      | none =>
        refine (of_miss _ _ _ _ _ t HS.out hf).mono ?_
        rintro e w3 ⟨rfl, hb3⟩
        have hb4 : Below wr.heap.size wr (w3.alloc (.cells #[.int .i64 0, .int .u64 0, .int .u64 0] 43)) := hb3.alloc hb3.size _
        have S3 := Lib.hid (HS.out.later hb4)
        have B3 := Lib.hid (HB.out.trans (hb4.mono hbs))
        clear hb3 hb4
        go_wp2_with fail
        refine (park_miss_any _ _ _ _ _ t 3 S3.out hf (by rw [wt_len]; omega)).mono ?_
        rintro e w4 ⟨rfl, r4, hs4, hf4, hr4⟩
        rw [← wt_snoc] at hs4
        have htR : t ∉ R := by
          have := wt_thread R t
          rw [hf] at this
          intro hm
          rw [decide_eq_true hm] at this
          cases this
        have ND4 := Lib.hid (show (R ++ [t]).Nodup from by
          rw [List.nodup_append]
          exact ⟨HND.out, by simp, fun a ha b hb => by simp at hb; subst hb; intro e; exact htR (e ▸ ha)⟩)
        have S4 := Lib.hid hs4
        have B4 := Lib.hid (B3.out.trans (hf4.below B3.out.size (fun k hk => by cases hk; exact S3.out.lo) (fun g hg => (S3.out.rowlt g hg).1)))
        clear hs4 hf4 hr4 hf htR S3 B3
        go_wp2_with fail
        go_roundw
        case rel => exact ⟨k + 1, r4, R ++ [t], by omega, by go_num, ND4.out, by simp; omega, S4.out, B4.out⟩
        case measure => simp [intOf]; omega
    · obtain ⟨nR, hRl⟩ : ∃ nR, R.length = nR := ⟨_, rfl⟩
      have hR60 : nR ≤ 60 := by omega
      have hwl : (wt R).length ≤ 1000 := by rw [wt_len]; omega
      have HRL := Lib.hid hRl
      clear hbr hRl
      go_wp2_with fail
      refine (all_any _ _ _ _ _ HS.out hwl).mono ?_
      rw [wt_len, HRL.out]
      rintro e w4 ⟨A4, c4, rfl, ho4, hb4⟩
      have S4 := Lib.hid (HS.out.later hb4)
      have b4 : Below W0.heap.size W0 w4 := HB.out.trans (hb4.mono hbs)
      have hs4 := b4.size
      have W4 := Lib.hid (Rs.own_rs enc3_len (by rw [wt_len, HRL.out]) ho4)
      have B4 := Lib.hid b4
      clear ho4 hb4 b4 HS HB hbs hlt
      go_wp2_with fail
      refine (clone_any _ _ _ _ _ S4.out hwl).mono ?_
      rintro e w5 ⟨p5, r5, rfl, hs5, hp5, hr5, hb5⟩
      have hq5 : q < w5.heap.size := by have := hb5.size; omega
      have cq5 : w5.cell? ⟨q, 0, none⟩ = some (.int .i64 who) := ((B4.out.trans (hb5.mono hs4)).cell (p := ⟨q, 0, none⟩) hqs).trans HCW.out
      have S5 := Lib.hid hs5
      have B5 := Lib.hid hb5
      have HR5 := Lib.hid hr5
      clear hs5 hb5 hr5
      go_wp2_with fail
      refine (leave_take _ _ _ nR _ R who S5.out HND.out HRL.out).mono ?_
      rintro e w6 ⟨R2, m, hR2l, hmn, rfl, hoth, hs6, hf6⟩
      have b6 : Below w4.heap.size w4 w6 := B5.out.trans (hf6.below B5.out.size (fun k hk => by cases hk; exact hp5) (fun g hg => HR5.out g hg))
      have cq6 : w6.cell? ⟨q, 0, none⟩ = some (.int .i64 who) := (hf6.cell (p := ⟨q, 0, none⟩) hq5 (fun e => by injection e with e; have : q = p5 := e; omega) (fun e => by have := HR5.out q e.symm; omega)).trans cq5
      have hq6 : q < w6.heap.size := Lw.lt_heap cq6
      have hs46 := b6.size
      have W6 := Lib.hid (W4.out.later b6)
      have S6 := Lib.hid hs6
      have B6 := Lib.hid b6
      have HOTH := Lib.hid hoth
      have HR2L := Lib.hid hR2l
      clear hs6 hf6 b6 hoth hR2l S5 B5 cq5
      go_wp2_with fail
      refine (sclone_any A4 nR c4 (wt R) _ w6 W6.out (Nat.le_refl _) (by omega)).mono ?_
      rintro e w7 ⟨A7, c7, rfl, ho7, hb7⟩
      have cq7 : w7.cell? ⟨q, 0, none⟩ = some (.int .i64 who) := (hb7.cell (p := ⟨q, 0, none⟩) hq6).trans cq6
      have S7 := Lib.hid (S6.out.later hb7)
      have hlt7 := S6.out.lt
      have hrl7 := S6.out.rowlt
      have B7 := Lib.hid (B6.out.trans (hb7.mono hs46))
      have HO7 := Lib.hid ho7
      have hs67 := hb7.size
      clear ho7 hb7 B6 S6 W6 cq6
      go_wp2_with fail
      refine (deletef_gen A7 nR c7 w6.heap.size q who (wt R) w7 HO7.out (by rw [wt_len, HRL.out]) cq7 hq6).mono ?_
      rw [HOTH.out, wt_len, HR2L.out]
      rintro e w8 ⟨m', rfl, rfl, ho8, hg8⟩
      have hblk7 : ∀ g, (Value.slice A7 nR c7).ownBlock = some g → w6.heap.size ≤ g := fun g hg => (HO7.out.lt g hg).1
      have b8 : Below w6.heap.size w7 w8 := ⟨hg8.os, hg8.tape, hg8.output, hg8.size, fun k hk => hg8.block k (by omega) (fun e => by have := hblk7 k e.symm; omega)⟩
      have S8 := Lib.hid (S7.out.same (b8.block p5 hlt7) (fun g hg => b8.block g (hrl7 g hg).2))
      have B8 := Lib.hid (B7.out.trans (b8.mono hs46))
      have hs48 := B8.out.size
      have r8 : Rs enc3 3 w8 w8.heap.size A7 m' c7 (wt R2) := Rs.own_rs enc3_len (by rw [wt_len, HR2L.out]) ho8
      have R8 := Lib.hid r8
      have hap8 : ∀ g, (Value.slice A7 m' c7).ownBlock = some g → w6.heap.size ≤ g := fun g hg => (ho8.lt g hg).1
      have HAP8 := Lib.hid hap8
      have HLR := Lib.hid hrl7
      clear ho8 hg8 hblk7 b8 r8 hap8 S7 B7 HO7 hrl7 cq7
      have hw2 : (wt R2).length ≤ 1000 := by rw [wt_len, HR2L.out]; omega
      have HW2 := Lib.hid hw2
      go_wp2_with fail
      refine (all_any _ _ _ _ _ S8.out HW2.out).mono ?_
      rw [wt_len, HR2L.out]
      rintro e w9 ⟨A9, c9, rfl, ho9, hb9⟩
      have S9 := Lib.hid (S8.out.later hb9)
      have B9 := Lib.hid (B8.out.trans (hb9.mono hs48))
      have R9 := Lib.hid (R8.out.later hb9)
      have Q9 := Lib.hid (Rs.own_rs enc3_len (by rw [wt_len, HR2L.out]) ho9)
      have hs9 := hb9.size
      clear ho9 hb9 S8 B8
      go_wp2_with fail
      refine (sequal_same A9 A7 m' c9 c7 (wt R2) _ _ w9 Q9.out R9.out).mono ?_
      rintro e w10 ⟨rfl, q10, rfl⟩
      go_wp2_with fail
      refine (waiting_any _ _ _ _ _ (S9.out.later (below_drewN (Below.refl _ _) q10)) HW2.out).mono ?_
      rw [wt_wait, HR2L.out]
      rintro e w11 ⟨rfl, hb11⟩
      have hb11' : Below w9.heap.size w9 w11 := (below_drewN (Below.refl w9.heap.size w9) q10).trans hb11
      have B11 := Lib.hid (B9.out.trans (hb11'.mono B9.out.size))
      have hs11 := B11.out.size
      have S11 := Lib.hid (S9.out.later hb11')
      have R11 := Lib.hid (R9.out.later hb11')
      clear hb11 hb11' S9 B9 R9 Q9
      go_wp2_with fail
      refine (all_any _ _ _ _ _ (S4.out.later B11.out) hwl).mono ?_
      rw [wt_len, HRL.out]
      rintro e w12 ⟨A12, c12, rfl, ho12, hb12⟩
      have W12 := Lib.hid ((W4.out.later B11.out).later hb12)
      have Q12 := Lib.hid (Rs.own_rs enc3_len (by rw [wt_len, HRL.out]) ho12)
      have S12 := Lib.hid (S11.out.later hb12)
      have R12 := Lib.hid (R11.out.later hb12)
      have B12 := Lib.hid (B11.out.trans (hb12.mono hs11))
      have hs12 := B12.out.size
      clear ho12 hb12 S11 R11 B11
      go_wp2_with fail
      refine (sequal_same A12 A4 nR c12 c4 (wt R) _ _ w12 Q12.out W12.out).mono ?_
      rintro e w13 ⟨rfl, q13, rfl⟩
      have S13 := Lib.hid (S12.out.later (below_drewN (Below.refl _ _) q13))
      have R13 := Lib.hid (R12.out.later (below_drewN (Below.refl _ _) q13))
      have B13 := Lib.hid (B12.out.trans ((below_drewN (Below.refl w12.heap.size w12) q13).mono hs12))
      have hs13 := B13.out.size
      clear Q12 W12 S12 R12 B12
      generalize w12.drewN q13 = w13 at *
      go_wp2_with fail
      cases R2 with
      | nil =>
        obtain rfl : m' = 0 := HR2L.out.symm
        refine (fill_miss_any _ _ _ _ _ i S13.out rfl HI.out).mono ?_
        rintro e w14 ⟨rfl, hb14⟩
        have B14 := Lib.hid (B13.out.trans (hb14.mono hs13))
        clear hb14
        go_wp2_with fail
        go_ret
        exact ⟨rfl, HB0.out.trans ((B4.out.trans (B14.out.mono hs4)).mono HB0.out.size)⟩
      | cons t2 R3 =>
        have hm1 : m' = R3.length + 1 := HR2L.out.symm
        have hpos : 0 < m' := by omega
        refine (fill_hit_any _ _ _ _ _ i 0 (t2, 3, 0) S13.out (wt_free t2 R3) rfl HI.out).mono ?_
        rintro e w14 ⟨rfl, hs14, hf14⟩
        obtain ⟨b, o, x, rfl, hbb, hx, c0, c1, c2⟩ := three_at R13.out hpos
        obtain rfl : (t2, 3, 0) = x := by simpa [wt] using hx
        simp only [Nat.zero_mul, Nat.add_zero] at c0
        have hb6 : w6.heap.size ≤ b := HAP8.out b rfl
        have d0 : w14.cell? ⟨b, o, none⟩ = some (.int .i64 t2) := (hf14.cell (p := ⟨b, o, none⟩) hbb (fun e => by injection e with e; have : b = p5 := e; omega) (fun e => by have := (HLR.out b e.symm).2; omega)).trans c0
        have B14 := Lib.hid (B13.out.trans (hf14.below hs13 (fun k hk => by cases hk; exact hp5) (fun g hg => HR5.out g hg)))
        have hcap := R13.out.cap
        have htop := R13.out.top
        have S14 := Lib.hid hs14
        have hwn : waitN (fillAt (wt (t2 :: R3)) 0 (t2, 3, 0) i) = R3.length := by
          have := wt_wait R3
          simp [waitN, fillAt, wt, free, HI.out] at this ⊢
        have hw14 : (fillAt (wt (t2 :: R3)) 0 (t2, 3, 0) i).length ≤ 1000 := by rw [fillAt_len]; exact HW2.out
        clear hf14 hs14 hx c0 c1 c2 R13 S13
        have hd : decide ((0 : Int) < (m' : Int)) = true := decide_eq_true (by omega)
        have hd' : decide (0 < m') = true := decide_eq_true hpos
        go_wp2_with fail
        refine (waiting_any _ _ _ _ _ S14.out hw14).mono ?_
        rw [hwn]
        rintro e w15 ⟨rfl, hb15⟩
        have B15 := Lib.hid (B14.out.trans (hb15.mono B14.out.size))
        have hsub : ((R3.length : Int) == (m' : Int) - 1) = true := beq_iff_eq.2 (by omega)
        clear hb15 hwn hw14
        go_wp2_with fail
        go_ret
        exact ⟨rfl, HB0.out.trans ((B4.out.trans (B15.out.mono hs4)).mono HB0.out.size)⟩
end Go.Proofs.YtbedboekfkobjaaGreatDoor.St
