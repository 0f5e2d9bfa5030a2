/- The walk of hackneylaw03.SnapTells. -/
import Derived.Test.YtiglheagefpgoaaAwake4
import Derived.Test.YtiglheagefpgoaaWordMath
import Derived.Test.YtiglheagefpgoaaSnapRef
import Derived.Test.YtiglheagefpgoaaAfter
import Derived.Test.YtiglheagefpgoaaReg
namespace Go.Proofs.Ytiglheagefpgoaa.Sn
open Go.ChangeShapes Go.WideShapes Go.ChangeAt Go.RowKit Rw Sl Ck
set_option linter.unusedVariables false

theorem equal_same (A A' : Option Addr) (n c m c' : Nat) (ys zs : List Int) (B B' : Nat) (w : World) (h : Rd (Value.int .u64) w B A n c ys) (h' : Rd (Value.int .u64) w B' A' m c' zs) (he : ys = zs) :
    Calls Try.prog 43 #[.slice A n c, .slice A' m c'] w fun e w' => e = .returned (.bool true) ∧ Below w.heap.size w w' :=
  (equal_any A A' n c m c' ys zs B B' w h h').mono fun e w' ⟨h1, q, h2⟩ => ⟨by rw [h1, decide_eq_true he], h2 ▸ below_drewN (Below.refl _ _) q⟩
theorem len_val (v : Value) (ys : List Int) (m : Nat) (B : Nat) (w : World) (h : Snap w B v ys) (hm : ys.length = m) :
    Calls Try.prog 46 #[v] w fun e w' => e = .returned (.int .i64 m) ∧ Below w.heap.size w w' := by
  subst hm; exact len_any v ys B w h
theorem Snap.drew {w : World} {B : Nat} {v : Value} {xs : List Int} (h : Snap w B v xs) : Snap w.drew B v xs := by
  obtain ⟨⟨A, n, c, e, r⟩, h1, h2⟩ := h
  exact ⟨⟨A, n, c, e, r.drew⟩, h1, h2⟩

set_option maxHeartbeats 8000000 in
set_option maxRecDepth 100000 in
theorem tells_any (A : Option Addr) (n c : Nat) (xs : List Int) (p : Option Addr) (ab ao m cp : Nat) (N : Nat → Int) (Out : Nat → Bool) (i x : Int) (w : World)
    (h : Rd (Value.int .u64) w w.heap.size A n c xs) (hok : U64s xs) (hn : n ≤ 100) (hx : 0 ≤ x ∧ x ≤ 18446744073709551615)
    (hm : m ≤ 60) (hmc : m ≤ cp) (hp : 0 < m → p = some ⟨ab, ao, none⟩) (hab : 0 < m → ab < w.heap.size)
    (hc : ∀ j, j < m → w.cell? ⟨ab, ao + j * 2, none⟩ = some (.int .u64 (N j)) ∧ w.cell? ⟨ab, ao + j * 2 + 1, none⟩ = some (.bool (Out j)))
    (hN : ∀ j, j < m → 0 ≤ N j ∧ N j ≤ 18446744073709551615) :
    Calls Try.prog 9 #[.slice A n c, .slice p m cp, .int .i64 i, .int .u64 x] w fun e w' => e = .returned (.bool true) ∧ Below w.heap.size w w' := by
  have hsl : (sOf xs).length ≤ 100 := by have := sOf_len xs; have := h.len; omega
  have R := Lib.hid h
  have HO := Lib.hid hok
  have HP := Lib.hid hp
  have HA := Lib.hid hab
  have HC := Lib.hid hc
  have HN := Lib.hid hN
  clear h hok hp hab hc hN
  go_enter Try.func9, Try.ntmps9
  go_wp2_with fail
  refine (awake3_any _).mono ?_
  rintro e w1 ⟨rfl, hb1⟩
  go_wp2_with fail
  refine (of_any A n c xs _ (R.out.later hb1) HO.out (by omega)).mono ?_
  rintro e w2 ⟨u, rfl, hs2, hb2⟩
  obtain ⟨A2, n2, c2, rfl⟩ := hs2.form
  have hb : Below w.heap.size w w2 := hb1.trans (hb2.mono hb1.size)
  have HS2 := Lib.hid hs2
  clear hs2 hb1 hb2
  go_wp2_with fail
  refine (rof_any A n c xs _ (R.out.later hb) (by omega)).mono ?_
  rintro e w3 ⟨A3, n3, c3, rfl, hr3, hb3⟩
  have HR3 := Lib.hid hr3
  have hbw : Below w.heap.size w w3 := hb.trans (hb3.mono hb.size)
  have HS3 := Lib.hid (HS2.out.later hb3)
  clear hr3 HS2 hb hb3
  go_wp2_with fail
  have hs3 := hbw.size
  go_loopw [10, 31] (fun d j wr => ∃ (k : Nat) (ys : List Int) (A4 A5 : Option Addr) (n4 c4 n5 c5 : Nat), k ≤ m ∧ j = .int .i64 k ∧ d = .slice A5 n5 c5 ∧ wr.cell? ⟨w3.heap.size, 0, none⟩ = some (.slice A4 n4 c4) ∧ wr.frozen? ⟨w3.heap.size, 0, none⟩ = false ∧
      Snap wr wr.heap.size (.agg #[.slice A4 n4 c4]) ys ∧ Rd (Value.int .u64) wr wr.heap.size A5 n5 c5 ys ∧ ys.length ≤ 100 + k ∧ Below w.heap.size w wr) (fun _ j _ => m - (intOf j).toNat)
  case atStart => exact ⟨0, sOf xs, A2, A3, n2, c2, n3, c3, Nat.zero_le _, rfl, rfl, by go_simp, by go_simp, HS3.out.later ((Below.refl _ _).alloc (Nat.le_refl _) _), HR3.out.later ((Below.refl _ _).alloc (Nat.le_refl _) _), by omega, hbw.alloc hs3 _⟩
  case round =>
    clear HS3 HR3
    obtain ⟨k, ys, A4, A5, n4, c4, n5, c5, hk, rfl, rfl, hg, hgf, hs, hr, hyl, hbr⟩ := hrel
    have HS := Lib.hid hs
    have HR := Lib.hid hr
    clear hs hr
    have hgl := Lw.lt_heap hg
    have hgl' : w3.heap.size < wr.heap.size := hgl
    by_cases hlt : k < m
    · obtain ⟨c0, c1⟩ := HC.out k hlt
      have hab := HA.out (by omega)
      obtain rfl := HP.out (by omega)
      rw [← hbr.cell (p := ⟨ab, _, none⟩) hab] at c0 c1
      have hN := HN.out k hlt
      generalize N k = y at *
      generalize Out k = q at *
      cases q
      · go_wp2_with fail
        have d0 : (wr.alloc (.cells #[.int .u64 y, .bool false] 69)).cell? ⟨wr.heap.size, 0, none⟩ = some (.int .u64 y) := by go_simp
        have d1 : (wr.alloc (.cells #[.int .u64 y, .bool false] 69)).cell? ⟨w3.heap.size, 0, none⟩ = some (.slice A4 n4 c4) := alloc_cell hg _
        have d2 : (wr.alloc (.cells #[.int .u64 y, .bool false] 69)).frozen? ⟨w3.heap.size, 0, none⟩ = false := alloc_frozen hgf hgl _
        have d3 : Below wr.heap.size wr (wr.alloc (.cells #[.int .u64 y, .bool false] 69)) := (Below.refl _ _).alloc (Nat.le_refl _) _
        generalize (wr.alloc (.cells #[.int .u64 y, .bool false] 69)) = W at *
        clear c0 c1 hg hgf
        refine reg_start 8 (fun w' => w'.cell? ⟨w3.heap.size, 0, none⟩ = some (.slice A4 n4 c4) ∧ w'.cell? ⟨wr.heap.size, 0, none⟩ = some (.int .u64 y)) (by kernel_rfl) (by kernel_rfl) ?_
        intro hT
        have HT := Lib.hid hT
        clear hT
        refine reg_load 0 HT.out rfl (by kernel_rfl) (by decide) (fun _ _ _ _ h => h) ⟨d1, d0⟩ rfl ?_
        apply Exists.intro
        refine ⟨fun w' hw => by (obtain ⟨h1, h2⟩ := hw; go_simp; exact rfl), ?_⟩
        refine reg_load 1 HT.out rfl (by kernel_rfl) (by decide) (fun _ _ _ _ h => h) ⟨d1, d0⟩ rfl ?_
        apply Exists.intro
        refine ⟨fun w' hw => by (obtain ⟨h1, h2⟩ := hw; go_simp; exact rfl), ?_⟩
        refine reg_load 2 HT.out rfl (by kernel_rfl) (by decide) (fun _ _ _ _ h => h) ⟨d1, d0⟩ rfl ?_
        apply Exists.intro
        refine ⟨fun w' hw => by (obtain ⟨h1, h2⟩ := hw; go_simp; exact rfl), ?_⟩
        refine reg_load 4 HT.out rfl (by kernel_rfl) (by decide) (fun _ _ _ _ h => h) ⟨d1, d0⟩ rfl ?_
        apply Exists.intro
        refine ⟨fun w' hw => by (obtain ⟨h1, h2⟩ := hw; go_simp; exact rfl), ?_⟩
        refine reg_load 5 HT.out rfl (by kernel_rfl) (by decide) (fun _ _ _ _ h => h) ⟨d1, d0⟩ rfl ?_
        apply Exists.intro
        refine ⟨fun w' hw => by (obtain ⟨h1, h2⟩ := hw; go_simp; exact rfl), ?_⟩
        refine reg_load 6 HT.out rfl (by kernel_rfl) (by decide) (fun _ _ _ _ h => h) ⟨d1, d0⟩ rfl ?_
        apply Exists.intro
        refine ⟨fun w' hw => by (obtain ⟨h1, h2⟩ := hw; go_simp; exact rfl), ?_⟩
        refine reg_only 3 rfl (by kernel_rfl) rfl ?_
        unfold Oper.wp
        go_simp
        refine (with_any _ ys y _ (HS.out.later d3.drew) (by omega) hN).mono ?_
        rintro e w5 ⟨u5, rfl, hs5, hb5⟩
        obtain ⟨A6, n6, c6, rfl⟩ := hs5.form
        have e1 : w5.cell? ⟨w3.heap.size, 0, none⟩ = some (.slice A4 n4 c4) := (hb5.cell (p := ⟨w3.heap.size, 0, none⟩) (Lw.lt_heap d1)).trans d1
        have e2 : w5.cell? ⟨wr.heap.size, 0, none⟩ = some (.int .u64 y) := (hb5.cell (p := ⟨wr.heap.size, 0, none⟩) (Lw.lt_heap d0)).trans d0
        have e3 : w5.frozen? ⟨w3.heap.size, 0, none⟩ = false := (hb5.frozen (p := ⟨w3.heap.size, 0, none⟩) (Lw.lt_heap d1)).trans d2
        have e4 : Below wr.heap.size wr w5 := d3.drew.trans (hb5.mono d3.drew.size)
        have HS5 := Lib.hid hs5
        clear hs5 hb5 d0 d1 d2 d3
        refine ⟨⟨e1, e2⟩, ?_⟩
        refine reg_only 7 rfl (by kernel_rfl) rfl ?_
        unfold Oper.wp
        go_simp
        refine (rwith_any A5 n5 c5 ys y _ (HR.out.later e4) (by have := HR.out.len; omega)).mono ?_
        rintro e w6 ⟨A7, n7, c7, rfl, hr6, hb6⟩
        have f1 : w6.cell? ⟨w3.heap.size, 0, none⟩ = some (.slice A4 n4 c4) := (hb6.cell (p := ⟨w3.heap.size, 0, none⟩) (Lw.lt_heap e1)).trans e1
        have f2 : w6.cell? ⟨wr.heap.size, 0, none⟩ = some (.int .u64 y) := (hb6.cell (p := ⟨wr.heap.size, 0, none⟩) (Lw.lt_heap e2)).trans e2
        have f3 : w6.frozen? ⟨w3.heap.size, 0, none⟩ = false := (hb6.frozen (p := ⟨w3.heap.size, 0, none⟩) (Lw.lt_heap e1)).trans e3
        have f4 : Below wr.heap.size wr w6 := e4.trans (hb6.mono e4.size)
        have HR6 := Lib.hid hr6
        have HS6 := Lib.hid (HS5.out.later hb6)
        clear hr6 hb6 e1 e2 e3 e4 HS5 HS HR
        refine ⟨⟨f1, f2⟩, ?_⟩
        refine reg_only 8 rfl (by kernel_rfl) rfl ?_
        unfold Oper.wp
        go_simp
        refine reg_only 9 rfl (by kernel_rfl) rfl ?_
        unfold Oper.wp
        go_simp
        refine reg_done (by kernel_rfl) ?_
        have g1 : (w6.setCell ⟨w3.heap.size, 0, none⟩ (.slice A6 n6 c6)).cell? ⟨w3.heap.size, 0, none⟩ = some (.slice A6 n6 c6) := by go_simp
        have g2 : (w6.setCell ⟨w3.heap.size, 0, none⟩ (.slice A6 n6 c6)).frozen? ⟨w3.heap.size, 0, none⟩ = false := by go_simp
        have g3 : Below w.heap.size w (w6.setCell ⟨w3.heap.size, 0, none⟩ (.slice A6 n6 c6)) := (hbr.trans (f4.mono hbr.size)).setCell (p := ⟨w3.heap.size, 0, none⟩) hs3 _
        have g4 := Lib.hid (HS6.out.setOther f1 (fun y => by simp) (.slice A6 n6 c6))
        have g5 := Lib.hid (HR6.out.setOther f1 (fun y => by simp) (.slice A6 n6 c6))
        have g6 : w6.heap.size = (w6.setCell ⟨w3.heap.size, 0, none⟩ (.slice A6 n6 c6)).heap.size := by simp
        rw [g6] at g4 g5
        have hg6 : w3.heap.size < (w6.setCell ⟨w3.heap.size, 0, none⟩ (.slice A6 n6 c6)).heap.size := by rw [← g6]; exact Lw.lt_heap f1
        clear f1 f2 f3 f4 g6 HR6 HS6
        generalize (w6.setCell ⟨w3.heap.size, 0, none⟩ (.slice A6 n6 c6)) = W7 at *
        have hl7 := sWith_len ys y
        go_wp2_with fail
        refine (all_any _ _ _ g4.out (by omega)).mono ?_
        rintro e w8 ⟨A8, c8, rfl, hown8, hb8⟩
        go_wp2_with fail
        refine (equal_same _ _ _ _ _ _ _ _ _ _ _ (Rd.own_rd hown8) (g5.out.later hb8) rfl).mono ?_
        rintro e w9 ⟨rfl, hb9⟩
        have h9 : Below W7.heap.size W7 w9 := hb8.trans (hb9.mono hb8.size)
        clear hown8 hb8 hb9
        go_wp2_with fail
        go_roundw
        case rel => exact ⟨k + 1, _, A6, A7, n6, c6, n7, c7, by omega, by go_num, rfl, (h9.cell (p := ⟨w3.heap.size, 0, none⟩) hg6).trans g1, (h9.frozen (p := ⟨w3.heap.size, 0, none⟩) hg6).trans g2, g4.out.later h9, g5.out.later h9, by omega, g3.trans (h9.mono g3.size)⟩
        case measure => simp [intOf]; omega
      · go_wp2_with fail
        have d0 : (wr.alloc (.cells #[.int .u64 y, .bool true] 69)).cell? ⟨wr.heap.size, 0, none⟩ = some (.int .u64 y) := by go_simp
        have d1 : (wr.alloc (.cells #[.int .u64 y, .bool true] 69)).cell? ⟨w3.heap.size, 0, none⟩ = some (.slice A4 n4 c4) := alloc_cell hg _
        have d2 : (wr.alloc (.cells #[.int .u64 y, .bool true] 69)).frozen? ⟨w3.heap.size, 0, none⟩ = false := alloc_frozen hgf hgl _
        have d3 : Below wr.heap.size wr (wr.alloc (.cells #[.int .u64 y, .bool true] 69)) := (Below.refl _ _).alloc (Nat.le_refl _) _
        generalize (wr.alloc (.cells #[.int .u64 y, .bool true] 69)) = W at *
        clear c0 c1 hg hgf
        refine reg_start 8 (fun w' => w'.cell? ⟨w3.heap.size, 0, none⟩ = some (.slice A4 n4 c4) ∧ w'.cell? ⟨wr.heap.size, 0, none⟩ = some (.int .u64 y)) (by kernel_rfl) (by kernel_rfl) ?_
        intro hT
        have HT := Lib.hid hT
        clear hT
        refine reg_load 0 HT.out rfl (by kernel_rfl) (by decide) (fun _ _ _ _ h => h) ⟨d1, d0⟩ rfl ?_
        apply Exists.intro
        refine ⟨fun w' hw => by (obtain ⟨h1, h2⟩ := hw; go_simp; exact rfl), ?_⟩
        refine reg_load 1 HT.out rfl (by kernel_rfl) (by decide) (fun _ _ _ _ h => h) ⟨d1, d0⟩ rfl ?_
        apply Exists.intro
        refine ⟨fun w' hw => by (obtain ⟨h1, h2⟩ := hw; go_simp; exact rfl), ?_⟩
        refine reg_load 2 HT.out rfl (by kernel_rfl) (by decide) (fun _ _ _ _ h => h) ⟨d1, d0⟩ rfl ?_
        apply Exists.intro
        refine ⟨fun w' hw => by (obtain ⟨h1, h2⟩ := hw; go_simp; exact rfl), ?_⟩
        refine reg_load 4 HT.out rfl (by kernel_rfl) (by decide) (fun _ _ _ _ h => h) ⟨d1, d0⟩ rfl ?_
        apply Exists.intro
        refine ⟨fun w' hw => by (obtain ⟨h1, h2⟩ := hw; go_simp; exact rfl), ?_⟩
        refine reg_load 5 HT.out rfl (by kernel_rfl) (by decide) (fun _ _ _ _ h => h) ⟨d1, d0⟩ rfl ?_
        apply Exists.intro
        refine ⟨fun w' hw => by (obtain ⟨h1, h2⟩ := hw; go_simp; exact rfl), ?_⟩
        refine reg_load 6 HT.out rfl (by kernel_rfl) (by decide) (fun _ _ _ _ h => h) ⟨d1, d0⟩ rfl ?_
        apply Exists.intro
        refine ⟨fun w' hw => by (obtain ⟨h1, h2⟩ := hw; go_simp; exact rfl), ?_⟩
        refine reg_only 3 rfl (by kernel_rfl) rfl ?_
        unfold Oper.wp
        go_simp
        refine (without_any _ ys y _ (HS.out.later d3.drew) (by omega)).mono ?_
        rintro e w5 ⟨u5, rfl, hs5, hb5⟩
        obtain ⟨A6, n6, c6, rfl⟩ := hs5.form
        have e1 : w5.cell? ⟨w3.heap.size, 0, none⟩ = some (.slice A4 n4 c4) := (hb5.cell (p := ⟨w3.heap.size, 0, none⟩) (Lw.lt_heap d1)).trans d1
        have e2 : w5.cell? ⟨wr.heap.size, 0, none⟩ = some (.int .u64 y) := (hb5.cell (p := ⟨wr.heap.size, 0, none⟩) (Lw.lt_heap d0)).trans d0
        have e3 : w5.frozen? ⟨w3.heap.size, 0, none⟩ = false := (hb5.frozen (p := ⟨w3.heap.size, 0, none⟩) (Lw.lt_heap d1)).trans d2
        have e4 : Below wr.heap.size wr w5 := d3.drew.trans (hb5.mono d3.drew.size)
        have HS5 := Lib.hid hs5
        clear hs5 hb5 d0 d1 d2 d3
        refine ⟨⟨e1, e2⟩, ?_⟩
        refine reg_only 7 rfl (by kernel_rfl) rfl ?_
        unfold Oper.wp
        go_simp
        refine (rwithout_any A5 n5 c5 ys y _ (HR.out.later e4) (by have := HR.out.len; omega)).mono ?_
        rintro e w6 ⟨A7, n7, c7, rfl, hr6, hb6⟩
        have f1 : w6.cell? ⟨w3.heap.size, 0, none⟩ = some (.slice A4 n4 c4) := (hb6.cell (p := ⟨w3.heap.size, 0, none⟩) (Lw.lt_heap e1)).trans e1
        have f2 : w6.cell? ⟨wr.heap.size, 0, none⟩ = some (.int .u64 y) := (hb6.cell (p := ⟨wr.heap.size, 0, none⟩) (Lw.lt_heap e2)).trans e2
        have f3 : w6.frozen? ⟨w3.heap.size, 0, none⟩ = false := (hb6.frozen (p := ⟨w3.heap.size, 0, none⟩) (Lw.lt_heap e1)).trans e3
        have f4 : Below wr.heap.size wr w6 := e4.trans (hb6.mono e4.size)
        have HR6 := Lib.hid hr6
        have HS6 := Lib.hid (HS5.out.later hb6)
        clear hr6 hb6 e1 e2 e3 e4 HS5 HS HR
        refine ⟨⟨f1, f2⟩, ?_⟩
        refine reg_only 8 rfl (by kernel_rfl) rfl ?_
        unfold Oper.wp
        go_simp
        refine reg_only 9 rfl (by kernel_rfl) rfl ?_
        unfold Oper.wp
        go_simp
        refine reg_done (by kernel_rfl) ?_
        have g1 : (w6.setCell ⟨w3.heap.size, 0, none⟩ (.slice A6 n6 c6)).cell? ⟨w3.heap.size, 0, none⟩ = some (.slice A6 n6 c6) := by go_simp
        have g2 : (w6.setCell ⟨w3.heap.size, 0, none⟩ (.slice A6 n6 c6)).frozen? ⟨w3.heap.size, 0, none⟩ = false := by go_simp
        have g3 : Below w.heap.size w (w6.setCell ⟨w3.heap.size, 0, none⟩ (.slice A6 n6 c6)) := (hbr.trans (f4.mono hbr.size)).setCell (p := ⟨w3.heap.size, 0, none⟩) hs3 _
        have g4 := Lib.hid (HS6.out.setOther f1 (fun y => by simp) (.slice A6 n6 c6))
        have g5 := Lib.hid (HR6.out.setOther f1 (fun y => by simp) (.slice A6 n6 c6))
        have g6 : w6.heap.size = (w6.setCell ⟨w3.heap.size, 0, none⟩ (.slice A6 n6 c6)).heap.size := by simp
        rw [g6] at g4 g5
        have hg6 : w3.heap.size < (w6.setCell ⟨w3.heap.size, 0, none⟩ (.slice A6 n6 c6)).heap.size := by rw [← g6]; exact Lw.lt_heap f1
        clear f1 f2 f3 f4 g6 HR6 HS6
        generalize (w6.setCell ⟨w3.heap.size, 0, none⟩ (.slice A6 n6 c6)) = W7 at *
        have hl7 := sWithout_len ys y
        go_wp2_with fail
        refine (all_any _ _ _ g4.out (by omega)).mono ?_
        rintro e w8 ⟨A8, c8, rfl, hown8, hb8⟩
        go_wp2_with fail
        refine (equal_same _ _ _ _ _ _ _ _ _ _ _ (Rd.own_rd hown8) (g5.out.later hb8) rfl).mono ?_
        rintro e w9 ⟨rfl, hb9⟩
        have h9 : Below W7.heap.size W7 w9 := hb8.trans (hb9.mono hb8.size)
        clear hown8 hb8 hb9
        go_wp2_with fail
        go_roundw
        case rel => exact ⟨k + 1, _, A6, A7, n6, c6, n7, c7, by omega, by go_num, rfl, (h9.cell (p := ⟨w3.heap.size, 0, none⟩) hg6).trans g1, (h9.frozen (p := ⟨w3.heap.size, 0, none⟩) hg6).trans g2, g4.out.later h9, g5.out.later h9, by omega, g3.trans (h9.mono g3.size)⟩
        case measure => simp [intOf]; omega
    · have hnl := HR.out.len
      have hn5 : n5 ≤ 160 := by omega
      have HE := Lib.hid hbr
      by_cases hi : 0 ≤ i ∧ i < (n5 : Int)
      · obtain ⟨k', rfl⟩ := Int.eq_ofNat_of_zero_le hi.1
        have hk' : k' < n5 := by omega
        obtain ⟨b5, o5, z, rfl, hb5, hz, hcz⟩ := HR.out.get hk'
        have HZ := Lib.hid hz
        have HNL := Lib.hid hnl
        clear hz hi hnl
        go_wp2_with fail
        refine (at_in _ ys k' z _ _ HS.out (Nat.le_refl _) HZ.out).mono ?_
        rintro e w5 ⟨rfl, hq5⟩
        have g1 : w5.cell? ⟨w3.heap.size, 0, none⟩ = some (.slice A4 n4 c4) := (hq5.cell (p := ⟨w3.heap.size, 0, none⟩) hgl).trans hg
        have g2 : w5.cell? ⟨b5, o5 + k', none⟩ = some (.int .u64 z) := (hq5.cell (p := ⟨b5, o5 + k', none⟩) hb5).trans hcz
        go_wp2_with fail
        refine (len_val _ ys n5 _ _ (HS.out.later hq5) HNL.out).mono ?_
        rintro e w6 ⟨rfl, hq6⟩
        have h6 : Below wr.heap.size wr w6 := hq5.trans (hq6.mono hq5.size)
        have g3 : w6.cell? ⟨w3.heap.size, 0, none⟩ = some (.slice A4 n4 c4) := (h6.cell (p := ⟨w3.heap.size, 0, none⟩) hgl).trans hg
        go_wp2_with fail
        refine (idx_any _ ys x _ (HS.out.later h6)).mono ?_
        rintro e w7 ⟨rfl, hq7⟩
        have h7 : Below wr.heap.size wr w7 := h6.trans (hq7.mono h6.size)
        go_wp2_with fail
        refine (rindex_any _ n5 c5 ys x _ _ (HR.out.later h7)).mono ?_
        rintro e w8 ⟨rfl, rfl⟩
        go_wp2_with fail
        go_ret
        exact ⟨by simp, HE.out.trans (h7.mono HE.out.size)⟩
      · have HNL := Lib.hid hnl
        by_cases h0 : i < 0
        · have hd : decide (0 ≤ i) = false := by simpa using h0
          clear hi hnl
          go_wp2_with fail
          refine (at_out _ ys i _ _ HS.out (.inl h0)).mono ?_
          rintro e w5 ⟨rfl, hq5⟩
          have g1 : w5.cell? ⟨w3.heap.size, 0, none⟩ = some (.slice A4 n4 c4) := (hq5.cell (p := ⟨w3.heap.size, 0, none⟩) hgl).trans hg
          go_wp2_with fail
          refine (len_val _ ys n5 _ _ (HS.out.later hq5) HNL.out).mono ?_
          rintro e w6 ⟨rfl, hq6⟩
          have h6 : Below wr.heap.size wr w6 := hq5.trans (hq6.mono hq5.size)
          have g3 : w6.cell? ⟨w3.heap.size, 0, none⟩ = some (.slice A4 n4 c4) := (h6.cell (p := ⟨w3.heap.size, 0, none⟩) hgl).trans hg
          go_wp2_with fail
          refine (idx_any _ ys x _ (HS.out.later h6)).mono ?_
          rintro e w7 ⟨rfl, hq7⟩
          have h7 : Below wr.heap.size wr w7 := h6.trans (hq7.mono h6.size)
          go_wp2_with fail
          refine (rindex_any _ n5 c5 ys x _ _ (HR.out.later h7)).mono ?_
          rintro e w8 ⟨rfl, rfl⟩
          go_wp2_with fail
          go_ret
          exact ⟨by simp, HE.out.trans (h7.mono HE.out.size)⟩
        · have h1 : (n5 : Int) ≤ i := by omega
          have h0' : 0 ≤ i := by omega
          have hat : i < 0 ∨ (ys.length : Int) ≤ i := .inr (by omega)
          have HAT := Lib.hid hat
          clear hi hnl h0 hat
          go_wp2_with fail
          refine (at_out _ ys i _ _ HS.out HAT.out).mono ?_
          rintro e w5 ⟨rfl, hq5⟩
          have g1 : w5.cell? ⟨w3.heap.size, 0, none⟩ = some (.slice A4 n4 c4) := (hq5.cell (p := ⟨w3.heap.size, 0, none⟩) hgl).trans hg
          go_wp2_with fail
          refine (len_val _ ys n5 _ _ (HS.out.later hq5) HNL.out).mono ?_
          rintro e w6 ⟨rfl, hq6⟩
          have h6 : Below wr.heap.size wr w6 := hq5.trans (hq6.mono hq5.size)
          have g3 : w6.cell? ⟨w3.heap.size, 0, none⟩ = some (.slice A4 n4 c4) := (h6.cell (p := ⟨w3.heap.size, 0, none⟩) hgl).trans hg
          go_wp2_with fail
          refine (idx_any _ ys x _ (HS.out.later h6)).mono ?_
          rintro e w7 ⟨rfl, hq7⟩
          have h7 : Below wr.heap.size wr w7 := h6.trans (hq7.mono h6.size)
          go_wp2_with fail
          refine (rindex_any _ n5 c5 ys x _ _ (HR.out.later h7)).mono ?_
          rintro e w8 ⟨rfl, rfl⟩
          go_wp2_with fail
          go_ret
          exact ⟨by simp, HE.out.trans (h7.mono HE.out.size)⟩

set_option maxRecDepth 100000 in
theorem tells_long (A : Option Addr) (n c : Nat) (p : Option Addr) (m cp : Nat) (i x : Int) (w : World) (h : 100 < n ∨ 60 < m) (hn : n ≤ 9223372036854775807) (hm : m ≤ 9223372036854775807) :
    Calls Try.prog 9 #[.slice A n c, .slice p m cp, .int .i64 i, .int .u64 x] w fun e w' => e = .returned (.bool true) ∧ Below w.heap.size w w' := by
  by_cases h1 : 100 < n
  · clear h
    go_enter Try.func9, Try.ntmps9
    go_wp2_with fail
    refine (awake3_any _).mono ?_
    rintro e w1 ⟨rfl, hb1⟩
    go_wp2_with fail
    go_ret
    exact ⟨rfl, hb1⟩
  · have h2 : 60 < m := by omega
    have h1' : n ≤ 100 := by omega
    clear h h1
    go_enter Try.func9, Try.ntmps9
    go_wp2_with fail
    refine (awake3_any _).mono ?_
    rintro e w1 ⟨rfl, hb1⟩
    go_wp2_with fail
    go_ret
    exact ⟨rfl, hb1⟩
end Go.Proofs.Ytiglheagefpgoaa.Sn
