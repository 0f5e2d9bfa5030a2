/- The walk of hackneylaw11.SlotsPlay. -/
import Derived.Test.YtbedboekfkobjaaGreatDoorSlotsF
import Derived.Test.YtbedboekfkobjaaGreatDoorRegG
import Derived.Deep.CutRange
import Derived.Deep.CutBlock
namespace Go.Proofs.YtbedboekfkobjaaGreatDoor.St
open Go.ChangeShapes Go.WideShapes Go.ChangeAt Go.RowKit Go.Deep Rw Hi
set_option linter.unusedVariables false

/-- Slots and the document's row, apart from one another. -/
structure Pm (w0 w : World) (p : Nat) (r : Option Nat) (A : Option Addr) (n c : Nat) (L D : List Sx) : Prop where
  ss : Ss w w0.heap.size p r L
  rs : Rs enc3 3 w w.heap.size A n c D
  ap : Apart (.slice A n c) p r
  dl : ∀ g, (Value.slice A n c).ownBlock = some g → g < w.heap.size
  bel : Below w0.heap.size w0 w
/-- .. and an act's box. -/
structure Pl (w0 w : World) (p q : Nat) (r : Option Nat) (A : Option Addr) (n c : Nat) (a0 a1 a2 : Int) (L D : List Sx) : Prop where
  m : Pm w0 w p r A n c L D
  b0 : w.cell? ⟨q, 0, none⟩ = some (.int .u8 a0)
  b1 : w.cell? ⟨q, 1, none⟩ = some (.int .i64 a1)
  b2 : w.cell? ⟨q, 2, none⟩ = some (.int .u64 a2)
  qp : q ≠ p
  qr : r ≠ some q
section
variable {w0 w w' : World} {p q : Nat} {r : Option Nat} {A : Option Addr} {n c : Nat} {a0 a1 a2 : Int} {L D : List Sx}
theorem Pm.later (h : Pm w0 w p r A n c L D) (hb : Below w.heap.size w w') : Pm w0 w' p r A n c L D :=
  ⟨h.ss.later hb, h.rs.later hb, h.ap, fun g hg => Nat.lt_of_lt_of_le (h.dl g hg) hb.size, h.bel.trans (hb.mono h.bel.size)⟩
theorem Pl.later (h : Pl w0 w p q r A n c a0 a1 a2 L D) (hb : Below w.heap.size w w') : Pl w0 w' p q r A n c a0 a1 a2 L D :=
  have hq := Lw.lt_heap h.b0
  ⟨h.m.later hb, (hb.cell (p := ⟨q, 0, none⟩) hq).trans h.b0, (hb.cell (p := ⟨q, 1, none⟩) hq).trans h.b1, (hb.cell (p := ⟨q, 2, none⟩) hq).trans h.b2, h.qp, h.qr⟩
theorem Pm.box (h : Pm w0 w p r A n c L D) (a0 a1 a2 : Int) : Pl w0 (w.alloc (.cells #[.int .u8 a0, .int .i64 a1, .int .u64 a2] 29)) p w.heap.size r A n c a0 a1 a2 L D :=
  ⟨h.later ((Below.refl _ _).alloc (Nat.le_refl _) _), by go_simp, by go_simp, by go_simp, fun e => by have := h.ss.lt; omega, fun e => by have := (h.ss.rowlt _ e).2; omega⟩
theorem Pl.slot {r' : Option Nat} {L' : List Sx} (h : Pl w0 w p q r A n c a0 a1 a2 L D) (hs : Ss w' w0.heap.size p r' L') (hf : Fr (some p) r w w') (hr : ∀ g, r' = some g → r = some g ∨ w.heap.size ≤ g) : Pl w0 w' p q r' A n c a0 a1 a2 L' D :=
  have hq := Lw.lt_heap h.b0
  have e1 : some q ≠ some p := fun e => h.qp (by injection e)
  have e2 : some q ≠ r := fun e => h.qr e.symm
  ⟨⟨hs, rs_fr h.m.rs hf h.m.ap, h.m.ap.next h.m.dl hr, fun g hg => Nat.lt_of_lt_of_le (h.m.dl g hg) hf.size, h.m.bel.trans (hf.below h.m.bel.size (fun k hk => by injection hk with hk; have := h.m.ss.lo; omega) (fun g hg => (h.m.ss.rowlt g hg).1))⟩,
    (hf.cell (p := ⟨q, 0, none⟩) hq e1 e2).trans h.b0, (hf.cell (p := ⟨q, 1, none⟩) hq e1 e2).trans h.b1, (hf.cell (p := ⟨q, 2, none⟩) hq e1 e2).trans h.b2, h.qp, fun e => by
      rcases hr q e with e3 | e3
      · exact h.qr e3
      · have : q < w.heap.size := hq
        omega⟩
theorem Pl.doc {A' : Option Addr} {n' c' : Nat} {D' : List Sx} (h : Pl w0 w p q r A n c a0 a1 a2 L D) (hs : Rs enc3 3 w' w'.heap.size A' n' c' D') (hn : New1 w w' (.slice A n c) (.slice A' n' c')) (hb : Below w.heap.size w w') : Pl w0 w' p q r A' n' c' a0 a1 a2 L D' := by
  have h' := h.later hb
  refine ⟨⟨h'.m.ss, hs, h.m.ap.new hn h.m.ss.lt (fun g hg => (h.m.ss.rowlt g hg).2), fun g hg => ?_, h'.m.bel⟩, h'.b0, h'.b1, h'.b2, h.qp, h.qr⟩
  rcases hn with e | e
  · exact Nat.lt_of_lt_of_le (h.m.dl g (e.symm.trans hg)) hb.size
  · exact (e g hg).2
theorem Pl.fresh {p' : Nat} {r' : Option Nat} (h : Pl w0 w p q r A n c a0 a1 a2 L D) (hb : Below w.heap.size w w') (hs : Ss w' w0.heap.size p' r' L) (hp : w.heap.size ≤ p') (hr : ∀ g, r' = some g → w.heap.size ≤ g) : Pl w0 w' p' q r' A n c a0 a1 a2 L D := by
  have h' := h.later hb
  have hq : q < w.heap.size := Lw.lt_heap h.b0
  refine ⟨⟨hs, h'.m.rs, fun g hg => ?_, h'.m.dl, h'.m.bel⟩, h'.b0, h'.b1, h'.b2, by omega, fun e => by have := hr q e; omega⟩
  have hg2 := h.m.dl g hg
  exact ⟨by omega, fun e => by have := hr g e; omega⟩
/-- What is done with elder slots leaves a clone. -/
theorem Pl.aside {wo : World} {p' : Nat} {r' : Option Nat} (h : Pl w0 w p' q r' A n c a0 a1 a2 L D) (ho : Pl w0 wo p q r A n c a0 a1 a2 L D) (hp : wo.heap.size ≤ p') (hr : ∀ g, r' = some g → wo.heap.size ≤ g) (hf : Fr (some p) r w w') : Pl w0 w' p' q r' A n c a0 a1 a2 L D := by
  have hq := Lw.lt_heap h.b0
  have hpl := ho.m.ss.lt
  have hrl := ho.m.ss.rowlt
  have e1 : some q ≠ some p := fun e => ho.qp (by injection e)
  have e2 : some q ≠ r := fun e => ho.qr e.symm
  refine ⟨⟨h.m.ss.fr hf (fun e => by injection e; omega) (fun e => by have := (hrl p' e.symm).2; omega) (fun g hg => ⟨fun e => by injection e; have := hr g hg; omega, fun e => by have := (hrl g e.symm).2; have := hr g hg; omega⟩), rs_fr h.m.rs hf ho.m.ap, h.m.ap, fun g hg => Nat.lt_of_lt_of_le (h.m.dl g hg) hf.size, h.m.bel.trans (hf.below h.m.bel.size (fun k hk => by injection hk with hk; have := ho.m.ss.lo; omega) (fun g hg => (hrl g hg).1))⟩,
    (hf.cell (p := ⟨q, 0, none⟩) hq e1 e2).trans h.b0, (hf.cell (p := ⟨q, 1, none⟩) hq e1 e2).trans h.b1, (hf.cell (p := ⟨q, 2, none⟩) hq e1 e2).trans h.b2, h.qp, h.qr⟩
end
theorem all_n (w : World) (B p n : Nat) (r : Option Nat) (L : List Sx) (h : Ss w B p r L) (hl : L.length = n) (hn : n ≤ 1000) :
    Calls Tryz.prog 22 #[.pointer (some ⟨p, 0, none⟩)] w fun e w' => ∃ A c, e = .returned (.slice A n c) ∧ Rs enc3 3 w' w'.heap.size A n c L ∧ Below w.heap.size w w' := by
  subst hl
  exact (all_any w B p r L h hn).mono fun e w' ⟨A, c, h1, h2, h3⟩ => ⟨A, c, h1, Rs.own_rs enc3_len rfl h2, h3⟩
theorem req_n (A A' : Option Addr) (n c c' : Nat) (xs : List Sx) (B B' : Nat) (w : World) (h : Rs enc3 3 w B A n c xs) (h' : Rs enc3 3 w B' A' n c' xs) :
    Calls Tryz.prog 20 #[.slice A n c, .slice A' n c'] w fun e w' => e = .returned (.bool true) ∧ Below w.heap.size w w' :=
  (requal_same A A' n c c' xs B B' w h h').mono fun e w' ⟨h1, q, h2⟩ => ⟨h1, h2 ▸ below_drewN (Below.refl _ _) q⟩

set_option maxRecDepth 100000 in
theorem play_long (A : Option Addr) (n c : Nat) (w : World) (hT : Tx.Tab w) (hn : n ≤ 9223372036854775807) (h : 100 < n) :
    Calls Tryz.prog 3 #[.slice A n c] w fun e w' => e = .returned (.bool true) ∧ Below w.heap.size w w' := by
  have t0 : decide ((100 : Int) < (n : Int)) = true := decide_eq_true (by omega)
  have t0' : decide (100 < n) = true := decide_eq_true (by omega)
  go_enter Tryz.func3, Tryz.ntmps3
  go_wp2_with fail
  refine (awake11_any _ hT).mono ?_
  rintro e w1 ⟨rfl, hb1⟩
  go_wp2_with fail
  go_ret
  exact ⟨rfl, hb1⟩

set_option maxHeartbeats 8000000 in
set_option maxRecDepth 100000 in
theorem play_any (A0 : Option Addr) (N c0 : Nat) (xs : List Sx) (w : World) (hT : Tx.Tab w) (h : Rs encK 3 w w.heap.size A0 N c0 xs) (hN : N ≤ 100) (hok : ∀ x ∈ xs, 0 ≤ x.1 ∧ x.1 ≤ 255) :
    Calls Tryz.prog 3 #[.slice A0 N c0] w fun e w' => e = .returned (.bool true) ∧ Below w.heap.size w w' := by
  have HT := Lib.hid hT
  have R' := Lib.hid h
  have HK := Lib.hid hok
  have t0 : decide ((100 : Int) < (N : Int)) = false := decide_eq_false (by omega)
  have t0' : decide (100 < N) = false := decide_eq_false (by omega)
  clear hT h hok
  go_enter Tryz.func3, Tryz.ntmps3
  go_wp2_with fail
  refine (awake11_any _ HT.out).mono ?_
  rintro e w1 ⟨rfl, hb1⟩
  go_wp2_with fail
  refine (new_any _ w.heap.size hb1.size).mono ?_
  rintro e w2 ⟨p, rfl, h2, hp2, hb2⟩
  have H2 := Lib.hid (show Pm w w2 p none none 0 0 [] [] from ⟨h2, Rs.nil_, (fun g hg => by cases hg), (fun g hg => by cases hg), hb1.trans (hb2.mono hb1.size)⟩)
  clear h2 hb1 hb2 hp2 t0 t0'
  go_wp2_with fail
  go_loopw [3, 4, 32] (fun s d i wr => ∃ (k p : Nat) (r : Option Nat) (A : Option Addr) (n c : Nat) (L : List Sx), k ≤ N ∧ i = .int .i64 k ∧ s = .pointer (some ⟨p, 0, none⟩) ∧ d = .slice A n c ∧ L.length ≤ k ∧ Pm w wr p r A n c L L) (fun _ _ i _ => N - (intOf i).toNat)
  case atStart => exact ⟨0, p, none, none, 0, 0, [], Nat.zero_le _, rfl, rfl, rfl, Nat.le_refl _, H2.out⟩
  case round =>
    clear H2
    obtain ⟨k, p, r, A, n, c, L, hk, rfl, rfl, rfl, hLk, hpm⟩ := hrel
    by_cases hlt : k < N
    · obtain ⟨b, o, x, rfl, hb, hx, c1, c2, c3⟩ := act_at R'.out hlt
      obtain ⟨a0, a1, a2⟩ := x
      have hk8 := HK.out _ (List.mem_of_getElem? hx)
      have d0 := (hpm.bel.cell (p := ⟨b, o + k * 3, none⟩) hb).trans c1
      have d1 := (hpm.bel.cell (p := ⟨b, o + k * 3 + 1, none⟩) hb).trans c2
      have d2 := (hpm.bel.cell (p := ⟨b, o + k * 3 + 2, none⟩) hb).trans c3
      simp only at d0 d1 d2 hk8
      have P0 := Lib.hid (hpm.box a0 a1 a2)
      clear c1 c2 c3 hx hpm
      have HLK := Lib.hid hLk
      go_upto_if 38 with (fail)
      generalize hq0 : wr.heap.size = q at *
      clear hq0
      go_cut [3, 7, 32] from 32 to 170 (fun s3 s7 s32 wx => ∃ (p' : Nat) (r' : Option Nat), s3 = .pointer (some ⟨p', 0, none⟩) ∧ s32 = .int .i64 k ∧ Hid (Pl w wx p' q r' A n c a0 a1 a2 L L))
      case first =>
        by_cases h128 : 128 ≤ a0
        · have t128 : decide ((128 : Int) ≤ a0) = true := decide_eq_true h128
          rw [t128]
          clear h128
          go_wp2_with fail
          refine (clone_any _ _ _ _ _ P0.out.m.ss (by omega)).mono ?_
          rintro e w2 ⟨p2, r2, rfl, hs2, hp2, hr2, hb2⟩
          have P2 := Lib.hid (P0.out.fresh hb2 hs2 hp2 hr2)
          have O2 := Lib.hid (P0.out.later hb2).m.ss
          have HR2 := Lib.hid hr2
          clear hb2 hs2 hr2
          go_wp2_with fail
          refine (fillU _ _ _ _ _ 3 O2.out).mono ?_
          rintro e w3 ⟨rfl, hs3, hf3⟩
          have P3 := Lib.hid (P2.out.aside P0.out hp2 HR2.out hf3)
          have O3 := Lib.hid hs3
          clear hs3 hf3 P2 O2
          go_wp2_with fail
          refine (parkU _ _ _ _ _ 77 7 O3.out (by rw [fillR_len]; omega)).mono ?_
          rintro e w4 ⟨rfl, r4, hs4, hf4, hr4⟩
          have P4 := Lib.hid (P3.out.aside P0.out hp2 HR2.out hf4)
          clear hs4 hf4 hr4 O3 P3
          go_wp2_with fail
          go_meet
          case rel => exact ⟨p2, r2, rfl, rfl, P4⟩
        · have t128 : decide ((128 : Int) ≤ a0) = false := decide_eq_false h128
          rw [t128]
          clear h128
          go_wp2_with fail
          go_meet
          case rel => exact ⟨p, r, rfl, rfl, P0⟩
      case rest =>
        clear P0 d0 d1 d2
        obtain ⟨p, r, rfl, rfl, P4⟩ := hcut
        have b0 := P4.out.b0
        have b1 := P4.out.b1
        have b2 := P4.out.b2
        go_upto_block 2 with fail
        go_cut [3, 4, 7, 8, 9, 10, 11, 12, 13, 14, 15, 16, 17, 18, 19, 20, 32] from 32 to 170 (fun s3 s4 s7 s8 s9 s10 s11 s12 s13 s14 s15 s16 s17 s18 s19 s20 s32 wx => ∃ (p' : Nat) (r' : Option Nat) (A' : Option Addr) (n' c' : Nat) (L2 : List Sx), s3 = .pointer (some ⟨p', 0, none⟩) ∧ s4 = .slice A' n' c' ∧ s32 = .int .i64 k ∧ Hid (L2.length ≤ k + 1) ∧ Hid (Pl w wx p' q r' A' n' c' a0 a1 a2 L2 L2))
        case first =>
          by_cases h2 : a0 % 4 = 2
          · have m1 : (a0 % 4 == 2) = true := beq_iff_eq.2 h2
            have m1t : (a0.tmod 4 == 2) = true := by rw [Int.tmod_eq_emod_of_nonneg hk8.1]; exact beq_iff_eq.2 h2
            have HQL := Lib.hid (fillR_len L a2)
            obtain ⟨Q, hQ⟩ : ∃ Q, fillR L a2 = Q := ⟨_, rfl⟩
            have HQ := Lib.hid hQ
            obtain ⟨L2, v2, o2⟩ := Q
            have HL2 : Hid (L2.length ≤ k + 1) := Lib.hid (by have h1 := HQL.out; rw [HQ.out] at h1; have h3 : L2.length = L.length := h1; omega)
            clear hQ h2 HQL
            go_wp2_with fail
            refine (fillU _ _ _ _ L a2 P4.out.m.ss).mono ?_
            rw [HQ.out]
            rintro e w5 ⟨rfl, hs5, hf5⟩
            have P5 := Lib.hid (P4.out.slot hs5 hf5 (fun g hg => .inl hg))
            have u0 := P5.out.b0
            have u1 := P5.out.b1
            have u2 := P5.out.b2
            clear hs5 hf5 P4 b0 b1 b2
            go_wp2_with fail
            refine (rfillU A n c L a2 _ P5.out.m.rs (by have := P5.out.m.rs.len; omega)).mono ?_
            rw [HQ.out]
            rintro e w6 ⟨A6, n6, c6, rfl, hs6, hn6, hb6⟩
            have P6 := Lib.hid (P5.out.doc hs6 hn6 hb6)
            have x0 := P6.out.b0
            have x1 := P6.out.b1
            have x2 := P6.out.b2
            clear hs6 hn6 hb6 P5 u0 u1 u2 m1 m1t
            go_wp2_with fail
            go_meet
            case rel => exact ⟨p, r, A6, n6, c6, L2, rfl, rfl, rfl, HL2, P6⟩
          · by_cases h3 : a0 % 4 = 3
            · have m1 : (a0 % 4 == 2) = false := by rw [h3]; rfl
              have m1t : (a0.tmod 4 == 2) = false := by rw [Int.tmod_eq_emod_of_nonneg hk8.1, h3]; rfl
              have m2 : (a0 % 4 == 3) = true := beq_iff_eq.2 h3
              have m2t : (a0.tmod 4 == 3) = true := by rw [Int.tmod_eq_emod_of_nonneg hk8.1]; exact beq_iff_eq.2 h3
              have HQL := Lib.hid (takeR_len L a1)
              obtain ⟨Q, hQ⟩ : ∃ Q, takeR L a1 = Q := ⟨_, rfl⟩
              have HQ := Lib.hid hQ
              obtain ⟨L2, v2, o2⟩ := Q
              have HL2 : Hid (L2.length ≤ k + 1) := Lib.hid (by have h1 := HQL.out; rw [HQ.out] at h1; have h3 : L2.length ≤ L.length := h1; omega)
              clear hQ h3 HQL
              go_wp2_with fail
              refine (takeU _ _ _ _ L a1 P4.out.m.ss).mono ?_
              rw [HQ.out]
              rintro e w5 ⟨rfl, hs5, hf5⟩
              have P5 := Lib.hid (P4.out.slot hs5 hf5 (fun g hg => .inl hg))
              have u0 := P5.out.b0
              have u1 := P5.out.b1
              have u2 := P5.out.b2
              clear hs5 hf5 P4 b0 b1 b2
              go_wp2_with fail
              refine (rtakeU A n c L a1 _ P5.out.m.rs (by have := P5.out.m.rs.len; omega)).mono ?_
              rw [HQ.out]
              rintro e w6 ⟨A6, n6, c6, rfl, hs6, hn6, hb6⟩
              have P6 := Lib.hid (P5.out.doc hs6 hn6 hb6)
              have x0 := P6.out.b0
              have x1 := P6.out.b1
              have x2 := P6.out.b2
              clear hs6 hn6 hb6 P5 u0 u1 u2 m1 m1t m2 m2t
              go_wp2_with fail
              go_meet
              case rel => exact ⟨p, r, A6, n6, c6, L2, rfl, rfl, rfl, HL2, P6⟩
            · have m1 : (a0 % 4 == 2) = false := beq_eq_false_iff_ne.2 h2
              have m1t : (a0.tmod 4 == 2) = false := by rw [Int.tmod_eq_emod_of_nonneg hk8.1]; exact beq_eq_false_iff_ne.2 h2
              have m2 : (a0 % 4 == 3) = false := beq_eq_false_iff_ne.2 h3
              have m2t : (a0.tmod 4 == 3) = false := by rw [Int.tmod_eq_emod_of_nonneg hk8.1]; exact beq_eq_false_iff_ne.2 h3
              have HQL := Lib.hid (park_len L a1 a2)
              obtain ⟨L2, hL2⟩ : ∃ L2, parkL L a1 a2 = L2 := ⟨_, rfl⟩
              obtain ⟨v2, hv2⟩ : ∃ v2, parkE L a1 = v2 := ⟨_, rfl⟩
              have HQ := Lib.hid hL2
              have HV := Lib.hid hv2
              have HL2 : Hid (L2.length ≤ k + 1) := Lib.hid (by have h1 := HQL.out; rw [HQ.out] at h1; omega)
              clear hL2 hv2 h2 h3 HQL
              go_wp2_with fail
              refine (parkU _ _ _ _ L a1 a2 P4.out.m.ss (by omega)).mono ?_
              rw [HQ.out, HV.out]
              rintro e w5 ⟨rfl, r5, hs5, hf5, hr5⟩
              have P5 := Lib.hid (P4.out.slot hs5 hf5 hr5)
              have u0 := P5.out.b0
              have u1 := P5.out.b1
              have u2 := P5.out.b2
              clear hs5 hf5 hr5 P4 b0 b1 b2
              go_wp2_with fail
              refine (rpark_any A n c L a1 a2 _ P5.out.m.rs (by have := P5.out.m.rs.len; omega)).mono ?_
              rw [HQ.out, HV.out]
              rintro e w6 ⟨A6, n6, c6, rfl, hs6, hn6, hb6⟩
              have P6 := Lib.hid (P5.out.doc hs6 hn6 hb6)
              have x0 := P6.out.b0
              have x1 := P6.out.b1
              have x2 := P6.out.b2
              clear hs6 hn6 hb6 P5 u0 u1 u2 m1 m1t m2 m2t
              go_wp2_with fail
              go_meet
              case rel => exact ⟨p, r5, A6, n6, c6, L2, rfl, rfl, rfl, HL2, P6⟩
        case rest =>
          clear P4 b0 b1 b2
          obtain ⟨p, r, A6, n6, c6, L2, rfl, rfl, rfl, HL2, P6⟩ := hcut
          have x0 := P6.out.b0
          have x1 := P6.out.b1
          have x2 := P6.out.b2
          go_wp2_with fail
          cases hf : L2.findIdx? (hit a1) with
          | some j =>
            obtain ⟨y, hy, _, hjn⟩ := ix_hit hf
            refine (of_hit _ _ _ _ L2 a1 j y P6.out.m.ss hf hy).mono ?_
            rintro e w7 ⟨rfl, hb7⟩
            obtain ⟨y0, y1, y2⟩ := y
            have P7 := Lib.hid (P6.out.later hb7)
            have HZ := Lib.hid (ixZ_some hf)
            have g0 : (w7.alloc (.cells #[.int .i64 y0, .int .u64 y1, .int .u64 y2] 43)).cell? ⟨w7.heap.size, 0, none⟩ = some (.int .i64 y0) := by go_simp
            have g1 : (w7.alloc (.cells #[.int .i64 y0, .int .u64 y1, .int .u64 y2] 43)).cell? ⟨w7.heap.size, 1, none⟩ = some (.int .u64 y1) := by go_simp
            have g2 : (w7.alloc (.cells #[.int .i64 y0, .int .u64 y1, .int .u64 y2] 43)).cell? ⟨w7.heap.size, 2, none⟩ = some (.int .u64 y2) := by go_simp
            have hs8 : w7.heap.size < (w7.alloc (.cells #[.int .i64 y0, .int .u64 y1, .int .u64 y2] 43)).heap.size := by simp
            have P8 := Lib.hid (P7.out.later ((Below.refl _ _).alloc (Nat.le_refl _) (.cells #[.int .i64 y0, .int .u64 y1, .int .u64 y2] 43)))
            have G0 := Lib.hid g0
            have G1 := Lib.hid g1
            have G2 := Lib.hid g2
            have HS8 := Lib.hid hs8
            have v1 := P8.out.b1
            clear hb7 P6 x0 x1 x2 g0 g1 g2 hs8 P7
            go_wp2_with fail
            generalize (w7.alloc (.cells #[.int .i64 y0, .int .u64 y1, .int .u64 y2] 43)) = W8 at *
            generalize w7.heap.size = s8 at *
            refine (rof_any A6 n6 c6 _ L2 a1 _ P8.out.m.rs (Nat.le_refl _)).mono ?_
            rw [HZ.out]
            rintro e w9 ⟨rfl, hb9⟩
            have hlen := P8.out.m.rs.len
            have HLEN := Lib.hid hlen
            have hn6 : n6 ≤ 1000 := by have := HL2.out; omega
            have hjn6 : j < n6 := by omega
            have hcap := P8.out.m.rs.cap
            have htop := P8.out.m.rs.top
            obtain ⟨b8, o8, z, rfl, hb8, hz, e0, e1, e2⟩ := three_at P8.out.m.rs hjn6
            obtain rfl : (y0, y1, y2) = z := by rw [hy] at hz; injection hz
            simp only at e0 e1 e2
            clear hy hz hjn
            have HS := Lib.hid (show Below W8.heap.size W8 w9.drew from hb9.drew)
            clear hb9 hlen hf
            go_wp2_with fail
            refine reg_start 39 (fun w' => Below W8.heap.size W8 w') (by kernel_rfl) (by kernel_rfl) ?_
            intro hTT
            have HTT := Lib.hid hTT
            clear hTT
            refine reg_load 0 HTT.out rfl (by kernel_rfl) (by decide) (fun _ _ _ _ h => h) HS.out rfl ?_
            apply Exists.intro
            refine ⟨fun w' hw => by (go_simp; exact rfl), ?_⟩
            refine reg_load 1 HTT.out rfl (by kernel_rfl) (by decide) (fun _ _ _ _ h => h) HS.out rfl ?_
            apply Exists.intro
            refine ⟨fun w' hw => by (go_simp; exact rfl), ?_⟩
            refine reg_load 2 HTT.out rfl (by kernel_rfl) (by decide) (fun _ _ _ _ h => h) HS.out rfl ?_
            apply Exists.intro
            refine ⟨fun w' hw => by (go_simp; exact rfl), ?_⟩
            refine reg_load 3 HTT.out rfl (by kernel_rfl) (by decide) (fun _ _ _ _ h => h) HS.out rfl ?_
            apply Exists.intro
            refine ⟨fun w' hw => by (go_simp; exact rfl), ?_⟩
            refine reg_load 4 HTT.out rfl (by kernel_rfl) (by decide) (fun _ _ _ _ h => h) HS.out rfl ?_
            apply Exists.intro
            refine ⟨fun w' hw => by (go_simp; exact rfl), ?_⟩
            refine reg_load 5 HTT.out rfl (by kernel_rfl) (by decide) (fun _ _ _ _ h => h) HS.out (wanted_yes (g := 4) (p := false) (d := 135) rfl (by kernel_rfl) (at_eq (sz_put (sz_put (sz_put (sz_put ((Nat.lt_of_lt_of_eq (m := 171) (by decide) rfl)))))))) ?_
            apply Exists.intro
            refine ⟨fun w' hw => by (go_simp; exact rfl), ?_⟩
            refine reg_load 6 HTT.out rfl (by kernel_rfl) (by decide) (fun _ _ _ _ h => h) HS.out (wanted_yes (g := 4) (p := false) (d := 135) rfl (by kernel_rfl) (at_ne (by decide) (at_eq (sz_put (sz_put (sz_put (sz_put ((Nat.lt_of_lt_of_eq (m := 171) (by decide) rfl))))))))) ?_
            apply Exists.intro
            refine ⟨fun w' hw => by (go_simp; exact rfl), ?_⟩
            refine reg_load 7 HTT.out rfl (by kernel_rfl) (by decide) (fun _ _ _ _ h => h) HS.out (wanted_yes (g := 6) (p := true) (d := 137) rfl (by kernel_rfl) (at_eq (sz_put (sz_put (sz_put (sz_put (sz_put (sz_put ((Nat.lt_of_lt_of_eq (m := 171) (by decide) rfl)))))))))) ?_
            apply Exists.intro
            refine ⟨fun w' hw => by (have k0 := (hw.cell (p := ⟨s8, 0, none⟩) HS8.out).trans G0.out; have k1 := (hw.cell (p := ⟨s8, 1, none⟩) HS8.out).trans G1.out; have k2 := (hw.cell (p := ⟨s8, 2, none⟩) HS8.out).trans G2.out; go_simp; exact rfl), ?_⟩
            refine reg_load 8 HTT.out rfl (by kernel_rfl) (by decide) (fun _ _ _ _ h => h) HS.out (wanted_yes (g := 6) (p := true) (d := 137) rfl (by kernel_rfl) (at_ne (by decide) (at_eq (sz_put (sz_put (sz_put (sz_put (sz_put (sz_put ((Nat.lt_of_lt_of_eq (m := 171) (by decide) rfl))))))))))) ?_
            apply Exists.intro
            refine ⟨fun w' hw => by (go_simp; exact rfl), ?_⟩
            refine reg_load 9 HTT.out rfl (by kernel_rfl) (by decide) (fun _ _ _ _ h => h) HS.out (wanted_yes (g := 6) (p := true) (d := 137) rfl (by kernel_rfl) (at_ne (by decide) (at_ne (by decide) (at_eq (sz_put (sz_put (sz_put (sz_put (sz_put (sz_put ((Nat.lt_of_lt_of_eq (m := 171) (by decide) rfl)))))))))))) ?_
            apply Exists.intro
            refine ⟨fun w' hw => by (go_simp; exact rfl), ?_⟩
            refine reg_load 10 HTT.out rfl (by kernel_rfl) (by decide) (fun _ _ _ _ h => h) HS.out (wanted_yes (g := 6) (p := true) (d := 137) rfl (by kernel_rfl) (at_ne (by decide) (at_ne (by decide) (at_ne (by decide) (at_eq (sz_put (sz_put (sz_put (sz_put (sz_put (sz_put ((Nat.lt_of_lt_of_eq (m := 171) (by decide) rfl))))))))))))) ?_
            apply Exists.intro
            refine ⟨fun w' hw => by (go_simp; exact rfl), ?_⟩
            refine reg_load 11 HTT.out rfl (by kernel_rfl) (by decide) (fun _ _ _ _ h => h) HS.out (wanted_yes (g := 6) (p := true) (d := 137) rfl (by kernel_rfl) (at_ne (by decide) (at_ne (by decide) (at_ne (by decide) (at_ne (by decide) (at_eq (sz_put (sz_put (sz_put (sz_put (sz_put (sz_put ((Nat.lt_of_lt_of_eq (m := 171) (by decide) rfl)))))))))))))) ?_
            apply Exists.intro
            refine ⟨fun w' hw => by (have k0 := (hw.cell (p := ⟨b8, o8 + j * 3, none⟩) hb8).trans e0; have k1 := (hw.cell (p := ⟨b8, o8 + j * 3 + 1, none⟩) hb8).trans e1; have k2 := (hw.cell (p := ⟨b8, o8 + j * 3 + 2, none⟩) hb8).trans e2; go_simp; exact rfl), ?_⟩
            refine reg_load 12 HTT.out rfl (by kernel_rfl) (by decide) (fun _ _ _ _ h => h) HS.out (wanted_yes (g := 6) (p := true) (d := 137) rfl (by kernel_rfl) (at_ne (by decide) (at_ne (by decide) (at_ne (by decide) (at_ne (by decide) (at_ne (by decide) (at_eq (sz_put (sz_put (sz_put (sz_put (sz_put (sz_put ((Nat.lt_of_lt_of_eq (m := 171) (by decide) rfl))))))))))))))) ?_
            apply Exists.intro
            refine ⟨fun w' hw => by (have hn := rslot_ne w' y0 y1 y2; go_simp; exact rfl), ?_⟩
            refine reg_load 13 HTT.out rfl (by kernel_rfl) (by decide) (fun _ _ _ _ h => h) HS.out (wanted_yes (g := 4) (p := false) (d := 135) rfl (by kernel_rfl) (at_ne (by decide) (at_ne (by decide) (at_ne (by decide) (at_ne (by decide) (at_ne (by decide) (at_ne (by decide) (at_ne (by decide) (at_ne (by decide) (at_eq (sz_put (sz_put (sz_put (sz_put ((Nat.lt_of_lt_of_eq (m := 171) (by decide) rfl)))))))))))))))) ?_
            apply Exists.intro
            refine ⟨fun w' hw => by (go_simp; exact rfl), ?_⟩
            refine reg_load 14 HTT.out rfl (by kernel_rfl) (by decide) (fun _ _ _ _ h => h) HS.out rfl ?_
            apply Exists.intro
            refine ⟨fun w' hw => by (go_simp; exact rfl), ?_⟩
            refine reg_load 15 HTT.out rfl (by kernel_rfl) (by decide) (fun _ _ _ _ h => h) HS.out rfl ?_
            apply Exists.intro
            refine ⟨fun w' hw => by (go_simp; exact rfl), ?_⟩
            refine reg_load 16 HTT.out rfl (by kernel_rfl) (by decide) (fun _ _ _ _ h => h) HS.out (wanted_yes (g := 15) (p := false) (d := 146) rfl (by kernel_rfl) (at_eq (sz_put (sz_put (sz_put (sz_put (sz_put (sz_put (sz_put (sz_put (sz_put (sz_put (sz_put (sz_put (sz_put (sz_put (sz_put ((Nat.lt_of_lt_of_eq (m := 171) (by decide) rfl))))))))))))))))))) ?_
            apply Exists.intro
            refine ⟨fun w' hw => by (go_simp; exact rfl), ?_⟩
            refine reg_load 17 HTT.out rfl (by kernel_rfl) (by decide) (fun _ _ _ _ h => h) HS.out (wanted_yes (g := 15) (p := false) (d := 146) rfl (by kernel_rfl) (at_ne (by decide) (at_eq (sz_put (sz_put (sz_put (sz_put (sz_put (sz_put (sz_put (sz_put (sz_put (sz_put (sz_put (sz_put (sz_put (sz_put (sz_put ((Nat.lt_of_lt_of_eq (m := 171) (by decide) rfl)))))))))))))))))))) ?_
            apply Exists.intro
            refine ⟨fun w' hw => by (go_simp; exact rfl), ?_⟩
            refine reg_load 18 HTT.out rfl (by kernel_rfl) (by decide) (fun _ _ _ _ h => h) HS.out (wanted_yes (g := 15) (p := false) (d := 146) rfl (by kernel_rfl) (at_ne (by decide) (at_ne (by decide) (at_eq (sz_put (sz_put (sz_put (sz_put (sz_put (sz_put (sz_put (sz_put (sz_put (sz_put (sz_put (sz_put (sz_put (sz_put (sz_put ((Nat.lt_of_lt_of_eq (m := 171) (by decide) rfl))))))))))))))))))))) ?_
            apply Exists.intro
            refine ⟨fun w' hw => by (go_simp; exact rfl), ?_⟩
            refine reg_skip 19 HTT.out rfl (by kernel_rfl) (fun _ _ _ _ h => h) (fun _ => HS.out) (wanted_no (g := 18) (p := true) (b := false) (d := 149) rfl (by kernel_rfl) (at_eq (sz_put (sz_put (sz_put (sz_put (sz_put (sz_put (sz_put (sz_put (sz_put (sz_put (sz_put (sz_put (sz_put (sz_put (sz_put (sz_put (sz_put (sz_put ((Nat.lt_of_lt_of_eq (m := 171) (by decide) rfl))))))))))))))))))))) rfl) ?_
            refine reg_skip 20 HTT.out rfl (by kernel_rfl) (fun _ _ _ _ h => h) (fun _ => HS.out) (wanted_no (g := 18) (p := true) (b := false) (d := 149) rfl (by kernel_rfl) (at_ne (by decide) (at_eq (sz_put (sz_put (sz_put (sz_put (sz_put (sz_put (sz_put (sz_put (sz_put (sz_put (sz_put (sz_put (sz_put (sz_put (sz_put (sz_put (sz_put (sz_put ((Nat.lt_of_lt_of_eq (m := 171) (by decide) rfl)))))))))))))))))))))) rfl) ?_
            refine reg_skip 21 HTT.out rfl (by kernel_rfl) (fun _ _ _ _ h => h) (fun _ => HS.out) (wanted_no (g := 18) (p := true) (b := false) (d := 149) rfl (by kernel_rfl) (at_ne (by decide) (at_ne (by decide) (at_eq (sz_put (sz_put (sz_put (sz_put (sz_put (sz_put (sz_put (sz_put (sz_put (sz_put (sz_put (sz_put (sz_put (sz_put (sz_put (sz_put (sz_put (sz_put ((Nat.lt_of_lt_of_eq (m := 171) (by decide) rfl))))))))))))))))))))))) rfl) ?_
            refine reg_load 22 HTT.out rfl (by kernel_rfl) (by decide) (fun _ _ _ _ h => h) HS.out (wanted_yes (g := 15) (p := false) (d := 146) rfl (by kernel_rfl) (at_ne (by decide) (at_ne (by decide) (at_ne (by decide) (at_ne (by decide) (at_ne (by decide) (at_ne (by decide) (at_eq (sz_put (sz_put (sz_put (sz_put (sz_put (sz_put (sz_put (sz_put (sz_put (sz_put (sz_put (sz_put (sz_put (sz_put (sz_put ((Nat.lt_of_lt_of_eq (m := 171) (by decide) rfl))))))))))))))))))))))))) ?_
            apply Exists.intro
            refine ⟨fun w' hw => by (go_simp; exact rfl), ?_⟩
            refine reg_load 23 HTT.out rfl (by kernel_rfl) (by decide) (fun _ _ _ _ h => h) HS.out rfl ?_
            apply Exists.intro
            refine ⟨fun w' hw => by (go_simp; exact rfl), ?_⟩
            refine reg_load 24 HTT.out rfl (by kernel_rfl) (by decide) (fun _ _ _ _ h => h) HS.out rfl ?_
            apply Exists.intro
            refine ⟨fun w' hw => by (go_simp; exact rfl), ?_⟩
            refine reg_load 25 HTT.out rfl (by kernel_rfl) (by decide) (fun _ _ _ _ h => h) HS.out (wanted_yes (g := 24) (p := false) (d := 155) rfl (by kernel_rfl) (at_eq (sz_put (sz_put (sz_put (sz_put (sz_put (sz_put (sz_put (sz_put (sz_put (sz_put (sz_put (sz_put (sz_put (sz_put (sz_put (sz_put (sz_put (sz_put (sz_put (sz_put (sz_put (sz_put (sz_put (sz_put ((Nat.lt_of_lt_of_eq (m := 171) (by decide) rfl)))))))))))))))))))))))))))) ?_
            apply Exists.intro
            refine ⟨fun w' hw => by (go_simp; exact rfl), ?_⟩
            refine reg_load 28 HTT.out rfl (by kernel_rfl) (by decide) (fun _ _ _ _ h => h) HS.out (wanted_yes (g := 24) (p := false) (d := 155) rfl (by kernel_rfl) (at_ne (by decide) (at_eq (sz_put (sz_put (sz_put (sz_put (sz_put (sz_put (sz_put (sz_put (sz_put (sz_put (sz_put (sz_put (sz_put (sz_put (sz_put (sz_put (sz_put (sz_put (sz_put (sz_put (sz_put (sz_put (sz_put (sz_put ((Nat.lt_of_lt_of_eq (m := 171) (by decide) rfl))))))))))))))))))))))))))))) ?_
            apply Exists.intro
            refine ⟨fun w' hw => by (go_simp; exact rfl), ?_⟩
            refine reg_only 26 rfl (by kernel_rfl) (wanted_yes (g := 24) (p := false) (d := 155) rfl (by kernel_rfl) (at_ne (by decide) (at_ne (by decide) (at_eq (sz_put (sz_put (sz_put (sz_put (sz_put (sz_put (sz_put (sz_put (sz_put (sz_put (sz_put (sz_put (sz_put (sz_put (sz_put (sz_put (sz_put (sz_put (sz_put (sz_put (sz_put (sz_put (sz_put (sz_put ((Nat.lt_of_lt_of_eq (m := 171) (by decide) rfl)))))))))))))))))))))))))))))) ?_
            unfold Oper.wp
            go_simp
            refine (all_n _ _ _ n6 _ L2 (P8.out.later HS.out).m.ss HLEN.out hn6).mono ?_
            rintro e w10 ⟨A10, c10, rfl, hr10, hb10⟩
            have HS10 := Lib.hid (HS.out.trans (hb10.mono HS.out.size))
            have R10 := Lib.hid hr10
            clear hb10 hr10 HS
            refine ⟨HS10.out, ?_⟩
            refine reg_only 27 rfl (by kernel_rfl) (wanted_yes (g := 24) (p := false) (d := 155) rfl (by kernel_rfl) (rfl)) ?_
            unfold Oper.wp
            go_simp
            refine (to_any A10 n6 c10 _ L2 _ R10.out (Nat.le_refl _) hn6).mono ?_
            rintro e w11 ⟨A11, c11, rfl, hr11, hb11⟩
            have HS11 := Lib.hid (HS10.out.trans (hb11.mono HS10.out.size))
            have R11 := Lib.hid hr11
            clear hb11 hr11 HS10 R10
            refine ⟨HS11.out, ?_⟩
            refine reg_only 29 rfl (by kernel_rfl) (wanted_yes (g := 24) (p := false) (d := 155) rfl (by kernel_rfl) (rfl)) ?_
            unfold Oper.wp
            go_simp
            refine (req_n A11 _ n6 c11 c6 L2 _ _ _ R11.out (P8.out.later HS11.out).m.rs).mono ?_
            rintro e w12 ⟨rfl, hb12⟩
            have HS := Lib.hid (HS11.out.trans (hb12.mono HS11.out.size))
            clear hb12 HS11 R11
            refine ⟨HS.out, ?_⟩
            refine reg_load 30 HTT.out rfl (by kernel_rfl) (by decide) (fun _ _ _ _ h => h) HS.out (wanted_yes (g := 24) (p := false) (d := 155) rfl (by kernel_rfl) (rfl)) ?_
            apply Exists.intro
            refine ⟨fun w' hw => by (go_simp; exact rfl), ?_⟩
            refine reg_load 31 HTT.out rfl (by kernel_rfl) (by decide) (fun _ _ _ _ h => h) HS.out rfl ?_
            apply Exists.intro
            refine ⟨fun w' hw => by (go_simp; exact rfl), ?_⟩
            refine reg_load 32 HTT.out rfl (by kernel_rfl) (by decide) (fun _ _ _ _ h => h) HS.out rfl ?_
            apply Exists.intro
            refine ⟨fun w' hw => by (go_simp; exact rfl), ?_⟩
            refine reg_load 33 HTT.out rfl (by kernel_rfl) (by decide) (fun _ _ _ _ h => h) HS.out (wanted_yes (g := 32) (p := false) (d := 163) rfl (by kernel_rfl) (at_eq (sz_put (sz_put ((Nat.lt_of_lt_of_eq (m := 171) (by decide) rfl)))))) ?_
            apply Exists.intro
            refine ⟨fun w' hw => by (go_simp; exact rfl), ?_⟩
            refine reg_load 35 HTT.out rfl (by kernel_rfl) (by decide) (fun _ _ _ _ h => h) HS.out (wanted_yes (g := 32) (p := false) (d := 163) rfl (by kernel_rfl) (at_ne (by decide) (at_eq (sz_put (sz_put ((Nat.lt_of_lt_of_eq (m := 171) (by decide) rfl))))))) ?_
            apply Exists.intro
            refine ⟨fun w' hw => by (go_simp; exact rfl), ?_⟩
            refine reg_only 34 rfl (by kernel_rfl) (wanted_yes (g := 32) (p := false) (d := 163) rfl (by kernel_rfl) (at_ne (by decide) (at_ne (by decide) (at_eq (sz_put (sz_put ((Nat.lt_of_lt_of_eq (m := 171) (by decide) rfl)))))))) ?_
            unfold Oper.wp
            go_simp
            refine (waiting_any _ _ _ _ L2 (P8.out.later HS.out).m.ss (by rw [HLEN.out]; exact hn6)).mono ?_
            rintro e w13 ⟨rfl, hb13⟩
            have HS13 := Lib.hid (HS.out.trans (hb13.mono HS.out.size))
            clear hb13 HS
            refine ⟨HS13.out, ?_⟩
            refine reg_only 36 rfl (by kernel_rfl) (wanted_yes (g := 32) (p := false) (d := 163) rfl (by kernel_rfl) (rfl)) ?_
            unfold Oper.wp
            go_simp
            refine (rwaiting_any _ n6 c6 _ L2 _ (P8.out.later HS13.out).m.rs (Nat.le_refl _)).mono ?_
            rintro e w14 ⟨rfl, hb14⟩
            have HS := Lib.hid (HS13.out.trans (hb14.mono HS13.out.size))
            clear hb14 HS13
            refine ⟨HS.out, ?_⟩
            refine reg_load 37 HTT.out rfl (by kernel_rfl) (by decide) (fun _ _ _ _ h => h) HS.out (wanted_yes (g := 32) (p := false) (d := 163) rfl (by kernel_rfl) (rfl)) ?_
            apply Exists.intro
            refine ⟨fun w' hw => by (go_simp; exact rfl), ?_⟩
            refine reg_load 38 HTT.out rfl (by kernel_rfl) (by decide) (fun _ _ _ _ h => h) HS.out rfl ?_
            apply Exists.intro
            refine ⟨fun w' hw => by (go_simp; exact rfl), ?_⟩
            refine reg_done (by kernel_rfl) ?_
            have PZ := Lib.hid (P8.out.later HS.out).m
            clear P8 HS G0 G1 G2 HS8 e0 e1 e2
            go_wp2_with fail
            go_roundw
            case rel => exact ⟨k + 1, p, r, _, n6, c6, L2, by omega, by go_num, rfl, rfl, HL2.out, PZ.out⟩
            case measure => simp [intOf]; omega
          | none =>
            refine (of_miss _ _ _ _ L2 a1 P6.out.m.ss hf).mono ?_
            rintro e w7 ⟨rfl, hb7⟩
            have P7 := Lib.hid (P6.out.later hb7)
            have HZ := Lib.hid (ixZ_none hf)
            have g0 : (w7.alloc (.cells #[.int .i64 0, .int .u64 0, .int .u64 0] 43)).cell? ⟨w7.heap.size, 0, none⟩ = some (.int .i64 0) := by go_simp
            have g1 : (w7.alloc (.cells #[.int .i64 0, .int .u64 0, .int .u64 0] 43)).cell? ⟨w7.heap.size, 1, none⟩ = some (.int .u64 0) := by go_simp
            have g2 : (w7.alloc (.cells #[.int .i64 0, .int .u64 0, .int .u64 0] 43)).cell? ⟨w7.heap.size, 2, none⟩ = some (.int .u64 0) := by go_simp
            have hs8 : w7.heap.size < (w7.alloc (.cells #[.int .i64 0, .int .u64 0, .int .u64 0] 43)).heap.size := by simp
            have P8 := Lib.hid (P7.out.later ((Below.refl _ _).alloc (Nat.le_refl _) (.cells #[.int .i64 0, .int .u64 0, .int .u64 0] 43)))
            have G0 := Lib.hid g0
            have G1 := Lib.hid g1
            have G2 := Lib.hid g2
            have HS8 := Lib.hid hs8
            have v1 := P8.out.b1
            clear hb7 P6 x0 x1 x2 g0 g1 g2 hs8 P7
            go_wp2_with fail
            generalize (w7.alloc (.cells #[.int .i64 0, .int .u64 0, .int .u64 0] 43)) = W8 at *
            generalize w7.heap.size = s8 at *
            refine (rof_any A6 n6 c6 _ L2 a1 _ P8.out.m.rs (Nat.le_refl _)).mono ?_
            rw [HZ.out]
            rintro e w9 ⟨rfl, hb9⟩
            have hlen := P8.out.m.rs.len
            have HLEN := Lib.hid hlen
            have hn6 : n6 ≤ 1000 := by have := HL2.out; omega
            have HS := Lib.hid (show Below W8.heap.size W8 w9.drew from hb9.drew)
            clear hb9 hlen hf
            go_wp2_with fail
            refine reg_start 39 (fun w' => Below W8.heap.size W8 w') (by kernel_rfl) (by kernel_rfl) ?_
            intro hTT
            have HTT := Lib.hid hTT
            clear hTT
            refine reg_load 0 HTT.out rfl (by kernel_rfl) (by decide) (fun _ _ _ _ h => h) HS.out rfl ?_
            apply Exists.intro
            refine ⟨fun w' hw => by (go_simp; exact rfl), ?_⟩
            refine reg_load 1 HTT.out rfl (by kernel_rfl) (by decide) (fun _ _ _ _ h => h) HS.out rfl ?_
            apply Exists.intro
            refine ⟨fun w' hw => by (go_simp; exact rfl), ?_⟩
            refine reg_load 2 HTT.out rfl (by kernel_rfl) (by decide) (fun _ _ _ _ h => h) HS.out rfl ?_
            apply Exists.intro
            refine ⟨fun w' hw => by (go_simp; exact rfl), ?_⟩
            refine reg_load 3 HTT.out rfl (by kernel_rfl) (by decide) (fun _ _ _ _ h => h) HS.out rfl ?_
            apply Exists.intro
            refine ⟨fun w' hw => by (go_simp; exact rfl), ?_⟩
            refine reg_load 4 HTT.out rfl (by kernel_rfl) (by decide) (fun _ _ _ _ h => h) HS.out rfl ?_
            apply Exists.intro
            refine ⟨fun w' hw => by (go_simp; exact rfl), ?_⟩
            refine reg_load 5 HTT.out rfl (by kernel_rfl) (by decide) (fun _ _ _ _ h => h) HS.out (wanted_yes (g := 4) (p := false) (d := 135) rfl (by kernel_rfl) (at_eq (sz_put (sz_put (sz_put (sz_put ((Nat.lt_of_lt_of_eq (m := 171) (by decide) rfl)))))))) ?_
            apply Exists.intro
            refine ⟨fun w' hw => by (go_simp; exact rfl), ?_⟩
            refine reg_load 6 HTT.out rfl (by kernel_rfl) (by decide) (fun _ _ _ _ h => h) HS.out (wanted_yes (g := 4) (p := false) (d := 135) rfl (by kernel_rfl) (at_ne (by decide) (at_eq (sz_put (sz_put (sz_put (sz_put ((Nat.lt_of_lt_of_eq (m := 171) (by decide) rfl))))))))) ?_
            apply Exists.intro
            refine ⟨fun w' hw => by (go_simp; exact rfl), ?_⟩
            refine reg_skip 7 HTT.out rfl (by kernel_rfl) (fun _ _ _ _ h => h) (fun _ => HS.out) (wanted_no (g := 6) (p := true) (b := false) (d := 137) rfl (by kernel_rfl) (at_eq (sz_put (sz_put (sz_put (sz_put (sz_put (sz_put ((Nat.lt_of_lt_of_eq (m := 171) (by decide) rfl))))))))) rfl) ?_
            refine reg_skip 8 HTT.out rfl (by kernel_rfl) (fun _ _ _ _ h => h) (fun _ => HS.out) (wanted_no (g := 6) (p := true) (b := false) (d := 137) rfl (by kernel_rfl) (at_ne (by decide) (at_eq (sz_put (sz_put (sz_put (sz_put (sz_put (sz_put ((Nat.lt_of_lt_of_eq (m := 171) (by decide) rfl)))))))))) rfl) ?_
            refine reg_skip 9 HTT.out rfl (by kernel_rfl) (fun _ _ _ _ h => h) (fun _ => HS.out) (wanted_no (g := 6) (p := true) (b := false) (d := 137) rfl (by kernel_rfl) (at_ne (by decide) (at_ne (by decide) (at_eq (sz_put (sz_put (sz_put (sz_put (sz_put (sz_put ((Nat.lt_of_lt_of_eq (m := 171) (by decide) rfl))))))))))) rfl) ?_
            refine reg_skip 10 HTT.out rfl (by kernel_rfl) (fun _ _ _ _ h => h) (fun _ => HS.out) (wanted_no (g := 6) (p := true) (b := false) (d := 137) rfl (by kernel_rfl) (at_ne (by decide) (at_ne (by decide) (at_ne (by decide) (at_eq (sz_put (sz_put (sz_put (sz_put (sz_put (sz_put ((Nat.lt_of_lt_of_eq (m := 171) (by decide) rfl)))))))))))) rfl) ?_
            refine reg_skip 11 HTT.out rfl (by kernel_rfl) (fun _ _ _ _ h => h) (fun _ => HS.out) (wanted_no (g := 6) (p := true) (b := false) (d := 137) rfl (by kernel_rfl) (at_ne (by decide) (at_ne (by decide) (at_ne (by decide) (at_ne (by decide) (at_eq (sz_put (sz_put (sz_put (sz_put (sz_put (sz_put ((Nat.lt_of_lt_of_eq (m := 171) (by decide) rfl))))))))))))) rfl) ?_
            refine reg_skip 12 HTT.out rfl (by kernel_rfl) (fun _ _ _ _ h => h) (fun _ => HS.out) (wanted_no (g := 6) (p := true) (b := false) (d := 137) rfl (by kernel_rfl) (at_ne (by decide) (at_ne (by decide) (at_ne (by decide) (at_ne (by decide) (at_ne (by decide) (at_eq (sz_put (sz_put (sz_put (sz_put (sz_put (sz_put ((Nat.lt_of_lt_of_eq (m := 171) (by decide) rfl)))))))))))))) rfl) ?_
            refine reg_load 13 HTT.out rfl (by kernel_rfl) (by decide) (fun _ _ _ _ h => h) HS.out (wanted_yes (g := 4) (p := false) (d := 135) rfl (by kernel_rfl) (at_ne (by decide) (at_ne (by decide) (at_ne (by decide) (at_ne (by decide) (at_ne (by decide) (at_ne (by decide) (at_ne (by decide) (at_ne (by decide) (at_eq (sz_put (sz_put (sz_put (sz_put ((Nat.lt_of_lt_of_eq (m := 171) (by decide) rfl)))))))))))))))) ?_
            apply Exists.intro
            refine ⟨fun w' hw => by (go_simp; exact rfl), ?_⟩
            refine reg_load 14 HTT.out rfl (by kernel_rfl) (by decide) (fun _ _ _ _ h => h) HS.out rfl ?_
            apply Exists.intro
            refine ⟨fun w' hw => by (go_simp; exact rfl), ?_⟩
            refine reg_load 15 HTT.out rfl (by kernel_rfl) (by decide) (fun _ _ _ _ h => h) HS.out rfl ?_
            apply Exists.intro
            refine ⟨fun w' hw => by (go_simp; exact rfl), ?_⟩
            refine reg_load 16 HTT.out rfl (by kernel_rfl) (by decide) (fun _ _ _ _ h => h) HS.out (wanted_yes (g := 15) (p := false) (d := 146) rfl (by kernel_rfl) (at_eq (sz_put (sz_put (sz_put (sz_put (sz_put (sz_put (sz_put (sz_put (sz_put (sz_put (sz_put (sz_put (sz_put (sz_put (sz_put ((Nat.lt_of_lt_of_eq (m := 171) (by decide) rfl))))))))))))))))))) ?_
            apply Exists.intro
            refine ⟨fun w' hw => by (go_simp; exact rfl), ?_⟩
            refine reg_load 17 HTT.out rfl (by kernel_rfl) (by decide) (fun _ _ _ _ h => h) HS.out (wanted_yes (g := 15) (p := false) (d := 146) rfl (by kernel_rfl) (at_ne (by decide) (at_eq (sz_put (sz_put (sz_put (sz_put (sz_put (sz_put (sz_put (sz_put (sz_put (sz_put (sz_put (sz_put (sz_put (sz_put (sz_put ((Nat.lt_of_lt_of_eq (m := 171) (by decide) rfl)))))))))))))))))))) ?_
            apply Exists.intro
            refine ⟨fun w' hw => by (go_simp; exact rfl), ?_⟩
            refine reg_load 18 HTT.out rfl (by kernel_rfl) (by decide) (fun _ _ _ _ h => h) HS.out (wanted_yes (g := 15) (p := false) (d := 146) rfl (by kernel_rfl) (at_ne (by decide) (at_ne (by decide) (at_eq (sz_put (sz_put (sz_put (sz_put (sz_put (sz_put (sz_put (sz_put (sz_put (sz_put (sz_put (sz_put (sz_put (sz_put (sz_put ((Nat.lt_of_lt_of_eq (m := 171) (by decide) rfl))))))))))))))))))))) ?_
            apply Exists.intro
            refine ⟨fun w' hw => by (go_simp; exact rfl), ?_⟩
            refine reg_load 19 HTT.out rfl (by kernel_rfl) (by decide) (fun _ _ _ _ h => h) HS.out (wanted_yes (g := 18) (p := true) (d := 149) rfl (by kernel_rfl) (at_eq (sz_put (sz_put (sz_put (sz_put (sz_put (sz_put (sz_put (sz_put (sz_put (sz_put (sz_put (sz_put (sz_put (sz_put (sz_put (sz_put (sz_put (sz_put ((Nat.lt_of_lt_of_eq (m := 171) (by decide) rfl)))))))))))))))))))))) ?_
            apply Exists.intro
            refine ⟨fun w' hw => by (have k0 := (hw.cell (p := ⟨s8, 0, none⟩) HS8.out).trans G0.out; have k1 := (hw.cell (p := ⟨s8, 1, none⟩) HS8.out).trans G1.out; have k2 := (hw.cell (p := ⟨s8, 2, none⟩) HS8.out).trans G2.out; go_simp; exact rfl), ?_⟩
            refine reg_load 20 HTT.out rfl (by kernel_rfl) (by decide) (fun _ _ _ _ h => h) HS.out (wanted_yes (g := 18) (p := true) (d := 149) rfl (by kernel_rfl) (at_ne (by decide) (at_eq (sz_put (sz_put (sz_put (sz_put (sz_put (sz_put (sz_put (sz_put (sz_put (sz_put (sz_put (sz_put (sz_put (sz_put (sz_put (sz_put (sz_put (sz_put ((Nat.lt_of_lt_of_eq (m := 171) (by decide) rfl))))))))))))))))))))))) ?_
            apply Exists.intro
            refine ⟨fun w' hw => by (go_simp; exact rfl), ?_⟩
            refine reg_load 21 HTT.out rfl (by kernel_rfl) (by decide) (fun _ _ _ _ h => h) HS.out (wanted_yes (g := 18) (p := true) (d := 149) rfl (by kernel_rfl) (at_ne (by decide) (at_ne (by decide) (at_eq (sz_put (sz_put (sz_put (sz_put (sz_put (sz_put (sz_put (sz_put (sz_put (sz_put (sz_put (sz_put (sz_put (sz_put (sz_put (sz_put (sz_put (sz_put ((Nat.lt_of_lt_of_eq (m := 171) (by decide) rfl)))))))))))))))))))))))) ?_
            apply Exists.intro
            refine ⟨fun w' hw => by (have hn := slot_ne w' 0 0 0; go_simp; exact rfl), ?_⟩
            refine reg_load 22 HTT.out rfl (by kernel_rfl) (by decide) (fun _ _ _ _ h => h) HS.out (wanted_yes (g := 15) (p := false) (d := 146) rfl (by kernel_rfl) (at_ne (by decide) (at_ne (by decide) (at_ne (by decide) (at_ne (by decide) (at_ne (by decide) (at_ne (by decide) (at_eq (sz_put (sz_put (sz_put (sz_put (sz_put (sz_put (sz_put (sz_put (sz_put (sz_put (sz_put (sz_put (sz_put (sz_put (sz_put ((Nat.lt_of_lt_of_eq (m := 171) (by decide) rfl))))))))))))))))))))))))) ?_
            apply Exists.intro
            refine ⟨fun w' hw => by (go_simp; exact rfl), ?_⟩
            refine reg_load 23 HTT.out rfl (by kernel_rfl) (by decide) (fun _ _ _ _ h => h) HS.out rfl ?_
            apply Exists.intro
            refine ⟨fun w' hw => by (go_simp; exact rfl), ?_⟩
            refine reg_load 24 HTT.out rfl (by kernel_rfl) (by decide) (fun _ _ _ _ h => h) HS.out rfl ?_
            apply Exists.intro
            refine ⟨fun w' hw => by (go_simp; exact rfl), ?_⟩
            refine reg_load 25 HTT.out rfl (by kernel_rfl) (by decide) (fun _ _ _ _ h => h) HS.out (wanted_yes (g := 24) (p := false) (d := 155) rfl (by kernel_rfl) (at_eq (sz_put (sz_put (sz_put (sz_put (sz_put (sz_put (sz_put (sz_put (sz_put (sz_put (sz_put (sz_put (sz_put (sz_put (sz_put (sz_put (sz_put (sz_put (sz_put (sz_put (sz_put (sz_put (sz_put (sz_put ((Nat.lt_of_lt_of_eq (m := 171) (by decide) rfl)))))))))))))))))))))))))))) ?_
            apply Exists.intro
            refine ⟨fun w' hw => by (go_simp; exact rfl), ?_⟩
            refine reg_load 28 HTT.out rfl (by kernel_rfl) (by decide) (fun _ _ _ _ h => h) HS.out (wanted_yes (g := 24) (p := false) (d := 155) rfl (by kernel_rfl) (at_ne (by decide) (at_eq (sz_put (sz_put (sz_put (sz_put (sz_put (sz_put (sz_put (sz_put (sz_put (sz_put (sz_put (sz_put (sz_put (sz_put (sz_put (sz_put (sz_put (sz_put (sz_put (sz_put (sz_put (sz_put (sz_put (sz_put ((Nat.lt_of_lt_of_eq (m := 171) (by decide) rfl))))))))))))))))))))))))))))) ?_
            apply Exists.intro
            refine ⟨fun w' hw => by (go_simp; exact rfl), ?_⟩
            refine reg_only 26 rfl (by kernel_rfl) (wanted_yes (g := 24) (p := false) (d := 155) rfl (by kernel_rfl) (at_ne (by decide) (at_ne (by decide) (at_eq (sz_put (sz_put (sz_put (sz_put (sz_put (sz_put (sz_put (sz_put (sz_put (sz_put (sz_put (sz_put (sz_put (sz_put (sz_put (sz_put (sz_put (sz_put (sz_put (sz_put (sz_put (sz_put (sz_put (sz_put ((Nat.lt_of_lt_of_eq (m := 171) (by decide) rfl)))))))))))))))))))))))))))))) ?_
            unfold Oper.wp
            go_simp
            refine (all_n _ _ _ n6 _ L2 (P8.out.later HS.out).m.ss HLEN.out hn6).mono ?_
            rintro e w10 ⟨A10, c10, rfl, hr10, hb10⟩
            have HS10 := Lib.hid (HS.out.trans (hb10.mono HS.out.size))
            have R10 := Lib.hid hr10
            clear hb10 hr10 HS
            refine ⟨HS10.out, ?_⟩
            refine reg_only 27 rfl (by kernel_rfl) (wanted_yes (g := 24) (p := false) (d := 155) rfl (by kernel_rfl) (rfl)) ?_
            unfold Oper.wp
            go_simp
            refine (to_any A10 n6 c10 _ L2 _ R10.out (Nat.le_refl _) hn6).mono ?_
            rintro e w11 ⟨A11, c11, rfl, hr11, hb11⟩
            have HS11 := Lib.hid (HS10.out.trans (hb11.mono HS10.out.size))
            have R11 := Lib.hid hr11
            clear hb11 hr11 HS10 R10
            refine ⟨HS11.out, ?_⟩
            refine reg_only 29 rfl (by kernel_rfl) (wanted_yes (g := 24) (p := false) (d := 155) rfl (by kernel_rfl) (rfl)) ?_
            unfold Oper.wp
            go_simp
            refine (req_n A11 _ n6 c11 c6 L2 _ _ _ R11.out (P8.out.later HS11.out).m.rs).mono ?_
            rintro e w12 ⟨rfl, hb12⟩
            have HS := Lib.hid (HS11.out.trans (hb12.mono HS11.out.size))
            clear hb12 HS11 R11
            refine ⟨HS.out, ?_⟩
            refine reg_load 30 HTT.out rfl (by kernel_rfl) (by decide) (fun _ _ _ _ h => h) HS.out (wanted_yes (g := 24) (p := false) (d := 155) rfl (by kernel_rfl) (rfl)) ?_
            apply Exists.intro
            refine ⟨fun w' hw => by (go_simp; exact rfl), ?_⟩
            refine reg_load 31 HTT.out rfl (by kernel_rfl) (by decide) (fun _ _ _ _ h => h) HS.out rfl ?_
            apply Exists.intro
            refine ⟨fun w' hw => by (go_simp; exact rfl), ?_⟩
            refine reg_load 32 HTT.out rfl (by kernel_rfl) (by decide) (fun _ _ _ _ h => h) HS.out rfl ?_
            apply Exists.intro
            refine ⟨fun w' hw => by (go_simp; exact rfl), ?_⟩
            refine reg_load 33 HTT.out rfl (by kernel_rfl) (by decide) (fun _ _ _ _ h => h) HS.out (wanted_yes (g := 32) (p := false) (d := 163) rfl (by kernel_rfl) (at_eq (sz_put (sz_put ((Nat.lt_of_lt_of_eq (m := 171) (by decide) rfl)))))) ?_
            apply Exists.intro
            refine ⟨fun w' hw => by (go_simp; exact rfl), ?_⟩
            refine reg_load 35 HTT.out rfl (by kernel_rfl) (by decide) (fun _ _ _ _ h => h) HS.out (wanted_yes (g := 32) (p := false) (d := 163) rfl (by kernel_rfl) (at_ne (by decide) (at_eq (sz_put (sz_put ((Nat.lt_of_lt_of_eq (m := 171) (by decide) rfl))))))) ?_
            apply Exists.intro
            refine ⟨fun w' hw => by (go_simp; exact rfl), ?_⟩
            refine reg_only 34 rfl (by kernel_rfl) (wanted_yes (g := 32) (p := false) (d := 163) rfl (by kernel_rfl) (at_ne (by decide) (at_ne (by decide) (at_eq (sz_put (sz_put ((Nat.lt_of_lt_of_eq (m := 171) (by decide) rfl)))))))) ?_
            unfold Oper.wp
            go_simp
            refine (waiting_any _ _ _ _ L2 (P8.out.later HS.out).m.ss (by rw [HLEN.out]; exact hn6)).mono ?_
            rintro e w13 ⟨rfl, hb13⟩
            have HS13 := Lib.hid (HS.out.trans (hb13.mono HS.out.size))
            clear hb13 HS
            refine ⟨HS13.out, ?_⟩
            refine reg_only 36 rfl (by kernel_rfl) (wanted_yes (g := 32) (p := false) (d := 163) rfl (by kernel_rfl) (rfl)) ?_
            unfold Oper.wp
            go_simp
            refine (rwaiting_any _ n6 c6 _ L2 _ (P8.out.later HS13.out).m.rs (Nat.le_refl _)).mono ?_
            rintro e w14 ⟨rfl, hb14⟩
            have HS := Lib.hid (HS13.out.trans (hb14.mono HS13.out.size))
            clear hb14 HS13
            refine ⟨HS.out, ?_⟩
            refine reg_load 37 HTT.out rfl (by kernel_rfl) (by decide) (fun _ _ _ _ h => h) HS.out (wanted_yes (g := 32) (p := false) (d := 163) rfl (by kernel_rfl) (rfl)) ?_
            apply Exists.intro
            refine ⟨fun w' hw => by (go_simp; exact rfl), ?_⟩
            refine reg_load 38 HTT.out rfl (by kernel_rfl) (by decide) (fun _ _ _ _ h => h) HS.out rfl ?_
            apply Exists.intro
            refine ⟨fun w' hw => by (go_simp; exact rfl), ?_⟩
            refine reg_done (by kernel_rfl) ?_
            have PZ := Lib.hid (P8.out.later HS.out).m
            clear P8 HS G0 G1 G2 HS8
            go_wp2_with fail
            go_roundw
            case rel => exact ⟨k + 1, p, r, _, n6, c6, L2, by omega, by go_num, rfl, rfl, HL2.out, PZ.out⟩
            case measure => simp [intOf]; omega
    · obtain rfl : k = N := by omega
      have hbel := hpm.bel
      clear hpm
      go_wp2_with fail
      go_ret
      exact ⟨rfl, hbel⟩
end Go.Proofs.YtbedboekfkobjaaGreatDoor.St
