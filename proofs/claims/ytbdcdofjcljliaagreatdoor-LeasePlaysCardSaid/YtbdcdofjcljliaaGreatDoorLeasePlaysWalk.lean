/- The walk of hackneylaw14.LeasePlays. -/
import Derived.Test.YtbdcdofjcljliaaGreatDoorLeaseKit
import Derived.Test.YtbdcdofjcljliaaGreatDoorLeaseC
import Derived.Test.YtbdcdofjcljliaaGreatDoorLeaseRefC
import Derived.Test.YtbdcdofjcljliaaGreatDoorLeaseRefD
import Derived.Test.YtbdcdofjcljliaaGreatDoorLeaseRefE
import Derived.Test.YtbdcdofjcljliaaGreatDoorLeaseRefF
import Derived.Test.YtbdcdofjcljliaaGreatDoorLeaseClone
import Derived.Test.YtbdcdofjcljliaaGreatDoorLeaseTold
import Derived.Test.YtbdcdofjcljliaaGreatDoorAwake14
import Derived.Deep.CutRange
import Derived.Deep.CutBlock
namespace Go.Proofs.YtbdcdofjcljliaaGreatDoor.Le
open Go.ChangeShapes Go.WideShapes Go.ChangeAt Go.RowKit Go.Deep Go.Maps Rw Hi Mt Ck
set_option linter.unusedVariables false

section
variable (leak : Int) (d : Da) (D : List (Int × Ls)) (M : List Int) (T : List (Int × Int)) (w : World)
theorem rendU (id th : Int) (h : Dk w d D M T) (hnd : Nd D) (hn : D.length ≤ 1000) (hn2 : M.length ≤ 1000) (hn3 : T.length ≤ 1000) :
    Calls Tryz.prog 10 #[.agg #[.int .u64 leak, .slice d.A d.n d.c, .slice d.A2 d.n2 d.c2, .slice d.A3 d.n3 d.c3], .int .u64 id, .int .i64 th] w fun e w' => ∃ f : Da, e = .returned (.tuple #[.agg #[.int .u64 leak, .slice f.A f.n f.c, .slice f.A2 f.n2 f.c2, .slice f.A3 f.n3 f.c3], .int .i64 (wr D id th)]) ∧ Dk w' f (if holds D id th = true then Mt.wo D id else D) M (if holds D id th = true then Wl.wo T id else T) ∧ Below w.heap.size w w' :=
  rend_any leak d.A d.A2 d.A3 d.n d.c d.n2 d.c2 d.n3 d.c3 D M T w id th h hnd (by have := h.l.len; omega) (by have := h.m.len; omega) (by have := h.t.len; omega)
theorem rmarkU (id th : Int) (h : Dk w d D M T) (hnd : Nd D) (hn : D.length ≤ 1000) (hn2 : M.length ≤ 1000) (hn3 : T.length ≤ 1000) :
    Calls Tryz.prog 12 #[.agg #[.int .u64 leak, .slice d.A d.n d.c, .slice d.A2 d.n2 d.c2, .slice d.A3 d.n3 d.c3], .int .u64 id, .int .i64 th] w fun e w' => ∃ f : Da, e = .returned (.tuple #[.agg #[.int .u64 leak, .slice f.A f.n f.c, .slice f.A2 f.n2 f.c2, .slice f.A3 f.n3 f.c3], .int .i64 (wr D id th)]) ∧ Dk w' f D (if holds D id th = true then M.filter (· != id) ++ [id] else M) T ∧ Below w.heap.size w w' :=
  rmark_any leak d.A d.A2 d.A3 d.n d.c d.n2 d.c2 d.n3 d.c3 D M T w id th h hnd (by have := h.l.len; omega) (by have := h.m.len; omega) (by have := h.t.len; omega)
theorem rforgetU (id : Int) (h : Dk w d D M T) (hn2 : M.length ≤ 1000) :
    Calls Tryz.prog 14 #[.agg #[.int .u64 leak, .slice d.A d.n d.c, .slice d.A2 d.n2 d.c2, .slice d.A3 d.n3 d.c3], .int .u64 id] w fun e w' => ∃ f : Da, e = .returned (.agg #[.int .u64 leak, .slice f.A f.n f.c, .slice f.A2 f.n2 f.c2, .slice f.A3 f.n3 f.c3]) ∧ Dk w' f D (M.filter (· != id)) T ∧ Below w.heap.size w w' := by
  refine (rforget_any leak d.A d.A2 d.A3 d.n d.c d.n2 d.c2 d.n3 d.c3 D M T w id h (by have := h.m.len; omega)).mono ?_
  rintro e w' ⟨A, c, rfl, h1, _, h2⟩
  exact ⟨⟨d.A, d.n, d.c, A, (M.filter (· != id)).length, c, d.A3, d.n3, d.c3⟩, rfl, h1, h2⟩
theorem rbeginU (id th now : Int) (h : Dk w d D M T) (hs : Sd D) (tms : Wl.Tms T) (hid : U64 id) (hnow : U64 now) (hlk : U64 leak) (hn : D.length ≤ 1000) (hn2 : M.length ≤ 1000) (hn3 : T.length ≤ 1000) :
    Calls Tryz.prog 17 #[.agg #[.int .u64 leak, .slice d.A d.n d.c, .slice d.A2 d.n2 d.c2, .slice d.A3 d.n3 d.c3], .int .u64 id, .int .i64 th, .int .u64 now] w fun e w' => ∃ (f : Da) (D' : List (Int × Ls)), e = .returned (.tuple #[.agg #[.int .u64 leak, .slice f.A f.n f.c, .slice f.A2 f.n2 f.c2, .slice f.A3 f.n3 f.c3], .int .i64 (bE D id th)]) ∧ (bL D id th now).Perm D' ∧ Sd D' ∧ Dk w' f D' M (bT leak D T id th now) ∧ Below w.heap.size w w' :=
  rbegin_any leak d.A d.A2 d.A3 d.n d.c d.n2 d.c2 d.n3 d.c3 D M T w id th now h hs tms hid hnow hlk (by have := h.l.len; omega) (by have := h.m.len; omega) (by have := h.t.len; omega)
theorem rleaksU (now : Int) (h : Dk w d D M T) (hs : Sd D) (tk : Tk D T) (tms : Wl.Tms T) (hn : D.length ≤ 1000) (hn2 : M.length ≤ 1000) (hn3 : T.length ≤ 1000) :
    Calls Tryz.prog 15 #[.agg #[.int .u64 leak, .slice d.A d.n d.c, .slice d.A2 d.n2 d.c2, .slice d.A3 d.n3 d.c3], .int .u64 now] w fun e w' => ∃ (f : Da) (A6 : Option Addr) (c6 : Nat), e = .returned (.tuple #[.agg #[.int .u64 leak, .slice f.A f.n f.c, .slice f.A2 f.n2 f.c2, .slice f.A3 f.n3 f.c3], .slice A6 (Wl.due T now).length c6]) ∧ Dk w' f (fld D ((Wl.due T now).map Prod.fst)) M (Wl.left T now) ∧
      Rd (Value.int .u64) w' w'.heap.size A6 (Wl.due T now).length c6 ((Wl.due T now).map Prod.fst) ∧ Below w.heap.size w w' :=
  rleaks_any leak d.A d.A2 d.A3 d.n d.c d.n2 d.c2 d.n3 d.c3 D M T w now h hs tk tms (by have := h.l.len; omega) (by have := h.m.len; omega) (by have := h.t.len; omega)
theorem toldU (x : At) (id th : Int) (h : Bk w x leak D (mk M) T) (hd : Dk w d D M T) (hs : Sd D) (hid : U64 id) (hl : D.length ≤ 200) (hM : M.length ≤ 1000) (hT : T.length ≤ 1000) :
    Calls Tryz.prog 18 #[ptr x.p, .agg #[.int .u64 leak, .slice d.A d.n d.c, .slice d.A2 d.n2 d.c2, .slice d.A3 d.n3 d.c3], .int .u64 id, .int .i64 th] w fun e w' => e = .returned (.bool true) ∧ Below w.heap.size w w' :=
  told_any w x leak d.A d.A2 d.A3 d.n d.c d.n2 d.c2 d.n3 d.c3 D M T id th h hd hs hid hl hM hT
end

set_option maxRecDepth 100000 in
theorem plays_long (leak : Int) (A : Option Addr) (n c : Nat) (w : World) (hT : Tb.Tabs w) (hn : n ≤ 9223372036854775807) (h : 100 < n) :
    Calls Tryz.prog 3 #[.int .u64 leak, .slice A n c] w fun e w' => e = .returned (.bool true) ∧ Below w.heap.size w w' := by
  have HT := Lib.hid hT
  clear hT
  have t0 : decide ((100 : Int) < (n : Int)) = true := decide_eq_true (by omega)
  have t0' : decide (100 < n) = true := decide_eq_true (by omega)
  clear h
  go_enter Tryz.func3, Tryz.ntmps3
  go_wp2_with fail
  refine (awake14_any _ HT.out).mono ?_
  rintro e w1 ⟨rfl, hb1⟩
  go_wp2_with fail
  go_ret
  exact ⟨rfl, hb1⟩
set_option maxHeartbeats 40000000 in
set_option maxRecDepth 100000 in
theorem plays_any (leak : Int) (A0 : Option Addr) (N c0 : Nat) (xs : List Ax) (w : World) (hT : Tb.Tabs w) (hlk : U64 leak) (h : Rs encA 4 w w.heap.size A0 N c0 xs) (hN : N ≤ 100) (hok : ∀ x ∈ xs, (0 ≤ x.1 ∧ x.1 ≤ 255) ∧ U64 x.2.1 ∧ U64 x.2.2.2) :
    Calls Tryz.prog 3 #[.int .u64 leak, .slice A0 N c0] w fun e w' => e = .returned (.bool true) ∧ Below w.heap.size w w' := by
  have HT := Lib.hid hT
  have R' := Lib.hid h
  have HK := Lib.hid hok
  have HLK := Lib.hid hlk
  have t0 : decide ((100 : Int) < (N : Int)) = false := decide_eq_false (by omega)
  have t0' : decide (100 < N) = false := decide_eq_false (by omega)
  clear hT h hok hlk
  go_enter Tryz.func3, Tryz.ntmps3
  go_wp2_with fail
  refine (awake14_any _ HT.out).mono ?_
  rintro e w1 ⟨rfl, hb1⟩
  go_wp2_with fail
  refine (new_any _ leak).mono ?_
  rintro e w2 ⟨x, rfl, k2, b2, xp, xa, xb, xq, xm⟩
  have hs1 := hb1.size
  have hs2 := b2.size
  have hbw : Below w.heap.size w w2 := hb1.trans (b2.mono hs1)
  have hba : Below w2.heap.size w2 (w2.alloc (.cells #[.int .u64 leak, .slice none 0 0, .slice none 0 0, .slice none 0 0] 31)) := (Below.refl _ _).alloc (Nat.le_refl _) _
  have S0 : Hid (Pq w (w2.alloc (.cells #[.int .u64 leak, .slice none 0 0, .slice none 0 0, .slice none 0 0] 31)) x ⟨none, 0, 0, none, 0, 0, none, 0, 0⟩ leak [] [] [] w2.heap.size) := Lib.hid
    ⟨k2.later hba, ⟨Rs.nil_, Rd.nil_, Rs.nil_, .inl ⟨rfl, rfl⟩, .inl ⟨rfl, rfl⟩⟩, V4.new _ _ _ _ _ _, hbw.trans (hba.mono hbw.size), ⟨by omega, by omega, by omega, by omega, by omega⟩, by omega⟩
  clear k2 b2 hb1 xp xa xb xq xm hs1 hs2 hbw hba t0 t0'
  go_upto_region 6 with (fail)
  generalize (w2.alloc (.cells #[.int .u64 leak, .slice none 0 0, .slice none 0 0, .slice none 0 0] 31)) = W2 at *
  generalize w2.heap.size = r at *
  go_wp2_with fail
  go_loopw [5, 25] (fun s5 i wr => ∃ (k : Nat) (x : At) (d : Da) (D : List (Int × Ls)) (M : List Int) (T : List (Int × Int)), k ≤ N ∧ i = .int .i64 k ∧ s5 = ptr x.p ∧ Hid (Pv D M T k) ∧ Hid (Pq w wr x d leak D M T r)) (fun _ i _ => N - (intOf i).toNat)
  case atStart => exact ⟨0, x, _, [], [], [], Nat.zero_le _, rfl, rfl, Lib.hid Pv.nil, S0⟩
  case round =>
    clear S0
    obtain ⟨k, x, d, D, M, T, hk, rfl, rfl, HPV, hpq⟩ := hrel
    have HWT := Lib.hid hpq.out.bk.wheel.tms
    have HDM : Hid (D.length ≤ k ∧ M.length ≤ k ∧ T.length ≤ k) := Lib.hid ⟨HPV.out.dl, HPV.out.ml, HPV.out.tl⟩
    by_cases hlt : k < N
    · obtain ⟨b, o, xx, rfl, hb, hx, c1, c2, c3, c4⟩ := actA_at R'.out hlt
      obtain ⟨a0, a1, a2, a3⟩ := xx
      have hk8 := HK.out _ (List.mem_of_getElem? hx)
      have hbel := hpq.out.bel
      have d0 := (hbel.cell (p := ⟨b, o + k * 4, none⟩) hb).trans c1
      have d1 := (hbel.cell (p := ⟨b, o + k * 4 + 1, none⟩) hb).trans c2
      have d2 := (hbel.cell (p := ⟨b, o + k * 4 + 2, none⟩) hb).trans c3
      have d3 := (hbel.cell (p := ⟨b, o + k * 4 + 3, none⟩) hb).trans c4
      simp only at d0 d1 d2 d3 hk8
      have P0 := Lib.hid (hpq.out.box a0 a1 a2 a3)
      have HK8 := Lib.hid hk8
      clear c1 c2 c3 c4 hx hbel hk8 hpq
      go_upto_if 31 with (fail)
      generalize (wr.alloc (.cells #[.int .u8 a0, .int .u64 a1, .int .i64 a2, .int .u64 a3] 33)) = W0 at *
      generalize hq0 : wr.heap.size = q at *
      clear d0 d1 d2 d3 hq0
      go_cut [5, 9, 25] from 25 to 144 (fun s5 s9 s25 wx => ∃ x' : At, s5 = ptr x'.p ∧ s25 = .int .i64 k ∧ Hid (Px w wx x' d d leak D M T D M T r q a0 a1 a2 a3))
      case first =>
        by_cases h128 : 128 ≤ a0
        · as_aux_lemma =>
            have t128 : decide ((128 : Int) ≤ a0) = true := decide_eq_true h128
            rw [t128]
            clear h128
            go_wp2_with fail
            refine (clone_book _ x leak D (mk M) T P0.out.bk).mono ?_
            rintro e w2 ⟨x2, rfl, k2, hb2, p1, p2, p3, p4, p5⟩
            have P2 := Lib.hid (P0.out.fresh k2 hb2 ⟨p1, p2, p3, p4, p5⟩)
            have O2 := Lib.hid (P0.out.bk.later hb2)
            have HX : Hid ((x.a < W0.heap.size ∧ x.m < W0.heap.size) ∧ (w.heap.size ≤ x.a ∧ w.heap.size ≤ x.m) ∧ (W0.heap.size ≤ x2.p ∧ W0.heap.size ≤ x2.a ∧ W0.heap.size ≤ x2.b ∧ W0.heap.size ≤ x2.q ∧ W0.heap.size ≤ x2.m)) := Lib.hid (by
              obtain ⟨l1, l2, l3, l4, l5⟩ := P0.out.bk.lt
              obtain ⟨m1, m2, m3, m4, m5⟩ := P0.out.lo
              exact ⟨⟨l2, l5⟩, ⟨m2, m5⟩, p1, p2, p3, p4, p5⟩)
            have u1 := P2.out.b1
            have u2 := P2.out.b2
            clear k2 hb2 p1 p2 p3 p4 p5
            go_wp2_with fail
            refine (beginU _ x leak D M T a1 0 0 O2.out HK8.out.2.1 ⟨by omega, by omega⟩ HLK.out (by have := HDM.out; omega) (by have := HDM.out; omega)).mono ?_
            rintro e w3 ⟨rfl, k3, f3⟩
            have P3 := Lib.hid (P2.out.aside O2.out HX.out.1 HX.out.2.1 HX.out.2.2 f3)
            have O3 := Lib.hid k3
            have HL3 : Hid ((bL D a1 0 0).length ≤ 200 ∧ (bT leak D T a1 0 0).length ≤ 200) := Lib.hid (by
              have h1 := bL_len D a1 0 0
              have h2 := bT_len leak D (T := T) a1 0 0 (by have := HDM.out; omega)
              have := HDM.out
              omega)
            generalize bL D a1 0 0 = L3 at *
            generalize bT leak D T a1 0 0 = T3 at *
            have u1 := P3.out.b1
            have u2 := P3.out.b2
            clear k3 f3 P2 O2
            go_wp2_with fail
            refine (leaks_any _ x leak L3 (mk M) T3 1152921504606846976 O3.out ⟨by omega, by omega⟩ (by have := HL3.out; omega) (by have := HL3.out; omega)).mono ?_
            rintro e w4 ⟨A4, c4, rfl, -, k4, f4⟩
            have P4 := Lib.hid (P3.out.aside O3.out HX.out.1 HX.out.2.1 HX.out.2.2 f4)
            have O4 := Lib.hid k4
            generalize flgs L3 ((Wl.due T3 1152921504606846976).map Prod.fst) = L4 at *
            generalize Wl.left T3 1152921504606846976 = T4 at *
            generalize (Wl.due T3 1152921504606846976).length = m4 at *
            have u1 := P4.out.b1
            have u2 := P4.out.b2
            clear k4 f4 P3 O3
            go_wp2_with fail
            refine (endU _ x leak L4 M T4 a1 a2 O4.out HK8.out.2.1).mono ?_
            rintro e w5 ⟨rfl, k5, f5⟩
            have P5 := Lib.hid (P4.out.aside O4.out HX.out.1 HX.out.2.1 HX.out.2.2 f5)
            clear k5 f5 P4 O4 u1 u2
            go_wp2_with fail
            go_meet
            case rel => exact ⟨x2, rfl, rfl, P5⟩
        · have t128 : decide ((128 : Int) ≤ a0) = false := decide_eq_false h128
          rw [t128]
          clear h128
          go_wp2_with fail
          go_meet
          case rel => exact ⟨x, rfl, rfl, P0⟩
      case rest =>
        clear P0
        obtain ⟨x, rfl, rfl, P1⟩ := hcut
        have b0 := P1.out.b0
        have b1 := P1.out.b1
        have b2 := P1.out.b2
        have b3 := P1.out.b3
        have hk8 := HK8.out
        go_upto_block 2 with fail
        go_cut [10, 11, 12, 13, 25] from 25 to 144 (fun s10 s11 s12 s13 s25 wx => ∃ (d' : Da) (D' : List (Int × Ls)) (M' : List Int) (T' : List (Int × Int)) (ev : Int), s10 = .int .i64 ev ∧ s11 = .int .i64 ev ∧ s25 = .int .i64 k ∧ Hid (Pv D' M' T' (k + 1)) ∧ Hid (Px w wx x d' d' leak D' M' T' D' M' T' r q a0 a1 a2 a3))
        case first =>
          by_cases h3 : a0 % 8 = 3
          · as_aux_lemma =>
              have m3 : (a0 % 8 == 3) = true := by rw [h3]; rfl
              have m3t : (a0.tmod 8 == 3) = true := by rw [Int.tmod_eq_emod_of_nonneg hk8.1.1, h3]; rfl
              have m4 : (a0 % 8 == 4) = false := by rw [h3]; rfl
              have m4t : (a0.tmod 8 == 4) = false := by rw [Int.tmod_eq_emod_of_nonneg hk8.1.1, h3]; rfl
              have m5 : (a0 % 8 == 5) = false := by rw [h3]; rfl
              have m5t : (a0.tmod 8 == 5) = false := by rw [Int.tmod_eq_emod_of_nonneg hk8.1.1, h3]; rfl
              have m6 : (a0 % 8 == 6) = false := by rw [h3]; rfl
              have m6t : (a0.tmod 8 == 6) = false := by rw [Int.tmod_eq_emod_of_nonneg hk8.1.1, h3]; rfl
              have m7 : (a0 % 8 == 7) = false := by rw [h3]; rfl
              have m7t : (a0.tmod 8 == 7) = false := by rw [Int.tmod_eq_emod_of_nonneg hk8.1.1, h3]; rfl
              clear h3
              go_wp2_with fail
              refine (endU _ x leak D M T a1 a2 P1.out.bk HK8.out.2.1).mono ?_
              rintro e w4 ⟨rfl, k4, f4⟩
              have P2 := Lib.hid (P1.out.book k4 f4 (.inl ⟨rfl, rfl⟩))
              clear k4 f4 P1 b0 b1 b2 b3
              have u0 := P2.out.b0
              have u1 := P2.out.b1
              have u2 := P2.out.b2
              have u3 := P2.out.b3
              obtain ⟨⟨v0, v1, v2, v3⟩, z0, z1, z2, z3⟩ := P2.out.vd
              go_wp2_with fail
              refine (rendU leak d D M T _ a1 a2 P2.out.dk HPV.out.sd.nd (by have := HDM.out; omega) (by have := HDM.out; omega) (by have := HDM.out; omega)).mono ?_
              rintro e w5 ⟨f, rfl, k5, hb5⟩
              have P3 := Lib.hid (P2.out.doc k5 hb5)
              clear k5 hb5
              clear u0 u1 u2 u3 v0 v1 v2 v3 z0 z1 z2 z3 P2
              have u0 := P3.out.b0
              have u1 := P3.out.b1
              have u2 := P3.out.b2
              have u3 := P3.out.b3
              obtain ⟨⟨v0, v1, v2, v3⟩, z0, z1, z2, z3⟩ := P3.out.vd
              go_wp2_with fail
              go_meet
              case rel => exact ⟨f, _, _, _, Le.wr D a1 a2, rfl, rfl, rfl, Lib.hid (HPV.out.end_ a1 a2), Lib.hid P3.out.put⟩
          by_cases h4 : a0 % 8 = 4
          · as_aux_lemma =>
              have m3 : (a0 % 8 == 3) = false := by rw [h4]; rfl
              have m3t : (a0.tmod 8 == 3) = false := by rw [Int.tmod_eq_emod_of_nonneg hk8.1.1, h4]; rfl
              have m4 : (a0 % 8 == 4) = true := by rw [h4]; rfl
              have m4t : (a0.tmod 8 == 4) = true := by rw [Int.tmod_eq_emod_of_nonneg hk8.1.1, h4]; rfl
              have m5 : (a0 % 8 == 5) = false := by rw [h4]; rfl
              have m5t : (a0.tmod 8 == 5) = false := by rw [Int.tmod_eq_emod_of_nonneg hk8.1.1, h4]; rfl
              have m6 : (a0 % 8 == 6) = false := by rw [h4]; rfl
              have m6t : (a0.tmod 8 == 6) = false := by rw [Int.tmod_eq_emod_of_nonneg hk8.1.1, h4]; rfl
              have m7 : (a0 % 8 == 7) = false := by rw [h4]; rfl
              have m7t : (a0.tmod 8 == 7) = false := by rw [Int.tmod_eq_emod_of_nonneg hk8.1.1, h4]; rfl
              clear h4
              go_wp2_with fail
              refine (endU _ x leak D M T a1 a2 P1.out.bk HK8.out.2.1).mono ?_
              rintro e w4 ⟨rfl, k4, f4⟩
              have P2 := Lib.hid (P1.out.book k4 f4 (.inl ⟨rfl, rfl⟩))
              clear k4 f4 P1 b0 b1 b2 b3
              have u0 := P2.out.b0
              have u1 := P2.out.b1
              have u2 := P2.out.b2
              have u3 := P2.out.b3
              obtain ⟨⟨v0, v1, v2, v3⟩, z0, z1, z2, z3⟩ := P2.out.vd
              go_wp2_with fail
              refine (rendU leak d D M T _ a1 a2 P2.out.dk HPV.out.sd.nd (by have := HDM.out; omega) (by have := HDM.out; omega) (by have := HDM.out; omega)).mono ?_
              rintro e w5 ⟨f, rfl, k5, hb5⟩
              have P3 := Lib.hid (P2.out.doc k5 hb5)
              clear k5 hb5
              clear u0 u1 u2 u3 v0 v1 v2 v3 z0 z1 z2 z3 P2
              have u0 := P3.out.b0
              have u1 := P3.out.b1
              have u2 := P3.out.b2
              have u3 := P3.out.b3
              obtain ⟨⟨v0, v1, v2, v3⟩, z0, z1, z2, z3⟩ := P3.out.vd
              go_wp2_with fail
              go_meet
              case rel => exact ⟨f, _, _, _, Le.wr D a1 a2, rfl, rfl, rfl, Lib.hid (HPV.out.end_ a1 a2), Lib.hid P3.out.put⟩
          by_cases h5 : a0 % 8 = 5
          · as_aux_lemma =>
              have m3 : (a0 % 8 == 3) = false := by rw [h5]; rfl
              have m3t : (a0.tmod 8 == 3) = false := by rw [Int.tmod_eq_emod_of_nonneg hk8.1.1, h5]; rfl
              have m4 : (a0 % 8 == 4) = false := by rw [h5]; rfl
              have m4t : (a0.tmod 8 == 4) = false := by rw [Int.tmod_eq_emod_of_nonneg hk8.1.1, h5]; rfl
              have m5 : (a0 % 8 == 5) = true := by rw [h5]; rfl
              have m5t : (a0.tmod 8 == 5) = true := by rw [Int.tmod_eq_emod_of_nonneg hk8.1.1, h5]; rfl
              have m6 : (a0 % 8 == 6) = false := by rw [h5]; rfl
              have m6t : (a0.tmod 8 == 6) = false := by rw [Int.tmod_eq_emod_of_nonneg hk8.1.1, h5]; rfl
              have m7 : (a0 % 8 == 7) = false := by rw [h5]; rfl
              have m7t : (a0.tmod 8 == 7) = false := by rw [Int.tmod_eq_emod_of_nonneg hk8.1.1, h5]; rfl
              clear h5
              go_wp2_with fail
              refine (markU _ x leak D M T a1 a2 P1.out.bk HK8.out.2.1 (by have := HDM.out; omega)).mono ?_
              rintro e w4 ⟨rfl, k4, f4⟩
              have P2 := Lib.hid (P1.out.book k4 f4 (.inr ⟨rfl, rfl⟩))
              clear k4 f4 P1 b0 b1 b2 b3
              have u0 := P2.out.b0
              have u1 := P2.out.b1
              have u2 := P2.out.b2
              have u3 := P2.out.b3
              obtain ⟨⟨v0, v1, v2, v3⟩, z0, z1, z2, z3⟩ := P2.out.vd
              go_wp2_with fail
              refine (rmarkU leak d D M T _ a1 a2 P2.out.dk HPV.out.sd.nd (by have := HDM.out; omega) (by have := HDM.out; omega) (by have := HDM.out; omega)).mono ?_
              rintro e w5 ⟨f, rfl, k5, hb5⟩
              have P3 := Lib.hid (P2.out.doc k5 hb5)
              clear k5 hb5
              clear u0 u1 u2 u3 v0 v1 v2 v3 z0 z1 z2 z3 P2
              have u0 := P3.out.b0
              have u1 := P3.out.b1
              have u2 := P3.out.b2
              have u3 := P3.out.b3
              obtain ⟨⟨v0, v1, v2, v3⟩, z0, z1, z2, z3⟩ := P3.out.vd
              go_wp2_with fail
              go_meet
              case rel => exact ⟨f, _, _, _, Le.wr D a1 a2, rfl, rfl, rfl, Lib.hid (HPV.out.mark a1 a2), Lib.hid P3.out.put⟩
          by_cases h6 : a0 % 8 = 6
          · as_aux_lemma =>
              have m3 : (a0 % 8 == 3) = false := by rw [h6]; rfl
              have m3t : (a0.tmod 8 == 3) = false := by rw [Int.tmod_eq_emod_of_nonneg hk8.1.1, h6]; rfl
              have m4 : (a0 % 8 == 4) = false := by rw [h6]; rfl
              have m4t : (a0.tmod 8 == 4) = false := by rw [Int.tmod_eq_emod_of_nonneg hk8.1.1, h6]; rfl
              have m5 : (a0 % 8 == 5) = false := by rw [h6]; rfl
              have m5t : (a0.tmod 8 == 5) = false := by rw [Int.tmod_eq_emod_of_nonneg hk8.1.1, h6]; rfl
              have m6 : (a0 % 8 == 6) = true := by rw [h6]; rfl
              have m6t : (a0.tmod 8 == 6) = true := by rw [Int.tmod_eq_emod_of_nonneg hk8.1.1, h6]; rfl
              have m7 : (a0 % 8 == 7) = false := by rw [h6]; rfl
              have m7t : (a0.tmod 8 == 7) = false := by rw [Int.tmod_eq_emod_of_nonneg hk8.1.1, h6]; rfl
              clear h6
              go_wp2_with fail
              refine (forgetU _ x leak D M T a1 P1.out.bk HK8.out.2.1).mono ?_
              rintro e w4 ⟨rfl, k4, f4⟩
              have P2 := Lib.hid (P1.out.book k4 f4 (.inr ⟨rfl, rfl⟩))
              clear k4 f4 P1 b0 b1 b2 b3
              have u0 := P2.out.b0
              have u1 := P2.out.b1
              have u2 := P2.out.b2
              have u3 := P2.out.b3
              obtain ⟨⟨v0, v1, v2, v3⟩, z0, z1, z2, z3⟩ := P2.out.vd
              go_wp2_with fail
              refine (rforgetU leak d D M T _ a1 P2.out.dk (by have := HDM.out; omega)).mono ?_
              rintro e w5 ⟨f, rfl, k5, hb5⟩
              have P3 := Lib.hid (P2.out.doc k5 hb5)
              clear k5 hb5
              clear u0 u1 u2 u3 v0 v1 v2 v3 z0 z1 z2 z3 P2
              have u0 := P3.out.b0
              have u1 := P3.out.b1
              have u2 := P3.out.b2
              have u3 := P3.out.b3
              obtain ⟨⟨v0, v1, v2, v3⟩, z0, z1, z2, z3⟩ := P3.out.vd
              go_wp2_with fail
              go_meet
              case rel => exact ⟨f, _, _, _, 0, rfl, rfl, rfl, Lib.hid (HPV.out.forget a1), Lib.hid P3.out.put⟩
          by_cases h7 : a0 % 8 = 7
          · as_aux_lemma =>
              have m3 : (a0 % 8 == 3) = false := by rw [h7]; rfl
              have m3t : (a0.tmod 8 == 3) = false := by rw [Int.tmod_eq_emod_of_nonneg hk8.1.1, h7]; rfl
              have m4 : (a0 % 8 == 4) = false := by rw [h7]; rfl
              have m4t : (a0.tmod 8 == 4) = false := by rw [Int.tmod_eq_emod_of_nonneg hk8.1.1, h7]; rfl
              have m5 : (a0 % 8 == 5) = false := by rw [h7]; rfl
              have m5t : (a0.tmod 8 == 5) = false := by rw [Int.tmod_eq_emod_of_nonneg hk8.1.1, h7]; rfl
              have m6 : (a0 % 8 == 6) = false := by rw [h7]; rfl
              have m6t : (a0.tmod 8 == 6) = false := by rw [Int.tmod_eq_emod_of_nonneg hk8.1.1, h7]; rfl
              have m7 : (a0 % 8 == 7) = true := by rw [h7]; rfl
              have m7t : (a0.tmod 8 == 7) = true := by rw [Int.tmod_eq_emod_of_nonneg hk8.1.1, h7]; rfl
              clear h7
              obtain ⟨⟨v0, v1, v2, v3⟩, z0, z1, z2, z3⟩ := P1.out.vd
              obtain ⟨m, hm⟩ : ∃ m, (Wl.due T a3).length = m := ⟨_, rfl⟩
              have HM := Lib.hid hm
              clear hm
              go_wp2_with fail
              refine (rleaksU leak d D M T _ a3 P1.out.dk HPV.out.sd HPV.out.tk HWT.out (by have := HDM.out; omega) (by have := HDM.out; omega) (by have := HDM.out; omega)).mono ?_
              rw [HM.out]
              rintro e w5 ⟨f, A6, c6, rfl, k5, hr5, hb5⟩
              have P2 := Lib.hid (P1.out.doc k5 hb5)
              have R2 := Lib.hid hr5
              have hba : Below w5.heap.size w5 (w5.alloc (.cells #[.int .u64 leak, .slice f.A f.n f.c, .slice f.A2 f.n2 f.c2, .slice f.A3 f.n3 f.c3] 31)) := (Below.refl _ _).alloc (Nat.le_refl _) _
              have P3 := Lib.hid (P2.out.later hba)
              have R3 := Lib.hid (R2.out.later hba)
              have VX3 : Hid (Vd (w5.alloc (.cells #[.int .u64 leak, .slice f.A f.n f.c, .slice f.A2 f.n2 f.c2, .slice f.A3 f.n3 f.c3] 31)) w5.heap.size leak f) := Lib.hid (V4.new _ _ _ _ _ _)
              clear k5 hr5 hb5 hba P1 P2 R2 b0 b1 b2 b3 v0 v1 v2 v3 z0 z1 z2 z3
              go_upto_region 32 with (fail)
              generalize (w5.alloc (.cells #[.int .u64 leak, .slice f.A f.n f.c, .slice f.A2 f.n2 f.c2, .slice f.A3 f.n3 f.c3] 31)) = W6 at *
              generalize w5.heap.size = s at *
              have u3 := P3.out.b3
              go_wp2_with fail
              refine (leaksU _ x leak D M T a3 P3.out.bk HPV.out.sd HPV.out.tk HK8.out.2.2 (by have := HDM.out; omega) (by have := HDM.out; omega)).mono ?_
              rw [HM.out]
              rintro e w7 ⟨A7, c7, rfl, hr7, k7, f7⟩
              have P4 := Lib.hid (P3.out.book k7 f7 (.inl ⟨rfl, rfl⟩))
              have R4 := Lib.hid (Rd.held R3.out (fun b o v hc => P3.out.bk.keep f7 (.inl ⟨rfl, rfl⟩) hc) f7.size)
              have R7 := Lib.hid hr7
              have VX4 := Lib.hid (VX3.out.blk (P3.out.bk.blk f7 (.inl ⟨rfl, rfl⟩) VX3.out.1.1))
              clear hr7 k7 f7 P3 R3 VX3 u3
              go_wp2_with fail
              refine (same_any A7 A6 m c7 c6 _ _ _ _ R7.out R4.out).mono ?_
              rintro e w8 ⟨rfl, hb8⟩
              have P5 := Lib.hid (P4.out.later hb8)
              have VX5 := Lib.hid (VX4.out.below hb8 (Lw.lt_heap VX4.out.1.1))
              clear hb8 P4 R4 R7 VX4
              obtain ⟨⟨v0, v1, v2, v3⟩, z0, z1, z2, z3⟩ := P5.out.vd
              obtain ⟨⟨y0, y1, y2, y3⟩, j0, j1, j2, j3⟩ := VX5.out
              go_wp2_with fail
              go_meet
              case rel => exact ⟨f, _, _, _, 0, rfl, rfl, rfl, Lib.hid (HPV.out.leaks a3), Lib.hid P5.out.put⟩
          as_aux_lemma =>
            have m3 : (a0 % 8 == 3) = false := beq_eq_false_iff_ne.2 h3
            have m3t : (a0.tmod 8 == 3) = false := by rw [Int.tmod_eq_emod_of_nonneg hk8.1.1]; exact beq_eq_false_iff_ne.2 h3
            have m4 : (a0 % 8 == 4) = false := beq_eq_false_iff_ne.2 h4
            have m4t : (a0.tmod 8 == 4) = false := by rw [Int.tmod_eq_emod_of_nonneg hk8.1.1]; exact beq_eq_false_iff_ne.2 h4
            have m5 : (a0 % 8 == 5) = false := beq_eq_false_iff_ne.2 h5
            have m5t : (a0.tmod 8 == 5) = false := by rw [Int.tmod_eq_emod_of_nonneg hk8.1.1]; exact beq_eq_false_iff_ne.2 h5
            have m6 : (a0 % 8 == 6) = false := beq_eq_false_iff_ne.2 h6
            have m6t : (a0.tmod 8 == 6) = false := by rw [Int.tmod_eq_emod_of_nonneg hk8.1.1]; exact beq_eq_false_iff_ne.2 h6
            have m7 : (a0 % 8 == 7) = false := beq_eq_false_iff_ne.2 h7
            have m7t : (a0.tmod 8 == 7) = false := by rw [Int.tmod_eq_emod_of_nonneg hk8.1.1]; exact beq_eq_false_iff_ne.2 h7
            clear h3 h4 h5 h6 h7
            go_wp2_with fail
            refine (beginU _ x leak D M T a1 a2 a3 P1.out.bk HK8.out.2.1 HK8.out.2.2 HLK.out (by have := HDM.out; omega) (by have := HDM.out; omega)).mono ?_
            rintro e w4 ⟨rfl, k4, f4⟩
            have P2 := Lib.hid (P1.out.book k4 f4 (.inl ⟨rfl, rfl⟩))
            clear k4 f4 P1 b0 b1 b2 b3
            have u0 := P2.out.b0
            have u1 := P2.out.b1
            have u2 := P2.out.b2
            have u3 := P2.out.b3
            obtain ⟨⟨v0, v1, v2, v3⟩, z0, z1, z2, z3⟩ := P2.out.vd
            go_wp2_with fail
            refine (rbeginU leak d D M T _ a1 a2 a3 P2.out.dk HPV.out.sd HWT.out HK8.out.2.1 HK8.out.2.2 HLK.out (by have := HDM.out; omega) (by have := HDM.out; omega) (by have := HDM.out; omega)).mono ?_
            rintro e w5 ⟨f, D', rfl, hp, hsd, k5, hb5⟩
            have P3 := Lib.hid ((P2.out.doc k5 hb5).perm hp)
            have HPV3 := Lib.hid (HPV.out.begin_ leak a1 a2 a3 (by omega) hp hsd)
            clear k5 hb5 hp hsd
            clear u0 u1 u2 u3 v0 v1 v2 v3 z0 z1 z2 z3 P2
            have u0 := P3.out.b0
            have u1 := P3.out.b1
            have u2 := P3.out.b2
            have u3 := P3.out.b3
            obtain ⟨⟨v0, v1, v2, v3⟩, z0, z1, z2, z3⟩ := P3.out.vd
            go_wp2_with fail
            go_meet
            case rel => exact ⟨f, _, _, _, bE D a1 a2, rfl, rfl, rfl, HPV3, Lib.hid P3.out.put⟩
        case rest =>
          clear P1 b0 b1 b2 b3 hk8
          obtain ⟨d', D', M', T', ev, rfl, rfl, rfl, HPV2, P5⟩ := hcut
          have u1 := P5.out.b1
          have u2 := P5.out.b2
          obtain ⟨⟨v0, v1, v2, v3⟩, z0, z1, z2, z3⟩ := P5.out.vd
          have HD2 : Hid (D'.length ≤ k + 1 ∧ M'.length ≤ k + 1 ∧ T'.length ≤ k + 1) := Lib.hid ⟨HPV2.out.dl, HPV2.out.ml, HPV2.out.tl⟩
          go_wp2_with fail
          refine (toldU leak d' D' M' T' _ x a1 a2 P5.out.bk P5.out.dk HPV2.out.sd HK8.out.2.1 (by have := HD2.out; omega) (by have := HD2.out; omega) (by have := HD2.out; omega)).mono ?_
          rintro e w9 ⟨rfl, hb9⟩
          have PZ := Lib.hid (P5.out.later hb9).done
          clear hb9 P5 u1 u2 v0 v1 v2 v3 z0 z1 z2 z3
          go_wp2_with fail
          go_roundw
          case rel => exact ⟨k + 1, x, d', D', M', T', by omega, by go_num, rfl, HPV2, PZ⟩
          case measure => simp [intOf]; omega
    · have HB := Lib.hid hpq.out.bel
      clear hpq
      go_wp2_with fail
      go_ret
      exact ⟨rfl, HB.out⟩
end Go.Proofs.YtbdcdofjcljliaaGreatDoor.Le
