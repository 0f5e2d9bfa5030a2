/- The walk of hackneylaw12.LocalPlays. -/
import Derived.Test.YtbedboekfkobjaaGreatDoorLocalPlaysKit
import Derived.Deep.CutRange
namespace Go.Proofs.YtbedboekfkobjaaGreatDoor.Lc
open Go Go.ChangeShapes Go.WideShapes Go.ChangeAt Go.RowKit Go.Deep Rw Hi Sl
set_option linter.unusedVariables false

theorem Dc.to {W w : World} {p p' : Nat} {A : Option Addr} {c : Nat} {vs : List Sv} {E : Nat → List Int} (h0 : Dc W p A c vs E) (h : Dc w p A c vs E) (hp : W.heap.size ≤ p') : Dc w p' A c vs E := by
  refine ⟨h.rd, fun g hg e => ?_, fun i s hs => ⟨(h.el i s hs).1, fun g hg => ⟨((h.el i s hs).2 g hg).1, fun e => ?_⟩⟩, h.len⟩
  · obtain ⟨b, o, eA, hb2, _⟩ := h0.rd.at_ (by omega)
    subst eA
    injection hg with hg
    have : b = g := hg
    omega
  · have := ((h0.el i s hs).2 g hg).1
    omega
/-- An act. -/
structure Ax where
  t : Int
  A : Option Addr
  n : Nat
  c : Nat
  ids : List Int
  tk : Bool
  cl : Bool
def encX (a : Ax) : List Value := [.int .i64 a.t, .slice a.A a.n a.c, .bool a.tk, .bool a.cl]
theorem act_at {w : World} {B : Nat} {A : Option Addr} {n c k : Nat} {l : List Ax} (h : Rs encX 4 w B A n c l) (hk : k < n) : ∃ b o x, A = some ⟨b, o, none⟩ ∧ b < B ∧ l[k]? = some x ∧
    w.cell? ⟨b, o + k * 4, none⟩ = some (.int .i64 x.t) ∧ w.cell? ⟨b, o + k * 4 + 1, none⟩ = some (.slice x.A x.n x.c) ∧ w.cell? ⟨b, o + k * 4 + 2, none⟩ = some (.bool x.tk) ∧ w.cell? ⟨b, o + k * 4 + 3, none⟩ = some (.bool x.cl) := by
  obtain ⟨b, o, e, h1, h2, h3, hc⟩ := h.get hk
  exact ⟨b, o, e, h1, h2, h3, hc 0 _ (by omega) rfl, hc 1 _ (by omega) rfl, hc 2 _ (by omega) rfl, hc 3 _ (by omega) rfl⟩
set_option maxRecDepth 100000 in
theorem plays_long (A : Option Addr) (n c : Nat) (w : World) (hT : Tx.Tab w) (hn : n ≤ 9223372036854775807) (h : 100 < n) :
    Calls Tryz.prog 7 #[.slice A n c] w fun e w' => e = .returned (.bool true) ∧ Below w.heap.size w w' := by
  have t0 : decide ((100 : Int) < (n : Int)) = true := decide_eq_true (by omega)
  have t0' : decide (100 < n) = true := decide_eq_true (by omega)
  go_enter Tryz.func7, Tryz.ntmps7
  go_wp2_with fail
  refine (awake12_any _ hT).mono ?_
  rintro e w1 ⟨rfl, hb1⟩
  go_wp2_with fail
  go_ret
  exact ⟨rfl, hb1⟩

set_option maxHeartbeats 8000000 in
set_option maxRecDepth 100000 in
theorem plays_any (A0 : Option Addr) (N c0 : Nat) (xs : List Ax) (w : World) (hT : Tx.Tab w) (h : Rs encX 4 w w.heap.size A0 N c0 xs) (hN : N ≤ 100) (hok : ∀ x ∈ xs, Rd (Value.int .u64) w w.heap.size x.A x.n x.c x.ids) :
    Calls Tryz.prog 7 #[.slice A0 N c0] w fun e w' => e = .returned (.bool true) ∧ Below w.heap.size w w' := by
  have HT := Lib.hid hT
  have R' := Lib.hid h
  have HK := Lib.hid hok
  have t0 : decide ((100 : Int) < (N : Int)) = false := decide_eq_false (by omega)
  have t0' : decide (100 < N) = false := decide_eq_false (by omega)
  clear hT h hok
  go_enter Tryz.func7, Tryz.ntmps7
  go_wp2_with fail
  refine (awake12_any _ HT.out).mono ?_
  rintro e w1 ⟨rfl, hb1⟩
  go_wp2_with fail
  refine (new_any Fx _ w.heap.size hb1.size (fx _)).mono ?_
  rintro e w2 ⟨p, rfl, h2, hp2, hb2⟩
  have b2 : Below w.heap.size w w2 := hb1.trans (hb2.mono hb1.size)
  go_wp2_with fail
  refine (rnew_any w2 p h2.lt).mono ?_
  rintro e w3 ⟨A3, c3, vs3, rfl, hd3, hb3⟩
  have P3 := Lib.hid (show Pz w w3 p A3 c3 vs3 (fun _ => []) (fun _ => []) from ⟨h2.later hb3, hd3, b2.trans (hb3.mono b2.size)⟩)
  clear h2 hb1 hb2 hb3 hp2 t0 t0' b2 hd3
  go_wp2_with fail
  go_loopw [3, 4, 29] (fun s d i wr => ∃ (k p : Nat) (A : Option Addr) (c : Nat) (vs : List Sv) (L : Nat → List Int), k ≤ N ∧ i = .int .i64 k ∧ s = .pointer (some ⟨p, 0, none⟩) ∧ d = .slice A 8 c ∧ Pz w wr p A c vs L L) (fun _ _ i _ => N - (intOf i).toNat)
  case atStart => exact ⟨0, p, A3, c3, vs3, _, Nat.zero_le _, rfl, rfl, rfl, P3.out⟩
  case round =>
    clear P3
    obtain ⟨k, p, A, c, vs, L, hk, rfl, rfl, rfl, hpz⟩ := hrel
    by_cases hlt : k < N
    · obtain ⟨b, o, x, rfl, hb, hx, k0, k1, k2, k3⟩ := act_at R'.out hlt
      have hri := HK.out _ (List.mem_of_getElem? hx)
      obtain ⟨t, A1, n1, c1, ids, tk, cl⟩ := x
      simp only at k0 k1 k2 k3 hri
      have d0 := (hpz.b.cell (p := ⟨b, o + k * 4, none⟩) hb).trans k0
      have d1 := (hpz.b.cell (p := ⟨b, o + k * 4 + 1, none⟩) hb).trans k1
      have d2 := (hpz.b.cell (p := ⟨b, o + k * 4 + 2, none⟩) hb).trans k2
      have d3 := (hpz.b.cell (p := ⟨b, o + k * 4 + 3, none⟩) hb).trans k3
      have P0 := Lib.hid (hpz.box t A1 n1 c1 tk cl)
      have RI := Lib.hid hri
      have HLI := Lib.hid hri.len
      have hnc1 := hri.cap
      have htop1 := hri.top
      clear k0 k1 k2 k3 hx hpz hri
      by_cases h20 : 20 < n1
      · have t20 : decide ((20 : Int) < (n1 : Int)) = true := decide_eq_true (by omega)
        have t20' : decide (20 < n1) = true := decide_eq_true h20
        go_wp2_with fail
        go_ret
        exact ⟨rfl, P0.out.m.b⟩
      have t20 : decide ((20 : Int) < (n1 : Int)) = false := decide_eq_false (by omega)
      have t20' : decide (20 < n1) = false := decide_eq_false h20
      go_upto_if 38 with (fail)
      generalize hq0 : wr.heap.size = q at *
      clear hq0
      generalize wr.alloc (.cells #[.int .i64 t, .slice A1 n1 c1, .bool tk, .bool cl] 69) = W8 at *
      go_cut [3, 7, 29] from 29 to 138 (fun s3 s7 s29 wx => ∃ (p' : Nat), s3 = .pointer (some ⟨p', 0, none⟩) ∧ s29 = .int .i64 k ∧ Hid (Px w wx p' q A c vs t (.slice A1 n1 c1) tk cl L L))
      case first =>
        cases hcl : cl with
        | true =>
          go_wp2_with fail
          refine (clone_any (fun g => g = p) Fx _ _ p L (fun g hg => by rw [hg]; exact P0.out.m.l.lt) P0.out.m.l P0.out.m.b.size).mono ?_
          rintro e w2 ⟨p2, rfl, h2, hp2, hb2⟩
          have O2 := Lib.hid (P0.out.later hb2)
          have N2 := Lib.hid h2
          have hs2 := hb2.size
          have hba : Below w2.heap.size w2 (w2.alloc (.cells #[.int .u64 1, .int .u64 2] 27)) := (Below.refl _ _).alloc (Nat.le_refl _) _
          have HBA := Lib.hid hba
          clear hb2 h2 hba
          go_wp2_with fail
          refine (putU _ _ p L 0 _ 2 2 [1, 2] (O2.out.later HBA.out).m.l (rd_lit w2 #[.int .u64 1, .int .u64 2] [1, 2] rfl 2 rfl (by omega)) (by omega)).mono ?_
          rintro e w3 ⟨rfl, h3, hf3⟩
          have O3 := Lib.hid ((O2.out.later HBA.out).list h3 hf3)
          have N3 := Lib.hid (lo_aside (N2.out.later HBA.out) hf3 rfl)
          clear h3 hf3 O2 N2 HBA
          go_wp2_with fail
          refine (takeU _ _ p _ 1 O3.out.m.l).mono ?_
          rintro e w4 ⟨rfl, h4, hf4⟩
          have O4 := O3.out.list h4 hf4
          have N4 := lo_aside N3.out hf4 rfl
          have hql : q < w2.heap.size ∨ True := .inr trivial
          have P4 : Hid (Px w w4 p2 q A c vs t (.slice A1 n1 c1) tk cl L L) := Lib.hid (by
            have hq : q < _ := Lw.lt_heap P0.out.b0
            exact ⟨⟨N4.shun (fun g hg => hg.elim), P0.out.m.d.to O4.m.d hp2, O4.m.b⟩, O4.b0, O4.b1, O4.b2, O4.b3, fun e => by have e2 : q = p2 := e; omega⟩)
          clear h4 hf4 O4 N4 O3 N3 hql
          go_wp2_with fail
          go_meet
          case rel => exact ⟨p2, rfl, rfl, hcl ▸ P4⟩
        | false =>
          go_wp2_with fail
          go_meet
          case rel => exact ⟨p, rfl, rfl, hcl ▸ P0⟩
      case rest =>
        clear P0 d0 d1 d2 d3
        obtain ⟨p, rfl, rfl, P4⟩ := hcut
        have b0 := P4.out.b0
        have b1 := P4.out.b1
        have b2 := P4.out.b2
        go_upto_if 48 with (fail)
        go_cut [4, 8, 9, 10, 11, 12, 13, 14, 16, 29] from 29 to 138 (fun s4 s8 s9 s10 s11 s12 s13 s14 s16 s29 wx => ∃ (A' : Option Addr) (c' : Nat) (vs' : List Sv) (L2 : Nat → List Int), s4 = .slice A' 8 c' ∧ s29 = .int .i64 k ∧ Hid (Px w wx p q A' c' vs' t (.slice A1 n1 c1) tk cl L2 L2))
        case first =>
          cases htk : tk with
          | true =>
            obtain ⟨Q, hQ⟩ : ∃ Q, takeR L t = Q := ⟨_, rfl⟩
            have HQ := Lib.hid hQ
            obtain ⟨L2, v2, o2⟩ := Q
            clear hQ
            go_wp2_with fail
            refine (takeU _ _ p L t P4.out.m.l).mono ?_
            rw [HQ.out]
            rintro e w5 ⟨rfl, h5, hf5⟩
            have P5 := Lib.hid (P4.out.list h5 hf5)
            have u0 := P5.out.b0
            have u1 := P5.out.b1
            clear h5 hf5 P4 b0 b1 b2
            go_wp2_with fail
            refine (rtakeU _ p A c vs L t P5.out.m.d P5.out.m.l.lt).mono ?_
            rw [HQ.out]
            rintro e w6 ⟨A6, c6, vs6, rfl, hd6, hb6⟩
            have P6 := Lib.hid (P5.out.doc hd6 hb6)
            clear hd6 hb6 P5 u0 u1
            go_wp2_with fail
            go_meet
            case rel => exact ⟨A6, c6, vs6, L2, rfl, rfl, htk ▸ P6⟩
          | false =>
            go_wp2_with fail
            refine (putU _ _ p L t A1 n1 c1 ids P4.out.m.l ((RI.out.below P4.out.m.b).more P4.out.m.b.size) (by omega)).mono ?_
            rintro e w5 ⟨rfl, h5, hf5⟩
            have P5 := Lib.hid (P4.out.list h5 hf5)
            have u0 := P5.out.b0
            have u1 := P5.out.b1
            have hlen := P4.out.m.l.len
            have HLN := Lib.hid hlen
            clear h5 hf5 P4 b0 b1 b2 hlen
            cases hin : inR t with
            | true =>
              have e1 : putE t = 0 := by simp [putE, hin]
              rw [e1]
              obtain ⟨i8, hi8, hi9⟩ := inR_yes hin
              have d0 : decide (t < 0) = false := decide_eq_false (by omega)
              have d7 : decide ((7 : Int) < t) = false := decide_eq_false (by omega)
              clear hi8 hi9 i8 e1 hin
              go_wp2_with fail
              go_loopw [4, 93] (fun d i ws => ∃ (m : Nat) (A' : Option Addr) (c' : Nat) (vs' : List Sv), m ≤ n1 ∧ i = .int .i64 m ∧ d = .slice A' 8 c' ∧ Hid (Px w ws p q A' c' vs' t (.slice A1 n1 c1) tk cl (putR L t ids) (putR L t (ids.take m)))) (fun _ i _ => n1 - (intOf i).toNat)
              case atStart =>
                refine ⟨0, A, c, vs, Nat.zero_le _, rfl, rfl, Lib.hid ?_⟩
                have h5 := P5.out
                subst htk
                exact ⟨⟨h5.m.l, h5.m.d.same (fun i hi => putR_nil L t HLN.out i hi), h5.m.b⟩, h5.b0, h5.b1, h5.b2, h5.b3, h5.qp⟩
              case round =>
                clear P5 u0 u1
                obtain ⟨m, A', c', vs', hm, rfl, rfl, PY⟩ := hrel
                by_cases hlm : m < n1
                · obtain ⟨b1, o1, x, rfl, hb1, hx, cx⟩ := RI.out.get hlm
                  have dx := (PY.out.m.b.cell (p := ⟨b1, o1 + m, none⟩) hb1).trans cx
                  have y0 := PY.out.b0
                  have htake : ids.take m ++ [x] = ids.take (m + 1) := by rw [List.take_add_one, hx]; rfl
                  have HTK := Lib.hid htake
                  clear cx hx htake
                  go_wp2_with fail
                  refine (rputU _ p A' c' vs' _ t x PY.out.m.d PY.out.m.l.lt).mono ?_
                  rintro e w7 ⟨A7, c7, vs7, rfl, hd7, hb7⟩
                  have hd8 := hd7.same (L' := putR L t (ids.take (m + 1))) (fun i hi => by rw [← HTK.out, putR_step])
                  have PY7 := Lib.hid (PY.out.doc hd8 hb7)
                  clear hd7 hd8 hb7 PY y0 dx
                  go_wp2_with fail
                  go_roundw
                  case rel => exact ⟨m + 1, A7, c7, vs7, by omega, by go_num, rfl, PY7⟩
                  case measure => simp [intOf]; omega
                · have hmn : ids.take m = ids := List.take_of_length_le (by have := HLI.out; omega)
                  have PZ := Lib.hid PY.out
                  rw [hmn] at PZ
                  clear PY hmn
                  go_wp2_with fail
                  go_meet
                  case rel => exact ⟨A', c', vs', _, rfl, rfl, PZ⟩
            | false =>
              have e1 : putE t = 2 := by simp [putE, hin]
              rw [e1]
              rcases inR_no hin with hlo | hhi
              · have d0 : decide (t < 0) = true := decide_eq_true hlo
                clear hlo e1 hin
                go_wp2_with fail
                go_loopw [4, 93] (fun d i ws => ∃ (m : Nat) (A' : Option Addr) (c' : Nat) (vs' : List Sv), m ≤ n1 ∧ i = .int .i64 m ∧ d = .slice A' 8 c' ∧ Hid (Px w ws p q A' c' vs' t (.slice A1 n1 c1) tk cl (putR L t ids) (putR L t (ids.take m)))) (fun _ i _ => n1 - (intOf i).toNat)
                case atStart =>
                  refine ⟨0, A, c, vs, Nat.zero_le _, rfl, rfl, Lib.hid ?_⟩
                  have h5 := P5.out
                  subst htk
                  exact ⟨⟨h5.m.l, h5.m.d.same (fun i hi => putR_nil L t HLN.out i hi), h5.m.b⟩, h5.b0, h5.b1, h5.b2, h5.b3, h5.qp⟩
                case round =>
                  clear P5 u0 u1
                  obtain ⟨m, A', c', vs', hm, rfl, rfl, PY⟩ := hrel
                  by_cases hlm : m < n1
                  · obtain ⟨b1, o1, x, rfl, hb1, hx, cx⟩ := RI.out.get hlm
                    have dx := (PY.out.m.b.cell (p := ⟨b1, o1 + m, none⟩) hb1).trans cx
                    have y0 := PY.out.b0
                    have htake : ids.take m ++ [x] = ids.take (m + 1) := by rw [List.take_add_one, hx]; rfl
                    have HTK := Lib.hid htake
                    clear cx hx htake
                    go_wp2_with fail
                    refine (rputU _ p A' c' vs' _ t x PY.out.m.d PY.out.m.l.lt).mono ?_
                    rintro e w7 ⟨A7, c7, vs7, rfl, hd7, hb7⟩
                    have hd8 := hd7.same (L' := putR L t (ids.take (m + 1))) (fun i hi => by rw [← HTK.out, putR_step])
                    have PY7 := Lib.hid (PY.out.doc hd8 hb7)
                    clear hd7 hd8 hb7 PY y0 dx
                    go_wp2_with fail
                    go_roundw
                    case rel => exact ⟨m + 1, A7, c7, vs7, by omega, by go_num, rfl, PY7⟩
                    case measure => simp [intOf]; omega
                  · have hmn : ids.take m = ids := List.take_of_length_le (by have := HLI.out; omega)
                    have PZ := Lib.hid PY.out
                    rw [hmn] at PZ
                    clear PY hmn
                    go_wp2_with fail
                    go_meet
                    case rel => exact ⟨A', c', vs', _, rfl, rfl, PZ⟩
              · have d0 : decide (t < 0) = false := decide_eq_false (by omega)
                have d7 : decide ((7 : Int) < t) = true := decide_eq_true (by omega)
                clear hhi e1 hin
                go_wp2_with fail
                go_loopw [4, 93] (fun d i ws => ∃ (m : Nat) (A' : Option Addr) (c' : Nat) (vs' : List Sv), m ≤ n1 ∧ i = .int .i64 m ∧ d = .slice A' 8 c' ∧ Hid (Px w ws p q A' c' vs' t (.slice A1 n1 c1) tk cl (putR L t ids) (putR L t (ids.take m)))) (fun _ i _ => n1 - (intOf i).toNat)
                case atStart =>
                  refine ⟨0, A, c, vs, Nat.zero_le _, rfl, rfl, Lib.hid ?_⟩
                  have h5 := P5.out
                  subst htk
                  exact ⟨⟨h5.m.l, h5.m.d.same (fun i hi => putR_nil L t HLN.out i hi), h5.m.b⟩, h5.b0, h5.b1, h5.b2, h5.b3, h5.qp⟩
                case round =>
                  clear P5 u0 u1
                  obtain ⟨m, A', c', vs', hm, rfl, rfl, PY⟩ := hrel
                  by_cases hlm : m < n1
                  · obtain ⟨b1, o1, x, rfl, hb1, hx, cx⟩ := RI.out.get hlm
                    have dx := (PY.out.m.b.cell (p := ⟨b1, o1 + m, none⟩) hb1).trans cx
                    have y0 := PY.out.b0
                    have htake : ids.take m ++ [x] = ids.take (m + 1) := by rw [List.take_add_one, hx]; rfl
                    have HTK := Lib.hid htake
                    clear cx hx htake
                    go_wp2_with fail
                    refine (rputU _ p A' c' vs' _ t x PY.out.m.d PY.out.m.l.lt).mono ?_
                    rintro e w7 ⟨A7, c7, vs7, rfl, hd7, hb7⟩
                    have hd8 := hd7.same (L' := putR L t (ids.take (m + 1))) (fun i hi => by rw [← HTK.out, putR_step])
                    have PY7 := Lib.hid (PY.out.doc hd8 hb7)
                    clear hd7 hd8 hb7 PY y0 dx
                    go_wp2_with fail
                    go_roundw
                    case rel => exact ⟨m + 1, A7, c7, vs7, by omega, by go_num, rfl, PY7⟩
                    case measure => simp [intOf]; omega
                  · have hmn : ids.take m = ids := List.take_of_length_le (by have := HLI.out; omega)
                    have PZ := Lib.hid PY.out
                    rw [hmn] at PZ
                    clear PY hmn
                    go_wp2_with fail
                    go_meet
                    case rel => exact ⟨A', c', vs', _, rfl, rfl, PZ⟩
        case rest =>
          clear P4 b0 b1 b2
          obtain ⟨A6, c6, vs6, L2, rfl, rfl, P6⟩ := hcut
          go_wp2_with fail
          go_loopw [17, 108] (fun s i ws => ∃ k2 n2 : Nat, k2 ≤ 8 ∧ i = .int .i64 k2 ∧ s = .int .i64 n2 ∧ n2 ≤ 32 ∧ Hid (n2 = total L2 k2) ∧ Hid (Px w ws p q A6 c6 vs6 t (.slice A1 n1 c1) tk cl L2 L2)) (fun _ i _ => 8 - (intOf i).toNat)
          case atStart => exact ⟨0, 0, by omega, rfl, rfl, by omega, Lib.hid rfl, P6⟩
          case round =>
            clear P6
            obtain ⟨k2, n2, hk2, rfl, rfl, hn32, HN2, PX⟩ := hrel
            by_cases hl2 : k2 < 8
            · obtain ⟨b6, o6, s6, rfl, hb6, hs6, hc6, hr6, hn6⟩ := PX.out.m.d.get hl2
              obtain ⟨As, ns, cs⟩ := s6
              simp only at hc6 hr6 hn6
              have hcap := PX.out.m.d.rd.cap
              have htop := PX.out.m.d.rd.top
              have hls := hr6.len
              have HR6 := Lib.hid hr6
              have HLS := Lib.hid hls
              have hn2 : n2 + ns = total L2 (k2 + 1) := by rw [total, HN2.out, hls]
              have hle : n2 + ns ≤ 32 := by have := total_le PX.out.m.l.len (k2 + 1) (by omega); omega
              have HNN := Lib.hid hn2
              clear hs6 hr6 hls hn2
              go_wp2_with fail
              refine (all_t Fx _ _ p k2 k2 rfl L2 ns HLS.out PX.out.m.l hl2).mono ?_
              rintro e w7 ⟨A7, c7, rfl, hr7, _, hb7⟩
              have PX7 := Lib.hid (PX.out.later hb7)
              have HR7 := Lib.hid (HR6.out.later hb7)
              have HA7 := Lib.hid hr7
              clear hr7 hb7 PX HR6
              go_wp2_with fail
              refine (equal_any A7 As ns c7 ns cs (L2 k2) (L2 k2) _ _ _ HA7.out HR7.out).mono ?_
              rintro e w8 ⟨rfl, q8, rfl⟩
              rw [decide_eq_true rfl]
              have PX8 := Lib.hid (PX7.out.later (below_drewN (Below.refl _ _) q8))
              clear PX7 HR7 HA7
              go_wp2_with fail
              go_roundw
              case rel => exact ⟨k2 + 1, n2 + ns, by omega, by go_num, by go_num, hle, HNN, PX8⟩
              case measure => simp [intOf]; omega
            · obtain rfl : k2 = 8 := by omega
              have hnt : total L2 8 = n2 := HN2.out.symm
              have HNT := Lib.hid hnt
              clear hnt
              go_wp2_with fail
              refine (len_any Fx _ _ p L2 PX.out.m.l).mono ?_
              rw [HNT.out]
              rintro e w9 ⟨rfl, rfl⟩
              go_wp2_with fail
              refine (all_none (some ⟨p, 0, none⟩) (-1) _ (.inr ⟨p, rfl, .inl (by omega)⟩)).mono ?_
              rintro e w9 ⟨A9, c9, rfl, hb9⟩
              have PX9 := Lib.hid (PX.out.later hb9)
              clear hb9 PX
              go_wp2_with fail
              refine (all_none (some ⟨p, 0, none⟩) 8 _ (.inr ⟨p, rfl, .inr (by omega)⟩)).mono ?_
              rintro e w10 ⟨A10, c10, rfl, hb10⟩
              have PZ := Lib.hid (PX9.out.later hb10).m
              clear hb10 PX9
              go_wp2_with fail
              go_roundw
              case rel => exact ⟨k + 1, p, A6, c6, vs6, L2, by omega, by go_num, rfl, rfl, PZ.out⟩
              case measure => simp [intOf]; omega
    · obtain rfl : k = N := by omega
      have hbel := hpz.b
      clear hpz
      go_wp2_with fail
      go_ret
      exact ⟨rfl, hbel⟩
end Go.Proofs.YtbedboekfkobjaaGreatDoor.Lc
