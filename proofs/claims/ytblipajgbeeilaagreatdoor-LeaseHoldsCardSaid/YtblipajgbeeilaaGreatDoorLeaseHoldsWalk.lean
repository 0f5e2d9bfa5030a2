/- The walk of hackneylaw14.LeaseHolds. -/
import Derived.Test.YtblipajgbeeilaaGreatDoorLeaseMath
import Derived.Test.YtblipajgbeeilaaGreatDoorLeaseOpen
import Derived.Test.YtblipajgbeeilaaGreatDoorLeaseC
import Derived.Test.YtblipajgbeeilaaGreatDoorAwake14
import Derived.Deep.CutRange
import Derived.Deep.CutBlock
namespace Go.Proofs.YtblipajgbeeilaaGreatDoor.Le
open Go.ChangeShapes Go.WideShapes Go.ChangeAt Go.RowKit Go.Deep Go.Maps Rw Hi Mt Ck
set_option linter.unusedVariables false

/-- A book on its way. -/
structure Sb (w0 w : World) (x : At) (leak : Int) (L : List (Int × Ls)) (M : List (Int × Bool)) (T : List (Int × Int)) (k : Nat) : Prop where
  bk : Bk w x leak L M T
  iv : Iv leak L T
  len : L.length ≤ k
  mlen : M.length ≤ k
  bel : Below w0.heap.size w0 w
  lo : w0.heap.size ≤ x.p ∧ w0.heap.size ≤ x.a ∧ w0.heap.size ≤ x.b ∧ w0.heap.size ≤ x.q ∧ w0.heap.size ≤ x.m
theorem Sb.tlen {w0 w : World} {x : At} {leak : Int} {L : List (Int × Ls)} {M : List (Int × Bool)} {T : List (Int × Int)} {k : Nat} (h : Sb w0 w x leak L M T k) : T.length ≤ L.length := by
  by_cases h0 : leak = 0
  · subst h0
    have := h.iv.count0 h.bk.leases.nd
    omega
  · have := h.iv.count1 h.bk.leases.nd h.bk.wheel.tms h0
    omega
theorem Sb.later {w0 w w' : World} {x : At} {leak : Int} {L : List (Int × Ls)} {M : List (Int × Bool)} {T : List (Int × Int)} {k : Nat} (h : Sb w0 w x leak L M T k) (hb : Below w.heap.size w w') : Sb w0 w' x leak L M T k :=
  ⟨h.bk.later hb, h.iv, h.len, h.mlen, h.bel.trans (hb.mono h.bel.size), h.lo⟩
/-- .. and an act's box. -/
structure Sx (w0 w : World) (x : At) (leak : Int) (L : List (Int × Ls)) (M : List (Int × Bool)) (T : List (Int × Int)) (k q : Nat) (a0 a1 a2 a3 : Int) : Prop where
  s : Sb w0 w x leak L M T k
  b0 : w.cell? ⟨q, 0, none⟩ = some (.int .u8 a0)
  b1 : w.cell? ⟨q, 1, none⟩ = some (.int .u64 a1)
  b2 : w.cell? ⟨q, 2, none⟩ = some (.int .i64 a2)
  b3 : w.cell? ⟨q, 3, none⟩ = some (.int .u64 a3)
  qa : q ≠ x.a ∧ q ≠ x.b ∧ q ≠ x.m
section
variable {w0 w w' : World} {x : At} {leak : Int} {L : List (Int × Ls)} {M : List (Int × Bool)} {T : List (Int × Int)} {k q : Nat} {a0 a1 a2 a3 : Int}
theorem Sb.box (h : Sb w0 w x leak L M T k) (a0 a1 a2 a3 : Int) : Sx w0 (w.alloc (.cells #[.int .u8 a0, .int .u64 a1, .int .i64 a2, .int .u64 a3] 57)) x leak L M T k w.heap.size a0 a1 a2 a3 := by
  obtain ⟨h1, h2, h3, h4, h5⟩ := h.bk.lt
  exact ⟨h.later ((Below.refl _ _).alloc (Nat.le_refl _) _), by go_simp, by go_simp, by go_simp, by go_simp, by omega, by omega, by omega⟩
theorem Sx.later (h : Sx w0 w x leak L M T k q a0 a1 a2 a3) (hb : Below w.heap.size w w') : Sx w0 w' x leak L M T k q a0 a1 a2 a3 :=
  have hq := Lw.lt_heap h.b0
  ⟨h.s.later hb, (hb.cell (p := ⟨q, 0, none⟩) hq).trans h.b0, (hb.cell (p := ⟨q, 1, none⟩) hq).trans h.b1, (hb.cell (p := ⟨q, 2, none⟩) hq).trans h.b2, (hb.cell (p := ⟨q, 3, none⟩) hq).trans h.b3, h.qa⟩
/-- The book turned, its blocks kept. -/
theorem Sx.turn {L' : List (Int × Ls)} {M' : List (Int × Bool)} {T' : List (Int × Int)} {k' : Nat} {f g : Option Nat} (h : Sx w0 w x leak L M T k q a0 a1 a2 a3) (hb : Bk w' x leak L' M' T') (hi : Iv leak L' T') (hl : L'.length ≤ k') (hm : M'.length ≤ k') (hf : Fr f g w w')
    (hfg : (f = some x.a ∧ g = some x.m) ∨ (f = some x.b ∧ g = none)) : Sx w0 w' x leak L' M' T' k' q a0 a1 a2 a3 := by
  have hq := Lw.lt_heap h.b0
  obtain ⟨q1, q2, q3⟩ := h.qa
  obtain ⟨l1, l2, l3, l4, l5⟩ := h.s.lo
  have e1 : some q ≠ f := by rcases hfg with ⟨rfl, rfl⟩ | ⟨rfl, rfl⟩ <;> intro e <;> injection e <;> omega
  have e2 : some q ≠ g := by rcases hfg with ⟨rfl, rfl⟩ | ⟨rfl, rfl⟩ <;> intro e <;> injection e <;> omega
  refine ⟨⟨hb, hi, hl, hm, h.s.bel.trans (hf.below h.s.bel.size (fun j hj => ?_) (fun j hj => ?_)), h.s.lo⟩, (hf.cell (p := ⟨q, 0, none⟩) hq e1 e2).trans h.b0, (hf.cell (p := ⟨q, 1, none⟩) hq e1 e2).trans h.b1, (hf.cell (p := ⟨q, 2, none⟩) hq e1 e2).trans h.b2, (hf.cell (p := ⟨q, 3, none⟩) hq e1 e2).trans h.b3, h.qa⟩
  · rcases hfg with ⟨rfl, rfl⟩ | ⟨rfl, rfl⟩ <;> injection hj <;> omega
  · rcases hfg with ⟨rfl, rfl⟩ | ⟨rfl, rfl⟩
    · injection hj; omega
    · cases hj
theorem Sx.more (h : Sx w0 w x leak L M T k q a0 a1 a2 a3) : Sx w0 w x leak L M T (k + 1) q a0 a1 a2 a3 :=
  ⟨⟨h.s.bk, h.s.iv, Nat.le_succ_of_le h.s.len, Nat.le_succ_of_le h.s.mlen, h.s.bel, h.s.lo⟩, h.b0, h.b1, h.b2, h.b3, h.qa⟩
theorem holds_eq {id th t s : Int} {f bb : Bool} (hq : (fnd L id).getD Z0 = ⟨t, s, f⟩) (hb : (fnd L id).isSome = bb) : holds L id th = (bb && t == th) := by unfold holds; rw [hq, hb]
theorem fnd_of {id t s : Int} {f : Bool} (hq : (fnd L id).getD Z0 = ⟨t, s, f⟩) (hb : (fnd L id).isSome = true) : fnd L id = some ⟨t, s, f⟩ := by
  cases h : fnd L id with
  | none => rw [h] at hb; cases hb
  | some y => rw [h] at hq; exact congrArg some hq
theorem fnd_no' {id : Int} (hb : (fnd L id).isSome = false) : fnd L id = none := by
  cases h : fnd L id with
  | none => rfl
  | some y => rw [h] at hb; cases hb
end

set_option maxRecDepth 100000 in
theorem holds_long (leak : Int) (A : Option Addr) (n c : Nat) (w : World) (hT : Tb.Tabs w) (hn : n ≤ 9223372036854775807) (h : 100 < n ∨ 576460752303423488 < leak) :
    Calls Tryz.prog 6 #[.int .u64 leak, .slice A n c] w fun e w' => e = .returned (.bool true) ∧ Below w.heap.size w w' := by
  have HT := Lib.hid hT
  clear hT
  by_cases h1 : 100 < n
  · have t0 : decide ((100 : Int) < (n : Int)) = true := decide_eq_true (by omega)
    have t0' : decide (100 < n) = true := decide_eq_true (by omega)
    clear h
    go_enter Tryz.func6, Tryz.ntmps6
    go_wp2_with fail
    refine (awake14_any _ HT.out).mono ?_
    rintro e w1 ⟨rfl, hb1⟩
    go_wp2_with fail
    go_ret
    exact ⟨rfl, hb1⟩
  · have t0 : decide ((100 : Int) < (n : Int)) = false := decide_eq_false (by omega)
    have t0' : decide (100 < n) = false := decide_eq_false (by omega)
    have t1 : decide ((576460752303423488 : Int) < leak) = true := decide_eq_true (by omega)
    clear h
    go_enter Tryz.func6, Tryz.ntmps6
    go_wp2_with fail
    refine (awake14_any _ HT.out).mono ?_
    rintro e w1 ⟨rfl, hb1⟩
    go_wp2_with fail
    go_ret
    exact ⟨rfl, hb1⟩
set_option maxHeartbeats 40000000 in
set_option maxRecDepth 100000 in
theorem holds_any (leak : Int) (A0 : Option Addr) (N c0 : Nat) (xs : List Ax) (w : World) (hT : Tb.Tabs w) (hlk : 0 ≤ leak ∧ leak ≤ 576460752303423488) (h : Rs encA 4 w w.heap.size A0 N c0 xs) (hN : N ≤ 100) (hok : ∀ x ∈ xs, (0 ≤ x.1 ∧ x.1 ≤ 255) ∧ U64 x.2.1 ∧ U64 x.2.2.2) :
    Calls Tryz.prog 6 #[.int .u64 leak, .slice A0 N c0] w fun e w' => e = .returned (.bool true) ∧ Below w.heap.size w w' := by
  have HT := Lib.hid hT
  have R' := Lib.hid h
  have HK := Lib.hid hok
  have HLK := Lib.hid hlk
  have t0 : decide ((100 : Int) < (N : Int)) = false := decide_eq_false (by omega)
  have t0' : decide (100 < N) = false := decide_eq_false (by omega)
  have t1 : decide ((576460752303423488 : Int) < leak) = false := decide_eq_false (by omega)
  clear hT h hok hlk
  go_enter Tryz.func6, Tryz.ntmps6
  go_wp2_with fail
  refine (awake14_any _ HT.out).mono ?_
  rintro e w1 ⟨rfl, hb1⟩
  go_wp2_with fail
  refine (new_any _ leak).mono ?_
  rintro e w2 ⟨x, rfl, k2, b2, xp, xa, xb, xq, xm⟩
  have hs1 := hb1.size
  have S0 : Hid (Sb w w2 x leak [] [] [] 0) := Lib.hid ⟨k2, Iv.nil leak, Nat.le_refl _, Nat.le_refl _, hb1.trans (b2.mono hs1), by omega, by omega, by omega, by omega, by omega⟩
  clear k2 b2 hb1 xp xa xb xq xm hs1 t0 t0' t1
  go_wp2_with fail
  go_loopw [33] (fun i wr => ∃ (k : Nat) (L : List (Int × Ls)) (M : List (Int × Bool)) (T : List (Int × Int)), k ≤ N ∧ i = .int .i64 k ∧ Hid (Sb w wr x leak L M T k)) (fun i _ => N - (intOf i).toNat)
  case atStart => exact ⟨0, [], [], [], Nat.zero_le _, rfl, S0⟩
  case round =>
    clear S0
    obtain ⟨k, L, M, T, hk, rfl, hsb⟩ := hrel
    by_cases hlt : k < N
    · obtain ⟨b, o, xx, rfl, hb, hx, c1, c2, c3, c4⟩ := actA_at R'.out hlt
      obtain ⟨a0, a1, a2, a3⟩ := xx
      have hk8 := HK.out _ (List.mem_of_getElem? hx)
      have hbel := hsb.out.bel
      have d0 := (hbel.cell (p := ⟨b, o + k * 4, none⟩) hb).trans c1
      have d1 := (hbel.cell (p := ⟨b, o + k * 4 + 1, none⟩) hb).trans c2
      have d2 := (hbel.cell (p := ⟨b, o + k * 4 + 2, none⟩) hb).trans c3
      have d3 := (hbel.cell (p := ⟨b, o + k * 4 + 3, none⟩) hb).trans c4
      simp only at d0 d1 d2 d3 hk8
      have P0 := Lib.hid (hsb.out.box a0 a1 a2 a3)
      have HK8 := Lib.hid hk8
      clear c1 c2 c3 c4 hx hbel hk8
      by_cases hnow : 576460752303423488 < a3
      · have q3 : decide ((576460752303423488 : Int) < a3) = true := decide_eq_true hnow
        clear P0 hnow
        have HB := Lib.hid hsb.out.bel
        clear hsb
        go_wp2_with fail
        go_ret
        exact ⟨rfl, HB.out.alloc HB.out.size _⟩
      have q3 : decide ((576460752303423488 : Int) < a3) = false := decide_eq_false hnow
      obtain ⟨⟨t, s, f⟩, hq⟩ : ∃ q, (fnd L a1).getD Z0 = q := ⟨_, rfl⟩
      obtain ⟨bb, hbb⟩ : ∃ b, (fnd L a1).isSome = b := ⟨_, rfl⟩
      have HQ := Lib.hid hq
      have HBB := Lib.hid hbb
      clear hq hbb hsb
      go_wp2_with fail
      refine (holder_any _ x leak L M T a1 P0.out.s.bk HK8.out.2.1 t s f bb HQ.out HBB.out).mono ?_
      rintro e w3 ⟨rfl, hb3⟩
      have P1 := Lib.hid (P0.out.later hb3)
      have u0 := P1.out.b0
      have u1 := P1.out.b1
      have u2 := P1.out.b2
      have u3 := P1.out.b3
      generalize hq0 : wr.heap.size = q at *
      clear hb3 P0 d0 d1 d2 d3 hq0
      go_upto_block 2 with fail
      have hk8 := HK8.out
      go_cut [11, 12, 13, 33] from 33 to 185 (fun s11 s12 s13 s33 wx => ∃ (L' : List (Int × Ls)) (M' : List (Int × Bool)) (T' : List (Int × Int)), s33 = .int .i64 k ∧ Hid (Sx w wx x leak L' M' T' (k + 1) q a0 a1 a2 a3))
      case first =>
        by_cases h3 : a0 % 8 = 3
        · as_aux_lemma =>
            have m3 : (a0 % 8 == 3) = true := by rw [h3]; rfl
            have m3t : (a0.tmod 8 == 3) = true := by rw [Int.tmod_eq_emod_of_nonneg hk8.1.1, h3]; rfl
            have m4 : (a0 % 8 == 4) = false := by rw [h3]; rfl
            have m4t : (a0.tmod 8 == 4) = false := by rw [Int.tmod_eq_emod_of_nonneg hk8.1.1, h3]; rfl
            have m5 : (a0 % 8 == 5) = false := by rw [h3]; rfl
            have m5t : (a0.tmod 8 == 5) = false := by rw [Int.tmod_eq_emod_of_nonneg hk8.1.1, h3]; rfl
            have m7 : (a0 % 8 == 7) = false := by rw [h3]; rfl
            have m7t : (a0.tmod 8 == 7) = false := by rw [Int.tmod_eq_emod_of_nonneg hk8.1.1, h3]; rfl
            clear h3
            by_cases hb1 : bb = true
            · subst hb1
              by_cases ht : t = a2
              · have ht2 := ht.symm
                subst ht2
                have HH : Hid (holds L a1 a2 = true) := Lib.hid (by rw [holds_eq HQ.out HBB.out]; simp)
                go_wp2_with fail
                refine (end_ok _ x leak L M T a1 a2 P1.out.s.bk HK8.out.2.1 HH.out).mono ?_
                rintro e w4 ⟨rfl, k4, f4⟩
                have P2 := Lib.hid (P1.out.turn (k' := k + 1) k4 (P1.out.s.iv.end_ a1) (by have := wo_le L a1; have := P1.out.s.len; omega) (by have := P1.out.s.mlen; omega) f4 (.inl ⟨rfl, rfl⟩))
                clear k4 f4
                have v0 := P2.out.b0
                have v1 := P2.out.b1
                have v2 := P2.out.b2
                have v3 := P2.out.b3
                clear u0 u1 u2 u3 P1
                go_wp2_with fail
                go_meet
                case rel => exact ⟨_, _, _, rfl, P2⟩
              · have qt : (t == a2) = false := beq_eq_false_iff_ne.2 ht
                have HH : Hid (holds L a1 a2 = false) := Lib.hid (by rw [holds_eq HQ.out HBB.out, qt]; rfl)
                clear ht
                go_wp2_with fail
                refine (end_no _ x leak L M T a1 a2 P1.out.s.bk HK8.out.2.1 HH.out).mono ?_
                rintro e w4 ⟨rfl, hb4⟩
                have P2 := Lib.hid ((P1.out.later hb4).more)
                clear hb4
                have v0 := P2.out.b0
                have v1 := P2.out.b1
                have v2 := P2.out.b2
                have v3 := P2.out.b3
                clear u0 u1 u2 u3 P1
                go_wp2_with fail
                go_meet
                case rel => exact ⟨_, _, _, rfl, P2⟩
            · have hb2 : bb = false := by simpa using hb1
              subst hb2
              have HH : Hid (holds L a1 a2 = false) := Lib.hid (by rw [holds_eq HQ.out HBB.out]; rfl)
              go_wp2_with fail
              refine (end_no _ x leak L M T a1 a2 P1.out.s.bk HK8.out.2.1 HH.out).mono ?_
              rintro e w4 ⟨rfl, hb4⟩
              have P2 := Lib.hid ((P1.out.later hb4).more)
              clear hb4
              have v0 := P2.out.b0
              have v1 := P2.out.b1
              have v2 := P2.out.b2
              have v3 := P2.out.b3
              clear u0 u1 u2 u3 P1
              go_wp2_with fail
              go_meet
              case rel => exact ⟨_, _, _, rfl, P2⟩
        by_cases h4 : a0 % 8 = 4
        · as_aux_lemma =>
            have m3 : (a0 % 8 == 3) = false := by rw [h4]; rfl
            have m3t : (a0.tmod 8 == 3) = false := by rw [Int.tmod_eq_emod_of_nonneg hk8.1.1, h4]; rfl
            have m4 : (a0 % 8 == 4) = true := by rw [h4]; rfl
            have m4t : (a0.tmod 8 == 4) = true := by rw [Int.tmod_eq_emod_of_nonneg hk8.1.1, h4]; rfl
            have m5 : (a0 % 8 == 5) = false := by rw [h4]; rfl
            have m5t : (a0.tmod 8 == 5) = false := by rw [Int.tmod_eq_emod_of_nonneg hk8.1.1, h4]; rfl
            have m7 : (a0 % 8 == 7) = false := by rw [h4]; rfl
            have m7t : (a0.tmod 8 == 7) = false := by rw [Int.tmod_eq_emod_of_nonneg hk8.1.1, h4]; rfl
            clear h4
            by_cases hb1 : bb = true
            · subst hb1
              by_cases ht : t = a2
              · have ht2 := ht.symm
                subst ht2
                have HH : Hid (holds L a1 a2 = true) := Lib.hid (by rw [holds_eq HQ.out HBB.out]; simp)
                go_wp2_with fail
                refine (end_ok _ x leak L M T a1 a2 P1.out.s.bk HK8.out.2.1 HH.out).mono ?_
                rintro e w4 ⟨rfl, k4, f4⟩
                have P2 := Lib.hid (P1.out.turn (k' := k + 1) k4 (P1.out.s.iv.end_ a1) (by have := wo_le L a1; have := P1.out.s.len; omega) (by have := P1.out.s.mlen; omega) f4 (.inl ⟨rfl, rfl⟩))
                clear k4 f4
                have v0 := P2.out.b0
                have v1 := P2.out.b1
                have v2 := P2.out.b2
                have v3 := P2.out.b3
                clear u0 u1 u2 u3 P1
                go_wp2_with fail
                go_meet
                case rel => exact ⟨_, _, _, rfl, P2⟩
              · have qt : (t == a2) = false := beq_eq_false_iff_ne.2 ht
                have HH : Hid (holds L a1 a2 = false) := Lib.hid (by rw [holds_eq HQ.out HBB.out, qt]; rfl)
                clear ht
                go_wp2_with fail
                refine (end_no _ x leak L M T a1 a2 P1.out.s.bk HK8.out.2.1 HH.out).mono ?_
                rintro e w4 ⟨rfl, hb4⟩
                have P2 := Lib.hid ((P1.out.later hb4).more)
                clear hb4
                have v0 := P2.out.b0
                have v1 := P2.out.b1
                have v2 := P2.out.b2
                have v3 := P2.out.b3
                clear u0 u1 u2 u3 P1
                go_wp2_with fail
                go_meet
                case rel => exact ⟨_, _, _, rfl, P2⟩
            · have hb2 : bb = false := by simpa using hb1
              subst hb2
              have HH : Hid (holds L a1 a2 = false) := Lib.hid (by rw [holds_eq HQ.out HBB.out]; rfl)
              go_wp2_with fail
              refine (end_no _ x leak L M T a1 a2 P1.out.s.bk HK8.out.2.1 HH.out).mono ?_
              rintro e w4 ⟨rfl, hb4⟩
              have P2 := Lib.hid ((P1.out.later hb4).more)
              clear hb4
              have v0 := P2.out.b0
              have v1 := P2.out.b1
              have v2 := P2.out.b2
              have v3 := P2.out.b3
              clear u0 u1 u2 u3 P1
              go_wp2_with fail
              go_meet
              case rel => exact ⟨_, _, _, rfl, P2⟩
        by_cases h5 : a0 % 8 = 5
        · as_aux_lemma =>
            have m3 : (a0 % 8 == 3) = false := by rw [h5]; rfl
            have m3t : (a0.tmod 8 == 3) = false := by rw [Int.tmod_eq_emod_of_nonneg hk8.1.1, h5]; rfl
            have m4 : (a0 % 8 == 4) = false := by rw [h5]; rfl
            have m4t : (a0.tmod 8 == 4) = false := by rw [Int.tmod_eq_emod_of_nonneg hk8.1.1, h5]; rfl
            have m5 : (a0 % 8 == 5) = true := by rw [h5]; rfl
            have m5t : (a0.tmod 8 == 5) = true := by rw [Int.tmod_eq_emod_of_nonneg hk8.1.1, h5]; rfl
            have m7 : (a0 % 8 == 7) = false := by rw [h5]; rfl
            have m7t : (a0.tmod 8 == 7) = false := by rw [Int.tmod_eq_emod_of_nonneg hk8.1.1, h5]; rfl
            clear h5
            by_cases hb1 : bb = true
            · subst hb1
              by_cases ht : t = a2
              · have ht2 := ht.symm
                subst ht2
                have HH : Hid (holds L a1 a2 = true) := Lib.hid (by rw [holds_eq HQ.out HBB.out]; simp)
                go_wp2_with fail
                refine (mark_ok _ x leak L M T a1 a2 P1.out.s.bk HK8.out.2.1 HH.out (by have := P1.out.s.mlen; omega)).mono ?_
                rintro e w4 ⟨rfl, k4, f4⟩
                have P2 := Lib.hid (P1.out.turn (k' := k + 1) k4 P1.out.s.iv (by have := P1.out.s.len; omega) (by have := wo_le M a1; have := P1.out.s.mlen; simp; omega) f4 (.inr ⟨rfl, rfl⟩))
                clear k4 f4
                have v0 := P2.out.b0
                have v1 := P2.out.b1
                have v2 := P2.out.b2
                have v3 := P2.out.b3
                clear u0 u1 u2 u3 P1
                go_wp2_with fail
                go_meet
                case rel => exact ⟨_, _, _, rfl, P2⟩
              · have qt : (t == a2) = false := beq_eq_false_iff_ne.2 ht
                have HH : Hid (holds L a1 a2 = false) := Lib.hid (by rw [holds_eq HQ.out HBB.out, qt]; rfl)
                clear ht
                go_wp2_with fail
                refine (mark_no _ x leak L M T a1 a2 P1.out.s.bk HK8.out.2.1 HH.out).mono ?_
                rintro e w4 ⟨rfl, hb4⟩
                have P2 := Lib.hid ((P1.out.later hb4).more)
                clear hb4
                have v0 := P2.out.b0
                have v1 := P2.out.b1
                have v2 := P2.out.b2
                have v3 := P2.out.b3
                clear u0 u1 u2 u3 P1
                go_wp2_with fail
                go_meet
                case rel => exact ⟨_, _, _, rfl, P2⟩
            · have hb2 : bb = false := by simpa using hb1
              subst hb2
              have HH : Hid (holds L a1 a2 = false) := Lib.hid (by rw [holds_eq HQ.out HBB.out]; rfl)
              go_wp2_with fail
              refine (mark_no _ x leak L M T a1 a2 P1.out.s.bk HK8.out.2.1 HH.out).mono ?_
              rintro e w4 ⟨rfl, hb4⟩
              have P2 := Lib.hid ((P1.out.later hb4).more)
              clear hb4
              have v0 := P2.out.b0
              have v1 := P2.out.b1
              have v2 := P2.out.b2
              have v3 := P2.out.b3
              clear u0 u1 u2 u3 P1
              go_wp2_with fail
              go_meet
              case rel => exact ⟨_, _, _, rfl, P2⟩
        by_cases h7 : a0 % 8 = 7
        · as_aux_lemma =>
            have m3 : (a0 % 8 == 3) = false := by rw [h7]; rfl
            have m3t : (a0.tmod 8 == 3) = false := by rw [Int.tmod_eq_emod_of_nonneg hk8.1.1, h7]; rfl
            have m4 : (a0 % 8 == 4) = false := by rw [h7]; rfl
            have m4t : (a0.tmod 8 == 4) = false := by rw [Int.tmod_eq_emod_of_nonneg hk8.1.1, h7]; rfl
            have m5 : (a0 % 8 == 5) = false := by rw [h7]; rfl
            have m5t : (a0.tmod 8 == 5) = false := by rw [Int.tmod_eq_emod_of_nonneg hk8.1.1, h7]; rfl
            have m7 : (a0 % 8 == 7) = true := by rw [h7]; rfl
            have m7t : (a0.tmod 8 == 7) = true := by rw [Int.tmod_eq_emod_of_nonneg hk8.1.1, h7]; rfl
            clear h7
            go_wp2_with fail
            refine (leaks_any _ x leak L M T a3 P1.out.s.bk HK8.out.2.2 (by have := P1.out.s.tlen; have := P1.out.s.len; omega) (by have := P1.out.s.len; omega)).mono ?_
            rintro e w4 ⟨A4, c4, rfl, r4, k4, f4⟩
            obtain ⟨ids, hids⟩ : ∃ ids, (Wl.due T a3).map Prod.fst = ids := ⟨_, rfl⟩
            have hdl : (Wl.due T a3).length = ids.length := by rw [← hids]; simp
            have HD : Hid (∀ y ∈ ids, leak ≠ 0 ∧ ∃ z, fnd L y = some z ∧ z.flag = false ∧ z.since + leak ≤ a3 ∧ 0 ≤ z.since ∧ z.since ≤ 576460752303423488) := Lib.hid (fun y hy => P1.out.s.iv.due_at (by rw [hids]; exact hy))
            have HU : Hid (∀ y ∈ ids, U64 y) := Lib.hid (fun y hy => by
              rw [← hids] at hy
              obtain ⟨a, ha, rfl⟩ := List.mem_map.1 hy
              have := P1.out.s.bk.wheel.tms.ok a (Wl.mem_due.1 ha).1
              exact ⟨this.1, this.2.1⟩)
            have hi4 := P1.out.s.iv.leaks P1.out.s.bk.wheel.tms a3
            rw [hids] at r4 k4 hi4
            rw [hdl] at r4 ⊢
            have hnd := flgs_keys P1.out.s.bk.leases.nd (fun y hy => by obtain ⟨_, z, hz, _⟩ := HD.out y hy; exact mem_key.2 ⟨z, fnd_some hz⟩)
            have P2 := Lib.hid (P1.out.turn (k' := k + 1) k4 hi4 (by rw [hnd]; have := P1.out.s.len; omega) (by have := P1.out.s.mlen; omega) f4 (.inl ⟨rfl, rfl⟩))
            have R4 := Lib.hid (Rd.own_rd r4)
            obtain ⟨n4, hn4⟩ : ∃ n, ids.length = n := ⟨_, rfl⟩
            rw [hn4] at R4 ⊢
            have hn4b : n4 ≤ 200 := by
              have h1 := P2.out.s.len
              have h2 := hnd
              have h3 : (Wl.due T a3).length ≤ T.length := by unfold Wl.due; exact List.length_filter_le _ _
              have h4 := P1.out.s.tlen
              have h5 := P1.out.s.len
              omega
            have HN4 := Lib.hid hn4
            have HIN := Lib.hid hids
            clear r4 k4 f4 hi4 hnd hids hdl hn4 u0 u1 u2 u3 P1
            go_wp2_with fail
            go_loopw [11, 12, 13, 104] (fun s11 s12 s13 sj wr => ∃ j : Nat, j ≤ n4 ∧ sj = .int .i64 j ∧ Hid (Sx w wr x leak (flgs L ids) M (Wl.left T a3) (k + 1) q a0 a1 a2 a3) ∧ Hid (Rd (Value.int .u64) wr wr.heap.size A4 n4 c4 ids)) (fun _ _ _ sj _ => n4 - (intOf sj).toNat)
            case atStart => exact ⟨0, Nat.zero_le _, rfl, P2, R4⟩
            case round =>
              clear P2 R4
              obtain ⟨j, hj, rfl, P2, R4⟩ := hrel
              by_cases hjn : j < n4
              · obtain ⟨b4, o4, y, hA4, hb4, hy, hcy⟩ := R4.out.get hjn
                subst hA4
                have hym := List.mem_of_getElem? hy
                obtain ⟨hl0, z, hz, hzf, hzn, hz0, hz1⟩ := HD.out y hym
                have HYU := Lib.hid (HU.out y hym)
                obtain ⟨z0, z1, z2⟩ := z
                have hq4 : fnd (flgs L ids) y = some ⟨z0, z1, true⟩ := by rw [fnd_flgs, if_pos hym, hz]; rfl
                have HG := Lib.hid (show (fnd (flgs L ids) y).getD Z0 = ⟨z0, z1, true⟩ by rw [hq4]; rfl)
                have HS := Lib.hid (show (fnd (flgs L ids) y).isSome = true by rw [hq4]; rfl)
                have ql : (leak == 0) = false := beq_eq_false_iff_ne.2 hl0
                have hlk := HLK.out
                simp only at hzn hz0 hz1
                have w9 : IntKind.u64.wrap (z1 + leak) = z1 + leak := by rw [IntKind.wrap_u64]; omega
                have q9 : decide (a3 < z1 + leak) = false := decide_eq_false (by omega)
                have v0 := P2.out.b0
                have v1 := P2.out.b1
                have v2 := P2.out.b2
                have v3 := P2.out.b3
                clear hy hym hl0 hz hzf hzn hq4 hlk
                go_wp2_with fail
                refine (since_any _ x leak (flgs L ids) M (Wl.left T a3) y P2.out.s.bk HYU.out z0 z1 true true HG.out HS.out).mono ?_
                rintro e w5 ⟨rfl, hb5⟩
                have P3 := Lib.hid (P2.out.later hb5)
                have R5 := Lib.hid (R4.out.later hb5)
                have x0 := P3.out.b0
                have x1 := P3.out.b1
                have x2 := P3.out.b2
                have x3 := P3.out.b3
                clear hb5 v0 v1 v2 v3 P2 R4 hcy
                go_wp2_with fail
                go_roundw
                case rel => exact ⟨j + 1, by omega, by go_num, P3, R5⟩
                case measure => simp [intOf]; omega
              · obtain rfl : j = n4 := by omega
                clear R4
                go_wp2_with fail
                go_meet
                case rel => exact ⟨_, _, _, rfl, P2⟩
        as_aux_lemma =>
          have m3 : (a0 % 8 == 3) = false := beq_eq_false_iff_ne.2 h3
          have m4 : (a0 % 8 == 4) = false := beq_eq_false_iff_ne.2 h4
          have m5 : (a0 % 8 == 5) = false := beq_eq_false_iff_ne.2 h5
          have m7 : (a0 % 8 == 7) = false := beq_eq_false_iff_ne.2 h7
          have m3t : (a0.tmod 8 == 3) = false := by rw [Int.tmod_eq_emod_of_nonneg hk8.1.1]; exact m3
          have m4t : (a0.tmod 8 == 4) = false := by rw [Int.tmod_eq_emod_of_nonneg hk8.1.1]; exact m4
          have m5t : (a0.tmod 8 == 5) = false := by rw [Int.tmod_eq_emod_of_nonneg hk8.1.1]; exact m5
          have m7t : (a0.tmod 8 == 7) = false := by rw [Int.tmod_eq_emod_of_nonneg hk8.1.1]; exact m7
          clear h3 h4 h5 h7
          by_cases hr : a2 < 0 ∨ 8 ≤ a2
          · go_wp2_with fail
            refine (begin_range _ x leak L M T a1 a2 a3 P1.out.s.bk hr).mono ?_
            rintro e w4 ⟨rfl, rfl⟩
            have P2 := Lib.hid P1.out.more
            have v0 := P2.out.b0
            have v1 := P2.out.b1
            have v2 := P2.out.b2
            have v3 := P2.out.b3
            clear u0 u1 u2 u3 P1
            go_wp2_with fail
            go_meet
            case rel => exact ⟨_, _, _, rfl, P2⟩
          · have hr0 : 0 ≤ a2 := by omega
            have hr8 : a2 < 8 := by omega
            clear hr
            by_cases hb1 : bb = true
            · subst hb1
              go_wp2_with fail
              refine (begin_had _ x leak L M T a1 a2 a3 P1.out.s.bk HK8.out.2.1 hr0 hr8 HBB.out).mono ?_
              rintro e w4 ⟨rfl, hb4⟩
              have P2 := Lib.hid ((P1.out.later hb4).more)
              clear hb4
              have v0 := P2.out.b0
              have v1 := P2.out.b1
              have v2 := P2.out.b2
              have v3 := P2.out.b3
              clear u0 u1 u2 u3 P1
              go_wp2_with fail
              go_meet
              case rel => exact ⟨_, _, _, rfl, P2⟩
            · have hb2 : bb = false := by simpa using hb1
              subst hb2
              have hn := P1.out.s.len
              have HNW : Hid (0 ≤ a3 ∧ a3 ≤ 576460752303423488) := Lib.hid ⟨HK8.out.2.2.1, by omega⟩
              by_cases hl0 : leak = 0
              · have HL0 := Lib.hid hl0
                have P1' : Hid (Sx w w3 x 0 L M T k q a0 a1 a2 a3) := by have h9 := P1; rw [HL0.out] at h9; exact h9
                clear hl0
                go_wp2_with fail
                refine (begin_no_leak _ x L M T a1 a2 a3 P1'.out.s.bk HK8.out.2.1 hr0 hr8 HBB.out (by omega)).mono ?_
                rintro e w4 ⟨rfl, k4, f4⟩
                have P2' := P1'.out.turn (k' := k + 1) k4 (P1'.out.s.iv.begin0 HK8.out.2.1 ⟨hr0, hr8⟩ HNW.out) (by have := wo_le L a1; simp; omega) (by have := P1.out.s.mlen; omega) f4 (.inl ⟨rfl, rfl⟩)
                have P2 : Hid (Sx w w4 x leak _ M T (k + 1) q a0 a1 a2 a3) := Lib.hid (by rw [HL0.out]; exact P2')
                clear k4 f4 P1' P2'
                have v0 := P2.out.b0
                have v1 := P2.out.b1
                have v2 := P2.out.b2
                have v3 := P2.out.b3
                clear u0 u1 u2 u3 P1
                go_wp2_with fail
                go_meet
                case rel => exact ⟨_, _, _, rfl, P2⟩
              · have HL0 := Lib.hid hl0
                clear hl0
                go_wp2_with fail
                refine (begin_leak _ x leak L M T a1 a2 a3 P1.out.s.bk HK8.out.2.1 HK8.out.2.2 ⟨HLK.out.1, by have := HLK.out.2; omega⟩ HL0.out hr0 hr8 HBB.out (by omega) (by have := P1.out.s.tlen; omega)).mono ?_
                rintro e w4 ⟨rfl, k4, f4⟩
                have P2 := Lib.hid (P1.out.turn (k' := k + 1) k4 (P1.out.s.iv.begin1 HK8.out.2.1 (fnd_no' HBB.out) HL0.out HLK.out (by have := P1.out.s.tlen; omega) ⟨hr0, hr8⟩ HNW.out) (by have := wo_le L a1; simp; omega) (by have := P1.out.s.mlen; omega) f4 (.inl ⟨rfl, rfl⟩))
                clear k4 f4
                have v0 := P2.out.b0
                have v1 := P2.out.b1
                have v2 := P2.out.b2
                have v3 := P2.out.b3
                clear u0 u1 u2 u3 P1
                go_wp2_with fail
                go_meet
                case rel => exact ⟨_, _, _, rfl, P2⟩
      case rest =>
        clear P1 u0 u1 u2 u3 HQ HBB
        obtain ⟨L, M, T, rfl, P4⟩ := hcut
        go_wp2_with fail
        go_loopw [14, 15, 17, 18, 19, 129] (fun s14 s15 s17 s18 s19 st wr => ∃ t : Nat, t ≤ 8 ∧ st = .int .i64 t ∧ s14 = .int .i64 (cnt L t) ∧ Hid (Sx w wr x leak L M T (k + 1) q a0 a1 a2 a3)) (fun _ _ _ _ _ st _ => 8 - (intOf st).toNat)
        case atStart => exact ⟨0, by omega, rfl, by rw [cnt_zero P4.out.s.iv P4.out.s.bk.leases.nd]; rfl, P4⟩
        case round =>
          clear P4
          obtain ⟨t, ht, rfl, rfl, P4⟩ := hrel
          have hcl : cnt L t ≤ 200 := by have := cnt_le L t; have := P4.out.s.len; omega
          by_cases ht8 : t < 8
          · as_aux_lemma =>
            have qt : decide ((t : Int) < 8) = true := decide_eq_true (by omega)
            go_wp2_with fail
            refine (held_any _ x leak L M T t P4.out.s.bk (by have := P4.out.s.len; omega)).mono ?_
            rintro e w5 ⟨A5, c5, ks, rfl, hp5, hr5, rd5, hb5⟩
            obtain ⟨n5, hn5⟩ : ∃ n, ks.length = n := ⟨_, rfl⟩
            have hcs : cnt L (t + 1) = cnt L t + n5 := by rw [cnt_succ, ← hn5, hp5.length_eq, List.length_map]
            have HCS := Lib.hid hcs
            have hcl2 : cnt L t + n5 ≤ 200 := by rw [← hcs]; have := cnt_le L (t + 1); have := P4.out.s.len; omega
            rw [hn5] at rd5 ⊢
            have P5 := Lib.hid (P4.out.later hb5)
            have R5 := Lib.hid rd5
            have HKS : Hid (∀ y ∈ ks, U64 y ∧ ∃ z, fnd L y = some z ∧ z.thread = (t : Int)) := Lib.hid (fun y hy => by
              have h9 := hp5.mem_iff.1 hy
              refine ⟨?_, held_at P4.out.s.bk.leases.nd h9⟩
              obtain ⟨a, ha, rfl⟩ := List.mem_map.1 h9
              exact (P4.out.s.iv.th _ _ (fnd_mem P4.out.s.bk.leases.nd (List.mem_filter.1 ha).1)).2.2)
            clear hp5 hr5 rd5 hb5 P4 hcs hn5
            go_wp2_with fail
            go_loopw [14, 17, 18, 19, 136] (fun s14 s17 s18 s19 sj wr => ∃ j : Nat, j ≤ n5 ∧ sj = .int .i64 j ∧ s14 = .int .i64 ((cnt L t + j : Nat) : Int) ∧ Hid (Sx w wr x leak L M T (k + 1) q a0 a1 a2 a3) ∧ Hid (Rd (Value.int .u64) wr wr.heap.size A5 n5 c5 ks)) (fun _ _ _ _ sj _ => n5 - (intOf sj).toNat)
            case atStart => exact ⟨0, Nat.zero_le _, rfl, rfl, P5, R5⟩
            case round =>
              clear P5 R5
              obtain ⟨j, hj, rfl, rfl, P5, R5⟩ := hrel
              by_cases hjn : j < n5
              · obtain ⟨b5, o5, y, hA5, hb5, hy, hcy⟩ := R5.out.get hjn
                subst hA5
                obtain ⟨hyu, z, hz, hzt⟩ := HKS.out y (List.mem_of_getElem? hy)
                obtain ⟨z0, z1, z2⟩ := z
                simp only at hzt
                subst hzt
                have HYU := Lib.hid hyu
                have HG := Lib.hid (show (fnd L y).getD Z0 = ⟨(t : Int), z1, z2⟩ by rw [hz]; rfl)
                have HS := Lib.hid (show (fnd L y).isSome = true by rw [hz]; rfl)
                clear hy hyu hz
                go_wp2_with fail
                refine (holder_any _ x leak L M T y P5.out.s.bk HYU.out t z1 z2 true HG.out HS.out).mono ?_
                rintro e w6 ⟨rfl, hb6⟩
                have P6 := Lib.hid (P5.out.later hb6)
                have R6 := Lib.hid (R5.out.later hb6)
                clear hb6 P5 R5 hcy
                go_wp2_with fail
                go_roundw
                case rel => exact ⟨j + 1, by omega, by go_num, by go_num, P6, R6⟩
                case measure => simp [intOf]; omega
              · obtain rfl : j = n5 := by omega
                clear R5
                go_wp2_with fail
                go_roundw
                case rel => exact ⟨t + 1, by omega, by go_num, by rw [HCS.out], P5⟩
                case measure => simp [intOf]; omega
          · as_aux_lemma =>
            obtain rfl : t = 8 := by omega
            have hca := cnt_all P4.out.s.iv P4.out.s.bk.leases.nd
            rw [hca]
            have HI : Hid ((leak = 0 → T.length + (L.filter (fun a => a.2.flag)).length = 0) ∧ (leak ≠ 0 → T.length + (L.filter (fun a => a.2.flag)).length = L.length)) := Lib.hid ⟨fun h0 => by
              have h9 := P4.out.s.iv
              rw [h0] at h9
              exact h9.count0 P4.out.s.bk.leases.nd, fun h0 => P4.out.s.iv.count1 P4.out.s.bk.leases.nd P4.out.s.bk.wheel.tms h0⟩
            clear hca hcl
            obtain ⟨l, hl⟩ : ∃ l, L.length = l := ⟨_, rfl⟩
            obtain ⟨tt, htt⟩ : ∃ l, T.length = l := ⟨_, rfl⟩
            obtain ⟨ff, hff⟩ : ∃ l, (L.filter (fun a => a.2.flag)).length = l := ⟨_, rfl⟩
            have hl2 : l ≤ 200 := by rw [← hl]; have := P4.out.s.len; omega
            have hi := HI.out
            rw [hl, htt, hff] at hi
            have HLL := Lib.hid hl
            have HTT := Lib.hid htt
            have HFF := Lib.hid hff
            have hle : tt + ff ≤ l := by
              by_cases h0 : leak = 0
              · have := hi.1 h0; omega
              · have := hi.2 h0; omega
            rw [hl]
            have HI2 := Lib.hid hi
            clear hl htt hff hi HI
            have q1 : decide ((l : Int) < (tt : Int) + (ff : Int)) = false := decide_eq_false (by omega)
            by_cases h0 : leak = 0
            · have q2 : decide (0 < leak) = false := decide_eq_false (by omega)
              clear h0
              go_wp2_with fail
              refine (len_any _ x leak L M T P4.out.s.bk).mono ?_
              rintro e w5 ⟨rfl, rfl⟩
              rw [HLL.out]
              go_wp2_with fail
              refine (timers_any _ x leak L M T P4.out.s.bk).mono ?_
              rintro e w5 ⟨rfl, rfl⟩
              rw [HTT.out]
              go_wp2_with fail
              refine (flagged_any _ x leak L M T P4.out.s.bk (by have := P4.out.s.len; omega)).mono ?_
              rintro e w6 ⟨A6, c6, k6, rfl, hp6, hr6, rd6, hb6⟩
              have h6 : k6.length = ff := by rw [hp6.length_eq, List.length_map]; exact HFF.out
              rw [h6]
              have P4 := Lib.hid (P4.out.later hb6)
              clear hp6 hr6 rd6 hb6 h6
              go_wp2_with fail
              go_roundw
              case rel => exact ⟨k + 1, L, M, T, by omega, by go_num, P4.out.s⟩
              case measure => simp [intOf]; omega
            · have q2 : decide (0 < leak) = true := decide_eq_true (by have := HLK.out.1; omega)
              have he : tt + ff = l := HI2.out.2 h0
              have q3 : ((tt : Int) + (ff : Int) == (l : Int)) = true := beq_iff_eq.2 (by omega)
              have q4 : ((tt : Int) + (ff : Int) != (l : Int)) = false := by simp only [bne, q3]; rfl
              clear h0 he
              go_wp2_with fail
              refine (len_any _ x leak L M T P4.out.s.bk).mono ?_
              rintro e w5 ⟨rfl, rfl⟩
              rw [HLL.out]
              go_wp2_with fail
              refine (timers_any _ x leak L M T P4.out.s.bk).mono ?_
              rintro e w5 ⟨rfl, rfl⟩
              rw [HTT.out]
              go_wp2_with fail
              refine (flagged_any _ x leak L M T P4.out.s.bk (by have := P4.out.s.len; omega)).mono ?_
              rintro e w6 ⟨A6, c6, k6, rfl, hp6, hr6, rd6, hb6⟩
              have h6 : k6.length = ff := by rw [hp6.length_eq, List.length_map]; exact HFF.out
              rw [h6]
              have P4 := Lib.hid (P4.out.later hb6)
              clear hp6 hr6 rd6 hb6 h6
              go_wp2_with fail
              refine (timers_any _ x leak L M T P4.out.s.bk).mono ?_
              rintro e w5 ⟨rfl, rfl⟩
              rw [HTT.out]
              go_wp2_with fail
              refine (flagged_any _ x leak L M T P4.out.s.bk (by have := P4.out.s.len; omega)).mono ?_
              rintro e w6 ⟨A6, c6, k6, rfl, hp6, hr6, rd6, hb6⟩
              have h6 : k6.length = ff := by rw [hp6.length_eq, List.length_map]; exact HFF.out
              rw [h6]
              have P4 := Lib.hid (P4.out.later hb6)
              clear hp6 hr6 rd6 hb6 h6
              go_wp2_with fail
              go_roundw
              case rel => exact ⟨k + 1, L, M, T, by omega, by go_num, P4.out.s⟩
              case measure => simp [intOf]; omega
    · have HB := Lib.hid hsb.out.bel
      clear hsb
      obtain rfl : k = N := by omega
      go_wp2_with fail
      go_ret
      exact ⟨rfl, HB.out⟩
end Go.Proofs.YtblipajgbeeilaaGreatDoor.Le
