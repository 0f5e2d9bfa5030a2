/- The walk of hackneylaw06.RatioSorts. -/
import Derived.Test.YtdacacehmmjpeaaFloats
namespace Go.Proofs.Ytdacacehmmjpeaa.Fl
open Go.ChangeShapes Go.WideShapes Go.ChangeAt Go.RowKit Rw Ck
set_option linter.unusedVariables false

theorem kept_apart {w w' : World} {base B : Nat} {e : TypeId} {v : Value} {n : Nat} {xs : List Value} {r : Option Nat} (h : w.ownsRow base e 1 v n xs) (hlt : ∀ k, v.ownBlock = some k → k < B) (hg : w.grownBy w' r) (hr : ∀ k, r = some k → B ≤ k) : w'.ownsRow base e 1 v n xs := by
  cases hv : v.ownBlock with
  | none => exact h.kept hg (.inl hv)
  | some k => exact h.kept hg (.inr (fun e => by have := hlt k hv; have := hr k (by rw [← e, hv]); omega))
theorem grown_of_below {w w' : World} (h : Below w.heap.size w w') : w.grownBy w' none := ⟨h.os, h.tape, h.output, h.size, fun k hk _ => h.block k hk⟩
theorem cmp_le {p q : Nat} (h : p < q) : Wl.cmpI (p : Int) (q : Int) = -1 ∧ Wl.cmpI (q : Int) (p : Int) = 1 := by
  unfold Wl.cmpI
  constructor
  · rw [if_pos (by omega)]
  · rw [if_neg (by omega), if_pos (by omega)]

set_option maxRecDepth 100000 in
set_option maxHeartbeats 4000000 in
theorem sorts_any (A : Option Addr) (n c : Nat) (xs : List Int) (w : World) (h : Rd (Value.int .u64) w w.heap.size A n c xs) (hok : Sn.U64s xs) (hn : n ≤ 60) :
    Calls Try.prog 8 #[.slice A n c] w fun e w' => e = .returned (.bool true) ∧ Below w.heap.size w w' := by
  have R := Lib.hid h
  have HO := Lib.hid hok
  have t0 : decide ((60 : Int) < (n : Int)) = false := decide_eq_false (by omega)
  have t0' : decide (60 < n) = false := decide_eq_false (by omega)
  clear h hok
  go_enter Try.func8, Try.ntmps8
  go_wp2_with fail
  refine (awake6_any _).mono ?_
  rintro e w1 ⟨rfl, b1⟩
  go_wp2_with fail
  refine (floats_any A n c xs _ (R.out.later b1) HO.out hn).mono ?_
  rintro e w2 ⟨A1, c1, acc, rfl, -, hrow1, hb2⟩
  have hlen : acc.length = n := by have := hrow1.1; simpa using this
  have b2 := b1.trans (hb2.mono b1.size)
  have HROW1 := Lib.hid hrow1
  have HLEN := Lib.hid hlen
  have hw1 := Lib.hid b1.size
  clear hrow1 hlen hb2 b1 R HO
  go_wp2_with fail
  refine (fclone_any A1 n c1 acc _ (Rd.own_rd HROW1.out) hn).mono ?_
  rintro e w3 ⟨A2, c2, rfl, hrow2, hb3⟩
  have b3 := b2.trans (hb3.mono b2.size)
  have HLT : Hid (∀ k, (Value.slice A1 n c1).ownBlock = some k → k < w2.heap.size) := fun k hk => (HROW1.out.lt k hk).2
  have HROW1b : Hid (w3.ownsRow w1.heap.size 71 1 (.slice A1 n c1) n (acc.map encF)) := HROW1.out.kept (grown_of_below hb3) (by cases hv : (Value.slice A1 n c1).ownBlock with | none => exact .inl rfl | some k => exact .inr (by simp))
  have HROW2 := Lib.hid hrow2
  have hw2 := Lib.hid b2.size
  clear hrow2 hb3 b2 HROW1
  go_wp2_with fail
  refine (freverse_any _ A2 n c2 acc _ HROW2.out hn).mono ?_
  rintro e w4 ⟨rfl, acc2, hp2, hrow2, hg4⟩
  have HGE : Hid (∀ k, (Value.slice A2 n c2).ownBlock = some k → w2.heap.size ≤ k) := fun k hk => (HROW2.out.lt k hk).1
  have HROW1c : Hid (w4.ownsRow w1.heap.size 71 1 (.slice A1 n c1) n (acc.map encF)) := kept_apart HROW1b.out HLT.out hg4 HGE.out
  have b4 := b3.grown hg4 b3.size (fun j hj => Nat.le_trans hw2.out (HGE.out j hj))
  have HROW2b := Lib.hid hrow2
  have HP2 := Lib.hid hp2
  clear hrow2 hp2 hg4 b3 HROW1b HROW2
  go_wp2_with fail
  refine (fsort_any _ _ A1 n c1 acc HLEN.out HROW1c.out hn).mono ?_
  rintro e w5 ⟨rfl, acc1', hp1', hs1, hrow1, hg5⟩
  have HROW2c : Hid (w5.ownsRow w2.heap.size 71 1 (.slice A2 n c2) n (acc2.map encF)) := by
    refine HROW2b.out.kept hg5 ?_
    cases hv : (Value.slice A2 n c2).ownBlock with
    | none => exact .inl rfl
    | some k => exact .inr (fun e => by have h1 := HGE.out k hv; have h2 := HLT.out k e.symm; omega)
  have HROW1d := Lib.hid hrow1
  have HS1 := Lib.hid hs1
  have HP1 := Lib.hid hp1'
  have b5 := b4.grown hg5 b4.size (fun j hj => Nat.le_trans hw1.out (HROW1c.out.lt j hj).1)
  have HL2 : Hid (acc2.length = n) := HP2.out.length_eq.trans HLEN.out
  clear hrow1 hs1 hp1' hg5 b4 HROW1c HROW2b
  go_wp2_with fail
  refine (fsort_any _ _ A2 n c2 acc2 HL2.out HROW2c.out hn).mono ?_
  rintro e w6 ⟨rfl, acc2', hp2', hs2, hrow2, hg6⟩
  have HROW1e : Hid (w6.ownsRow w1.heap.size 71 1 (.slice A1 n c1) n (acc1'.map encF)) := kept_apart HROW1d.out HLT.out hg6 HGE.out
  have b6 := b5.grown hg6 b5.size (fun j hj => Nat.le_trans hw2.out (HGE.out j hj))
  have HEQ : Hid (∀ (j : Nat) (x y : F), acc1'[j]? = some x → acc2'[j]? = some y → sm x.1 y.1 = true) := by
    have e1 : acc1'.map (fun x : F => pl x.1) = acc2'.map (fun x : F => pl x.1) := by
      refine sorted_eq ((HP1.out.trans (HP2.out.symm.trans hp2'.symm)).map _) ?_ ?_
      · rw [List.pairwise_map]; exact HS1.out
      · rw [List.pairwise_map]; exact hs2
    intro j x y hx hy
    have h1 := congrArg (fun l => l[j]?) e1
    simp only [List.getElem?_map, hx, hy, Option.map_some] at h1
    injection h1 with h1
    exact pl_sm x.2 y.2 h1
  have HROW2d := Lib.hid hrow2
  have hRd1 := Lib.hid (Rd.own_rd HROW1e.out)
  clear hrow2 hs2 hp2' hg6 b5 HROW1d HROW2c HP1 HP2 HLT HGE
  go_wp2_with fail
  go_loop [26] (fun i => ∃ k : Nat, k ≤ n ∧ i = .int .i64 k) (fun i => n - (intOf i).toNat)
  case atStart => exact ⟨0, Nat.zero_le _, rfl⟩
  case round =>
    obtain ⟨k, hk, rfl⟩ := hrel
    by_cases hlt : k < n
    · obtain ⟨g, o, x, hA1, -, hx, hcx⟩ := hRd1.out.get hlt
      have hcm : n ≤ c1 := hRd1.out.cap
      have hct : c1 ≤ 9223372036854775807 := hRd1.out.top
      subst hA1
      have HXX := Lib.hid hx
      obtain ⟨x, hx64⟩ := x
      change w6.cell? ⟨g, o + k, none⟩ = some (.float .f64 x) at hcx
      have HX64 := Lib.hid hx64
      clear hx
      go_wp2_with fail
      go_loop [35] (fun i => ∃ j : Nat, j ≤ n - k ∧ i = .int .i64 j) (fun i => n - k - (intOf i).toNat)
      case atStart => exact ⟨0, Nat.zero_le _, rfl⟩
      case round =>
        obtain ⟨j, hj, rfl⟩ := hrel
        by_cases hjl : j < n - k
        · obtain ⟨g', o', y, hA', -, hy, hcy⟩ := hRd1.out.get (show k + j < n by omega)
          injection hA' with hA'
          injection hA' with hA1 hA2
          subst hA1 hA2
          obtain ⟨y, hy64⟩ := y
          have hcy' : w6.cell? ⟨g, o + k + j, none⟩ = some (.float .f64 y) := by rw [Nat.add_assoc]; exact hcy
          have hle : pl x ≤ pl y := by
            rcases Nat.eq_zero_or_pos j with rfl | hp
            · rw [Nat.add_zero, HXX.out] at hy
              injection hy with hy
              injection hy with hy
              subst hy
              exact Nat.le_refl _
            · obtain ⟨h1, h1'⟩ := List.getElem?_eq_some_iff.1 HXX.out
              obtain ⟨h2, h2'⟩ := List.getElem?_eq_some_iff.1 hy
              have := List.pairwise_iff_getElem.1 HS1.out k (k + j) h1 h2 (by omega)
              rw [h1', h2'] at this
              exact this
          have HY64 := Lib.hid hy64
          clear hy hcy
          rcases Nat.lt_or_eq_of_le hle with hpl | hpl
          · obtain ⟨e1, e2⟩ := cmp_le hpl
            have E1 := Lib.hid e1
            have E2 := Lib.hid e2
            clear e1 e2 hle hpl
            go_wp2_with fail
            refine (fcmp_any x y _ HX64.out HY64.out).mono ?_
            rintro e w' ⟨rfl, rfl⟩
            rw [E1.out]
            go_wp2_with fail
            refine (fcmp_any x y _ HX64.out HY64.out).mono ?_
            rintro e w' ⟨rfl, rfl⟩
            rw [E1.out]
            go_wp2_with fail
            refine (fcmp_any y x _ HY64.out HX64.out).mono ?_
            rintro e w' ⟨rfl, rfl⟩
            rw [E2.out]
            go_wp2_with fail
            go_round
            case rel => exact ⟨j + 1, by omega, by go_num⟩
            case measure => simp [intOf]; omega
          · have e1 : Wl.cmpI (pl x : Int) (pl y : Int) = 0 := by rw [hpl]; unfold Wl.cmpI; simp
            have e2 : Wl.cmpI (pl y : Int) (pl x : Int) = 0 := by rw [hpl]; unfold Wl.cmpI; simp
            have E1 := Lib.hid e1
            have E2 := Lib.hid e2
            clear e1 e2 hle hpl
            go_wp2_with fail
            refine (fcmp_any x y _ HX64.out HY64.out).mono ?_
            rintro e w' ⟨rfl, rfl⟩
            rw [E1.out]
            go_wp2_with fail
            refine (fcmp_any x y _ HX64.out HY64.out).mono ?_
            rintro e w' ⟨rfl, rfl⟩
            rw [E1.out]
            go_wp2_with fail
            refine (fcmp_any y x _ HY64.out HX64.out).mono ?_
            rintro e w' ⟨rfl, rfl⟩
            rw [E2.out]
            go_wp2_with fail
            go_round
            case rel => exact ⟨j + 1, by omega, by go_num⟩
            case measure => simp [intOf]; omega
        · have hj' : j = n - k := by omega
          go_wp2_with fail
          go_round
          case rel => exact ⟨k + 1, by omega, by go_num⟩
          case measure => simp [intOf]; omega
    · have hk' : k = n := by omega
      go_wp2_with fail
      refine (efunc_any A1 A2 n c1 c2 acc1' acc2' _ _ _ hRd1.out (Rd.own_rd HROW2d.out) HEQ.out hn).mono ?_
      rintro e w' ⟨rfl, rfl⟩
      go_wp2_with fail
      go_ret
      exact ⟨rfl, b6⟩
set_option maxRecDepth 100000 in
theorem sorts_long (A : Option Addr) (n c : Nat) (w : World) (h : 60 < n) (hn : n ≤ 9223372036854775807) :
    Calls Try.prog 8 #[.slice A n c] w fun e w' => e = .returned (.bool true) ∧ Below w.heap.size w w' := by
  go_enter Try.func8, Try.ntmps8
  go_wp2_with fail
  refine (awake6_any _).mono ?_
  rintro e w1 ⟨rfl, b1⟩
  go_wp2_with fail
  go_ret
  exact ⟨rfl, b1⟩
end Go.Proofs.Ytdacacehmmjpeaa.Fl
