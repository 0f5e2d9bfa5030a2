/- strconv.FormatFloat: the shortest digits of any number, and where they are laid. -/
import Derived.Test.YtnclbnbjmgbonaaGreatDoorFltG
import Derived.Test.YtnclbnbjmgbonaaGreatDoorFltC
import Derived.Test.YtnclbnbjmgbonaaGreatDoorTabs
namespace Go.Proofs.YtnclbnbjmgbonaaGreatDoor.Ff
open Go.ChangeShapes Go.WideShapes Go.ChangeAt Go.RowKit Rw Go.Shelf Go.Sort
set_option linter.unusedVariables false

/-- The two tables that FormatFloat reads. -/
structure Ft (w : World) : Prop where
  tab : Tx.Tab w
  pow : Pw Tb.hiT Tb.loT w
theorem Ft.below {w w' : World} (h : Ft w) (hb : Below w.heap.size w w') : Ft w' := ⟨h.tab.below hb, h.pow.below hb⟩
def pk (a b c p : Int) : Int × Int := if a ≤ b / 10 * 10 then (b / 10, -(p - 1)) else if a < b then (c, -p) else (a, -p)
theorem tl_pk (hi lo : Nat → Nat) (m : Nat) (e : Int) (mn mx : Nat) (odd p : Int) : ∃ u v x, tl hi lo m e mn mx odd p = pk (cei u) (flo v) (rou x) p := ⟨_, _, _, rfl⟩
theorem pk_in (a b c p : Int) (ha : 0 ≤ a ∧ a < 4611686018427387904) (hb : 0 ≤ b ∧ b < 4611686018427387904) (hc : 0 ≤ c ∧ c < 4611686018427387904) : 0 ≤ (pk a b c p).1 ∧ (pk a b c p).1 < 4611686018427387904 ∧ ((pk a b c p).2 = -(p - 1) ∨ (pk a b c p).2 = -p) := by
  unfold pk
  split
  · exact ⟨by show 0 ≤ b / 10; omega, by show b / 10 < _; omega, .inl rfl⟩
  · split
    · exact ⟨hc.1, hc.2, .inr rfl⟩
    · exact ⟨ha.1, ha.2, .inr rfl⟩
theorem short_any (m : Nat) (e : Int) (hm : m < 18446744073709551616) (he : -1137 ≤ e) (he' : e ≤ 960) :
    ∃ (d : Nat) (p : Int), d < 18446744073709551616 ∧ -400 ≤ p ∧ p ≤ 400 ∧ ∀ w, Pw Tb.hiT Tb.loT w → Calls Tryz.prog 304 #[.int .u64 m, .int .i64 e] w fun e' w' => e' = .returned (.tuple #[.int .u64 d, .int .i64 p]) ∧ Below w.heap.size w w' := by
  have fin : ∀ (odd p : Int) (mn mx : Nat), -330 ≤ p → p ≤ 330 → (∀ w, Pw Tb.hiT Tb.loT w → Calls Tryz.prog 304 #[.int .u64 m, .int .i64 e] w fun e' w' => e' = .returned (.tuple #[.int .u64 (tl Tb.hiT Tb.loT m e mn mx odd p).1, .int .i64 (tl Tb.hiT Tb.loT m e mn mx odd p).2]) ∧ Below w.heap.size w w') →
      ∃ (d : Nat) (p : Int), d < 18446744073709551616 ∧ -400 ≤ p ∧ p ≤ 400 ∧ ∀ w, Pw Tb.hiT Tb.loT w → Calls Tryz.prog 304 #[.int .u64 m, .int .i64 e] w fun e' w' => e' = .returned (.tuple #[.int .u64 d, .int .i64 p]) ∧ Below w.heap.size w w' := by
    intro odd p mn mx h1 h2 h
    obtain ⟨u, v, x, ht⟩ := tl_pk Tb.hiT Tb.loT m e mn mx odd p
    rw [ht] at h
    obtain ⟨k1, k2, k3⟩ := pk_in (cei u) (flo v) (rou x) p (cei_in u) (flo_in v) (rou_in x)
    generalize pk (cei u) (flo v) (rou x) p = q at *
    refine ⟨q.1.toNat, q.2, by omega, by omega, by omega, ?_⟩
    rw [Int.toNat_of_nonneg k1]
    exact h
  have wn : ∀ x : Int, IntKind.u64.wrap x = ((IntKind.u64.wrap x).toNat : Int) := fun x => (Int.toNat_of_nonneg (wrap_in x).1).symm
  have wl : ∀ x : Int, (IntKind.u64.wrap x).toNat < 18446744073709551616 := fun x => by have := wrap_in x; omega
  by_cases h0 : m = 9223372036854775808
  · have h1 : ((m : Int) == 9223372036854775808) = true := by rw [beq_iff_eq]; omega
    by_cases h2 : -1085 < e
    · exact fin _ (-(((e + 11) * 631305 - 261663) / 2097152)) _ _ (by omega) (by omega) fun w hP => shortA Tb.hiT Tb.loT m e w hP hm (by omega) he' h1 (decide_eq_true h2) _ _ _ _ rfl (wn _) (wn _) rfl (wl _) (wl _)
    · by_cases h3 : -1085 ≤ e
      · exact fin _ (-((e + 11) * 78913 / 262144)) _ _ (by omega) (by omega) fun w hP => shortB2 Tb.hiT Tb.loT m e w hP hm (by omega) he' h1 (decide_eq_false h2) (decide_eq_true h3) _ _ _ _ rfl (wn _) (wn _) rfl (wl _) (wl _)
      · exact fin _ 324 _ _ (by omega) (by omega) fun w hP => shortC2 Tb.hiT Tb.loT m e w hP hm he (by omega) h1 (11 + (-1085 - e)).toNat (by omega) 324 _ _ _ rfl (wn _) (wn _) rfl (wl _) (wl _)
  · have h1 : ((m : Int) == 9223372036854775808) = false := by rw [beq_eq_false_iff_ne]; omega
    by_cases h3 : -1085 ≤ e
    · exact fin _ (-((e + 11) * 78913 / 262144)) _ _ (by omega) (by omega) fun w hP => shortB Tb.hiT Tb.loT m e w hP hm (by omega) he' h1 (decide_eq_true h3) _ _ _ _ rfl (wn _) (wn _) rfl (wl _) (wl _)
    · exact fin _ 324 _ _ (by omega) (by omega) fun w hP => shortC Tb.hiT Tb.loT m e w hP hm he (by omega) h1 (11 + (-1085 - e)).toNat (by omega) 324 _ _ _ rfl (wn _) (wn _) rfl (wl _) (wl _)
/-- How many digits; which (of nought none). -/
def dN (d : Nat) : Nat := if d = 0 then 0 else Lib.nDigits d
def dL (d : Nat) : List UInt8 := if d = 0 then [] else Lib.decDigits d
theorem dL_len (d : Nat) : (dL d).length = dN d := by
  unfold dL dN
  split
  · rfl
  · rw [Lib.decDigits_length]
theorem dN_le (d : Nat) (hd : d < 18446744073709551616) : dN d ≤ 20 := by
  unfold dN
  split
  · omega
  · exact (nd20 d (by omega) hd).2
theorem num_any (d : Nat) (hd : d < 18446744073709551616) (w : World) (hT : Tx.Tab w) : Calls Tryz.prog 266 #[.int .u64 d] w fun e w' => e = .returned (.int .i64 (dN d)) ∧ w = w' := by
  by_cases h0 : d = 0
  · subst h0
    have hc : w.cell? ⟨2, 0, none⟩ = some (.int .u64 1) := by
      rw [Lib.TabIs.cell hT (show Tryz.prog.globalNamed "internal/strconv.uint64pow10" = some 2 by kernel_rfl) 0 (by decide)]
      rfl
    have hb : ∀ w, Calls Tryz.prog 281 #[.bool false] w fun e w' => e = .returned (.int .i64 0) ∧ w' = w := by
      intro w
      go_enter Tryz.func281, Tryz.ntmps281
      go_wp2
      go_ret
      exact ⟨rfl, rfl⟩
    go_enter Tryz.func266, Tryz.ntmps266
    go_wp2_with fail
    refine (Any.bits_Len64 (P := Tryz.prog) (ρ := ffRen) { ffDigits with } 0 _ (by omega) (by omega)).mono ?_
    rintro e w' ⟨rfl, rfl⟩
    rw [show Lib.bitLen (0 : Int).toNat = 0 from by decide]
    go_wp2_with fail
    refine (log10_any 0 _ (by omega) (by omega)).mono ?_
    rintro e w' ⟨rfl, rfl⟩
    go_wp2_with fail
    refine (hb _).mono ?_
    rintro e w' ⟨rfl, rfl⟩
    go_wp2_with fail
    go_ret
    exact ⟨rfl, rfl⟩
  · have h := Any.internal_strconv_numDigits (P := Tryz.prog) (ρ := ffRen) ffDigits d (by omega) hd w hT
    have e : dN d = Lib.nDigits d := by unfold dN; rw [if_neg h0]
    rw [e]
    exact h.mono fun e w' ⟨a, b⟩ => ⟨a, b.symm⟩
set_option maxRecDepth 100000 in
theorem set_zero (h : Nat) (p : Int) (w : World) (hz : ∀ j, j < 32 → w.cell? ⟨h, j, none⟩ = some (.int .u8 0) ∧ w.frozen? ⟨h, j, none⟩ = false) (hp : -400 ≤ p ∧ p ≤ 400) :
    Calls Tryz.prog 299 #[.slice (some ⟨h, 0, none⟩) 32 32, .int .u64 0, .int .i64 p, .int .i64 0] w fun e w' => e = .returned (.tuple #[.int .i64 p, .int .i64 0]) ∧ w.grownBy w' (some h) := by
  have hH0 : Holds e8 w h 0 (Array.replicate 0 (0 : UInt8)) := fun j hj => by simp at hj
  have hfmt := Any.internal_strconv_formatBase10 (P := Tryz.prog) (ρ := ffRen) ffBase h 0 32 0 (Array.replicate 0 0) w hH0 (by decide) (by omega) (by rw [Array.size_replicate]; omega)
  rw [Array.size_replicate] at hfmt
  have HF := Lib.hid hfmt
  clear hfmt hH0 hz
  go_enter Tryz.func299, Tryz.ntmps299
  go_wp2_with fail
  refine HF.out.mono ?_
  rintro e w' ⟨rfl, k, v', dk, rfl, hF⟩
  have hgrow : w.grownBy ((putRow e8 w h 0 dk).drewN k) (some h) :=
    ⟨rfl, rfl, rfl, by simp, fun i hi hne => put_other w h dk i (fun e => hne (by rw [e]))⟩
  have HG := Lib.hid hgrow
  generalize (putRow e8 w h 0 dk).drewN k = w1 at *
  clear hgrow hF HF
  go_wp2_with fail
  go_loopw [3] (fun s3 wr => s3 = .int .i64 0 ∧ Hid (wr = w1)) (fun s3 _ => 0)
  case atStart => exact ⟨rfl, rfl⟩
  case round =>
    obtain ⟨rfl, hw⟩ := hrel
    have hw' := hw.out
    subst hw'
    go_wp2_with fail
    go_ret2
    exact ⟨rfl, HG.out⟩
theorem digits_any (h d : Nat) (p : Int) (w : World) (hz : ∀ j, j < 32 → w.cell? ⟨h, j, none⟩ = some (.int .u8 0) ∧ w.frozen? ⟨h, j, none⟩ = false) (hd : d < 18446744073709551616) (hp : -400 ≤ p ∧ p ≤ 400) :
    Calls Tryz.prog 299 #[.slice (some ⟨h, 0, none⟩) 32 32, .int .u64 d, .int .i64 p, .int .i64 (dN d)] w fun e w' => e = .returned (.tuple #[.int .i64 (dN d + p), .int .i64 (trl (dL d) (dN d))]) ∧
      (∀ j x, (dL d)[j]? = some x → w'.cell? ⟨h, j, none⟩ = some (e8 x)) ∧ w.grownBy w' (some h) := by
  by_cases h0 : d = 0
  · subst h0
    refine (set_zero h p w hz hp).mono ?_
    rintro e w' ⟨rfl, hg⟩
    refine ⟨?_, fun j x hx => by simp [dL] at hx, hg⟩
    show _ = Ending.returned (.tuple #[.int .i64 ((0 : Nat) + p), .int .i64 ((0 : Nat) : Int)])
    simp
  · have e1 : dN d = Lib.nDigits d := by unfold dN; rw [if_neg h0]
    have e2 : dL d = Lib.decDigits d := by unfold dL; rw [if_neg h0]
    rw [e1, e2]
    exact setDigits_any h d p w hz (by omega) hd hp _ rfl
end Go.Proofs.YtnclbnbjmgbonaaGreatDoor.Ff
