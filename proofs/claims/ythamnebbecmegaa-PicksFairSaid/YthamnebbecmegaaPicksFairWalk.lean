/- The walk of hackneylaw08.PicksFair. -/
import Derived.Test.YthamnebbecmegaaPicksRef
import Derived.Test.YthamnebbecmegaaSortIntOwn
namespace Go.Proofs.Ythamnebbecmegaa.Pi
open Go.ChangeShapes Go.WideShapes Go.ChangeAt Go.RowKit Rw
set_option linter.unusedVariables false

def upto (k : Nat) : List Int := (List.range k).map fun j : Nat => (j : Int)
theorem outs_val (f : Int) (K k : Nat) : outs [] f K k = (List.range k).map fun j : Nat => (f + j) % (K : Int) := by
  unfold outs
  apply List.map_congr_left
  intro j hj
  simp [val]
theorem outs_nodup (f : Int) (K : Nat) (hK : 0 < K) : (outs [] f K K).Nodup := by
  rw [outs_val, List.nodup_iff_pairwise_ne, List.pairwise_map]
  refine (List.nodup_iff_pairwise_ne.1 (List.nodup_range (n := K))).imp_of_mem ?_
  intro i j hi hj hij e
  have hi' := List.mem_range.1 hi
  have hj' := List.mem_range.1 hj
  have h0 := Int.emod_eq_emod_iff_emod_sub_eq_zero.1 e
  have h1 : (f + (i : Int)) - (f + (j : Int)) = (i : Int) - j := by omega
  rw [h1] at h0
  obtain ⟨c, hc⟩ := Int.dvd_of_emod_eq_zero h0
  rcases Int.lt_trichotomy c 0 with h | h | h
  · have : (K : Int) * c ≤ (K : Int) * (-1) := Int.mul_le_mul_of_nonneg_left (by omega) (by omega)
    omega
  · subst h; rw [Int.mul_zero] at hc; omega
  · have : (K : Int) * 1 ≤ (K : Int) * c := Int.mul_le_mul_of_nonneg_left (by omega) (by omega)
    omega
theorem outs_mem (f : Int) (K : Nat) (hK : 0 < K) (x : Int) : x ∈ outs [] f K K ↔ 0 ≤ x ∧ x < K := by
  rw [outs_val, List.mem_map]
  constructor
  · rintro ⟨j, _, rfl⟩
    exact ⟨Int.emod_nonneg _ (by omega), Int.emod_lt_of_pos _ (by omega)⟩
  · rintro ⟨h0, h1⟩
    have a0 : 0 ≤ (x - f) % (K : Int) := Int.emod_nonneg _ (by omega)
    have a1 : (x - f) % (K : Int) < K := Int.emod_lt_of_pos _ (by omega)
    refine ⟨((x - f) % (K : Int)).toNat, List.mem_range.2 (by omega), ?_⟩
    rw [Int.toNat_of_nonneg a0, Int.add_emod, Int.emod_emod_of_dvd _ (Int.dvd_refl _), ← Int.add_emod]
    have : f + (x - f) = x := by omega
    rw [this]
    exact Int.emod_eq_of_lt h0 h1
theorem outs_sorted (f : Int) (K : Nat) (hK : 0 < K) : (outs [] f K K).mergeSort Sf.le = upto K := by
  have hp := List.mergeSort_perm (outs [] f K K) Sf.le
  refine List.Perm.eq_of_pairwise (le := fun a b => Sf.le a b = true) (fun a b _ _ h1 h2 => ?_) ?_ ?_ (hp.trans ?_)
  · have h1 := of_decide_eq_true h1
    have h2 := of_decide_eq_true h2
    omega
  · exact List.pairwise_mergeSort (fun a b c h1 h2 => by have h1 := of_decide_eq_true h1; have h2 := of_decide_eq_true h2; exact decide_eq_true (by omega)) (fun a b => by unfold Sf.le; simp; omega) _
  · unfold upto
    rw [List.pairwise_map]
    refine List.pairwise_lt_range.imp ?_
    intro a b h
    exact decide_eq_true (by omega)
  · refine (List.perm_ext_iff_of_nodup (outs_nodup f K hK) ?_).2 fun x => ?_
    · unfold upto
      rw [List.nodup_iff_pairwise_ne, List.pairwise_map]
      refine (List.nodup_iff_pairwise_ne.1 (List.nodup_range (n := K))).imp ?_
      intro a b h e; exact h (by omega)
    · rw [outs_mem f K hK]
      unfold upto
      rw [List.mem_map]
      constructor
      · rintro ⟨h0, h1⟩; exact ⟨x.toNat, List.mem_range.2 (by omega), by omega⟩
      · rintro ⟨j, hj, rfl⟩; have := List.mem_range.1 hj; omega

set_option maxRecDepth 100000 in
set_option maxHeartbeats 4000000 in
theorem fair_any (A : Option Addr) (len c : Nat) (l : List Int) (n f : Int) (w : World) (h : Rd (Value.int .i64) w w.heap.size A len c l) (hu : ∀ y ∈ l, Ok y) (hl : len ≤ 200) (hn : 0 ≤ n) (hn' : n ≤ 255) (hf : 0 ≤ f) (hf' : f ≤ 255) :
    Calls Try.prog 9 #[.slice A len c, .int .u8 n, .int .u8 f] w fun e w' => e = .returned (.bool true) ∧ Below w.heap.size w w' := by
  have t0 : decide ((200 : Int) < (len : Int)) = false := decide_eq_false (by omega)
  have t0' : decide (200 < len) = false := decide_eq_false (by omega)
  have k0 : 0 ≤ n % 50 := by omega
  have k1 : n % 50 ≤ 49 := by omega
  have HR := Lib.hid h
  have HU := Lib.hid hu
  have HLEN := Lib.hid h.len
  clear h hu
  go_enter Try.func9, Try.ntmps9
  go_wp2_with fail
  refine (awake8_any _).mono ?_
  rintro e w1 ⟨rfl, b1⟩
  go_wp2_with fail
  obtain ⟨K, hK⟩ : ∃ K : Nat, n % 50 + 1 = K := ⟨(n % 50 + 1).toNat, by omega⟩
  rw [hK]
  have K0 : 1 ≤ K := by omega
  have K1 : K ≤ 50 := by omega
  clear hK k0 k1
  refine (new_any A len c l _ _ (HR.out.below b1) b1.size HU.out (by omega)).mono ?_
  rintro e w2 ⟨g, rfl, hp2, hg2, hb2⟩
  have hwg : w.heap.size ≤ g := Nat.le_trans b1.size hg2
  have HB2 := Lib.hid (b1.trans (hb2.mono b1.size))
  have HP2 := Lib.hid hp2
  clear b1 hb2 hp2 HR HU hg2
  go_wp2_with fail
  obtain ⟨m, hm⟩ : ∃ m : Nat, (len : Int) + f = m := ⟨((len : Int) + f).toNat, by omega⟩
  rw [hm]
  refine (some_any g l 0 K m (by omega) (by omega) (by omega) _ HP2.out (by omega) (by omega)).mono ?_
  rintro e w3 ⟨A3, c3, rfl, hrow3, hp3, hg3⟩
  have hdr : l.drop m = [] := List.drop_eq_nil_of_le (by have := HLEN.out; omega)
  rw [hdr] at hp3
  obtain ⟨q, hq⟩ : ∃ q : Int, 0 + ((m - l.length : Nat) : Int) = q := ⟨_, rfl⟩
  rw [hq] at hp3
  have q0 : 0 ≤ q := by omega
  have q1 : q ≤ 1000 := by omega
  have HB3 := Lib.hid (HB2.out.grown hg3 HB2.out.size (fun j hj => by cases hj; exact hwg))
  have HP3 := Lib.hid hp3
  clear hrow3 hp3 hg3 hdr hq HB2 HP2 hm
  go_wp2_with fail
  refine (some_any g [] q K K (by omega) (by omega) (by omega) _ HP3.out (by omega) (by omega)).mono ?_
  rintro e w4 ⟨A4, c4, rfl, hrow4, hp4, hg4⟩
  have HROW4 := Lib.hid hrow4
  have HB4 := Lib.hid (HB3.out.grown hg4 HB3.out.size (fun j hj => by cases hj; exact hwg))
  have hw3 := HB3.out.size
  clear hrow4 hp4 hg4 HB3 HP3
  go_wp2_with fail
  refine (Sf.sortI_own _ w3.heap.size 3 A4 K c4 (outs [] q K K) (by simp [outs]) HROW4.out (by omega) (by omega)).mono ?_
  rintro e w5 ⟨rfl, hrow5, hg5⟩
  rw [outs_sorted q K (by omega)] at hrow5
  have HRD5 := Lib.hid (Rd.own_rd hrow5)
  have HB5 := Lib.hid (HB4.out.grown hg5 HB4.out.size (fun j hj => by have := (HROW4.out.lt j hj).1; omega))
  clear hrow5 hg5 HROW4 HB4
  go_wp2_with fail
  go_loopw [37] (fun i wr => ∃ p : Nat, p ≤ K ∧ i = .int .i64 p ∧ wr = w5) (fun i _ => K - (intOf i).toNat)
  case atStart => exact ⟨0, by omega, rfl, rfl⟩
  case round =>
    obtain ⟨p, hp, rfl, rfl⟩ := hrel
    by_cases hlt : p < K
    · obtain ⟨b, o, y, rfl, hb, hy, hcy⟩ := HRD5.out.get hlt
      obtain rfl : (p : Int) = y := by
        unfold upto at hy
        rw [List.getElem?_map, List.getElem?_range hlt] at hy
        simpa using hy
      have hcap := HRD5.out.cap
      clear hy
      go_wp2_with fail
      go_roundw
      case rel => exact ⟨p + 1, by omega, by go_num, trivial⟩
      case measure => simp [intOf]; omega
    · obtain rfl : p = K := by omega
      go_wp2_with fail
      go_ret
      exact ⟨rfl, HB5.out⟩
theorem fair_long (A : Option Addr) (n c : Nat) (x f : Int) (w : World) (hn : n ≤ 9223372036854775807) (h : 200 < n) :
    Calls Try.prog 9 #[.slice A n c, .int .u8 x, .int .u8 f] w fun e w' => e = .returned (.bool true) ∧ Below w.heap.size w w' := by
  have t0 : decide ((200 : Int) < (n : Int)) = true := decide_eq_true (by omega)
  have t0' : decide (200 < n) = true := decide_eq_true (by omega)
  go_enter Try.func9, Try.ntmps9
  go_wp2_with fail
  refine (awake8_any _).mono ?_
  rintro e w1 ⟨rfl, b1⟩
  go_wp2_with fail
  go_ret
  exact ⟨rfl, b1⟩
end Go.Proofs.Ythamnebbecmegaa.Pi
