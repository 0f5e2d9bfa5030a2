/- slices.Sort and slices.Compact at uint64: what SnapStays needs of them. -/
import Derived.Test.YthamnebbecmegaaSortI
namespace Go.Proofs.Ythamnebbecmegaa.So
open Go.ChangeShapes Go.WideShapes Go.ChangeAt Go.RowKit Rw
set_option linter.unusedVariables false

theorem pdq_zero (g n c : Nat) (d : List Int) (lim : Int) (w : World) (h : Row w g n d) (hn : n ≤ 200) (hn0 : 0 < n) (h0 : 0 ≤ lim) (h1 : lim ≤ 9223372036854775807) :
    Calls Try.prog 64 #[.slice (some ⟨g, 0, none⟩) n c, .int .i64 0, .int .i64 n, .int .i64 lim] w fun e w' => e = .returned (.tuple #[]) ∧ Pm g n d w w' :=
  pdq_any n g n c d 0 n lim w (by omega) h (Nat.zero_le _) (Nat.le_refl _) hn hn0 h0 h1
set_option maxHeartbeats 1000000 in
theorem sort_any (g n c : Nat) (d : List Int) (w : World) (h : Row w g n d) (hn : n ≤ 200) (hn0 : 0 < n) :
    Calls Try.prog 18 #[.slice (some ⟨g, 0, none⟩) n c] w fun e w' => e = .returned (.tuple #[]) ∧ Pm g n d w w' := by
  have HR := Lib.hid h
  have hbl := bitLen_small n (by omega)
  clear h
  go_enter Try.func18, Try.ntmps18
  go_wp2_with fail
  refine (len_any n _ (by omega)).mono ?_
  rintro e w1 ⟨rfl, rfl⟩
  go_wp2_with fail
  refine (pdq_zero g n c d _ _ HR.out hn hn0 (by omega) (by omega)).mono ?_
  rintro e w2 ⟨rfl, h2⟩
  have H2 := Lib.hid h2
  clear h2
  go_wp2_with fail
  go_end0
  exact ⟨rfl, H2.out⟩
theorem insertion_none (A : Option Addr) (c : Nat) (w : World) :
    Calls Try.prog 90 #[.slice A 0 c, .int .i64 0, .int .i64 0] w fun e w' => e = .returned (.tuple #[]) ∧ w = w' := by
  go_enter Try.func90, Try.ntmps90
  go_wp2
  refine wp_loop_rounds 1 ?_
  rw [rounds_succ]
  go_wp2
  go_end0
  exact ⟨rfl, rfl⟩
set_option maxRecDepth 100000 in
theorem pdq_none (A : Option Addr) (c : Nat) (lim : Int) (w : World) :
    Calls Try.prog 64 #[.slice A 0 c, .int .i64 0, .int .i64 0, .int .i64 lim] w fun e w' => e = .returned (.tuple #[]) ∧ w = w' := by
  go_enter Try.func64, Try.ntmps64
  go_wp2_with fail
  refine wp_loop_rounds 1 ?_
  rw [rounds_succ]
  go_wp2_with fail
  refine (insertion_none A c _).mono ?_
  rintro e w1 ⟨rfl, rfl⟩
  go_wp2_with fail
  refine bodyPost_ret (v := .tuple #[]) (by simp [results, Try.results64]) rfl ?_
  exact ⟨rfl, rfl⟩
theorem len_zero (w : World) : Calls Try.prog 65 #[.int .u64 0] w fun e w' => ∃ l : Int, e = .returned (.int .i64 l) ∧ w = w' :=
  (len_any 0 w (by omega)).mono fun e w' ⟨h1, h2⟩ => ⟨_, h1, h2⟩
theorem sort_none (A : Option Addr) (c : Nat) (w : World) :
    Calls Try.prog 18 #[.slice A 0 c] w fun e w' => e = .returned (.tuple #[]) ∧ w = w' := by
  go_enter Try.func18, Try.ntmps18
  go_wp2_with fail
  refine (len_zero _).mono ?_
  rintro e w1 ⟨l, rfl, rfl⟩
  go_wp2_with fail
  refine (pdq_none A c l _).mono ?_
  rintro e w2 ⟨rfl, rfl⟩
  go_wp2_with fail
  go_end0
  exact ⟨rfl, rfl⟩
theorem compact_small (A : Option Addr) (n c : Nat) (w : World) (hn : n < 2) :
    Calls Try.prog 20 #[.slice A n c] w fun e w' => e = .returned (.slice A n c) ∧ ∃ q, w.drewN q = w' := by
  go_enter Try.func20, Try.ntmps20
  go_wp2
  go_ret
  exact ⟨rfl, 0, rfl⟩
set_option maxHeartbeats 2000000 in
set_option maxRecDepth 100000 in
theorem compact_any (g n c : Nat) (d : List Int) (w : World) (h : Row w g n d) (hd : d.Nodup) (hn : n ≤ 200) (hn2 : 2 ≤ n) :
    Calls Try.prog 20 #[.slice (some ⟨g, 0, none⟩) n c] w fun e w' => e = .returned (.slice (some ⟨g, 0, none⟩) n c) ∧ ∃ q, w.drewN q = w' := by
  have HR := Lib.hid h
  have HD := Lib.hid hd
  clear h hd
  go_enter Try.func20, Try.ntmps20
  go_wp2
  go_loopw [3] (fun si wr => ∃ (k : Nat) (q : Nat), k ≤ n ∧ 1 ≤ k ∧ si = .int .i64 k ∧ wr = w.drewN q) (fun si _ => n - (intOf si).toNat)
  case atStart => exact ⟨1, 0, by omega, by omega, rfl, rfl⟩
  case round =>
    obtain ⟨k, q, hk, hk1, rfl, rfl⟩ := hrel
    by_cases hlt : k < n
    · obtain ⟨m, hm⟩ : ∃ m : Nat, (k : Int) - 1 = (m : Int) := ⟨k - 1, by omega⟩
      obtain ⟨x, hx, hcx⟩ := HR.out.get hlt
      obtain ⟨y, hy, hcy⟩ := HR.out.get (show m < n by omega)
      have hxy : x ≠ y := by
        obtain ⟨h1, rfl⟩ := List.getElem?_eq_some_iff.1 hx
        obtain ⟨h2, rfl⟩ := List.getElem?_eq_some_iff.1 hy
        exact fun e => List.pairwise_iff_getElem.1 HD.out m k h2 h1 (by omega) e.symm
      have hq : (x == y) = false := by simpa using hxy
      have w1 : IntKind.i64.wrap ((k : Int) - 1) = (m : Int) := by rw [hm]; exact IntWalk.i64_in _ (by omega)
      have b0 : (0 : Int) ≤ (k : Int) := by omega
      have b1 : (k : Int) < (n : Int) := by omega
      have b2 : (0 : Int) ≤ (m : Int) := by omega
      have b3 : (m : Int) < (n : Int) := by omega
      clear hx hy hxy hm
      go_wp2
      go_quiet (fail)
      go_wp2
      go_roundw
      case rel => exact ⟨k + 1, _, by omega, by omega, by go_num, rfl⟩
      case measure => simp [intOf] <;> omega
    · go_wp2
      go_ret
      exact ⟨rfl, _, rfl⟩
end Go.Proofs.Ythamnebbecmegaa.So
