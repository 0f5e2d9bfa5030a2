/- slices.Sort at []uint64 of a row of the call's own: it is permuted, and rises. -/
import Derived.Test.YtbdcdofjcljliaaGreatDoorSrtI
import Derived.Test.YtbdcdofjcljliaaGreatDoorSortG
namespace Go.Proofs.YtbdcdofjcljliaaGreatDoor.So
open Go.ChangeShapes Go.WideShapes Go.ChangeAt Go.RowKit Rw
open Go.Sort (swp ltInt PermIn SortedIn swo_ltInt)
set_option linter.unusedVariables false

theorem pdq_zero' (g n c : Nat) (D : Array Int) (lim : Int) (w : World) (hD : D.size = n) (h : Row w g n D.toList) (hn : n ≤ 200) (hn0 : 0 < n) (h0 : 0 ≤ lim) (h1 : lim ≤ 9223372036854775807) :
    Calls Tryz.prog 84 #[.slice (some ⟨g, 0, none⟩) n c, .int .i64 0, .int .i64 n, .int .i64 lim] w fun e w' => e = .returned (.tuple #[]) ∧ Pq g n (fun X => PermIn 0 n D X ∧ SortedIn ltInt 0 n X) w w' :=
  pdq_srt n g n c D 0 n lim w (by omega) hD h (.inl rfl) (Nat.zero_le _) (Nat.le_refl _) hn hn0 h0 h1
set_option maxHeartbeats 1000000 in
theorem sort_srt (g n c : Nat) (D : Array Int) (w : World) (hD : D.size = n) (h : Row w g n D.toList) (hn : n ≤ 200) (hn0 : 0 < n) :
    Calls Tryz.prog 66 #[.slice (some ⟨g, 0, none⟩) n c] w fun e w' => e = .returned (.tuple #[]) ∧ Pq g n (fun X => PermIn 0 n D X ∧ SortedIn ltInt 0 n X) w w' := by
  have HR := Lib.hid h
  have HD := Lib.hid hD
  have hbl := bitLen_small n (by omega)
  clear h hD
  go_enter Tryz.func66, Tryz.ntmps66
  go_wp2_with fail
  refine (len_any n _ (by omega)).mono ?_
  rintro e w1 ⟨rfl, rfl⟩
  go_wp2_with fail
  refine (pdq_zero' g n c D _ _ HD.out HR.out hn hn0 (by omega) (by omega)).mono ?_
  rintro e w2 ⟨rfl, h2⟩
  have H2 := Lib.hid h2
  clear h2
  go_wp2_with fail
  go_end0
  exact ⟨rfl, H2.out⟩
theorem insertion_none' (A : Option Addr) (c : Nat) (w : World) :
    Calls Tryz.prog 104 #[.slice A 0 c, .int .i64 0, .int .i64 0] w fun e w' => e = .returned (.tuple #[]) ∧ w = w' := by
  go_enter Tryz.func104, Tryz.ntmps104
  go_wp2
  refine wp_loop_rounds 1 ?_
  rw [rounds_succ]
  go_wp2
  go_end0
  exact ⟨rfl, rfl⟩
set_option maxRecDepth 100000 in
theorem pdq_none' (A : Option Addr) (c : Nat) (lim : Int) (w : World) :
    Calls Tryz.prog 84 #[.slice A 0 c, .int .i64 0, .int .i64 0, .int .i64 lim] w fun e w' => e = .returned (.tuple #[]) ∧ w = w' := by
  go_enter Tryz.func84, Tryz.ntmps84
  go_wp2_with fail
  refine wp_loop_rounds 1 ?_
  rw [rounds_succ]
  go_wp2_with fail
  refine (insertion_none' A c _).mono ?_
  rintro e w1 ⟨rfl, rfl⟩
  go_wp2_with fail
  refine bodyPost_ret (v := .tuple #[]) (by simp [results, Tryz.results84]) rfl ?_
  exact ⟨rfl, rfl⟩
theorem len_zero' (w : World) : Calls Tryz.prog 64 #[.int .u64 0] w fun e w' => ∃ l : Int, e = .returned (.int .i64 l) ∧ w = w' :=
  (len_any 0 w (by omega)).mono fun e w' ⟨h1, h2⟩ => ⟨_, h1, h2⟩
theorem sort_none' (A : Option Addr) (c : Nat) (w : World) :
    Calls Tryz.prog 66 #[.slice A 0 c] w fun e w' => e = .returned (.tuple #[]) ∧ w = w' := by
  go_enter Tryz.func66, Tryz.ntmps66
  go_wp2_with fail
  refine (len_zero' _).mono ?_
  rintro e w1 ⟨l, rfl, rfl⟩
  go_wp2_with fail
  refine (pdq_none' A c l _).mono ?_
  rintro e w2 ⟨rfl, rfl⟩
  go_wp2_with fail
  go_end0
  exact ⟨rfl, rfl⟩
theorem bang_get {A : Array Int} {i : Nat} (h : i < A.toList.length) : A[i]! = A.toList[i] := bang (List.getElem?_eq_getElem h)
theorem rises {n : Nat} {D X : Array Int} (hD : D.size = n) (hX : X.size = n) (h : PermIn 0 n D X ∧ SortedIn ltInt 0 n X) : X.toList.Perm D.toList ∧ X.toList.Pairwise (· ≤ ·) := by
  obtain ⟨⟨h1, h2, h3⟩, h4⟩ := h
  constructor
  · have e1 : X.extract 0 n = X := by rw [← hX]; exact Array.extract_size
    have e2 : D.extract 0 n = D := by rw [← hD]; exact Array.extract_size
    rw [e1, e2] at h3
    exact h3
  · rw [List.pairwise_iff_getElem]
    intro i j hi hj hij
    have := ge_of (h4 i j (Nat.zero_le _) hij (by rw [← hX]; simpa using hj))
    rw [bang_get hi, bang_get hj] at this
    exact this

theorem sortU_any (w : World) (base : Nat) (A : Option Addr) (n c : Nat) (acc : List Int) (hn : acc.length = n) (hrow : w.ownsRow base 22 1 (.slice A n c) n (acc.map (Value.int .u64))) (hsz : n ≤ 200) :
    Calls Tryz.prog 66 #[.slice A n c] w fun e w' => e = .returned (.tuple #[]) ∧ ∃ acc' : List Int, acc'.Perm acc ∧ acc'.Pairwise (· ≤ ·) ∧ Rd (Value.int .u64) w' w'.heap.size A n c acc' ∧ w.grownBy w' (Value.slice A n c).ownBlock := by
  subst hn
  by_cases h0 : acc.length = 0
  · obtain rfl := List.eq_nil_of_length_eq_zero h0
    refine (sort_none' A c w).mono ?_
    rintro e w' ⟨rfl, rfl⟩
    exact ⟨rfl, [], List.Perm.refl _, List.Pairwise.nil, Rd.own_rd hrow, World.grownBy.refl _ _⟩
  · rcases hrow.2 with ⟨_, h1⟩ | ⟨b, cap, cur, hs, hbase, hb, hnc, hcm, hcs, htake⟩
    · omega
    injection hs with hA _ hc
    subst hA hc
    have hlt : b < w.heap.size := (Array.getElem?_eq_some_iff.1 hb).1
    have hR : Row w b acc.length acc.toArray.toList := by
      refine ⟨rfl, fun j x hx => ?_, fun j hj => by simp [World.frozen?, hb]⟩
      obtain ⟨hj, rfl⟩ := List.getElem?_eq_some_iff.1 hx
      rw [hrow.cellAt j (by rw [Nat.mul_one]; exact hj), List.getElem?_map, List.getElem?_eq_getElem hj]
      rfl
    refine (sort_srt b acc.length c acc.toArray w rfl hR hsz (by omega)).mono ?_
    rintro e w' ⟨rfl, X, hX, hP, h2, h3⟩
    obtain ⟨p1, p2⟩ := rises rfl hX hP
    refine ⟨rfl, X.toList, p1, p2, ⟨by simpa using hX, hnc, by unfold maxLen at hcm; exact hcm, fun _ => ⟨b, 0, rfl, Nat.lt_of_lt_of_le hlt h3.size, fun j x hx => by rw [Nat.zero_add]; exact h2.cell j x hx⟩⟩, h3⟩
end Go.Proofs.YtbdcdofjcljliaaGreatDoor.So
