/- A part of the claim: the texts WordRef SnapRef. -/
import Derived.Test.YthmdiaingolfnaaGreatDoorZBase1
import Derived.Test.YthmdiaingolfnaaGreatDoorZKeep
namespace Go.Proofs.YthmdiaingolfnaaGreatDoor.Wd
open Go.ChangeShapes Go.WideShapes Go.ChangeAt Go.RowKit
set_option linter.unusedVariables false
theorem rof_math (s v : Int) (h0 : 0 ≤ v) : 4 * (v % 4611686018427387904) + s % 4 = wOf s v := by unfold wOf; omega
theorem tmod4 (s : Int) : (0 ≤ s → s.tmod 4 = s % 4) ∧ (s < 0 → s.tmod 4 = -((-s) % 4)) := by
  constructor
  · intro h; exact Int.tmod_eq_emod_of_nonneg h
  · intro h
    have : s = -(-s) := by omega
    rw [this, Int.neg_tmod, Int.tmod_eq_emod_of_nonneg (by omega)]; omega
theorem tmod4_neg (s : Int) (h : s.tmod 4 < 0) : s.tmod 4 + 4 = s % 4 := by
  have := tmod4 s; omega
theorem tmod4_pos (s : Int) (h : ¬ s.tmod 4 < 0) : s.tmod 4 = s % 4 := by
  have := tmod4 s; omega
set_option maxHeartbeats 1000000 in
theorem rof_any (s v : Int) (w : World) (h0 : 0 ≤ v) (h1 : v ≤ 18446744073709551615) (h2 : -9223372036854775808 ≤ s) (h3 : s ≤ 9223372036854775807) :
    Calls Tryz.prog 84 #[.int .i64 s, .int .u64 v] w fun e w' => e = .returned (.int .u64 (wOf s v)) ∧ w = w' := by
  have ht := tmod4 s
  have hp := tmod4_pos s
  have hn := tmod4_neg s
  have hb : -4 < s.tmod 4 ∧ s.tmod 4 < 4 := by omega
  clear ht
  by_cases hs : s.tmod 4 < 0
  · have hn' := hn hs
    have HN := Lib.hid hn'
    have hb0 : 0 ≤ s.tmod 4 + 4 ∧ s.tmod 4 + 4 < 4 := by omega
    clear hp hn hn'
    go_enter Tryz.func84, Tryz.ntmps84
    go_wp2
    go_ret
    exact ⟨ret_int (by rw [HN.out]; exact rof_math s v h0), rfl⟩
  · have hn' := hp hs
    have HN := Lib.hid hn'
    have hb0 : 0 ≤ s.tmod 4 := by omega
    clear hp hn hn'
    go_enter Tryz.func84, Tryz.ntmps84
    go_wp2
    go_ret
    exact ⟨ret_int (by rw [HN.out]; exact rof_math s v h0), rfl⟩
theorem six (x : Int) : x = 0 ∨ x = 1 ∨ x = 2 ∨ x = 3 ∨ x < 0 ∨ (0 ≤ x ∧ 3 < x) := by omega
end Go.Proofs.YthmdiaingolfnaaGreatDoor.Wd
namespace Go.Proofs.YthmdiaingolfnaaGreatDoor.Sn
open Go.ChangeShapes Go.WideShapes Go.ChangeAt Go.RowKit Rw Sl
set_option linter.unusedVariables false
theorem rindex_any (A : Option Addr) (n c : Nat) (xs : List Int) (x : Int) (B : Nat) (w : World) (h : Rd (Value.int .u64) w B A n c xs) :
    Calls Tryz.prog 138 #[.slice A n c, .int .u64 x] w fun e w' => e = .returned (.int .i64 (sIdx xs x)) ∧ w = w' := by
  have hn : n ≤ 9223372036854775807 := by have := h.cap; have := h.top; omega
  have HR := Lib.hid h
  clear h
  go_enter Tryz.func138, Tryz.ntmps138
  go_wp2
  go_loop [5, 9] (fun _ i => ∃ k : Nat, k ≤ n ∧ i = .int .i64 k ∧ x ∉ xs.take k) (fun _ i => n - (intOf i).toNat)
  case atStart => exact ⟨0, Nat.zero_le _, rfl, by simp⟩
  case round =>
    obtain ⟨k, hk, rfl, hnot⟩ := hrel
    have HN := Lib.hid hnot
    clear hnot
    by_cases hlt : k < n
    · obtain ⟨b, o, y, rfl, hb, hy, hcell⟩ := HR.out.get hlt
      have HY := Lib.hid hy
      clear hy
      by_cases hxy : y = x
      · subst hxy
        go_wp2
        go_ret
        exact ⟨by rw [sIdx_hit xs y k HY.out HN.out]; rfl, rfl⟩
      · have hq : (y == x) = false := by simpa using hxy
        have HX := Lib.hid hxy
        clear hxy
        go_wp2
        go_round
        case rel => exact ⟨k + 1, by omega, by go_num, not_mem_snoc HY.out HN.out (fun e => HX.out e.symm)⟩
        case measure => simp [intOf]; omega
    · have hk' : k = n := by omega
      go_wp2
      go_ret
      exact ⟨by rw [sIdx_miss xs x (by have := HN.out; rwa [List.take_of_length_le (by have := HR.out.len; omega)] at this)]; rfl, rfl⟩
set_option maxRecDepth 100000 in
set_option maxHeartbeats 1000000 in
theorem rwithK_any {K : Nat → Prop} (A : Option Addr) (n c : Nat) (xs : List Int) (x : Int) (w : World) (h : Rd (Value.int .u64) w w.heap.size A n c xs) (hl : n * 8 + 8 ≤ 140737488355328) (hk : Kn K n A) (hK : ∀ g, w.heap.size ≤ g → K g) :
    Calls Tryz.prog 114 #[.slice A n c, .int .u64 x] w fun e w' => ∃ A' n' c', e = .returned (.slice A' n' c') ∧ Rd (Value.int .u64) w' w'.heap.size A' n' c' (sWith xs x) ∧ Kn K n' A' ∧ Below w.heap.size w w' := by
  obtain ⟨i0, hi, hz0, hz1, hz2⟩ := info_parts info_u64
  have HR := Lib.hid h
  have HKR := Lib.hid hk
  have HKK := Lib.hid hK
  clear h hk hK
  by_cases hm : x ∈ xs
  · have hneg : 0 ≤ sIdx xs x := by have := sIdx_neg xs x; have := mt this.1 (by simpa using hm); omega
    have e1 : sWith xs x = xs := by simp [sWith, hm]
    rw [e1]
    clear hm e1
    go_enter Tryz.func114, Tryz.ntmps114
    go_wp2_with fail
    refine (rindex_any A n c xs x _ _ HR.out).mono ?_
    rintro e w1 ⟨rfl, rfl⟩
    go_wp2_with fail
    go_ret
    exact ⟨A, n, c, rfl, HR.out, HKR.out, Below.refl _ _⟩
  · have hneg : sIdx xs x < 0 := (sIdx_neg xs x).2 hm
    have e1 : sWith xs x = xs ++ [x] := by simp [sWith, hm]
    rw [e1]
    clear hm e1
    go_enter Tryz.func114, Tryz.ntmps114
    go_wp2_with fail
    refine (rindex_any A n c xs x _ _ HR.out).mono ?_
    rintro e w1 ⟨rfl, rfl⟩
    go_wp2_with (first
      | (at_builtin; refine append_rd _ rfl (.tmp 11) (.tmp 12) 54 rfl w.heap.size 22 i0 (.int .u64 0) 8 Tryz.underlying54 hi hz0 hz1 hz2 rfl (.slice none 0 0) 0 [] rfl (World.ownsRow_nil _ _ _ _) _ A n c xs rfl HR.out one_u64 n (Nat.zero_add _) (xs.map (Value.int .u64)) rfl (by unfold maxLen; omega) (by omega) (Nat.le_refl _) ?_; intro v2 vc2 w2 hown2 hg2 hat2; have hs2 := hg2.size)
      | (at_builtin; refine append_rd _ rfl (.tmp 14) (.tmp 16) 54 rfl w.heap.size 22 i0 (.int .u64 0) 8 Tryz.underlying54 hi hz0 hz1 hz2 rfl _ n _ rfl (hown2.alloc _) _ _ 1 1 [x] rfl (rd_one (enc := Value.int .u64) w2 x _) one_u64 (n + 1) rfl ((xs ++ [x]).map (Value.int .u64)) List.map_append.symm (by unfold maxLen; omega) (by omega) (by simp; omega) ?_; intro v3 vc3 w3 hown3 hg3 hat3))
    go_ret
    refine ⟨_, _, _, rfl, Rd.own_rd hown3, Kn.own hown3 HKK.out, (((Below.refl _ _).grown hg2 (Nat.le_refl _) (fun k hk => by cases hk)).alloc hs2 _).grown hg3 (by simp; omega) (fun k hk => (hown2.lt k hk).1)⟩
end Go.Proofs.YthmdiaingolfnaaGreatDoor.Sn
