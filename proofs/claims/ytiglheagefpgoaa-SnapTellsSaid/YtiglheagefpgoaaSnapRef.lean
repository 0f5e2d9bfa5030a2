/- Contracts of the document's answer for layer 3 (hackneyref03). -/
import Derived.Test.YtiglheagefpgoaaSnap
namespace Go.Proofs.Ytiglheagefpgoaa.Sn
open Go.ChangeShapes Go.WideShapes Go.ChangeAt Go.RowKit Rw Sl
set_option linter.unusedVariables false

theorem rindex_any (A : Option Addr) (n c : Nat) (xs : List Int) (x : Int) (B : Nat) (w : World) (h : Rd (Value.int .u64) w B A n c xs) :
    Calls Try.prog 48 #[.slice A n c, .int .u64 x] w fun e w' => e = .returned (.int .i64 (sIdx xs x)) ∧ w = w' := by
  have hn : n ≤ 9223372036854775807 := by have := h.cap; have := h.top; omega
  have HR := Lib.hid h
  clear h
  go_enter Try.func48, Try.ntmps48
  go_wp2
  go_loop [5, 9] (fun _ i => ∃ k : Nat, k ≤ n ∧ i = .int .i64 k ∧ x ∉ xs.take k) (fun _ i => n - (intOf i).toNat)
  case atStart => exact ⟨0, Nat.zero_le _, rfl, by simp⟩
  case round =>
    obtain ⟨k, hk, rfl, hnot⟩ := hrel
    have HN := Lib.hid hnot
    clear hnot
    by_cases hlt : k < n
    · obtain ⟨b, o, y, rfl, hb, hy, hcell⟩ := HR.out.get hlt
      have HY := Lib.hid hy
      clear hy
      by_cases hxy : y = x
      · subst hxy
        go_wp2
        go_ret
        exact ⟨by rw [sIdx_hit xs y k HY.out HN.out]; rfl, rfl⟩
      · have hq : (y == x) = false := by simpa using hxy
        have HX := Lib.hid hxy
        clear hxy
        go_wp2
        go_round
        case rel => exact ⟨k + 1, by omega, by go_num, not_mem_snoc HY.out HN.out (fun e => HX.out e.symm)⟩
        case measure => simp [intOf]; omega
    · have hk' : k = n := by omega
      go_wp2
      go_ret
      exact ⟨by rw [sIdx_miss xs x (by have := HN.out; rwa [List.take_of_length_le (by have := HR.out.len; omega)] at this)]; rfl, rfl⟩

set_option maxRecDepth 100000 in
set_option maxHeartbeats 1000000 in
theorem rwith_any (A : Option Addr) (n c : Nat) (xs : List Int) (x : Int) (w : World) (h : Rd (Value.int .u64) w w.heap.size A n c xs) (hl : n * 8 + 8 ≤ 140737488355328) :
    Calls Try.prog 42 #[.slice A n c, .int .u64 x] w fun e w' => ∃ A' n' c', e = .returned (.slice A' n' c') ∧ Rd (Value.int .u64) w' w'.heap.size A' n' c' (sWith xs x) ∧ Below w.heap.size w w' := by
  obtain ⟨i0, hi, hz0, hz1, hz2⟩ := info_parts info_u64
  have HR := Lib.hid h
  clear h
  by_cases hm : x ∈ xs
  · have hneg : 0 ≤ sIdx xs x := by have := sIdx_neg xs x; have := mt this.1 (by simpa using hm); omega
    have e1 : sWith xs x = xs := by simp [sWith, hm]
    rw [e1]
    clear hm e1
    go_enter Try.func42, Try.ntmps42
    go_wp2_with fail
    refine (rindex_any A n c xs x _ _ HR.out).mono ?_
    rintro e w1 ⟨rfl, rfl⟩
    go_wp2_with fail
    go_ret
    exact ⟨A, n, c, rfl, HR.out, Below.refl _ _⟩
  · have hneg : sIdx xs x < 0 := (sIdx_neg xs x).2 hm
    have e1 : sWith xs x = xs ++ [x] := by simp [sWith, hm]
    rw [e1]
    clear hm e1
    go_enter Try.func42, Try.ntmps42
    go_wp2_with fail
    refine (rindex_any A n c xs x _ _ HR.out).mono ?_
    rintro e w1 ⟨rfl, rfl⟩
    go_wp2_with (first
      | (at_builtin; refine append_rd _ rfl (.tmp 11) (.tmp 12) 62 rfl w.heap.size 22 i0 (.int .u64 0) 8 Try.underlying62 hi hz0 hz1 hz2 rfl (.slice none 0 0) 0 [] rfl (World.ownsRow_nil _ _ _ _) _ A n c xs rfl HR.out one_u64 n (Nat.zero_add _) (xs.map (Value.int .u64)) rfl (by unfold maxLen; omega) (by omega) (Nat.le_refl _) ?_; intro v2 vc2 w2 hown2 hg2 hat2; have hs2 := hg2.size)
      | (at_builtin; refine append_rd _ rfl (.tmp 14) (.tmp 16) 62 rfl w.heap.size 22 i0 (.int .u64 0) 8 Try.underlying62 hi hz0 hz1 hz2 rfl _ n _ rfl (hown2.alloc _) _ _ 1 1 [x] rfl (rd_one (enc := Value.int .u64) w2 x _) one_u64 (n + 1) rfl ((xs ++ [x]).map (Value.int .u64)) List.map_append.symm (by unfold maxLen; omega) (by omega) (by simp; omega) ?_; intro v3 vc3 w3 hown3 hg3 hat3))
    go_ret
    refine ⟨_, _, _, rfl, Rd.own_rd hown3, (((Below.refl _ _).grown hg2 (Nat.le_refl _) (fun k hk => by cases hk)).alloc hs2 _).grown hg3 (by simp; omega) (fun k hk => (hown2.lt k hk).1)⟩

theorem filter_snoc_keep {l : List Int} {k : Nat} {x y : Int} (h : l[k]? = some y) (hne : y ≠ x) : sWithout (l.take (k + 1)) x = sWithout (l.take k) x ++ [y] := by
  rw [take_snoc h]; simp [sWithout, hne]
theorem filter_snoc_drop {l : List Int} {k : Nat} {x : Int} (h : l[k]? = some x) : sWithout (l.take (k + 1)) x = sWithout (l.take k) x := by
  rw [take_snoc h]; simp [sWithout]

set_option maxRecDepth 100000 in
set_option maxHeartbeats 1000000 in
theorem rwithout_any (A : Option Addr) (n c : Nat) (xs : List Int) (x : Int) (w : World) (h : Rd (Value.int .u64) w w.heap.size A n c xs) (hl : n * 8 + 8 ≤ 140737488355328) :
    Calls Try.prog 40 #[.slice A n c, .int .u64 x] w fun e w' => ∃ A' n' c', e = .returned (.slice A' n' c') ∧ Rd (Value.int .u64) w' w'.heap.size A' n' c' (sWithout xs x) ∧ Below w.heap.size w w' := by
  obtain ⟨i0, hi, hz0, hz1, hz2⟩ := info_parts info_u64
  have hlen := h.len
  have HR := Lib.hid h
  have HN := Lib.hid hlen
  clear h hlen
  go_enter Try.func40, Try.ntmps40
  go_wp2
  go_loopw [5, 10] (fun v i wr => ∃ (k c' : Nat) (A' : Option Addr) (acc : List Int), k ≤ n ∧ i = .int .i64 k ∧ v = .slice A' acc.length c' ∧ Hid (acc = sWithout (xs.take k) x) ∧ acc.length ≤ k ∧
      wr.ownsRow w.heap.size 22 1 (.slice A' acc.length c') acc.length (acc.map (Value.int .u64)) ∧ Below w.heap.size w wr) (fun _ i _ => n - (intOf i).toNat)
  case atStart => exact ⟨0, 0, none, [], Nat.zero_le _, rfl, rfl, rfl, Nat.zero_le _, World.ownsRow_nil _ _ _ _, Below.refl _ _⟩
  case round =>
    obtain ⟨k, c', A', acc, hk, rfl, rfl, hacc, hal, hrow, hbel⟩ := hrel
    have hsz := hbel.size
    by_cases hlt : k < n
    · obtain ⟨b, o, y, rfl, hb, hy, hcell⟩ := HR.out.get hlt
      have hcx : wr.cell? ⟨b, o + k, none⟩ = some (.int .u64 y) := (hbel.cell (p := ⟨b, o + k, none⟩) hb).trans hcell
      by_cases hxy : y = x
      · subst hxy
        have E1 := Lib.hid (filter_snoc_drop hy)
        clear hy hcell
        go_wp2
        go_roundw
        case rel => exact ⟨k + 1, c', A', acc, by omega, by go_num, rfl, by rw [E1.out]; exact hacc, by omega, hrow, hbel⟩
        case measure => simp [intOf]; omega
      · have hq : (y != x) = true := by simpa using hxy
        have E1 := Lib.hid (filter_snoc_keep hy hxy)
        clear hy hcell hxy
        go_wp2_with (at_builtin; refine append_rd _ rfl _ _ 62 rfl w.heap.size 22 i0 (.int .u64 0) 8 Try.underlying62 hi hz0 hz1 hz2 rfl _ acc.length _ rfl (hrow.alloc _) _ _ 1 1 [y] rfl (rd_one (enc := Value.int .u64) wr y _) one_u64 (acc.length + 1) rfl ((acc ++ [y]).map (Value.int .u64)) List.map_append.symm (by unfold maxLen; omega) (by omega) (by simp; omega) ?_; intro v3 vc3 w3 hown3 hg3 hat3)
        go_roundw
        case rel => exact ⟨k + 1, vc3, v3, acc ++ [y], by omega, by go_num, by simp, by rw [E1.out, ← hacc.out]; exact rfl, by simp; omega, by simpa using hown3, (hbel.alloc hsz _).grown hg3 (by simp; omega) (fun j hj => (hrow.lt j hj).1)⟩
        case measure => simp [intOf]; omega
    · have e1 : acc = sWithout xs x := by rw [hacc.out, List.take_of_length_le (by have := HN.out; omega)]
      clear hacc
      have E1 := Lib.hid e1
      clear e1
      go_wp2
      go_ret
      exact ⟨_, _, _, rfl, by rw [← E1.out]; exact Rd.own_rd hrow, hbel⟩

set_option maxRecDepth 100000 in
set_option maxHeartbeats 1000000 in
theorem rof_any (A : Option Addr) (n c : Nat) (xs : List Int) (w : World) (h : Rd (Value.int .u64) w w.heap.size A n c xs) (hl : n * 8 + 8 ≤ 140737488355328) :
    Calls Try.prog 38 #[.slice A n c] w fun e w' => ∃ A' n' c', e = .returned (.slice A' n' c') ∧ Rd (Value.int .u64) w' w'.heap.size A' n' c' (sOf xs) ∧ Below w.heap.size w w' := by
  have hlen := h.len
  have HR := Lib.hid h
  have HN := Lib.hid hlen
  clear h hlen
  go_enter Try.func38, Try.ntmps38
  go_wp2
  go_loopw [3, 8] (fun v i wr => ∃ (k n' c' : Nat) (A' : Option Addr), k ≤ n ∧ i = .int .i64 k ∧ v = .slice A' n' c' ∧ Rd (Value.int .u64) wr wr.heap.size A' n' c' (sOf (xs.take k)) ∧ Below w.heap.size w wr) (fun _ i _ => n - (intOf i).toNat)
  case atStart => exact ⟨0, 0, 0, none, Nat.zero_le _, rfl, rfl, Rd.nil_, Below.refl _ _⟩
  case round =>
    obtain ⟨k, n', c', A', hk, rfl, rfl, hr, hbel⟩ := hrel
    have HR2 := Lib.hid hr
    clear hr
    by_cases hlt : k < n
    · obtain ⟨b, o, y, rfl, hb, hy, hcell⟩ := HR.out.get hlt
      have hcx : wr.cell? ⟨b, o + k, none⟩ = some (.int .u64 y) := (hbel.cell (p := ⟨b, o + k, none⟩) hb).trans hcell
      have E1 := Lib.hid (sOf_take hy)
      clear hy hcell
      have hn' : n' ≤ n := by have := HR2.out.len; have := sOf_len (xs.take k); have := List.length_take_le k xs; omega
      go_wp2_with fail
      refine (rwith_any A' n' c' _ y _ HR2.out (by omega)).mono ?_
      rintro e w1 ⟨A1, n1, c1, rfl, hr1, hb1⟩
      have HR1 := Lib.hid hr1
      clear hr1
      go_wp2_with fail
      go_roundw
      case rel => exact ⟨k + 1, n1, c1, A1, by omega, by go_num, rfl, by rw [E1.out]; exact HR1.out, hbel.trans (hb1.mono hbel.size)⟩
      case measure => simp [intOf]; omega
    · go_wp2
      go_ret
      exact ⟨_, _, _, rfl, by have := HR2.out; rwa [List.take_of_length_le (by have := HN.out; omega)] at this, hbel⟩
end Go.Proofs.Ytiglheagefpgoaa.Sn
