/- Contracts of the document's answer for layer 3 (hackneyref03). -/
import Derived.Test.YtlpjlphofjghhaaGreatDoorBase1
import Derived.Test.YtlpjlphofjghhaaGreatDoorKeep
namespace Go.Proofs.YtlpjlphofjghhaaGreatDoor.Sn
open Go.ChangeShapes Go.WideShapes Go.ChangeAt Go.RowKit Rw Sl
set_option linter.unusedVariables false

theorem rindex_any (A : Option Addr) (n c : Nat) (xs : List Int) (x : Int) (B : Nat) (w : World) (h : Rd (Value.int .u64) w B A n c xs) :
    Calls Tryz.prog 121 #[.slice A n c, .int .u64 x] w fun e w' => e = .returned (.int .i64 (sIdx xs x)) ∧ w = w' := by
  have hn : n ≤ 9223372036854775807 := by have := h.cap; have := h.top; omega
  have HR := Lib.hid h
  clear h
  go_enter Tryz.func121, Tryz.ntmps121
  go_wp2
  go_loop [5, 9] (fun _ i => ∃ k : Nat, k ≤ n ∧ i = .int .i64 k ∧ x ∉ xs.take k) (fun _ i => n - (intOf i).toNat)
  case atStart => exact ⟨0, Nat.zero_le _, rfl, by simp⟩
  case round =>
    obtain ⟨k, hk, rfl, hnot⟩ := hrel
    have HN := Lib.hid hnot
    clear hnot
    by_cases hlt : k < n
    · obtain ⟨b, o, y, rfl, hb, hy, hcell⟩ := HR.out.get hlt
      have HY := Lib.hid hy
      clear hy
      by_cases hxy : y = x
      · subst hxy
        go_wp2
        go_ret
        exact ⟨by rw [sIdx_hit xs y k HY.out HN.out]; rfl, rfl⟩
      · have hq : (y == x) = false := by simpa using hxy
        have HX := Lib.hid hxy
        clear hxy
        go_wp2
        go_round
        case rel => exact ⟨k + 1, by omega, by go_num, not_mem_snoc HY.out HN.out (fun e => HX.out e.symm)⟩
        case measure => simp [intOf]; omega
    · have hk' : k = n := by omega
      go_wp2
      go_ret
      exact ⟨by rw [sIdx_miss xs x (by have := HN.out; rwa [List.take_of_length_le (by have := HR.out.len; omega)] at this)]; rfl, rfl⟩

set_option maxRecDepth 100000 in
set_option maxHeartbeats 1000000 in
theorem rwithK_any {K : Nat → Prop} (A : Option Addr) (n c : Nat) (xs : List Int) (x : Int) (w : World) (h : Rd (Value.int .u64) w w.heap.size A n c xs) (hl : n * 8 + 8 ≤ 140737488355328) (hk : Kn K n A) (hK : ∀ g, w.heap.size ≤ g → K g) :
    Calls Tryz.prog 53 #[.slice A n c, .int .u64 x] w fun e w' => ∃ A' n' c', e = .returned (.slice A' n' c') ∧ Rd (Value.int .u64) w' w'.heap.size A' n' c' (sWith xs x) ∧ Kn K n' A' ∧ Below w.heap.size w w' := by
  obtain ⟨i0, hi, hz0, hz1, hz2⟩ := info_parts info_u64
  have HR := Lib.hid h
  have HKR := Lib.hid hk
  have HKK := Lib.hid hK
  clear h hk hK
  by_cases hm : x ∈ xs
  · have hneg : 0 ≤ sIdx xs x := by have := sIdx_neg xs x; have := mt this.1 (by simpa using hm); omega
    have e1 : sWith xs x = xs := by simp [sWith, hm]
    rw [e1]
    clear hm e1
    go_enter Tryz.func53, Tryz.ntmps53
    go_wp2_with fail
    refine (rindex_any A n c xs x _ _ HR.out).mono ?_
    rintro e w1 ⟨rfl, rfl⟩
    go_wp2_with fail
    go_ret
    exact ⟨A, n, c, rfl, HR.out, HKR.out, Below.refl _ _⟩
  · have hneg : sIdx xs x < 0 := (sIdx_neg xs x).2 hm
    have e1 : sWith xs x = xs ++ [x] := by simp [sWith, hm]
    rw [e1]
    clear hm e1
    go_enter Tryz.func53, Tryz.ntmps53
    go_wp2_with fail
    refine (rindex_any A n c xs x _ _ HR.out).mono ?_
    rintro e w1 ⟨rfl, rfl⟩
    go_wp2_with (first
      | (at_builtin; refine append_rd _ rfl (.tmp 11) (.tmp 12) 27 rfl w.heap.size 30 i0 (.int .u64 0) 8 Tryz.underlying27 hi hz0 hz1 hz2 rfl (.slice none 0 0) 0 [] rfl (World.ownsRow_nil _ _ _ _) _ A n c xs rfl HR.out one_u64 n (Nat.zero_add _) (xs.map (Value.int .u64)) rfl (by unfold maxLen; omega) (by omega) (Nat.le_refl _) ?_; intro v2 vc2 w2 hown2 hg2 hat2; have hs2 := hg2.size)
      | (at_builtin; refine append_rd _ rfl (.tmp 14) (.tmp 16) 27 rfl w.heap.size 30 i0 (.int .u64 0) 8 Tryz.underlying27 hi hz0 hz1 hz2 rfl _ n _ rfl (hown2.alloc _) _ _ 1 1 [x] rfl (rd_one (enc := Value.int .u64) w2 x _) one_u64 (n + 1) rfl ((xs ++ [x]).map (Value.int .u64)) List.map_append.symm (by unfold maxLen; omega) (by omega) (by simp; omega) ?_; intro v3 vc3 w3 hown3 hg3 hat3))
    go_ret
    refine ⟨_, _, _, rfl, Rd.own_rd hown3, Kn.own hown3 HKK.out, (((Below.refl _ _).grown hg2 (Nat.le_refl _) (fun k hk => by cases hk)).alloc hs2 _).grown hg3 (by simp; omega) (fun k hk => (hown2.lt k hk).1)⟩
theorem rwith_any (A : Option Addr) (n c : Nat) (xs : List Int) (x : Int) (w : World) (h : Rd (Value.int .u64) w w.heap.size A n c xs) (hl : n * 8 + 8 ≤ 140737488355328) :
    Calls Tryz.prog 53 #[.slice A n c, .int .u64 x] w fun e w' => ∃ A' n' c', e = .returned (.slice A' n' c') ∧ Rd (Value.int .u64) w' w'.heap.size A' n' c' (sWith xs x) ∧ Below w.heap.size w w' :=
  (rwithK_any A n c xs x w h hl Kn.true_ (fun _ _ => trivial)).mono fun e w' ⟨A', n', c', h1, h2, _, h3⟩ => ⟨A', n', c', h1, h2, h3⟩

theorem filter_snoc_keep {l : List Int} {k : Nat} {x y : Int} (h : l[k]? = some y) (hne : y ≠ x) : sWithout (l.take (k + 1)) x = sWithout (l.take k) x ++ [y] := by
  rw [take_snoc h]; simp [sWithout, hne]
theorem filter_snoc_drop {l : List Int} {k : Nat} {x : Int} (h : l[k]? = some x) : sWithout (l.take (k + 1)) x = sWithout (l.take k) x := by
  rw [take_snoc h]; simp [sWithout]

set_option maxRecDepth 100000 in
set_option maxHeartbeats 1000000 in
theorem rwithoutK_any {K : Nat → Prop} (A : Option Addr) (n c : Nat) (xs : List Int) (x : Int) (w : World) (h : Rd (Value.int .u64) w w.heap.size A n c xs) (hl : n * 8 + 8 ≤ 140737488355328) (hK : ∀ g, w.heap.size ≤ g → K g) :
    Calls Tryz.prog 55 #[.slice A n c, .int .u64 x] w fun e w' => ∃ A' n' c', e = .returned (.slice A' n' c') ∧ Rd (Value.int .u64) w' w'.heap.size A' n' c' (sWithout xs x) ∧ Kn K n' A' ∧ Below w.heap.size w w' := by
  have HKK := Lib.hid hK
  clear hK
  obtain ⟨i0, hi, hz0, hz1, hz2⟩ := info_parts info_u64
  have hlen := h.len
  have HR := Lib.hid h
  have HN := Lib.hid hlen
  clear h hlen
  go_enter Tryz.func55, Tryz.ntmps55
  go_wp2
  go_loopw [5, 10] (fun v i wr => ∃ (k c' : Nat) (A' : Option Addr) (acc : List Int), k ≤ n ∧ i = .int .i64 k ∧ v = .slice A' acc.length c' ∧ Hid (acc = sWithout (xs.take k) x) ∧ acc.length ≤ k ∧
      wr.ownsRow w.heap.size 30 1 (.slice A' acc.length c') acc.length (acc.map (Value.int .u64)) ∧ Below w.heap.size w wr) (fun _ i _ => n - (intOf i).toNat)
  case atStart => exact ⟨0, 0, none, [], Nat.zero_le _, rfl, rfl, rfl, Nat.zero_le _, World.ownsRow_nil _ _ _ _, Below.refl _ _⟩
  case round =>
    obtain ⟨k, c', A', acc, hk, rfl, rfl, hacc, hal, hrow, hbel⟩ := hrel
    have hsz := hbel.size
    by_cases hlt : k < n
    · obtain ⟨b, o, y, rfl, hb, hy, hcell⟩ := HR.out.get hlt
      have hcx : wr.cell? ⟨b, o + k, none⟩ = some (.int .u64 y) := (hbel.cell (p := ⟨b, o + k, none⟩) hb).trans hcell
      by_cases hxy : y = x
      · subst hxy
        have E1 := Lib.hid (filter_snoc_drop hy)
        clear hy hcell
        go_wp2
        go_roundw
        case rel => exact ⟨k + 1, c', A', acc, by omega, by go_num, rfl, by rw [E1.out]; exact hacc, by omega, hrow, hbel⟩
        case measure => simp [intOf]; omega
      · have hq : (y != x) = true := by simpa using hxy
        have E1 := Lib.hid (filter_snoc_keep hy hxy)
        clear hy hcell hxy
        go_wp2_with (at_builtin; refine append_rd _ rfl _ _ 27 rfl w.heap.size 30 i0 (.int .u64 0) 8 Tryz.underlying27 hi hz0 hz1 hz2 rfl _ acc.length _ rfl (hrow.alloc _) _ _ 1 1 [y] rfl (rd_one (enc := Value.int .u64) wr y _) one_u64 (acc.length + 1) rfl ((acc ++ [y]).map (Value.int .u64)) List.map_append.symm (by unfold maxLen; omega) (by omega) (by simp; omega) ?_; intro v3 vc3 w3 hown3 hg3 hat3)
        go_roundw
        case rel => exact ⟨k + 1, vc3, v3, acc ++ [y], by omega, by go_num, by simp, by rw [E1.out, ← hacc.out]; exact rfl, by simp; omega, by simpa using hown3, (hbel.alloc hsz _).grown hg3 (by simp; omega) (fun j hj => (hrow.lt j hj).1)⟩
        case measure => simp [intOf]; omega
    · have e1 : acc = sWithout xs x := by rw [hacc.out, List.take_of_length_le (by have := HN.out; omega)]
      clear hacc
      have E1 := Lib.hid e1
      clear e1
      go_wp2
      go_ret
      exact ⟨_, _, _, rfl, by rw [← E1.out]; exact Rd.own_rd hrow, Kn.own hrow HKK.out, hbel⟩
theorem rwithout_any (A : Option Addr) (n c : Nat) (xs : List Int) (x : Int) (w : World) (h : Rd (Value.int .u64) w w.heap.size A n c xs) (hl : n * 8 + 8 ≤ 140737488355328) :
    Calls Tryz.prog 55 #[.slice A n c, .int .u64 x] w fun e w' => ∃ A' n' c', e = .returned (.slice A' n' c') ∧ Rd (Value.int .u64) w' w'.heap.size A' n' c' (sWithout xs x) ∧ Below w.heap.size w w' :=
  (rwithoutK_any (K := fun _ => True) A n c xs x w h hl (fun _ _ => trivial)).mono fun e w' ⟨A', n', c', h1, h2, _, h3⟩ => ⟨A', n', c', h1, h2, h3⟩

end Go.Proofs.YtlpjlphofjghhaaGreatDoor.Sn
