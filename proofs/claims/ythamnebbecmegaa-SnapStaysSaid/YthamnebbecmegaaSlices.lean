/- Contracts of the library's functions on []uint64: Index, Equal, Clone, Grow of nil, Concat of two. -/
import Derived.Test.YthamnebbecmegaaRows
import Derived.Test.YthamnebbecmegaaRow
import Derived.Test.YthamnebbecmegaaSnapMath
import Derived.WalkKit
import Derived.ProofKit
import Derived.BigGuardPart
import Derived.Outline
import Derived.Lib.Hide
import Derived.WalkSpells
import Derived.Deep.QuietTactic
import Derived.BigQuiet
import Derived.RegionTactic
namespace Go.Proofs.Ythamnebbecmegaa.Sl
open Go.ChangeShapes Go.WideShapes Go.ChangeAt Go.RowKit Rw Sn
set_option linter.unusedVariables false

theorem info_u64 : (Try.prog.info? 31).map (fun i => (i.zero, i.size, i.bytes)) = some (some (.int .u64 0), 1, 8) := by kernel_rfl

theorem index_any (A : Option Addr) (n c : Nat) (xs : List Int) (x : Int) (B : Nat) (w : World) (h : Rd (Value.int .u64) w B A n c xs) :
    Calls Try.prog 63 #[.slice A n c, .int .u64 x] w fun e w' => e = .returned (.int .i64 (sIdx xs x)) ∧ w = w' := by
  have hn : n ≤ 9223372036854775807 := by have := h.cap; have := h.top; omega
  have HR := Lib.hid h
  clear h
  go_enter Try.func63, Try.ntmps63
  go_wp2
  go_loop [5, 8] (fun _ i => ∃ k : Nat, k ≤ n ∧ i = .int .i64 k ∧ x ∉ xs.take k) (fun _ i => n - (intOf i).toNat)
  case atStart => exact ⟨0, Nat.zero_le _, rfl, by simp⟩
  case round =>
    obtain ⟨k, hk, rfl, hnot⟩ := hrel
    have HN := Lib.hid hnot
    clear hnot
    by_cases hlt : k < n
    · obtain ⟨b, o, y, rfl, hb, hy, hcell⟩ := HR.out.get hlt
      have HY := Lib.hid hy
      clear hy
      by_cases hxy : x = y
      · subst hxy
        go_wp2
        go_ret
        exact ⟨by rw [sIdx_hit xs x k HY.out HN.out]; rfl, rfl⟩
      · have hq : (x == y) = false := by simpa using hxy
        have HX := Lib.hid hxy
        clear hxy
        go_wp2
        go_round
        case rel => exact ⟨k + 1, by omega, by go_num, not_mem_snoc HY.out HN.out HX.out⟩
        case measure => simp [intOf]; omega
    · have hk' : k = n := by omega
      go_wp2
      go_ret
      exact ⟨by rw [sIdx_miss xs x (by have := HN.out; rwa [List.take_of_length_le (by have := HR.out.len; omega)] at this)]; rfl, rfl⟩
theorem take_eq_snoc {xs ys : List Int} {k : Nat} {x : Int} (h : xs.take k = ys.take k) (hx : xs[k]? = some x) (hy : ys[k]? = some x) : xs.take (k + 1) = ys.take (k + 1) := by rw [take_snoc hx, take_snoc hy, h]
theorem ne_of_at {xs ys : List Int} {k : Nat} {x y : Int} (hx : xs[k]? = some x) (hy : ys[k]? = some y) (hne : x ≠ y) : xs ≠ ys := fun e => by subst e; rw [hx] at hy; injection hy with hy; exact hne hy

set_option maxHeartbeats 400000 in
theorem equal_any (A A' : Option Addr) (n c m c' : Nat) (xs ys : List Int) (B B' : Nat) (w : World) (h : Rd (Value.int .u64) w B A n c xs) (h' : Rd (Value.int .u64) w B' A' m c' ys) :
    Calls Try.prog 19 #[.slice A n c, .slice A' m c'] w fun e w' => e = .returned (.bool (decide (xs = ys))) ∧ ∃ q, w.drewN q = w' := by
  have hn : n ≤ 9223372036854775807 := by have := h.cap; have := h.top; omega
  have hm : m ≤ 9223372036854775807 := by have := h'.cap; have := h'.top; omega
  have HL := Lib.hid h.len
  have HL' := Lib.hid h'.len
  have HR := Lib.hid h
  have HR' := Lib.hid h'
  clear h h'
  by_cases hnm : n = m
  · subst hnm
    go_enter Try.func19, Try.ntmps19
    go_wp2
    go_loopw [5, 13] (fun _ i wr => ∃ k q : Nat, k ≤ n ∧ i = .int .i64 k ∧ wr = w.drewN q ∧ xs.take k = ys.take k) (fun _ i _ => n - (intOf i).toNat)
    case atStart => exact ⟨0, 0, Nat.zero_le _, rfl, rfl, rfl⟩
    case round =>
      obtain ⟨k, q, hk, rfl, rfl, heq⟩ := hrel
      have HE := Lib.hid heq
      clear heq
      by_cases hlt : k < n
      · obtain ⟨b, o, x, rfl, hb, hx, hcell⟩ := HR.out.get hlt
        obtain ⟨b', o', y, rfl, hb', hy, hcell'⟩ := HR'.out.get hlt
        have HX := Lib.hid hx
        have HY := Lib.hid hy
        clear hx hy
        by_cases hxy : x = y
        · subst hxy
          go_wp2
          go_quiet (fail)
          go_wp2
          go_roundw
          case rel => exact ⟨k + 1, _, by omega, by go_num, rfl, take_eq_snoc HE.out HX.out HY.out⟩
          case measure => simp [intOf]; omega
        · have hq : (x != y) = true := by simpa using hxy
          have HN := Lib.hid hxy
          clear hxy
          go_wp2
          go_quiet (fail)
          go_wp2
          go_ret
          exact ⟨by rw [decide_eq_false (ne_of_at HX.out HY.out HN.out)]; rfl, _, (World.drewN_drewN _ _ _).symm⟩
      · have hk' : k = n := by omega
        go_wp2
        go_ret
        refine ⟨?_, _, rfl⟩
        have e := HE.out
        have hl := HL.out
        have hl' := HL'.out
        rw [List.take_of_length_le (by omega), List.take_of_length_le (by omega)] at e
        rw [decide_eq_true e]
        rfl
  · have hb : ((n : Int) != (m : Int)) = true := by rw [bne_iff_ne]; omega
    have hb2 : (n != m) = true := by simpa using hnm
    have HN := Lib.hid hnm
    clear hnm
    go_enter Try.func19, Try.ntmps19
    go_wp2
    go_ret
    exact ⟨by rw [decide_eq_false (fun e => HN.out (by rw [← HL.out, ← HL'.out, e]))]; rfl, 0, rfl⟩

theorem one_u64 (y : Int) : (Value.int .u64 y).oneCell' = true := rfl

/-- Clone: the same numbers in memory of its own. -/
theorem clone_any (A : Option Addr) (n c : Nat) (xs : List Int) (B : Nat) (w : World) (h : Rd (Value.int .u64) w B A n c xs) (hB : B ≤ w.heap.size) (hreach : n * 8 ≤ 140737488355328) :
    Calls Try.prog 61 #[.slice A n c] w fun e w' => ∃ A' c', e = .returned (.slice A' n c') ∧ w'.ownsRow w.heap.size 31 1 (.slice A' n c') n (xs.map (Value.int .u64)) ∧ Below w.heap.size w w' := by
  have hn : n ≤ 9223372036854775807 := by have := h.cap; have := h.top; omega
  obtain ⟨i0, hi, hz0, hz1, hz2⟩ := info_parts info_u64
  cases A with
  | none =>
    have h0 : n = 0 := by
      rcases Nat.eq_zero_or_pos n with h0 | h0
      · exact h0
      · obtain ⟨b, o, e, _⟩ := h.at_ h0
        cases e
    subst h0
    obtain rfl := List.eq_nil_of_length_eq_zero h.len
    clear h
    have hk := @Lib.run_eql_slice_nil Try.prog
    go_enter Try.func61, Try.ntmps61
    go_wp2
    go_ret
    exact ⟨_, _, rfl, World.ownsRow_nil _ _ _ _, Below.refl _ _⟩
  | some a =>
    have HR := Lib.hid h
    clear h
    have hk := @Lib.run_eql_slice_nil Try.prog
    go_enter Try.func61, Try.ntmps61
    go_wp2_with (at_builtin; refine append_rd _ rfl _ _ 22 rfl w.heap.size 31 i0 (.int .u64 0) 8 Try.underlying22 hi hz0 hz1 hz2 rfl _ 0 [] rfl (World.ownsRow_lit _ #[] 0 (Nat.le_refl _) (by decide) rfl) B (some a) n c xs rfl (HR.out.alloc hB _) one_u64 n (Nat.zero_add _) (xs.map (Value.int .u64)) rfl ?_ ?_ ?_ ?_)
    · unfold maxLen; omega
    · omega
    · simp
    · intro A' c' w' hown hg hat
      go_wp2
      go_ret
      refine ⟨A', c', rfl, hown, ((Below.refl _ _).alloc (Nat.le_refl _) _).grown hg (by simp) (fun k hk => ?_)⟩
      simp [Value.ownBlock] at hk
      omega

set_option maxRecDepth 100000 in
set_option maxHeartbeats 1000000 in
/-- Grow(nil, n): room for n numbers, in a block of its own. -/
theorem grow_nil (n : Nat) (w : World) (hreach : n * 8 ≤ 140737488355328) :
    Calls Try.prog 89 #[.slice none 0 0, .int .i64 n] w fun e w' => ∃ A c, e = .returned (.slice A 0 c) ∧ w'.ownsRow w.heap.size 31 1 (.slice A 0 c) 0 [] ∧ Below w.heap.size w w' := by
  obtain ⟨i0, hi, hz0, hz1, hz2⟩ := info_parts info_u64
  by_cases h0 : n = 0
  · subst h0
    go_enter Try.func89, Try.ntmps89
    go_wp2
    go_ret
    exact ⟨_, _, rfl, World.ownsRow_nil _ _ _ _, Below.refl _ _⟩
  · have hrz := fun ty => Lib.run_append_grow_zeros (P := Try.prog) w 22 3 ty 31 i0 (.int .u64 0) .i64 .i64 Try.underlying22 Try.underlying3 hi hz0 none 0 0 [] (run_firstCells_none w.drew i0.size 0 0 0) n (by omega) (by omega) (by omega) (by omega) (by rw [hz2]; omega) (by rw [hz2]; exact growslice_fits (by omega) (by omega))
    have hge := grownCap_ge w (0 + n) 0 31
    have hle := grownCap_le_maxLen w (0 + n) 0 31 (by unfold maxLen; omega)
    unfold maxLen at hle
    generalize grownCap w (0 + n) 0 31 = G at hrz hge hle
    have HZ := Lib.hid hrz
    clear hrz
    go_enter Try.func89, Try.ntmps89
    go_wp2_with (at_builtin; refine Lib.wpList_append_run _ rfl _ _ _ _ rfl _ _ rfl rfl _ _ (HZ.out _) ?_)
    go_ret
    refine ⟨_, _, rfl, ?_, ((Below.refl _ _).drew).alloc (Nat.le_refl _) _⟩
    refine ⟨by simp, .inr ⟨w.heap.size, G, _, rfl, Nat.le_refl _, heap_alloc_new w.drew _, Nat.zero_le _, by unfold maxLen; omega, ?_, by simp⟩⟩
    simp [size_zeroCells]
    omega

set_option maxRecDepth 100000 in
set_option maxHeartbeats 1000000 in
/-- Concat(x, y): in memory of its own. -/
theorem concat_two (g : Nat) (A A' : Option Addr) (n c m d B B' : Nat) (xs ys : List Int) (w : World) (h0 : w.cell? ⟨g, 0, none⟩ = some (.slice A n c)) (h1 : w.cell? ⟨g, 1, none⟩ = some (.slice A' m d))
    (r0 : Rd (Value.int .u64) w B A n c xs) (r1 : Rd (Value.int .u64) w B' A' m d ys) (hB : B ≤ w.heap.size) (hB' : B' ≤ w.heap.size) (hg : g < w.heap.size) (hreach : (n + m) * 8 ≤ 140737488355328) :
    Calls Try.prog 62 #[.slice (some ⟨g, 0, none⟩) 2 2] w fun e w' => ∃ A c, e = .returned (.slice A (n + m) c) ∧ w'.ownsRow w.heap.size 31 1 (.slice A (n + m) c) (n + m) ((xs ++ ys).map (Value.int .u64)) ∧ Below w.heap.size w w' := by
  obtain ⟨i0, hi, hz0, hz1, hz2⟩ := info_parts info_u64
  have R0 := Lib.hid r0
  have R1 := Lib.hid r1
  clear r0 r1
  go_enter Try.func62, Try.ntmps62
  go_wp2_with fail
  refine wp_loop_rounds 3 ?_
  rw [rounds_succ]
  go_wp2_with fail
  rw [rounds_succ]
  go_wp2_with fail
  rw [rounds_succ]
  go_wp2_with fail
  rw [show ((n : Int) + (m : Int)) = ((n + m : Nat) : Int) by omega]
  refine (grow_nil _ _ hreach).mono ?_
  rintro e w1 ⟨v, vc, rfl, hown, hb⟩
  have c0 : w1.cell? ⟨g, 0, none⟩ = some (.slice A n c) := (hb.cell (p := ⟨g, 0, none⟩) hg).trans h0
  have c1 : w1.cell? ⟨g, 1, none⟩ = some (.slice A' m d) := (hb.cell (p := ⟨g, 1, none⟩) hg).trans h1
  clear h0 h1
  have hs := hb.size
  go_wp2_with fail
  refine wp_loop_rounds 3 ?_
  rw [rounds_succ]
  go_wp2_with (at_builtin; refine append_rd _ rfl _ _ 22 rfl w.heap.size 31 i0 (.int .u64 0) 8 Try.underlying22 hi hz0 hz1 hz2 rfl _ 0 [] rfl hown B A n c xs rfl (R0.out.below (hb.mono hB)) one_u64 n (Nat.zero_add _) (xs.map (Value.int .u64)) rfl (by unfold maxLen; omega) (by omega) hs ?_; intro v2 vc2 w2 hown2 hg2 hat2)
  have hb2 : Below w.heap.size w w2 := hb.grown hg2 hs (fun k hk => (hown.lt k hk).1)
  have c2 : w2.cell? ⟨g, 1, none⟩ = some (.slice A' m d) := (World.cell?_of_block (hg2.block g (by omega) (fun e => by have := (hown.lt g e.symm).1; omega))).trans c1
  clear c0 c1
  rw [rounds_succ]
  go_wp2_with (at_builtin; refine append_rd _ rfl _ _ 22 rfl w.heap.size 31 i0 (.int .u64 0) 8 Try.underlying22 hi hz0 hz1 hz2 rfl _ n _ rfl hown2 B' A' m d ys rfl (R1.out.below (hb2.mono hB')) one_u64 (n + m) rfl ((xs ++ ys).map (Value.int .u64)) List.map_append.symm (by unfold maxLen; omega) (by omega) hb2.size ?_; intro v3 vc3 w3 hown3 hg3 hat3)
  have hb3 : Below w.heap.size w w3 := hb2.grown hg3 hb2.size (fun k hk => (hown2.lt k hk).1)
  rw [rounds_succ]
  go_wp2_with fail
  go_ret
  exact ⟨v3, vc3, rfl, hown3, hb3⟩
end Go.Proofs.Ythamnebbecmegaa.Sl
