/- Contracts of layer 10 (factory). -/
import Derived.Test.YtmnjdmcocifogaaGreatDoorAwake9
import Derived.Test.YtmnjdmcocifogaaGreatDoorMapCloneB
import Derived.Test.YtmnjdmcocifogaaGreatDoorOnceKit
namespace Go.Proofs.YtmnjdmcocifogaaGreatDoor.Fc
open Go.ChangeShapes Go.WideShapes Go.ChangeAt Go.RowKit Go.Maps Rw
set_option linter.unusedVariables false
theorem info_bool : (Tryz.prog.info? 4).map (fun i => (i.zero, i.size, i.bytes)) = some (some (.bool false), 1, 1) := by kernel_rfl
theorem one_bool (y : Bool) : (Value.bool y).oneCell' = true := rfl

/-- Clone: the same numbers in memory of its own. -/
theorem bclone_any (A : Option Addr) (n c : Nat) (xs : List Bool) (B : Nat) (w : World) (h : Rd Value.bool w B A n c xs) (hB : B ≤ w.heap.size) (hreach : n * 1 ≤ 140737488355328) :
    Calls Tryz.prog 49 #[.slice A n c] w fun e w' => ∃ A' c', e = .returned (.slice A' n c') ∧ w'.ownsRow w.heap.size 4 1 (.slice A' n c') n (xs.map Value.bool) ∧ Below w.heap.size w w' := by
  have hn : n ≤ 9223372036854775807 := by have := h.cap; have := h.top; omega
  obtain ⟨i0, hi, hz0, hz1, hz2⟩ := info_parts info_bool
  cases A with
  | none =>
    have h0 : n = 0 := by
      rcases Nat.eq_zero_or_pos n with h0 | h0
      · exact h0
      · obtain ⟨b, o, e, _⟩ := h.at_ h0
        cases e
    subst h0
    obtain rfl := List.eq_nil_of_length_eq_zero h.len
    clear h
    have hk := @Lib.run_eql_slice_nil Tryz.prog
    go_enter Tryz.func49, Tryz.ntmps49
    go_wp2
    go_ret
    exact ⟨_, _, rfl, World.ownsRow_nil _ _ _ _, Below.refl _ _⟩
  | some a =>
    have HR := Lib.hid h
    clear h
    have hk := @Lib.run_eql_slice_nil Tryz.prog
    go_enter Tryz.func49, Tryz.ntmps49
    go_wp2_with (at_builtin; refine append_rd _ rfl _ _ 50 rfl w.heap.size 4 i0 (.bool false) 1 Tryz.underlying50 hi hz0 hz1 hz2 rfl _ 0 [] rfl (World.ownsRow_lit _ #[] 0 (Nat.le_refl _) (by decide) rfl) B (some a) n c xs rfl (HR.out.alloc hB _) one_bool n (Nat.zero_add _) (xs.map Value.bool) rfl ?_ ?_ ?_ ?_)
    · unfold maxLen; omega
    · omega
    · simp
    · intro A' c' w' hown hg hat
      go_wp2
      go_ret
      refine ⟨A', c', rfl, hown, ((Below.refl _ _).alloc (Nat.le_refl _) _).grown hg (by simp) (fun k hk => ?_)⟩
      simp [Value.ownBlock] at hk
      omega


/-- Clone: the same numbers in memory of its own. -/
theorem sclone_any (A : Option Addr) (n c : Nat) (xs : List Bool) (B : Nat) (w : World) (h : Rd Value.bool w B A n c xs) (hB : B ≤ w.heap.size) (hreach : n * 1 ≤ 140737488355328) :
    Calls Tryz.prog 50 #[.slice A n c] w fun e w' => ∃ A' c', e = .returned (.slice A' n c') ∧ w'.ownsRow w.heap.size 4 1 (.slice A' n c') n (xs.map Value.bool) ∧ Below w.heap.size w w' := by
  have hn : n ≤ 9223372036854775807 := by have := h.cap; have := h.top; omega
  obtain ⟨i0, hi, hz0, hz1, hz2⟩ := info_parts info_bool
  cases A with
  | none =>
    have h0 : n = 0 := by
      rcases Nat.eq_zero_or_pos n with h0 | h0
      · exact h0
      · obtain ⟨b, o, e, _⟩ := h.at_ h0
        cases e
    subst h0
    obtain rfl := List.eq_nil_of_length_eq_zero h.len
    clear h
    have hk := @Lib.run_eql_slice_nil Tryz.prog
    go_enter Tryz.func50, Tryz.ntmps50
    go_wp2
    go_ret
    exact ⟨_, _, rfl, World.ownsRow_nil _ _ _ _, Below.refl _ _⟩
  | some a =>
    have HR := Lib.hid h
    clear h
    have hk := @Lib.run_eql_slice_nil Tryz.prog
    go_enter Tryz.func50, Tryz.ntmps50
    go_wp2_with (at_builtin; refine append_rd _ rfl _ _ 91 rfl w.heap.size 4 i0 (.bool false) 1 Tryz.underlying91 hi hz0 hz1 hz2 rfl _ 0 [] rfl (World.ownsRow_lit _ #[] 0 (Nat.le_refl _) (by decide) rfl) B (some a) n c xs rfl (HR.out.alloc hB _) one_bool n (Nat.zero_add _) (xs.map Value.bool) rfl ?_ ?_ ?_ ?_)
    · unfold maxLen; omega
    · omega
    · simp
    · intro A' c' w' hown hg hat
      go_wp2
      go_ret
      refine ⟨A', c', rfl, hown, ((Below.refl _ _).alloc (Nat.le_refl _) _).grown hg (by simp) (fun k hk => ?_)⟩
      simp [Value.ownBlock] at hk
      omega


/-- A script: its slice reads as O, below block m and not below b. -/
structure Scr (w : World) (b m : Nat) (A : Option Addr) (k c : Nat) (O : List Bool) : Prop where
  rd : Rd Value.bool w m A k c O
  lo : 0 < k → ∃ g o, A = some ⟨g, o, none⟩ ∧ b ≤ g
theorem Scr.same {w w' : World} {b m : Nat} {A : Option Addr} {k c : Nat} {O : List Bool} (h : Scr w b m A k c O) (hk : ∀ g, b ≤ g → g < m → w'.heap[g]? = w.heap[g]?) : Scr w' b m A k c O :=
  ⟨⟨h.rd.len, h.rd.cap, h.rd.top, fun hn => by
    obtain ⟨g, o, e, hb, hc⟩ := h.rd.at_ hn
    obtain ⟨g', o', e', hb'⟩ := h.lo hn
    rw [e] at e'
    injection e' with e'
    injection e' with e1 e2
    subst e1 e2
    refine ⟨g, o, e, hb, fun j x hx => ?_⟩
    rw [← hc j x hx]
    unfold World.cell?
    simp only [hk g hb' hb]⟩, h.lo⟩
theorem Scr.of_own {w : World} {b m : Nat} {A : Option Addr} {k c : Nat} {O : List Bool} (h : w.ownsRow b 4 1 (.slice A k c) k (O.map Value.bool)) (hm : w.heap.size ≤ m) : Scr w b m A k c O := by
  refine ⟨(Rd.own_rd h).more hm, fun hk => ?_⟩
  rcases h.2 with ⟨e, e0⟩ | ⟨g, cap, cur, e, hbg, _⟩
  · omega
  · injection e with e1 _ _
    exact ⟨g, 0, e1, hbg⟩

/-- A factory at block p, its map at block m, all of it from block b on: what is left of its scripts, how many were opened, which are closed. -/
structure Fa (w : World) (b m p : Nat) (O P : List Bool) (n : Nat) (C : List Int) : Prop where
  opens : ∃ A k c, w.cell? ⟨p, 0, none⟩ = some (.slice A k c) ∧ Scr w b m A k c O
  proofs : ∃ A k c, w.cell? ⟨p, 1, none⟩ = some (.slice A k c) ∧ Scr w b m A k c P
  many : w.cell? ⟨p, 2, none⟩ = some (.int .u64 n)
  map : w.cell? ⟨p, 3, none⟩ = some (.map (some m))
  own : w.ownsMap Tryz.prog 23 (plainElem Tryz.prog 4) m C.length (Mp.setD .u64 C)
  free : ∀ o, w.frozen? ⟨p, o, none⟩ = false
  lo : b ≤ m
  lt : m < p
  nd : C.Nodup
  mem : ∀ x ∈ C, 1 ≤ x ∧ x ≤ n
theorem Fa.in_ {w : World} {b m p n : Nat} {O P : List Bool} {C : List Int} (h : Fa w b m p O P n C) : p < w.heap.size := Lw.lt_heap h.many
theorem Fa.same {w w' : World} {b m p n : Nat} {O P : List Bool} {C : List Int} (h : Fa w b m p O P n C) (hk : ∀ g, b ≤ g → g ≤ p → w'.heap[g]? = w.heap[g]?) : Fa w' b m p O P n C := by
  have hlo := h.lo
  have hlt := h.lt
  have hp := hk p (by omega) (Nat.le_refl _)
  have hc : ∀ o, w'.cell? ⟨p, o, none⟩ = w.cell? ⟨p, o, none⟩ := fun o => by unfold World.cell?; simp only [hp]
  have hf : ∀ o, w'.frozen? ⟨p, o, none⟩ = w.frozen? ⟨p, o, none⟩ := fun o => by unfold World.frozen?; simp only [hp]
  obtain ⟨A, k, c, h1, h2⟩ := h.opens
  obtain ⟨A', k', c', h1', h2'⟩ := h.proofs
  obtain ⟨es, clock, hb, hr⟩ := h.own
  exact ⟨⟨A, k, c, (hc 0).trans h1, h2.same fun g q1 q2 => hk g q1 (by omega)⟩, ⟨A', k', c', (hc 1).trans h1', h2'.same fun g q1 q2 => hk g q1 (by omega)⟩, (hc 2).trans h.many, (hc 3).trans h.map, ⟨es, clock, (hk m h.lo (by omega)).trans hb, hr⟩, fun o => (hf o).trans (h.free o), h.lo, h.lt, h.nd, h.mem⟩
theorem Fa.later {w w' : World} {b m p n : Nat} {O P : List Bool} {C : List Int} (h : Fa w b m p O P n C) (hb : Below w.heap.size w w') : Fa w' b m p O P n C :=
  h.same fun g _ hg => hb.block g (by have := h.in_; omega)

/-! ### Scripts -/
theorem next_nil (p i : Nat) (A : Option Addr) (c : Nat) (w : World) (h0 : w.cell? ⟨p, i, none⟩ = some (.slice A 0 c)) :
    Calls Tryz.prog 52 #[.pointer (some ⟨p, i, none⟩)] w fun e w' => e = .returned (.bool true) ∧ w = w' := by
  go_enter Tryz.func52, Tryz.ntmps52
  go_wp2_with fail
  go_ret
  exact ⟨rfl, rfl⟩
theorem next_cons (p i : Nat) (A : Option Addr) (k c b m : Nat) (x : Bool) (l : List Bool) (w : World) (h0 : w.cell? ⟨p, i, none⟩ = some (.slice A k c)) (hf : w.frozen? ⟨p, i, none⟩ = false) (h : Scr w b m A k c (x :: l)) (hp : p < w.heap.size) :
    Calls Tryz.prog 52 #[.pointer (some ⟨p, i, none⟩)] w fun e w' => e = .returned (.bool x) ∧ ∃ A' k' c', Scr w b m A' k' c' l ∧ w.setCell ⟨p, i, none⟩ (.slice A' k' c') = w' := by
  obtain ⟨hr, hlo⟩ := h
  have hn : (x :: l).length = k := hr.len
  simp at hn
  have hnc := hr.cap
  have htop := hr.top
  obtain ⟨g, o, y, rfl, hg, hx, hcx⟩ := hr.get (k := 0) (by omega)
  obtain rfl : x = y := by simpa using hx
  obtain ⟨g', o', e, hbg⟩ := hlo (by omega)
  injection e with e
  injection e with e1 e2
  subst e1 e2
  have hz : ((k : Int) == 0) = false := by simp; omega
  have hz' : (k == 0) = false := by simp; omega
  have HR := Lib.hid hr
  have hn1 : 1 ≤ k := by omega
  simp only [Nat.add_zero] at hcx
  have HN := Lib.hid hn
  clear hr hlo hx hn
  by_cases hc1 : c = 1
  · subst hc1
    obtain rfl : k = 1 := by omega
    go_enter Tryz.func52, Tryz.ntmps52
    go_wp2_with fail
    go_ret
    exact ⟨rfl, _, _, _, ⟨HR.out.back (i := 1) (A' := some ⟨g, o, none⟩) (by omega) rfl (by omega), fun hk => (by omega)⟩, rfl⟩
  · have hc2 : 1 < c := by omega
    go_enter Tryz.func52, Tryz.ntmps52
    go_wp2_with fail
    go_ret
    exact ⟨rfl, _, _, _, ⟨HR.out.back (i := 1) (A' := some ⟨g, o + 1, none⟩) (by omega) rfl (fun _ => rfl), fun hk => ⟨g, o + 1, rfl, hbg⟩⟩, rfl⟩
end Go.Proofs.YtmnjdmcocifogaaGreatDoor.Fc
