/- Contracts of layer 9 (hist). -/
import Derived.Test.YtmnjdmcocifogaaGreatDoorTextE
import Derived.Test.YtmnjdmcocifogaaGreatDoorRowS
import Derived.Test.YtmnjdmcocifogaaGreatDoorRegApp
import Derived.Deep.QuietTactic
import Derived.BigQuiet
namespace Go.Proofs.YtmnjdmcocifogaaGreatDoor.Hi
open Go.ChangeShapes Go.WideShapes Go.ChangeAt Go.RowKit Rw Tx
set_option linter.unusedVariables false

theorem encE_len (e : Ev) : (encE e).length = 6 := rfl
theorem encE_one (e : Ev) : ∀ u ∈ encE e, u.oneCell' = true := by
  intro u hu
  simp [encE] at hu
  rcases hu with rfl | rfl | rfl | rfl | rfl | rfl <;> rfl
theorem info_ev : (Tryz.prog.info? 26).map (fun i => (i.zero, i.size, i.bytes)) = some (some (.agg #[.int .u64 0, .int .i64 0, .int .i64 0, .int .i64 0, .int .u64 0, .int .i64 0]), 6, 48) := by kernel_rfl
/-- All but two blocks stays. -/
structure Fr (a b : Option Nat) (w w' : World) : Prop where
  os : w'.os = w.os
  tape : w'.tape = w.tape
  output : w'.output = w.output
  size : w.heap.size ≤ w'.heap.size
  block : ∀ k, k < w.heap.size → some k ≠ a → some k ≠ b → w'.heap[k]? = w.heap[k]?
theorem Fr.refl (a b : Option Nat) (w : World) : Fr a b w w := ⟨rfl, rfl, rfl, Nat.le_refl _, fun _ _ _ _ => rfl⟩
theorem Fr.of_grown {a b row : Option Nat} {w w' : World} (h : w.grownBy w' row) (hr : row = none ∨ row = a ∨ row = b) : Fr a b w w' :=
  ⟨h.os, h.tape, h.output, h.size, fun k hk h1 h2 => h.block k hk (fun e => by
    rcases hr with rfl | rfl | rfl
    · cases e
    · exact h1 e
    · exact h2 e)⟩
/-- Two steps; what the second turns and is no elder block doesn't count. -/
theorem Fr.then {a b a' b' : Option Nat} {w w' w'' : World} (h : Fr a b w w') (h' : Fr a' b' w' w'') (ha : ∀ k, a' = some k → k < w.heap.size → some k = a ∨ some k = b) (hb : ∀ k, b' = some k → k < w.heap.size → some k = a ∨ some k = b) : Fr a b w w'' :=
  ⟨h'.os.trans h.os, h'.tape.trans h.tape, h'.output.trans h.output, Nat.le_trans h.size h'.size, fun k hk h1 h2 =>
    (h'.block k (Nat.lt_of_lt_of_le hk h.size) (fun e => (ha k e.symm hk).elim h1 h2) (fun e => (hb k e.symm hk).elim h1 h2)).trans (h.block k hk h1 h2)⟩
theorem Fr.below {a b : Option Nat} {w w' : World} {B : Nat} (h : Fr a b w w') (hB : B ≤ w.heap.size) (ha : ∀ k, a = some k → B ≤ k) (hb : ∀ k, b = some k → B ≤ k) : Below B w w' :=
  ⟨h.os, h.tape, h.output, h.size, fun k hk => h.block k (by omega) (fun e => by have := ha k e.symm; omega) (fun e => by have := hb k e.symm; omega)⟩
theorem Fr.cell {a b : Option Nat} {w w' : World} (h : Fr a b w w') {p : Addr} (hp : p.block < w.heap.size) (h1 : some p.block ≠ a) (h2 : some p.block ≠ b) : w'.cell? p = w.cell? p := by
  unfold World.cell?; rw [h.block _ hp h1 h2]
theorem Fr.frozen {a b : Option Nat} {w w' : World} (h : Fr a b w w') {p : Addr} (hp : p.block < w.heap.size) (h1 : some p.block ≠ a) (h2 : some p.block ≠ b) : w'.frozen? p = w.frozen? p := by
  unfold World.frozen?; rw [h.block _ hp h1 h2]
theorem own_same {w w' : World} {base : Nat} {e : TypeId} {sz : Nat} {v : Value} {n : Nat} {xs : List Value} (h : w.ownsRow base e sz v n xs) (hb : ∀ g, v.ownBlock = some g → w'.heap[g]? = w.heap[g]?) : w'.ownsRow base e sz v n xs := by
  refine ⟨h.1, ?_⟩
  rcases h.2 with h2 | ⟨g, cap, cur, h1, h2, h3, h4⟩
  · exact .inl h2
  · exact .inr ⟨g, cap, cur, h1, h2, (hb g (by rw [h1]; rfl)).trans h3, h4⟩
/-- The history at block p: the step, the events, in row r; all of it from block B on. -/
structure Hs (w : World) (B p : Nat) (r : Option Nat) (s : Int) (l : List Ev) : Prop where
  step : w.cell? ⟨p, 0, none⟩ = some (.int .u64 s)
  evs : ∃ A c, w.cell? ⟨p, 1, none⟩ = some (.slice A l.length c) ∧ w.ownsRow B 26 6 (.slice A l.length c) l.length (flat encE l) ∧ (Value.slice A l.length c).ownBlock = r
  free0 : w.frozen? ⟨p, 0, none⟩ = false
  free1 : w.frozen? ⟨p, 1, none⟩ = false
  lo : B ≤ p
  ne : r ≠ some p
theorem Hs.lt {w : World} {B p : Nat} {r : Option Nat} {s : Int} {l : List Ev} (h : Hs w B p r s l) : p < w.heap.size := Lw.lt_heap h.step
theorem Hs.row {w : World} {B p : Nat} {r : Option Nat} {s : Int} {l : List Ev} (h : Hs w B p r s l) : ∀ g, r = some g → B ≤ g ∧ g < w.heap.size := by
  intro g hg
  obtain ⟨A, c, _, ho, e⟩ := h.evs
  exact ho.lt g (e.trans hg)
theorem Hs.same {w w' : World} {B p : Nat} {r : Option Nat} {s : Int} {l : List Ev} (h : Hs w B p r s l) (hp : w'.heap[p]? = w.heap[p]?) (hr : ∀ g, r = some g → w'.heap[g]? = w.heap[g]?) : Hs w' B p r s l := by
  obtain ⟨A, c, h1, h2, h3⟩ := h.evs
  have hc : ∀ o, w'.cell? ⟨p, o, none⟩ = w.cell? ⟨p, o, none⟩ := fun o => by unfold World.cell?; simp only [hp]
  have hf : ∀ o, w'.frozen? ⟨p, o, none⟩ = w.frozen? ⟨p, o, none⟩ := fun o => by unfold World.frozen?; simp only [hp]
  exact ⟨(hc 0).trans h.step, ⟨A, c, (hc 1).trans h1, own_same h2 (fun g hg => hr g (h3.symm.trans hg)), h3⟩, (hf 0).trans h.free0, (hf 1).trans h.free1, h.lo, h.ne⟩
theorem Hs.fr {w w' : World} {B p : Nat} {r a b : Option Nat} {s : Int} {l : List Ev} (h : Hs w B p r s l) (hf : Fr a b w w') (h1 : some p ≠ a) (h2 : some p ≠ b) (h3 : ∀ g, r = some g → some g ≠ a ∧ some g ≠ b) : Hs w' B p r s l :=
  h.same (hf.block p h.lt h1 h2) (fun g hg => hf.block g (h.row g hg).2 (h3 g hg).1 (h3 g hg).2)
theorem Hs.later {w w' : World} {B p : Nat} {r : Option Nat} {s : Int} {l : List Ev} (h : Hs w B p r s l) (hb : Below w.heap.size w w') : Hs w' B p r s l :=
  h.same (hb.block p h.lt) (fun g hg => hb.block g (h.row g hg).2)
/-- As a slice. -/
theorem Hs.rs {w : World} {B p : Nat} {r : Option Nat} {s : Int} {l : List Ev} (h : Hs w B p r s l) : ∃ A c, w.cell? ⟨p, 1, none⟩ = some (.slice A l.length c) ∧ Rs encE 6 w w.heap.size A l.length c l := by
  obtain ⟨A, c, h1, h2, _⟩ := h.evs
  exact ⟨A, c, h1, Rs.own_rs encE_len rfl h2⟩

theorem new_any (w : World) (B : Nat) (hB : B ≤ w.heap.size) :
    Calls Tryz.prog 9 #[] w fun e w' => ∃ p, e = .returned (.pointer (some ⟨p, 0, none⟩)) ∧ Hs w' B p none 0 [] ∧ w.heap.size ≤ p ∧ Below w.heap.size w w' := by
  go_enter Tryz.func9, Tryz.ntmps9
  go_wp2_with fail
  go_ret
  refine ⟨w.heap.size, rfl, ⟨by go_simp, ⟨none, 0, by go_simp, World.ownsRow_nil _ _ _ _, rfl⟩, by go_simp, by go_simp, hB, by simp⟩, Nat.le_refl _, (Below.refl _ _).alloc (Nat.le_refl _) _⟩
theorem now_any (w : World) (B p : Nat) (r : Option Nat) (s : Int) (l : List Ev) (h : Hs w B p r s l) :
    Calls Tryz.prog 17 #[.pointer (some ⟨p, 0, none⟩)] w fun e w' => e = .returned (.int .u64 s) ∧ w = w' := by
  have h0 := h.step
  clear h
  go_enter Tryz.func17, Tryz.ntmps17
  go_wp2_with fail
  go_ret
  exact ⟨rfl, rfl⟩
theorem now_nil (w : World) :
    Calls Tryz.prog 17 #[.pointer none] w fun e w' => e = .returned (.int .u64 0) ∧ w = w' := by
  go_enter Tryz.func17, Tryz.ntmps17
  go_wp2_with fail
  go_ret
  exact ⟨rfl, rfl⟩
theorem grown_setCell (w : World) (a : Addr) (u : Value) : w.grownBy (w.setCell a u) (some a.block) :=
  ⟨rfl, rfl, rfl, by simp, fun k _ hk => heap_setCell_other w a k u (fun e => hk (by rw [e]))⟩
theorem Hs.put0 {w : World} {B p : Nat} {r : Option Nat} {s : Int} {l : List Ev} (h : Hs w B p r s l) (u : Int) :
    Hs (w.setCell ⟨p, 0, none⟩ (.int .u64 u)) B p r u l ∧ Fr (some p) r w (w.setCell ⟨p, 0, none⟩ (.int .u64 u)) := by
  obtain ⟨A, c, h1, h2, h3⟩ := h.evs
  refine ⟨⟨World.cell?_setCell_same _ _ _ h.step, ⟨A, c, (World.cell?_setCell_other _ _ _ _ (fun e => by injection e with _ e; omega)).trans h1, own_same h2 (fun g hg => heap_setCell_other w _ g _ (fun e => h.ne (by rw [← h3, hg, show g = p from e]))), h3⟩, by simpa using h.free0, by simpa using h.free1, h.lo, h.ne⟩, Fr.of_grown (grown_setCell _ _ _) (.inr (.inl rfl))⟩
theorem advance_any (w : World) (B p : Nat) (r : Option Nat) (s : Int) (l : List Ev) (h : Hs w B p r s l) (hs : 0 ≤ s ∧ s < 18446744073709551615) :
    Calls Tryz.prog 10 #[.pointer (some ⟨p, 0, none⟩)] w fun e w' => e = .returned (.int .u64 (s + 1)) ∧ Hs w' B p r (s + 1) l ∧ Fr (some p) r w w' := by
  have h0 := h.step
  have f0 := h.free0
  have hl := h.lt
  have HH := Lib.hid h
  clear h
  go_enter Tryz.func10, Tryz.ntmps10
  go_wp2_with fail
  go_ret
  exact ⟨rfl, HH.out.put0 _⟩
theorem advance_nil (w : World) :
    Calls Tryz.prog 10 #[.pointer none] w fun e w' => e = .returned (.int .u64 0) ∧ w = w' := by
  go_enter Tryz.func10, Tryz.ntmps10
  go_wp2_with fail
  go_ret
  exact ⟨rfl, rfl⟩
theorem add_nil (a b c d e : Int) (w : World) :
    Calls Tryz.prog 12 #[.pointer none, .int .i64 a, .int .i64 b, .int .i64 c, .int .u64 d, .int .i64 e] w fun e w' => e = .returned (.tuple #[]) ∧ w = w' := by
  go_enter Tryz.func12, Tryz.ntmps12
  go_wp2_with fail
  exact bodyPost_ret (v := .tuple #[]) (by simp [results, Tryz.results12, go_sem]) rfl ⟨rfl, rfl⟩

/-- Clone of events: the same in memory of its own. -/
theorem eclone_any (A : Option Addr) (n c : Nat) (xs : List Ev) (B : Nat) (w : World) (h : Rs encE 6 w B A n c xs) (hB : B ≤ w.heap.size) (hreach : n * 48 ≤ 140737488355328) :
    Calls Tryz.prog 39 #[.slice A n c] w fun e w' => ∃ A' c', e = .returned (.slice A' n c') ∧ w'.ownsRow w.heap.size 26 6 (.slice A' n c') n (flat encE xs) ∧ Below w.heap.size w w' := by
  have hn : n ≤ 9223372036854775807 := by have := h.cap; have := h.top; omega
  obtain ⟨i0, hi, hz0, hz1, hz2⟩ := info_parts info_ev
  cases A with
  | none =>
    have h0 : n = 0 := by
      rcases Nat.eq_zero_or_pos n with h0 | h0
      · exact h0
      · obtain ⟨b, o, e, _⟩ := h.at_ h0
        cases e
    subst h0
    obtain rfl := List.eq_nil_of_length_eq_zero h.len
    clear h
    have hk := @Lib.run_eql_slice_nil Tryz.prog
    go_enter Tryz.func39, Tryz.ntmps39
    go_wp2
    go_ret
    exact ⟨_, _, rfl, World.ownsRow_nil _ _ _ _, Below.refl _ _⟩
  | some a =>
    have HR := Lib.hid h
    clear h
    have hk := @Lib.run_eql_slice_nil Tryz.prog
    go_enter Tryz.func39, Tryz.ntmps39
    go_wp2_with (at_builtin; refine append_rs encE_len rfl _ _ 22 rfl w.heap.size 26 i0 _ 48 Tryz.underlying22 hi hz0 hz1 hz2 rfl (by omega) _ 0 [] rfl (World.ownsRow_lit _ #[] 0 (Nat.le_refl _) (by decide) rfl) B (some a) n c xs rfl (HR.out.alloc hB _) encE_one n (Nat.zero_add _) (flat encE xs) rfl ?_ ?_ ?_ ?_)
    · unfold maxLen; omega
    · omega
    · simp
    · intro A' c' w' hown hg hat
      go_wp2
      go_ret
      refine ⟨A', c', rfl, hown, ((Below.refl _ _).alloc (Nat.le_refl _) _).grown hg (by simp) (fun k hk => ?_)⟩
      simp [Value.ownBlock] at hk
      omega
theorem all_any (w : World) (B p : Nat) (r : Option Nat) (s : Int) (l : List Ev) (h : Hs w B p r s l) (hreach : l.length * 48 ≤ 140737488355328) :
    Calls Tryz.prog 16 #[.pointer (some ⟨p, 0, none⟩)] w fun e w' => ∃ A c, e = .returned (.slice A l.length c) ∧ w'.ownsRow w.heap.size 26 6 (.slice A l.length c) l.length (flat encE l) ∧ Below w.heap.size w w' := by
  obtain ⟨A, c, h1, hr⟩ := h.rs
  have HR := Lib.hid hr
  clear h hr
  generalize hn : l.length = n at *
  have HN := Lib.hid hn
  clear hn
  go_enter Tryz.func16, Tryz.ntmps16
  go_wp2_with fail
  refine (eclone_any A n c l _ w HR.out (Nat.le_refl _) hreach).mono ?_
  rintro e w1 ⟨A1, c1, rfl, ho, hb⟩
  have HO := Lib.hid ho
  clear ho
  go_wp2_with fail
  go_ret
  exact ⟨_, _, rfl, HO.out, hb⟩
theorem all_nil (w : World) :
    Calls Tryz.prog 16 #[.pointer none] w fun e w' => e = .returned (.slice none 0 0) ∧ w = w' := by
  go_enter Tryz.func16, Tryz.ntmps16
  go_wp2_with fail
  go_ret
  exact ⟨rfl, rfl⟩
theorem clone_nil (w : World) :
    Calls Tryz.prog 11 #[.pointer none] w fun e w' => e = .returned (.pointer none) ∧ w = w' := by
  go_enter Tryz.func11, Tryz.ntmps11
  go_wp2_with fail
  go_ret
  exact ⟨rfl, rfl⟩
theorem pending_nil (w : World) :
    Calls Tryz.prog 19 #[.pointer none] w fun e w' => e = .returned (.slice none 0 0) ∧ w = w' := by
  go_enter Tryz.func19, Tryz.ntmps19
  go_wp2_with fail
  go_ret
  exact ⟨rfl, rfl⟩
end Go.Proofs.YtmnjdmcocifogaaGreatDoor.Hi
