/- Contracts of layer 12 (local): lists in the cells of a block. -/
import Derived.Test.YtbedboekfkobjaaGreatDoorBase1
import Derived.Test.YtbedboekfkobjaaGreatDoorRegG
namespace Go.Proofs.YtbedboekfkobjaaGreatDoor.Lc
open Go.ChangeShapes Go.WideShapes Go.ChangeAt Go.RowKit Rw Hi Sl
set_option linter.unusedVariables false

def upd (L : Nat → List Int) (i : Nat) (xs : List Int) : Nat → List Int := fun j => if j = i then xs else L j
theorem upd_same (L : Nat → List Int) (i : Nat) (xs : List Int) : upd L i xs i = xs := by simp [upd]
theorem upd_ne (L : Nat → List Int) {i j : Nat} (xs : List Int) (h : j ≠ i) : upd L i xs j = L j := by simp [upd, h]
/-- Those that stand last, four at most. -/
def last4 (l : List Int) : List Int := l.drop (l.length - 4)
theorem last4_len (l : List Int) : (last4 l).length ≤ 4 := by simp [last4]; omega
theorem last4_short {l : List Int} (h : l.length ≤ 4) : last4 l = l := by unfold last4; rw [Nat.sub_eq_zero_of_le h]; rfl
theorem last4_append (l ids : List Int) : last4 (l ++ last4 ids) = last4 (l ++ ids) := by
  unfold last4
  by_cases h : ids.length ≤ 4
  · rw [Nat.sub_eq_zero_of_le h]; rfl
  · have e : (ids.drop (ids.length - 4)).length = 4 := by simp; omega
    rw [List.drop_append, List.drop_append]
    simp only [List.length_append, e]
    rw [List.drop_of_length_le (show l.length ≤ l.length + 4 - 4 by omega), List.drop_of_length_le (show l.length ≤ l.length + ids.length - 4 by omega), List.nil_append, List.nil_append, List.drop_drop]
    congr 1
    omega
/-- Lists of block p, of each of the 8 threads one; no row of theirs lies in a block of X. -/
structure Lo (X : Nat → Prop) (w : World) (B p : Nat) (L : Nat → List Int) : Prop where
  at_ : ∀ i, i < 8 → ∃ A n c, w.cell? ⟨p, i, none⟩ = some (.slice A n c) ∧ Rd (Value.int .u64) w w.heap.size A n c (L i) ∧ ∀ g, (Value.slice A n c).ownBlock = some g → g < w.heap.size ∧ ¬ X g
  len : ∀ i, i < 8 → (L i).length ≤ 4
  free : ∀ i, i < 8 → w.frozen? ⟨p, i, none⟩ = false
  lo : B ≤ p
  px : ¬ X p
theorem Lo.lt {X : Nat → Prop} {w : World} {B p : Nat} {L : Nat → List Int} (h : Lo X w B p L) : p < w.heap.size := by obtain ⟨A, n, c, h1, _⟩ := h.at_ 0 (by omega); exact Lw.lt_heap h1
theorem Lo.later {X : Nat → Prop} {w w' : World} {B p : Nat} {L : Nat → List Int} (h : Lo X w B p L) (hb : Below w.heap.size w w') : Lo X w' B p L :=
  ⟨fun i hi => by
    obtain ⟨A, n, c, h1, h2, h3⟩ := h.at_ i hi
    exact ⟨A, n, c, (hb.cell (p := ⟨p, i, none⟩) h.lt).trans h1, h2.later hb, fun g hg => ⟨Nat.lt_of_lt_of_le (h3 g hg).1 hb.size, (h3 g hg).2⟩⟩, h.len, fun i hi => (hb.frozen (p := ⟨p, i, none⟩) h.lt).trans (h.free i hi), h.lo, h.px⟩
theorem Lo.same {X : Nat → Prop} {w : World} {B p : Nat} {L L' : Nat → List Int} (h : Lo X w B p L) (he : ∀ i, i < 8 → L' i = L i) : Lo X w B p L' :=
  ⟨fun i hi => by rw [he i hi]; exact h.at_ i hi, fun i hi => by rw [he i hi]; exact h.len i hi, h.free, h.lo, h.px⟩
theorem rd_store {w : World} {A : Option Addr} {n c : Nat} {xs : List Int} {p i : Nat} {A0 : Option Addr} {n0 c0 : Nat} (h : Rd (Value.int .u64) w w.heap.size A n c xs) (h0 : w.cell? ⟨p, i, none⟩ = some (.slice A0 n0 c0)) (u : Value) :
    Rd (Value.int .u64) (w.setCell ⟨p, i, none⟩ u) (w.setCell ⟨p, i, none⟩ u).heap.size A n c xs := (h.setOther h0 (fun x e => by cases e) u).more (by simp)
theorem Lo.store {X : Nat → Prop} {w : World} {B p i : Nat} {L : Nat → List Int} (h : Lo X w B p L) (hi : i < 8) {A : Option Addr} {n c : Nat} {xs : List Int} (hr : Rd (Value.int .u64) w w.heap.size A n c xs) (hl : xs.length ≤ 4) (hX : ∀ g, (Value.slice A n c).ownBlock = some g → g < w.heap.size ∧ ¬ X g) :
    Lo X (w.setCell ⟨p, i, none⟩ (.slice A n c)) B p (upd L i xs) ∧ Fr (some p) none w (w.setCell ⟨p, i, none⟩ (.slice A n c)) := by
  obtain ⟨A0, n0, c0, h0, _⟩ := h.at_ i hi
  refine ⟨⟨fun j hj => ?_, fun j hj => ?_, fun j hj => by simpa using h.free j hj, h.lo, h.px⟩, Fr.of_grown (grown_setCell _ _ _) (.inr (.inl rfl))⟩
  · by_cases e : j = i
    · subst e
      rw [upd_same]
      exact ⟨A, n, c, World.cell?_setCell_same _ _ _ h0, rd_store hr h0 _, fun g hg => by simpa using hX g hg⟩
    · rw [upd_ne L xs e]
      obtain ⟨A1, n1, c1, h1, h2, h3⟩ := h.at_ j hj
      exact ⟨A1, n1, c1, (World.cell?_setCell_other _ _ _ _ (fun e2 => by injection e2 with _ e2; omega)).trans h1, rd_store h2 h0 _, fun g hg => by simpa using h3 g hg⟩
  · by_cases e : j = i
    · subst e; rw [upd_same]; exact hl
    · rw [upd_ne L xs e]; exact h.len j hj
theorem own_fresh {X : Nat → Prop} {w : World} {base : Nat} {e : TypeId} {sz n : Nat} {v : Value} {xs : List Value} (h : w.ownsRow base e sz v n xs) (hX : ∀ g, X g → g < base) : ∀ g, v.ownBlock = some g → g < w.heap.size ∧ ¬ X g := fun g hg => by
  have := h.lt g hg
  exact ⟨this.2, fun hx => by have := hX g hx; omega⟩
/-- What turns blocks of X alone leaves them. -/
theorem Lo.grown {X : Nat → Prop} {w w' : World} {B p : Nat} {L : Nat → List Int} {row : Option Nat} (h : Lo X w B p L) (hg : w.grownBy w' row) (hr : ∀ g, row = some g → X g) : Lo X w' B p L := by
  have hp : w'.heap[p]? = w.heap[p]? := hg.block p h.lt (fun e => h.px (hr p e.symm))
  refine ⟨fun i hi => ?_, h.len, fun i hi => ?_, h.lo, h.px⟩
  · obtain ⟨A, n, c, h1, h2, h3⟩ := h.at_ i hi
    refine ⟨A, n, c, by unfold World.cell?; simp only [hp]; exact h1, ⟨h2.len, h2.cap, h2.top, fun hn => ?_⟩, fun g hg' => ⟨Nat.lt_of_lt_of_le (h3 g hg').1 hg.size, (h3 g hg').2⟩⟩
    obtain ⟨b, o, e, hb, hc⟩ := h2.at_ hn
    subst e
    refine ⟨b, o, rfl, Nat.lt_of_lt_of_le hb hg.size, fun j x hx => ?_⟩
    have hbb : w'.heap[b]? = w.heap[b]? := hg.block b hb (fun e => (h3 b rfl).2 (hr b e.symm))
    unfold World.cell?
    simp only [hbb]
    exact hc j x hx
  · unfold World.frozen?; simp only [hp]; exact h.free i hi
theorem Lo.shun {X X' : Nat → Prop} {w : World} {B p : Nat} {L : Nat → List Int} (h : Lo X w B p L) (hX : ∀ g, X' g → X g ∨ w.heap.size ≤ g) : Lo X' w B p L := by
  refine ⟨fun i hi => ?_, h.len, h.free, h.lo, fun e => ?_⟩
  · obtain ⟨A, n, c, h1, h2, h3⟩ := h.at_ i hi
    refine ⟨A, n, c, h1, h2, fun g hg => ⟨(h3 g hg).1, fun e => ?_⟩⟩
    rcases hX g e with e | e
    · exact (h3 g hg).2 e
    · have := (h3 g hg).1; omega
  · rcases hX p e with e | e
    · exact h.px e
    · have := h.lt; omega
theorem Fr.of_below {w w' : World} {a b : Option Nat} (h : Below w.heap.size w w') : Fr a b w w' := ⟨h.os, h.tape, h.output, h.size, fun k hk _ _ => h.block k hk⟩
theorem Fr.after {w w' w'' : World} {p : Nat} (h : Below w.heap.size w w') (h' : Fr (some p) none w' w'') : Fr (some p) none w w'' :=
  ⟨h'.os.trans h.os, h'.tape.trans h.tape, h'.output.trans h.output, Nat.le_trans h.size h'.size, fun k hk h1 h2 => (h'.block k (Nat.lt_of_lt_of_le hk h.size) h1 h2).trans (h.block k hk)⟩

/-- A row that isn't in block p. -/
theorem rd_fr {w w' : World} {p : Nat} {A : Option Addr} {n c : Nat} {xs : List Int} (h : Rd (Value.int .u64) w w.heap.size A n c xs) (hf : Fr (some p) none w w') (ha : ∀ g, (Value.slice A n c).ownBlock = some g → g ≠ p) : Rd (Value.int .u64) w' w'.heap.size A n c xs :=
  ⟨h.len, h.cap, h.top, fun hn => by
    obtain ⟨b, o, e, hb, hc⟩ := h.at_ hn
    subst e
    exact ⟨b, o, rfl, Nat.lt_of_lt_of_le hb hf.size, fun j x hx => (hf.cell (p := ⟨b, o + j, none⟩) hb (fun e => ha b rfl (by injection e)) (fun e => by cases e)).trans (hc j x hx)⟩⟩
theorem new_any (X : Nat → Prop) (w : World) (B : Nat) (hB : B ≤ w.heap.size) (hX : ∀ g, X g → g < w.heap.size) :
    Calls Tryz.prog 30 #[] w fun e w' => ∃ p, e = .returned (.pointer (some ⟨p, 0, none⟩)) ∧ Lo X w' B p (fun _ => []) ∧ w.heap.size ≤ p ∧ Below w.heap.size w w' := by
  go_enter Tryz.func30, Tryz.ntmps30
  go_wp2_with fail
  go_ret
  refine ⟨w.heap.size, rfl, ⟨fun i hi => ⟨none, 0, 0, ?_, Rd.nil_, fun g hg => by cases hg⟩, fun i hi => by simp, fun i hi => ?_, hB, fun e => by have := hX _ e; omega⟩, Nat.le_refl _, (Below.refl _ _).alloc (Nat.le_refl _) _⟩
  · rcases (by omega : i = 0 ∨ i = 1 ∨ i = 2 ∨ i = 3 ∨ i = 4 ∨ i = 5 ∨ i = 6 ∨ i = 7) with rfl | rfl | rfl | rfl | rfl | rfl | rfl | rfl <;> go_simp
  · rcases (by omega : i = 0 ∨ i = 1 ∨ i = 2 ∨ i = 3 ∨ i = 4 ∨ i = 5 ∨ i = 6 ∨ i = 7) with rfl | rfl | rfl | rfl | rfl | rfl | rfl | rfl <;> go_simp
theorem known_yes (t : Int) (w : World) (h0 : 0 ≤ t) (h8 : t < 8) :
    Calls Tryz.prog 47 #[.int .i64 t] w fun e w' => e = .returned (.bool true) ∧ w = w' := by
  have d0 : decide (0 ≤ t) = true := decide_eq_true h0
  have d8 : decide (t < 8) = true := decide_eq_true h8
  go_enter Tryz.func47, Tryz.ntmps47
  go_wp2_with fail
  go_ret
  exact ⟨rfl, rfl⟩
theorem known_no (t : Int) (w : World) (h : t < 0 ∨ 8 ≤ t) :
    Calls Tryz.prog 47 #[.int .i64 t] w fun e w' => e = .returned (.bool false) ∧ w = w' := by
  by_cases h0 : 0 ≤ t
  · have d0 : decide (0 ≤ t) = true := decide_eq_true h0
    have d8 : decide (t < 8) = false := decide_eq_false (by omega)
    go_enter Tryz.func47, Tryz.ntmps47
    go_wp2_with fail
    go_ret
    exact ⟨rfl, rfl⟩
  · have d0 : decide (0 ≤ t) = false := decide_eq_false h0
    go_enter Tryz.func47, Tryz.ntmps47
    go_wp2_with fail
    go_ret
    exact ⟨rfl, rfl⟩
theorem list_nil (t : Int) (w : World) :
    Calls Tryz.prog 50 #[.pointer none, .int .i64 t] w fun e w' => e = .returned (.slice none 0 0) ∧ w = w' := by
  go_enter Tryz.func50, Tryz.ntmps50
  go_wp2_with fail
  go_ret
  exact ⟨rfl, rfl⟩
theorem list_out (p : Nat) (t : Int) (w : World) (h : t < 0 ∨ 8 ≤ t) :
    Calls Tryz.prog 50 #[.pointer (some ⟨p, 0, none⟩), .int .i64 t] w fun e w' => e = .returned (.slice none 0 0) ∧ w = w' := by
  go_enter Tryz.func50, Tryz.ntmps50
  go_wp2_with fail
  refine (known_no t _ h).mono ?_
  rintro e w1 ⟨rfl, rfl⟩
  go_wp2_with fail
  go_ret
  exact ⟨rfl, rfl⟩
theorem list_in (p i : Nat) (w : World) (v : Value) (hi : i < 8) (hc : w.cell? ⟨p, i, none⟩ = some v) :
    Calls Tryz.prog 50 #[.pointer (some ⟨p, 0, none⟩), .int .i64 i] w fun e w' => e = .returned v ∧ w = w' := by
  go_enter Tryz.func50, Tryz.ntmps50
  go_wp2_with fail
  refine (known_yes i _ (by omega) (by omega)).mono ?_
  rintro e w1 ⟨rfl, rfl⟩
  go_wp2_with fail
  go_ret
  exact ⟨rfl, rfl⟩
/-- newest: those that stand last. -/
theorem newest_any (A : Option Addr) (n c B : Nat) (xs : List Int) (w : World) (h : Rd (Value.int .u64) w B A n c xs) :
    Calls Tryz.prog 49 #[.slice A n c] w fun e w' => ∃ A' n' c', e = .returned (.slice A' n' c') ∧ n' ≤ 4 ∧ Rd (Value.int .u64) w B A' n' c' (last4 xs) ∧ w = w' := by
  have hnc := h.cap
  have htop := h.top
  have HR := Lib.hid h
  have HL := Lib.hid h.len
  clear h
  by_cases hn : n ≤ 4
  · have hm : max (0 : Int) ((n : Int) - 4) = 0 := by omega
    have hl4 := last4_short (l := xs) (by rw [HL.out]; exact hn)
    have HL4 := Lib.hid hl4
    clear hl4
    cases A with
    | none =>
      have hc0 : n = 0 := by
        rcases Nat.eq_zero_or_pos n with h0 | h0
        · exact h0
        · obtain ⟨b, o, e, _⟩ := HR.out.at_ h0; cases e
      subst hc0
      by_cases hc : c = 0
      · subst hc
        go_enter Tryz.func49, Tryz.ntmps49
        go_wp2_with fail
        go_ret
        exact ⟨_, _, _, rfl, by omega, by rw [HL4.out]; exact HR.out, rfl⟩
      · go_enter Tryz.func49, Tryz.ntmps49
        go_wp2_with fail
        go_ret
        exact ⟨_, _, _, rfl, by omega, by rw [HL4.out]; exact HR.out, rfl⟩
    | some a =>
      go_enter Tryz.func49, Tryz.ntmps49
      go_wp2_with fail
      go_ret
      exact ⟨_, _, _, rfl, by omega, by rw [HL4.out]; exact HR.out, rfl⟩
  · obtain ⟨b, o, x, rfl, _, _, _⟩ := HR.out.get (k := 0) (by omega)
    obtain ⟨m, hmn⟩ : ∃ m : Nat, n = m + 4 := ⟨n - 4, by omega⟩
    have hm : max (0 : Int) ((n : Int) - 4) = (m : Int) := by omega
    have hm0 : m < c := by omega
    have hm1 : ¬ c = m := by omega
    have hm2 : m ≤ n := by omega
    have hl4 : last4 xs = xs.drop m := by unfold last4; rw [HL.out, hmn]; rfl
    have hr := HR.out.back (i := m) hm2 rfl (A' := some ⟨b, o + m, none⟩) (fun _ => rfl)
    have HL4 := Lib.hid hl4
    have HR2 := Lib.hid hr
    have HM := Lib.hid hmn
    clear hl4 hr hmn
    go_enter Tryz.func49, Tryz.ntmps49
    go_wp2_with fail
    go_ret
    obtain rfl : m = n - 4 := by have := HM.out; omega
    exact ⟨_, _, _, rfl, by omega, by rw [HL4.out]; exact HR2.out, rfl⟩

theorem put_nil (t : Int) (A : Option Addr) (n c : Nat) (w : World) :
    Calls Tryz.prog 33 #[.pointer none, .int .i64 t, .slice A n c] w fun e w' => e = .returned (.int .i64 1) ∧ w = w' := by
  go_enter Tryz.func33, Tryz.ntmps33
  go_wp2_with fail
  go_ret
  exact ⟨rfl, rfl⟩
theorem put_out (p : Nat) (t : Int) (A : Option Addr) (n c : Nat) (w : World) (h : t < 0 ∨ 8 ≤ t) :
    Calls Tryz.prog 33 #[.pointer (some ⟨p, 0, none⟩), .int .i64 t, .slice A n c] w fun e w' => e = .returned (.int .i64 2) ∧ w = w' := by
  go_enter Tryz.func33, Tryz.ntmps33
  go_wp2_with fail
  refine (known_no t _ h).mono ?_
  rintro e w1 ⟨rfl, rfl⟩
  go_wp2_with fail
  go_ret
  exact ⟨rfl, rfl⟩
set_option maxRecDepth 100000 in
set_option maxHeartbeats 2000000 in
theorem put_in (X : Nat → Prop) (w : World) (B p i : Nat) (L : Nat → List Int) (A : Option Addr) (n c : Nat) (ids : List Int) (hX : ∀ g, X g → g < w.heap.size) (h : Lo X w B p L) (hi : i < 8) (hr : Rd (Value.int .u64) w w.heap.size A n c ids) (hn : n ≤ 1000) :
    Calls Tryz.prog 33 #[.pointer (some ⟨p, 0, none⟩), .int .i64 i, .slice A n c] w fun e w' => e = .returned (.int .i64 0) ∧ Lo X w' B p (upd L i (last4 (L i ++ ids))) ∧ Fr (some p) none w w' := by
  obtain ⟨A0, n0, c0, h0, hr0, _⟩ := h.at_ i hi
  have hl := h.lt
  have hn0 : n0 ≤ 4 := by rw [← hr0.len]; exact h.len i hi
  have hi8 : (i : Int) < 8 := by omega
  have HL := Lib.hid h
  have HR := Lib.hid hr
  have HR0 := Lib.hid hr0
  have HX := Lib.hid hX
  clear h hr hr0 hX
  go_enter Tryz.func33, Tryz.ntmps33
  go_wp2_with fail
  refine (known_yes i _ (by omega) (by omega)).mono ?_
  rintro e w1 ⟨rfl, rfl⟩
  go_wp2_with fail
  refine reg_start 11 (fun w' => Below w.heap.size w w') (by kernel_rfl) (by kernel_rfl) ?_
  intro hTT
  have HTT := Lib.hid hTT
  have HS := Lib.hid (show Below w.heap.size w w.drew from (Below.refl _ _).drew)
  clear hTT
  refine reg_load 0 HTT.out rfl (by kernel_rfl) (by decide) (fun _ _ _ _ h => h) HS.out rfl ?_
  apply Exists.intro
  refine ⟨fun w' hw => by (go_simp; exact rfl), ?_⟩
  refine reg_load 1 HTT.out rfl (by kernel_rfl) (by decide) (fun _ _ _ _ h => h) HS.out rfl ?_
  apply Exists.intro
  refine ⟨fun w' hw => by (go_simp; exact rfl), ?_⟩
  refine reg_load 2 HTT.out rfl (by kernel_rfl) (by decide) (fun _ _ _ _ h => h) HS.out rfl ?_
  apply Exists.intro
  refine ⟨fun w' hw => by (go_simp; exact rfl), ?_⟩
  refine reg_load 3 HTT.out rfl (by kernel_rfl) (by decide) (fun _ _ _ _ h => h) HS.out rfl ?_
  apply Exists.intro
  refine ⟨fun w' hw => by (go_simp; exact rfl), ?_⟩
  refine reg_load 4 HTT.out rfl (by kernel_rfl) (by decide) (fun _ _ _ _ h => h) HS.out rfl ?_
  apply Exists.intro
  refine ⟨fun w' hw => by (go_simp; exact rfl), ?_⟩
  refine reg_load 5 HTT.out rfl (by kernel_rfl) (by decide) (fun _ _ _ _ h => h) HS.out rfl ?_
  apply Exists.intro
  refine ⟨fun w' hw => by (have k0 := (hw.cell (p := ⟨p, i, none⟩) hl).trans h0; go_simp; exact rfl), ?_⟩
  refine reg_load 6 HTT.out rfl (by kernel_rfl) (by decide) (fun _ _ _ _ h => h) HS.out rfl ?_
  apply Exists.intro
  refine ⟨fun w' hw => by (go_simp; exact rfl), ?_⟩
  refine reg_only 7 rfl (by kernel_rfl) rfl ?_
  unfold Oper.wp
  go_simp
  refine (newest_any A n c _ ids _ (HR.out.later HS.out)).mono ?_
  rintro e w2 ⟨A2, n2, c2, rfl, hn2, hr2, rfl⟩
  have HR2 := Lib.hid hr2
  clear hr2
  refine ⟨HS.out, ?_⟩
  refine reg_only 8 rfl (by kernel_rfl) rfl ?_
  unfold Oper.wp
  go_simp
  have HS8 := Lib.hid (show Below w.heap.size w (w.alloc (.cells #[.slice A0 n0 c0, .slice A2 n2 c2] 56)).drew from ((Below.refl _ _).alloc (Nat.le_refl _) _).drew)
  have HR2' := Lib.hid (show Rd (Value.int .u64) w w.heap.size A2 n2 c2 (last4 ids) from ⟨HR2.out.len, HR2.out.cap, HR2.out.top, HR2.out.at_⟩)
  refine ⟨HS8.out, ?_⟩
  refine reg_only 9 rfl (by kernel_rfl) rfl ?_
  unfold Oper.wp
  go_simp
  refine (concat_two w.heap.size A0 A2 n0 c0 n2 c2 w.heap.size w.heap.size (L i) (last4 ids) (w.alloc (.cells #[.slice A0 n0 c0, .slice A2 n2 c2] 56)).drew (by go_simp) (by go_simp) (HR0.out.below HS8.out) (HR2'.out.below HS8.out) (by simp) (by simp) (by simp) (by omega)).mono ?_
  rintro e w3 ⟨A3, c3, rfl, ho3, hb3⟩
  have HS9 := Lib.hid (HS8.out.trans (hb3.mono HS8.out.size))
  have HR3 := Lib.hid (Rd.own_rd ho3)
  clear hb3 ho3 HR2 HR2' HS8 HS HR0 HR
  refine ⟨HS9.out, ?_⟩
  refine reg_only 10 rfl (by kernel_rfl) rfl ?_
  unfold Oper.wp
  go_simp
  refine ⟨HS9.out, ?_⟩
  refine reg_done (by kernel_rfl) ?_
  go_wp2_with fail
  refine reg_start 8 (fun w' => Below w.heap.size w w') (by kernel_rfl) (by kernel_rfl) ?_
  intro hTT2
  have HTT := Lib.hid hTT2
  have HS := Lib.hid (show Below w.heap.size w w3.drew from HS9.out.drew)
  clear hTT2
  refine reg_load 0 HTT.out rfl (by kernel_rfl) (by decide) (fun _ _ _ _ h => h) HS.out rfl ?_
  apply Exists.intro
  refine ⟨fun w' hw => by (go_simp; exact rfl), ?_⟩
  refine reg_load 1 HTT.out rfl (by kernel_rfl) (by decide) (fun _ _ _ _ h => h) HS.out rfl ?_
  apply Exists.intro
  refine ⟨fun w' hw => by (go_simp; exact rfl), ?_⟩
  refine reg_load 2 HTT.out rfl (by kernel_rfl) (by decide) (fun _ _ _ _ h => h) HS.out rfl ?_
  apply Exists.intro
  refine ⟨fun w' hw => by (go_simp; exact rfl), ?_⟩
  refine reg_load 5 HTT.out rfl (by kernel_rfl) (by decide) (fun _ _ _ _ h => h) HS.out rfl ?_
  apply Exists.intro
  refine ⟨fun w' hw => by (go_simp; exact rfl), ?_⟩
  refine reg_load 6 HTT.out rfl (by kernel_rfl) (by decide) (fun _ _ _ _ h => h) HS.out rfl ?_
  apply Exists.intro
  refine ⟨fun w' hw => by (go_simp; exact rfl), ?_⟩
  refine reg_only 3 rfl (by kernel_rfl) rfl ?_
  unfold Oper.wp
  go_simp
  refine (newest_any A3 (n0 + n2) c3 _ (L i ++ last4 ids) _ HR3.out.drew).mono ?_
  rintro e w4 ⟨A4, n4, c4, rfl, hn4, hr4, rfl⟩
  have HR4 := Lib.hid hr4
  clear hr4
  refine ⟨HS.out, ?_⟩
  refine reg_only 4 rfl (by kernel_rfl) rfl ?_
  unfold Oper.wp
  go_simp
  refine (Sl.clone_any A4 n4 c4 _ _ w3.drew HR4.out (Nat.le_refl _) (by omega)).mono ?_
  rintro e w5 ⟨A5, c5, rfl, ho5, hb5⟩
  have HS5 := Lib.hid (HS.out.trans (hb5.mono HS.out.size))
  have HR5 := Lib.hid (Rd.own_rd ho5)
  have HX5 := Lib.hid (own_fresh ho5 (X := X) (fun g hg => Nat.lt_of_lt_of_le (HX.out g hg) HS.out.size))
  clear hb5 ho5 HR4 HS
  have hl4 : (last4 (L i ++ last4 ids)).length ≤ 4 := last4_len _
  obtain ⟨q1, q2⟩ := (HL.out.later HS5.out).store hi HR5.out hl4 HX5.out
  rw [last4_append] at q1
  have Q1 := Lib.hid q1
  have Q2 := Lib.hid (Fr.after HS5.out q2)
  have k0 := (HS5.out.cell (p := ⟨p, i, none⟩) hl).trans h0
  have f0 := (HS5.out.frozen (p := ⟨p, i, none⟩) hl).trans (HL.out.free i hi)
  clear q1 q2 hl4 HR5
  refine ⟨HS5.out, ?_⟩
  refine reg_load 7 HTT.out rfl (by kernel_rfl) (by decide) (fun _ _ _ _ h => h) HS5.out rfl ?_
  apply Exists.intro
  refine ⟨fun w' hw => by (go_simp; exact rfl), ?_⟩
  refine reg_only 8 rfl (by kernel_rfl) rfl ?_
  unfold Oper.wp
  go_simp
  refine reg_done (by kernel_rfl) ?_
  go_wp2_with fail
  go_ret
  exact ⟨rfl, Q1.out, Q2.out⟩

theorem take_none (p : Option Addr) (t : Int) (w : World) (h : p = none ∨ ∃ b, p = some ⟨b, 0, none⟩ ∧ (t < 0 ∨ 8 ≤ t)) :
    Calls Tryz.prog 34 #[.pointer p, .int .i64 t] w fun e w' => e = .returned (.tuple #[.int .u64 0, .bool false]) ∧ w = w' := by
  rcases h with rfl | ⟨b, rfl, h⟩
  · go_enter Tryz.func34, Tryz.ntmps34
    go_wp2_with fail
    refine (list_nil t _).mono ?_
    rintro e w1 ⟨rfl, rfl⟩
    go_wp2_with fail
    go_ret2
    exact ⟨rfl, rfl⟩
  · go_enter Tryz.func34, Tryz.ntmps34
    go_wp2_with fail
    refine (list_out b t _ h).mono ?_
    rintro e w1 ⟨rfl, rfl⟩
    go_wp2_with fail
    go_ret2
    exact ⟨rfl, rfl⟩
theorem take_empty (X : Nat → Prop) (w : World) (B p i : Nat) (L : Nat → List Int) (h : Lo X w B p L) (hi : i < 8) (he : L i = []) :
    Calls Tryz.prog 34 #[.pointer (some ⟨p, 0, none⟩), .int .i64 i] w fun e w' => e = .returned (.tuple #[.int .u64 0, .bool false]) ∧ w = w' := by
  obtain ⟨A0, n0, c0, h0, hr0, _⟩ := h.at_ i hi
  have hn0 : n0 = 0 := by rw [← hr0.len, he]; rfl
  subst hn0
  clear h hr0
  go_enter Tryz.func34, Tryz.ntmps34
  go_wp2_with fail
  refine (list_in p i _ _ hi h0).mono ?_
  rintro e w1 ⟨rfl, rfl⟩
  go_wp2_with fail
  go_ret2
  exact ⟨rfl, rfl⟩
set_option maxRecDepth 100000 in
set_option maxHeartbeats 2000000 in
theorem take_some (X : Nat → Prop) (w : World) (B p i : Nat) (L : Nat → List Int) (xs : List Int) (x : Int) (h : Lo X w B p L) (hi : i < 8) (he : L i = xs ++ [x]) :
    Calls Tryz.prog 34 #[.pointer (some ⟨p, 0, none⟩), .int .i64 i] w fun e w' => e = .returned (.tuple #[.int .u64 x, .bool true]) ∧ Lo X w' B p (upd L i xs) ∧ Fr (some p) none w w' := by
  obtain ⟨A0, n0, c0, h0, hr0, hx0⟩ := h.at_ i hi
  have HX0 := Lib.hid hx0
  clear hx0
  have hl := h.lt
  have f0 := h.free i hi
  have hlen := hr0.len
  have hle := h.len i hi
  rw [he] at hlen hle
  obtain ⟨m, hm⟩ : ∃ m, xs.length = m := ⟨_, rfl⟩
  simp only [List.length_append, List.length_cons, List.length_nil, hm] at hlen hle
  subst hlen
  have hi8 : (i : Int) < 8 := by omega
  obtain ⟨b, o, y, rfl, hb, hy, cy⟩ := hr0.get (k := m) (by omega)
  have hyx : y = x := by
    rw [he, List.getElem?_append_right (by omega), hm, Nat.sub_self] at hy
    injection hy with hy
    exact hy.symm
  subst hyx
  have hfr := hr0.front (i := m) (by omega)
  rw [he, List.take_append_of_le_length (by omega), List.take_of_length_le (by omega)] at hfr
  have hcap := hr0.cap
  have htop := hr0.top
  have hmc : m ≤ c0 := by omega
  have HL := Lib.hid h
  have HF := Lib.hid hfr
  have hmz : ((m : Int) + 1 == 0) = false := beq_eq_false_iff_ne.2 (by omega)
  have hxs4 : xs.length ≤ 4 := by omega
  have HX4 := Lib.hid hxs4
  clear h hr0 hy hfr he hm hxs4
  go_enter Tryz.func34, Tryz.ntmps34
  go_wp2_with fail
  refine (list_in p i _ _ hi h0).mono ?_
  rintro e w1 ⟨rfl, rfl⟩
  go_wp2_with fail
  refine reg_start 8 (fun w' => Below w.heap.size w w') (by kernel_rfl) (by kernel_rfl) ?_
  intro hTT
  have HTT := Lib.hid hTT
  have HS := Lib.hid (show Below w.heap.size w w.drew from (Below.refl _ _).drew)
  clear hTT
  refine reg_load 0 HTT.out rfl (by kernel_rfl) (by decide) (fun _ _ _ _ h => h) HS.out rfl ?_
  apply Exists.intro
  refine ⟨fun w' hw => by (go_simp; exact rfl), ?_⟩
  refine reg_load 1 HTT.out rfl (by kernel_rfl) (by decide) (fun _ _ _ _ h => h) HS.out rfl ?_
  apply Exists.intro
  refine ⟨fun w' hw => by (go_simp; exact rfl), ?_⟩
  refine reg_load 2 HTT.out rfl (by kernel_rfl) (by decide) (fun _ _ _ _ h => h) HS.out rfl ?_
  apply Exists.intro
  refine ⟨fun w' hw => by (go_simp; exact rfl), ?_⟩
  refine reg_load 3 HTT.out rfl (by kernel_rfl) (by decide) (fun _ _ _ _ h => h) HS.out rfl ?_
  apply Exists.intro
  refine ⟨fun w' hw => by (go_simp; exact rfl), ?_⟩
  refine reg_load 4 HTT.out rfl (by kernel_rfl) (by decide) (fun _ _ _ _ h => h) HS.out rfl ?_
  apply Exists.intro
  refine ⟨fun w' hw => by (go_simp; exact rfl), ?_⟩
  refine reg_load 5 HTT.out rfl (by kernel_rfl) (by decide) (fun _ _ _ _ h => h) HS.out rfl ?_
  apply Exists.intro
  refine ⟨fun w' hw => by (go_simp; exact rfl), ?_⟩
  refine reg_load 6 HTT.out rfl (by kernel_rfl) (by decide) (fun _ _ _ _ h => h) HS.out rfl ?_
  apply Exists.intro
  refine ⟨fun w' hw => by (go_simp; exact rfl), ?_⟩
  refine reg_load 7 HTT.out rfl (by kernel_rfl) (by decide) (fun _ _ _ _ h => h) HS.out rfl ?_
  apply Exists.intro
  refine ⟨fun w' hw => by (go_simp; exact rfl), ?_⟩
  have k0 := (HS.out.cell (p := ⟨p, i, none⟩) hl).trans h0
  have k1 := (HS.out.frozen (p := ⟨p, i, none⟩) hl).trans f0
  refine reg_only 8 rfl (by kernel_rfl) rfl ?_
  unfold Oper.wp
  go_simp
  obtain ⟨q1, q2⟩ := (HL.out.later HS.out).store hi (HF.out.later HS.out) HX4.out HX0.out
  have Q1 := Lib.hid q1
  have Q2 := Lib.hid (Fr.after HS.out q2)
  have hcy : (w.setCell ⟨p, i, none⟩ (.slice (some ⟨b, o, none⟩) m c0)).cell? ⟨b, o + m, none⟩ = some (.int .u64 y) := by
    refine (World.cell?_setCell_other _ _ _ _ (fun e => ?_)).trans cy
    injection e with e1 e2
    subst e1
    rw [e2] at h0
    rw [cy] at h0
    cases h0
  clear q1 q2
  refine reg_done (by kernel_rfl) ?_
  go_wp2_with fail
  go_ret2
  exact ⟨rfl, Q1.out, Q2.out⟩

theorem all_none (p : Option Addr) (t : Int) (w : World) (h : p = none ∨ ∃ b, p = some ⟨b, 0, none⟩ ∧ (t < 0 ∨ 8 ≤ t)) :
    Calls Tryz.prog 38 #[.pointer p, .int .i64 t] w fun e w' => ∃ A c, e = .returned (.slice A 0 c) ∧ Below w.heap.size w w' := by
  rcases h with rfl | ⟨b, rfl, h⟩
  · go_enter Tryz.func38, Tryz.ntmps38
    go_wp2_with fail
    refine (list_nil t _).mono ?_
    rintro e w1 ⟨rfl, rfl⟩
    go_wp2_with fail
    refine (Sl.clone_any none 0 0 [] 0 w Rd.nil_ (by omega) (by omega)).mono ?_
    rintro e w1 ⟨A, c, rfl, _, hb⟩
    go_wp2_with fail
    go_ret
    exact ⟨A, c, rfl, hb⟩
  · go_enter Tryz.func38, Tryz.ntmps38
    go_wp2_with fail
    refine (list_out b t _ h).mono ?_
    rintro e w1 ⟨rfl, rfl⟩
    go_wp2_with fail
    refine (Sl.clone_any none 0 0 [] 0 w Rd.nil_ (by omega) (by omega)).mono ?_
    rintro e w1 ⟨A, c, rfl, _, hb⟩
    go_wp2_with fail
    go_ret
    exact ⟨A, c, rfl, hb⟩
theorem all_in (X : Nat → Prop) (w : World) (B p i : Nat) (L : Nat → List Int) (h : Lo X w B p L) (hi : i < 8) :
    Calls Tryz.prog 38 #[.pointer (some ⟨p, 0, none⟩), .int .i64 i] w fun e w' => ∃ A c, e = .returned (.slice A (L i).length c) ∧ Rd (Value.int .u64) w' w'.heap.size A (L i).length c (L i) ∧ (∀ g, (Value.slice A (L i).length c).ownBlock = some g → w.heap.size ≤ g) ∧ Below w.heap.size w w' := by
  obtain ⟨A0, n0, c0, h0, hr0, _⟩ := h.at_ i hi
  have hlen := hr0.len
  have hle := h.len i hi
  have HR := Lib.hid hr0
  rw [hlen] at hle ⊢
  clear h hr0 hlen
  go_enter Tryz.func38, Tryz.ntmps38
  go_wp2_with fail
  refine (list_in p i _ _ hi h0).mono ?_
  rintro e w1 ⟨rfl, rfl⟩
  go_wp2_with fail
  refine (Sl.clone_any A0 n0 c0 _ _ w HR.out (Nat.le_refl _) (by omega)).mono ?_
  rintro e w1 ⟨A, c, rfl, ho, hb⟩
  have HO := Lib.hid (Rd.own_rd ho)
  have HF := Lib.hid ho.lt
  clear ho
  go_wp2_with fail
  go_ret
  exact ⟨A, c, rfl, HO.out, fun g hg => (HF.out g hg).1, hb⟩
/-- How many there are of the first k threads. -/
def total (L : Nat → List Int) : Nat → Nat
  | 0 => 0
  | k + 1 => total L k + (L k).length
theorem total_le {L : Nat → List Int} (h : ∀ i, i < 8 → (L i).length ≤ 4) : ∀ k, k ≤ 8 → total L k ≤ 4 * k
  | 0, _ => Nat.le_refl _
  | k + 1, hk => by have := total_le h k (by omega); have := h k (by omega); simp only [total]; omega
theorem len_any (X : Nat → Prop) (w : World) (B p : Nat) (L : Nat → List Int) (h : Lo X w B p L) :
    Calls Tryz.prog 39 #[.pointer (some ⟨p, 0, none⟩)] w fun e w' => e = .returned (.int .i64 (total L 8)) ∧ w = w' := by
  have HL := Lib.hid h
  have HT := Lib.hid (fun k hk => total_le h.len k hk)
  clear h
  go_enter Tryz.func39, Tryz.ntmps39
  go_wp2_with fail
  go_loopw [3, 5] (fun s i wr => ∃ k q : Nat, k ≤ 8 ∧ i = .int .i64 k ∧ s = .int .i64 q ∧ q ≤ 32 ∧ Hid (q = total L k) ∧ wr = w) (fun _ i _ => 8 - (intOf i).toNat)
  case atStart => exact ⟨0, 0, by omega, rfl, rfl, by omega, Lib.hid rfl, rfl⟩
  case round =>
    obtain ⟨k, q, hk, rfl, rfl, hq, HQ, rfl⟩ := hrel
    by_cases hlt : k < 8
    · obtain ⟨A0, n0, c0, h0, hr0, _⟩ := HL.out.at_ k hlt
      have hq2 : q + n0 = total L (k + 1) := by rw [total, HQ.out, hr0.len]
      have hq3 : q + n0 ≤ 32 := by have := HT.out (k + 1) (by omega); omega
      have HQ2 := Lib.hid hq2
      clear hr0 hq2
      go_wp2_with fail
      refine (list_in p k _ _ hlt h0).mono ?_
      rintro e w1 ⟨rfl, rfl⟩
      go_wp2_with fail
      go_roundw
      case rel => exact ⟨k + 1, q + n0, by omega, by go_num, by go_num, hq3, HQ2, trivial⟩
      case measure => simp [intOf]; omega
    · obtain rfl : k = 8 := by omega
      go_wp2_with fail
      go_ret
      exact ⟨by rw [← HQ.out]; rfl, rfl⟩
theorem len_nil (w : World) :
    Calls Tryz.prog 39 #[.pointer none] w fun e w' => e = .returned (.int .i64 0) ∧ w = w' := by
  go_enter Tryz.func39, Tryz.ntmps39
  go_wp2_with fail
  go_loopw [3, 5] (fun s i wr => ∃ k : Nat, k ≤ 8 ∧ i = .int .i64 k ∧ s = .int .i64 0 ∧ wr = w) (fun _ i _ => 8 - (intOf i).toNat)
  case atStart => exact ⟨0, by omega, rfl, rfl, rfl⟩
  case round =>
    obtain ⟨k, hk, rfl, rfl, rfl⟩ := hrel
    by_cases hlt : k < 8
    · go_wp2_with fail
      refine (list_nil k _).mono ?_
      rintro e w1 ⟨rfl, rfl⟩
      go_wp2_with fail
      go_roundw
      case rel => exact ⟨k + 1, by omega, by go_num, rfl, trivial⟩
      case measure => simp [intOf]; omega
    · obtain rfl : k = 8 := by omega
      go_wp2_with fail
      go_ret
      exact ⟨rfl, rfl⟩
theorem clone_nil (w : World) :
    Calls Tryz.prog 32 #[.pointer none] w fun e w' => e = .returned (.pointer none) ∧ w = w' := by
  go_enter Tryz.func32, Tryz.ntmps32
  go_wp2_with fail
  go_ret
  exact ⟨rfl, rfl⟩
end Go.Proofs.YtbedboekfkobjaaGreatDoor.Lc
