/- What is ensured, one within another (layer 7's law). -/
import Derived.Test.YthamnebbecmegaaEnsure
import Derived.Test.YthamnebbecmegaaSlicesI
namespace Go.Proofs.Ythamnebbecmegaa.Gd
open Go.ChangeShapes Go.WideShapes Go.ChangeAt Go.RowKit Rw
set_option linter.unusedVariables false

theorem World.cell?_far {w w' : World} {row : Option Nat} (hg : w.grownBy w' row) {a : Addr} (hlt : a.block < w.heap.size) (hne : some a.block ≠ row) : w'.cell? a = w.cell? a := by
  unfold World.cell?; rw [hg.block _ hlt hne]
theorem grown_setCell (w : World) (a : Addr) (u : Value) : w.grownBy (w.setCell a u) (some a.block) :=
  ⟨rfl, rfl, rfl, by simp, fun k _ hk => heap_setCell_other w a k u (fun e => hk (by rw [e]))⟩
/-- Nothing has turned but block D and the block o; what is owned is o as it was, or new. -/
structure Fr (D : Nat) (o o' : Option Nat) (w w' : World) : Prop where
  os : w'.os = w.os
  tape : w'.tape = w.tape
  output : w'.output = w.output
  size : w.heap.size ≤ w'.heap.size
  block : ∀ k, k < w.heap.size → k ≠ D → some k ≠ o → w'.heap[k]? = w.heap[k]?
  own : o' = o ∨ ∃ b, o' = some b ∧ w.heap.size ≤ b
theorem Fr.trans {D : Nat} {o o1 o2 : Option Nat} {w w1 w2 : World} (h : Fr D o o1 w w1) (k : Fr D o1 o2 w1 w2) : Fr D o o2 w w2 := by
  refine ⟨k.os.trans h.os, k.tape.trans h.tape, k.output.trans h.output, Nat.le_trans h.size k.size, fun j hj hD ho => ?_, ?_⟩
  · refine (k.block j (Nat.lt_of_lt_of_le hj h.size) hD ?_).trans (h.block j hj hD ho)
    rcases h.own with e | ⟨b, e, hb⟩
    · rw [e]; exact ho
    · rw [e]; intro e; injection e; omega
  · rcases k.own with e | ⟨b, e, hb⟩
    · rcases h.own with e1 | ⟨b1, e1, hb1⟩
      · exact .inl (e.trans e1)
      · exact .inr ⟨b1, e.trans e1, hb1⟩
    · exact .inr ⟨b, e, Nat.le_trans h.size hb⟩
theorem Fr.below {D : Nat} {o : Option Nat} {w w' : World} (h : Below w.heap.size w w') : Fr D o o w w' := ⟨h.os, h.tape, h.output, h.size, fun k hk _ _ => h.block k hk, .inl rfl⟩
theorem Fr.cell {D : Nat} {o o' : Option Nat} {w w' : World} (h : Fr D o o' w w') {p : Addr} (hlt : p.block < w.heap.size) (hD : p.block ≠ D) (ho : some p.block ≠ o) : w'.cell? p = w.cell? p := by
  unfold World.cell?; rw [h.block _ hlt hD ho]
theorem Fr.frozen {D : Nat} {o o' : Option Nat} {w w' : World} (h : Fr D o o' w w') {p : Addr} (hlt : p.block < w.heap.size) (hD : p.block ≠ D) (ho : some p.block ≠ o) : w'.frozen? p = w.frozen? p := by
  unfold World.frozen?; rw [h.block _ hlt hD ho]

def vK (D : Nat) : Nat → Value
  | 0 => .func (.func 42) #[] #[]
  | k + 1 => .func (.func 43) #[] #[.pointer (some ⟨D + 3 + 3 * k, 0, none⟩), .pointer (some ⟨D + 2 + 3 * k, 0, none⟩), .pointer (some ⟨D, 0, none⟩), .pointer (some ⟨D + 1 + 3 * k, 0, none⟩)]
def fK : Nat → FuncId
  | 0 => 42
  | _ + 1 => 43
def cK (D : Nat) : Nat → Array Value
  | 0 => #[]
  | k + 1 => #[.pointer (some ⟨D + 3 + 3 * k, 0, none⟩), .pointer (some ⟨D + 2 + 3 * k, 0, none⟩), .pointer (some ⟨D, 0, none⟩), .pointer (some ⟨D + 1 + 3 * k, 0, none⟩)]
theorem vK_eq (D k : Nat) : vK D k = .func (.func (fK k)) #[] (cK D k) := by cases k <;> rfl
theorem fK_enter (D k : Nat) (w : World) : (callFunc (fK k) (cK D k)).run Try.prog w = .ok (.enter (fK k) (cK D k)) w := by
  cases k <;> simp [fK, cK, go_sem]
def upto (k : Nat) : List Int := (List.range k).map fun j : Nat => (j : Int)
theorem upto_succ (k : Nat) : upto (k + 1) = upto k ++ [(k : Int)] := by unfold upto; rw [List.range_succ, List.map_append]; rfl

section
variable (Dd C : Nat → Int) (S : Nat → ByteArray)
def Ch (w : World) (D n : Nat) : Prop := ∀ j, j < n → w.cell? ⟨D + 1 + 3 * j, 0, none⟩ = some (.int .i64 j) ∧
  (w.cell? ⟨D + 2 + 3 * j, 0, none⟩ = some (.int .u8 (Dd j)) ∧ w.cell? ⟨D + 2 + 3 * j, 1, none⟩ = some (.int .u8 (C j)) ∧ w.cell? ⟨D + 2 + 3 * j, 2, none⟩ = some (.string (S j))) ∧
  w.cell? ⟨D + 3 + 3 * j, 0, none⟩ = some (vK D j)
structure St (w : World) (D n : Nat) (acc : List Int) (o : Option Nat) : Prop where
  ch : Ch Dd C S w D n
  sz : D + 1 + 3 * n ≤ w.heap.size
  row : ∃ A c, w.cell? ⟨D, 0, none⟩ = some (.slice A acc.length c) ∧ w.ownsRow (D + 1 + 3 * n) 3 1 (.slice A acc.length c) acc.length (acc.map (Value.int .i64)) ∧ (Value.slice A acc.length c).ownBlock = o
  free : w.frozen? ⟨D, 0, none⟩ = false
theorem Ch.keep {w w' : World} {D n : Nat} (h : Ch Dd C S w D n) (hk : ∀ p : Addr, D + 1 ≤ p.block → p.block < D + 1 + 3 * n → w'.cell? p = w.cell? p) : Ch Dd C S w' D n := by
  intro j hj
  obtain ⟨a, ⟨b, c, d⟩, e⟩ := h j hj
  refine ⟨(hk _ ?_ ?_).trans a, ⟨(hk _ ?_ ?_).trans b, (hk _ ?_ ?_).trans c, (hk _ ?_ ?_).trans d⟩, (hk _ ?_ ?_).trans e⟩ <;> (simp only; omega)
theorem St.grown {w w' : World} {D n : Nat} {acc : List Int} {o row : Option Nat} (h : St Dd C S w D n acc o) (hg : w.grownBy w' row) (hr : ∀ j, row = some j → D + 1 + 3 * n ≤ j ∧ some j ≠ o) : St Dd C S w' D n acc o := by
  obtain ⟨A, c, h0, hrow, ho⟩ := h.row
  have hs := h.sz
  have hne : some D ≠ row := by intro e; have := (hr D e.symm).1; omega
  refine ⟨h.ch.keep Dd C S fun p h1 h2 => World.cell?_far hg (by omega) (by intro e; have := (hr _ e.symm).1; omega), Nat.le_trans hs hg.size, ⟨A, c, hg.cell h0 hne, hrow.kept hg ?_, ho⟩, grown_frozen hg h.free (by simp only; omega) hne⟩
  cases hv : (Value.slice A acc.length c).ownBlock with
  | none => exact .inl rfl
  | some j => exact .inr (fun e => (hr j e.symm).2 (by rw [← ho, hv]))
theorem St.later {w w' : World} {D n : Nat} {acc : List Int} {o : Option Nat} (h : St Dd C S w D n acc o) (hb : Below w.heap.size w w') : St Dd C S w' D n acc o := h.grown Dd C S (grown_of_below hb) (fun j hj => by cases hj)
theorem St.own_lt {w : World} {D n : Nat} {acc : List Int} {o : Option Nat} (h : St Dd C S w D n acc o) : ∀ b, o = some b → D + 1 + 3 * n ≤ b ∧ b < w.heap.size := by
  obtain ⟨A, c, h0, hrow, ho⟩ := h.row
  intro b hb
  exact hrow.lt b (ho.trans hb)

set_option maxRecDepth 100000 in
/-- One more is done. -/
theorem push_any (D n k : Nat) (acc : List Int) (o : Option Nat) (w : World) (h : St Dd C S w D n acc o) (hk : k < n) (hlen : acc.length ≤ 100) :
    Calls Try.prog 46 #[.pointer (some ⟨D, 0, none⟩), .pointer (some ⟨D + 1 + 3 * k, 0, none⟩)] w fun e w' => e = .returned (.tuple #[]) ∧ ∃ o', St Dd C S w' D n (acc ++ [(k : Int)]) o' ∧ Fr D o o' w w' := by
  obtain ⟨i0, hi, hz0, hz1, hz2⟩ := info_parts Si.info_int
  obtain ⟨A, c, h0, hrow, ho⟩ := h.row
  have hik := (h.ch k hk).1
  have hz := h.sz
  have hf := h.free
  have hrd : Rd (Value.int .i64) (w.alloc (.cells #[.int .i64 k] 3)) (w.heap.size + 1) (some ⟨w.heap.size, 0, none⟩) 1 1 [(k : Int)] := rd_one w (k : Int) 3
  have hmp : acc.map (Value.int .i64) ++ [(k : Int)].map (Value.int .i64) = (acc ++ [(k : Int)]).map (Value.int .i64) := List.map_append.symm
  have HMP := Lib.hid hmp
  have HRD := Lib.hid hrd
  have HROW := Lib.hid hrow
  have HST := Lib.hid h
  have HO := Lib.hid ho
  have HOL := Lib.hid hrow.lt
  clear hmp hrd hrow h ho
  go_enter Try.func46, Try.ntmps46
  go_wp2_with (
    at_builtin
    refine append_rd _ rfl _ _ 80 rfl (D + 1 + 3 * n) 3 i0 (.int .i64 0) 8 Try.underlying80 hi hz0 hz1 hz2 rfl _ acc.length _ rfl (HROW.out.alloc _) _ _ 1 1 [(k : Int)] rfl HRD.out Si.one_int (acc.length + 1) rfl _ HMP.out (by unfold maxLen; omega) (by omega) (by simp; omega) ?_
    intro A3 c3 w3 hrow3 hg3 hat3
    have hne : some D ≠ (Value.slice A acc.length c).ownBlock := (fun h => by have := (HOL.out _ h.symm).1; omega)
    have c0 : w3.cell? ⟨D, 0, none⟩ = some (.slice A acc.length c) := hg3.cell (alloc_cell h0 _) hne
    have z0 : w3.frozen? ⟨D, 0, none⟩ = false := grown_frozen hg3 (alloc_frozen hf (by simp only; omega) _) (by simp; omega) hne
    have HROW3 := Lib.hid hrow3
    have HG3 := Lib.hid hg3
    have HAT3 := Lib.hid hat3
    clear hrow3 hg3 hat3 hne)
  go_end0
  have hal : w.grownBy (w.alloc (.cells #[.int .i64 k] 3)) none := World.grownBy_alloc _ _ _
  have hsc := grown_setCell w3 ⟨D, 0, none⟩ (.slice A3 (acc.length + 1) c3)
  have hl : (acc ++ [(k : Int)]).length = acc.length + 1 := by simp
  have hG : (w.alloc (.cells #[.int .i64 k] 3)).grownBy w3 (Value.slice A acc.length c).ownBlock := HG3.out
  have hAT : (Value.slice A3 (acc.length + 1) c3).ownBlock = (Value.slice A acc.length c).ownBlock ∨ (Value.slice A3 (acc.length + 1) c3).ownBlock = some (w.alloc (.cells #[.int .i64 k] 3)).heap.size := HAT3.out
  have hR3 := HROW3.out
  refine ⟨rfl, (Value.slice A3 (acc.length + 1) c3).ownBlock, ⟨?_, ?_, ⟨A3, c3, ?_, ?_, ?_⟩, ?_⟩, ?_⟩
  · refine HST.out.ch.keep Dd C S fun p p1 p2 => ?_
    refine (World.cell?_far hsc (by have := hG.size; simp at this; omega) (by intro e; injection e with e; simp only at e; omega)).trans ?_
    refine (World.cell?_far hG (by simp; omega) (by intro e; have := (HOL.out _ e.symm).1; omega)).trans ?_
    exact World.cell?_far hal (by omega) (by simp)
  · have := hG.size
    simp at this ⊢
    omega
  · rw [hl]; exact World.cell?_setCell_same _ _ _ c0
  · rw [hl]
    refine hR3.kept hsc ?_
    cases hv : (Value.slice A3 (acc.length + 1) c3).ownBlock with
    | none => exact .inl rfl
    | some j => exact .inr (fun e => by injection e with e; have := (hR3.lt j hv).1; simp only at e; omega)
  · rw [hl]
  · simpa using z0
  · refine ⟨hsc.os.trans (hG.os.trans hal.os), hsc.tape.trans (hG.tape.trans hal.tape), hsc.output.trans (hG.output.trans hal.output), Nat.le_trans hal.size (Nat.le_trans hG.size hsc.size), fun j hj hD hj2 => ?_, ?_⟩
    · refine (hsc.block j (Nat.lt_of_lt_of_le hj (Nat.le_trans hal.size hG.size)) (by intro e; injection e with e; exact hD e)).trans ?_
      refine (hG.block j (Nat.lt_of_lt_of_le hj hal.size) (by rw [HO.out]; exact hj2)).trans ?_
      exact hal.block j hj (by simp)
    · rcases hAT with e | e
      · exact .inl (e.trans HO.out)
      · exact .inr ⟨_, e, by simp⟩

/-- How it ends, where k things are within. -/
def EndK (k : Nat) (e : Ending) : Prop :=
  (e = .returned (.tuple #[]) ∧ ∀ j, j < k → want (Dd j) (C j) = 0) ∨ ((∃ T v, e = .panicked [{ v := .iface T v, recovered := false }]) ∧ ∃ j, j < k ∧ want (Dd j) (C j) ≠ 0)
theorem EndK.once {k : Nat} {e : Ending} (h : EndK Dd C k e) : Once e := by
  rcases h with ⟨h, _⟩ | ⟨⟨T, v, h⟩, _⟩
  · exact .inl h
  · exact .inr ⟨T, v, h⟩
theorem EndK.succ {k : Nat} {e : Ending} (h : ∀ j, j < k → want (Dd j) (C j) = 0) (he : Ends (Dd k) (C k) e) : EndK Dd C (k + 1) e := by
  have hw : want (Dd k) (C k) = 0 ∧ e = .returned (.tuple #[]) ∨ want (Dd k) (C k) ≠ 0 ∧ ∃ T v, e = .panicked [{ v := .iface T v, recovered := false }] := by
    unfold want
    rcases he with ⟨h1, h2⟩ | ⟨h1, h2, h3⟩ | ⟨h1, T, v, _, h3⟩
    · refine .inl ⟨?_, h2⟩
      rcases h1 with h1 | ⟨h1, h1'⟩
      · rw [if_pos h1]
      · rw [if_neg (by omega), if_pos h1, h1']
    · exact .inr ⟨by rw [if_neg (by omega), if_pos h1]; exact h2, _, _, h3⟩
    · exact .inr ⟨by rw [if_neg (by omega), if_neg (by omega)]; decide, _, _, h3⟩
  rcases hw with ⟨h1, h2⟩ | ⟨h1, h2⟩
  · refine .inl ⟨h2, fun j hj => ?_⟩
    rcases Nat.lt_or_ge j k with h3 | h3
    · exact h j h3
    · obtain rfl : j = k := by omega
      exact h1
  · exact .inr ⟨h2, k, by omega, h1⟩
theorem EndK.more {k : Nat} {e : Ending} (h : EndK Dd C k e) (hp : ∃ c, e = .panicked c) : EndK Dd C (k + 1) e := by
  rcases h with ⟨h, _⟩ | ⟨h, j, hj, h2⟩
  · obtain ⟨c, hc⟩ := hp; rw [hc] at h; cases h
  · exact .inr ⟨h, j, by omega, h2⟩

set_option maxRecDepth 100000 in
/-- The inner one, and then the thing of this round. -/
theorem inner_any {K : FuncId} {cap : Array Value} {b bx : Nat} {w : World} {R : Ending → World → Prop} {d c : Int} {s : ByteArray} (hd : 0 ≤ d ∧ d ≤ 255) (hc : 0 ≤ c ∧ c ≤ 255)
    (hp : w.cell? ⟨b, 0, none⟩ = some (.func (.func K) #[] cap)) (hK : ∀ w, (callFunc K cap).run Try.prog w = .ok (.enter K cap) w) (h : Calls Try.prog K cap w R)
    (hR : ∀ e w', R e w' → Plain e) (hx : ∀ e w', R e w' → w'.cell? ⟨bx, 0, none⟩ = some (.int .u8 d) ∧ w'.cell? ⟨bx, 1, none⟩ = some (.int .u8 c) ∧ w'.cell? ⟨bx, 2, none⟩ = some (.string s)) :
    Calls Try.prog 45 #[.pointer (some ⟨b, 0, none⟩), .pointer (some ⟨bx, 0, none⟩)] w fun e w' => (R e w' ∧ ∃ c, e = .panicked c) ∨ ∃ w0, R (.returned (.tuple #[])) w0 ∧ Ends d c e ∧ Below w0.heap.size w0 w' := by
  go_enter Try.func45, Try.ntmps45
  go_wp2_with fail
  refine h.mono ?_
  rintro e w0 hr
  obtain ⟨x0, x1, x2⟩ := hx e w0 hr
  rcases hR e w0 hr with rfl | ⟨ch, rfl⟩
  · have HRR := Lib.hid hr
    clear hr hx hR
    go_wp2_with fail
    refine (do_any d c s hd hc _).mono ?_
    rintro e w1 ⟨he, hb⟩
    have HE := Lib.hid he
    have HB := Lib.hid hb
    rcases he.once with rfl | ⟨T, v, rfl⟩
    · clear he hb
      go_wp2_with fail
      go_end0
      exact .inr ⟨w0, HRR.out, HE.out, HB.out⟩
    · exact ⟨rfl, .inr ⟨w0, HRR.out, HE.out, HB.out⟩⟩
  · exact ⟨rfl, .inl ⟨hr, ch, rfl⟩⟩
theorem joined_ret (e0 : Ending) : joined e0 (.returned (.tuple #[])) = e0 := by cases e0 <;> rfl
theorem upto_len (k : Nat) : (upto k).length = k := by simp [upto]
set_option maxRecDepth 100000 in
/-- What is ensured of k things, one within another. -/
theorem level_any (D n : Nat) (hn : n ≤ 30) (hK : ∀ j, j < n → (0 ≤ Dd j ∧ Dd j ≤ 255) ∧ (0 ≤ C j ∧ C j ≤ 255)) : ∀ (k : Nat), k ≤ n → ∀ (w : World) (acc : List Int) (o : Option Nat), St Dd C S w D n acc o → acc.length + k ≤ 60 →
    Calls Try.prog (fK k) (cK D k) w fun e w' => EndK Dd C k e ∧ ∃ o', St Dd C S w' D n (acc ++ upto k) o' ∧ Fr D o o' w w' := by
  intro k
  induction k with
  | zero =>
    intro _ w acc o h _
    have HST := Lib.hid h
    clear h
    show Calls Try.prog 42 #[] w _
    go_enter Try.func42, Try.ntmps42
    go_wp2_with fail
    go_end0
    refine ⟨.inl ⟨rfl, fun j hj => absurd hj (by omega)⟩, o, ?_, Fr.below (Below.refl _ _)⟩
    have : acc ++ upto 0 = acc := by simp [upto]
    rw [this]; exact HST.out
  | succ k ih =>
    intro hkn w acc o h hlen
    have hk : k < n := by omega
    have hsz := h.sz
    have hol := h.own_lt Dd C S
    obtain ⟨hkd, hkc⟩ := hK k hk
    have hmf := makeFunc_run
    have HST := Lib.hid h
    have IH := Lib.hid ih
    have HOL := Lib.hid hol
    have hDw : D < w.heap.size := by omega
    clear h ih hol
    show Calls Try.prog 43 #[.pointer (some ⟨D + 3 + 3 * k, 0, none⟩), .pointer (some ⟨D + 2 + 3 * k, 0, none⟩), .pointer (some ⟨D, 0, none⟩), .pointer (some ⟨D + 1 + 3 * k, 0, none⟩)] w _
    go_enter Try.func43, Try.ntmps43
    go_wp2_with fail
    obtain ⟨w2, hw2⟩ : ∃ w2, w.alloc (.cells #[.func (.func 46) #[] #[.pointer (some ⟨D, 0, none⟩), .pointer (some ⟨D + 1 + 3 * k, 0, none⟩)]] 1) = w2 := ⟨_, rfl⟩
    have hb2 : Below w.heap.size w w2 := hw2 ▸ (Below.refl _ _).alloc (Nat.le_refl _) _
    have hs2 : w2.heap.size = w.heap.size + 1 := by rw [← hw2]; simp
    have hcell2 : w2.cell? ⟨w.heap.size, 0, none⟩ = some (.func (.func 46) #[] #[.pointer (some ⟨D, 0, none⟩), .pointer (some ⟨D + 1 + 3 * k, 0, none⟩)]) := by rw [← hw2]; clear hb2 hs2 hw2; go_simp
    have hst2 := HST.out.later Dd C S hb2
    refine (ensure_any (.inr ⟨_, _, _, rfl⟩) (Rf := fun e w1 => EndK Dd C (k + 1) e ∧ ∃ o1, St Dd C S w1 D n (acc ++ upto k) o1 ∧ Fr D o o1 w2 w1)
      (Rl := fun _ w1 e w' => e = .returned (.tuple #[]) ∧ ∃ o1 o', St Dd C S w' D n (acc ++ upto k ++ [(k : Int)]) o' ∧ Fr D o1 o' w1 w' ∧ Fr D o o1 w2 w1) ?_ ?_ ?_).mono ?_
    · rw [hw2]
      refine call_fn (K := 45) (first := #[]) (fun e w' h => (h.1.once).good.plain) (fun w => by simp [go_sem]) ?_
      rw [Array.empty_append]
      have hin := (hst2.ch k hk).2.2
      rw [vK_eq] at hin
      refine (inner_any hkd hkc hin (fK_enter D k) (IH.out (by omega) w2 acc o hst2 (by omega)) (fun e w' h => (h.1.once).good.plain) (fun e w' ⟨_, o', h, _⟩ => (h.ch k hk).2.1)).mono ?_
      rintro e w' (⟨⟨hE, o1, h1, h2⟩, hp⟩ | ⟨w0, ⟨hE, o1, h1, h2⟩, he, hb⟩)
      · exact ⟨hE.more Dd C hp, o1, h1, h2⟩
      · refine ⟨EndK.succ Dd C ?_ he, o1, h1.later Dd C S hb, h2.trans (Fr.below hb)⟩
        rcases hE with ⟨_, h⟩ | ⟨⟨T, v, h⟩, _⟩
        · exact h
        · cases h
    · rintro e w1 ⟨hE, o1, h1, h2⟩
      refine ⟨hE.once.good, ?_, ?_⟩
      · refine (h2.cell (p := ⟨w.heap.size, 0, none⟩) (by simp only; omega) (by simp only; omega) ?_).trans hcell2
        intro e
        have := (HOL.out _ e.symm).2
        simp only at this
        omega
      · refine call_fn (K := 46) (first := #[]) (fun e w' h => .inl h.1) (fun w => by simp [go_sem]) ?_
        rw [Array.empty_append]
        refine (push_any Dd C S D n k (acc ++ upto k) o1 w1 h1 hk (by simp [upto_len]; omega)).mono ?_
        rintro e w' ⟨rfl, o', h3, h4⟩
        exact ⟨rfl, o1, o', h3, h4, h2⟩
    · exact fun e0 w0 e w' h => .inl h.1
    · rintro e w' ⟨e0, w0, e1, ⟨hE, _⟩, ⟨rfl, o1, o', h3, h4, h5⟩, rfl⟩
      rw [joined_ret]
      have hfin : ∃ o', St Dd C S w' D n (acc ++ upto (k + 1)) o' ∧ Fr D o o' w w' := ⟨o', by rw [upto_succ, ← List.append_assoc]; exact h3, ((Fr.below hb2).trans h5).trans h4⟩
      have HF := Lib.hid hfin
      have HE := Lib.hid hE
      clear h3 h4 h5 hfin hst2 hcell2 hb2 hs2 hw2
      rcases hE.once with rfl | ⟨T, v, rfl⟩
      · clear hE
        go_wp2_with fail
        go_end0
        exact ⟨HE.out, HF.out⟩
      · exact ⟨rfl, HE.out, HF.out⟩
end
end Go.Proofs.Ythamnebbecmegaa.Gd
