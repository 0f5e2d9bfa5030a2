/- The text of an event, whole. -/
import Derived.Test.YtmnjdmcocifogaaGreatDoorText
namespace Go.Proofs.YtmnjdmcocifogaaGreatDoor.Tx
open Go.ChangeShapes Go.WideShapes Go.ChangeAt Go.RowKit Rw Go.Shelf Go.Sort
set_option linter.unusedVariables false

structure Ev where
  step : Int
  thread : Int
  kind : Int
  op : Int
  id : Int
  err : Int
deriving DecidableEq
def encE (e : Ev) : List Value := [.int .u64 e.step, .int .i64 e.thread, .int .i64 e.kind, .int .i64 e.op, .int .u64 e.id, .int .i64 e.err]
def Ev.val (e : Ev) : Value := .agg #[.int .u64 e.step, .int .i64 e.thread, .int .i64 e.kind, .int .i64 e.op, .int .u64 e.id, .int .i64 e.err]
def I64 (x : Int) : Prop := -9223372036854775808 ≤ x ∧ x ≤ 9223372036854775807
def U64 (x : Int) : Prop := 0 ≤ x ∧ x ≤ 18446744073709551615
structure Ev.ok (e : Ev) : Prop where
  step : U64 e.step
  thread : I64 e.thread
  kind : I64 e.kind
  op : I64 e.op
  id : U64 e.id
  err : I64 e.err
def kws : List ByteArray := [bts [99, 97, 108, 108], bts [112, 111, 105, 110, 116], bts [97, 110, 115, 119, 101, 114], bts [114, 101, 116, 105, 114, 101]]
def ows : List ByteArray := [bts [103, 101, 116], bts [112, 117, 116], bts [101, 118, 105, 99, 116], bts [99, 108, 111, 115, 101], bts [104, 111, 117, 115, 101]]
def six (e : Ev) : List ByteArray := [bts (Lib.itoa e.step), bts (Lib.itoa e.thread), pickw e.kind kws, pickw e.op ows, bts (Lib.itoa e.id), bts (Lib.itoa e.err)]
def txt (e : Ev) : ByteArray := bts (Lib.join ((six e).map (·.data.toList)) [32])
theorem itoa_le (n : Int) (h0 : -9223372036854775808 ≤ n) (h1 : n ≤ 18446744073709551615) : (Lib.itoa n).length ≤ 21 := by
  have key : ∀ u : Nat, u < 18446744073709551616 → Lib.nDigits u ≤ 20 := by
    intro u hu
    rcases Nat.eq_zero_or_pos u with rfl | h
    · rw [← Lib.decDigits_length]; simp [Lib.decDigits]
    · have := Lib.numDigits_eq u h hu
      split at this <;> omega
  by_cases hneg : n < 0
  · obtain ⟨u, rfl⟩ : ∃ u : Nat, n = -(u : Int) := ⟨n.natAbs, by omega⟩
    rw [Lib.itoa_neg u (by omega), List.length_cons, Lib.decDigits_length]
    have := key u (by omega)
    omega
  · obtain ⟨u, rfl⟩ : ∃ u : Nat, n = u := ⟨n.toNat, by omega⟩
    rw [Lib.itoa_nonneg, Lib.decDigits_length]
    have := key u (by omega)
    omega
theorem pickw_le (n : Int) (ws : List ByteArray) (h : ∀ x ∈ ws, x.data.toList.length ≤ 10) : (pickw n ws).data.toList.length ≤ 10 := by
  unfold pickw
  split
  · decide
  · rw [List.getD_eq_getElem?_getD]
    cases hx : ws[n.toNat]? with
    | none => decide
    | some x => exact h x (List.mem_of_getElem? hx)
theorem txt_le (e : Ev) (h : e.ok) : (Lib.join ((six e).map (·.data.toList)) [32]).length ≤ 140737488355328 := by
  have h1 := itoa_le e.step (by have := h.step.1; omega) h.step.2
  have h2 := itoa_le e.thread h.thread.1 (by have := h.thread.2; omega)
  have h3 := itoa_le e.id (by have := h.id.1; omega) h.id.2
  have h4 := itoa_le e.err h.err.1 (by have := h.err.2; omega)
  have h5 := pickw_le e.kind kws (by decide)
  have h6 := pickw_le e.op ows (by decide)
  simp only [six, List.map_cons, List.map_nil, Lib.join_cons, Lib.joinTail, List.flatten_cons, List.flatten_nil, List.length_append, List.length_cons, List.length_nil, bts] at *
  omega
def Six (g : Nat) (e : Ev) (w : World) : Prop :=
  w.cell? ⟨g, 0, none⟩ = some (.int .u64 e.step) ∧ w.cell? ⟨g, 1, none⟩ = some (.int .i64 e.thread) ∧ w.cell? ⟨g, 2, none⟩ = some (.int .i64 e.kind) ∧
  w.cell? ⟨g, 3, none⟩ = some (.int .i64 e.op) ∧ w.cell? ⟨g, 4, none⟩ = some (.int .u64 e.id) ∧ w.cell? ⟨g, 5, none⟩ = some (.int .i64 e.err)
theorem Six.below {g : Nat} {e : Ev} {w w' : World} (h : Six g e w) (hb : Below w.heap.size w w') : Six g e w' :=
  ⟨(hb.cell (p := ⟨g, 0, none⟩) (Lw.lt_heap h.1)).trans h.1, (hb.cell (p := ⟨g, 1, none⟩) (Lw.lt_heap h.2.1)).trans h.2.1, (hb.cell (p := ⟨g, 2, none⟩) (Lw.lt_heap h.2.2.1)).trans h.2.2.1,
   (hb.cell (p := ⟨g, 3, none⟩) (Lw.lt_heap h.2.2.2.1)).trans h.2.2.2.1, (hb.cell (p := ⟨g, 4, none⟩) (Lw.lt_heap h.2.2.2.2.1)).trans h.2.2.2.2.1, (hb.cell (p := ⟨g, 5, none⟩) (Lw.lt_heap h.2.2.2.2.2)).trans h.2.2.2.2.2⟩
theorem rd_strs {w : World} {xs : List ByteArray} {n : Nat} (hn : xs.length = n) (hs : n ≤ 9223372036854775807) (t : TypeId) {cs : Array Value} (hc : cs = (xs.map Value.string).toArray) : Rd Value.string (w.alloc (.cells cs t)) (w.heap.size + 1) (some ⟨w.heap.size, 0, none⟩) n n xs := by
  subst hc
  refine ⟨hn, Nat.le_refl _, hs, fun _ => ⟨w.heap.size, 0, rfl, by omega, fun j x hx => ?_⟩⟩
  simp [hx]
/-- What is known behind each operation that makes something. -/
def tT (e : Ev) : Nat → Value → World → Prop
  | 2, v, _ => v = .string (bts (Lib.itoa e.step))
  | 5, v, _ => v = .string (bts (Lib.itoa e.thread))
  | 8, v, w => ∃ A c, v = .slice A 4 c ∧ Rd Value.string w w.heap.size A 4 c kws
  | 9, v, _ => v = .string (pickw e.kind kws)
  | 12, v, w => ∃ A c, v = .slice A 5 c ∧ Rd Value.string w w.heap.size A 5 c ows
  | 13, v, _ => v = .string (pickw e.op ows)
  | 16, v, _ => v = .string (bts (Lib.itoa e.id))
  | 19, v, _ => v = .string (bts (Lib.itoa e.err))
  | 20, v, w => ∃ A c, v = .slice A 6 c ∧ Rd Value.string w w.heap.size A 6 c (six e)
  | 21, v, _ => v = .string (txt e)
  | 22, v, _ => v = .string (txt e)
  | _, _, _ => True
theorem tT_mono (e : Ev) (i : Nat) (v : Value) (w w' : World) (h : tT e i v w) (hb : Below w.heap.size w w') : tT e i v w' := by
  unfold tT at *
  split at h
  all_goals first
    | exact h
    | (obtain ⟨A, c, e1, e2⟩ := h; exact ⟨A, c, e1, e2.later hb⟩)
set_option maxHeartbeats 4000000 in
set_option maxRecDepth 100000 in
theorem text_any (e : Ev) (h : e.ok) (w : World) (hT : Tab w) :
    Calls Tryz.prog 21 #[e.val] w fun x w' => x = .returned (.string (txt e)) ∧ Below w.heap.size w w' := by
  have HK := Lib.hid h
  have HT := Lib.hid hT
  clear h hT
  unfold Ev.val
  go_enter Tryz.func21, Tryz.ntmps21
  go_wp2_with fail
  have d0 : Six w.heap.size e ((w.alloc (.cells #[.int .u64 e.step, .int .i64 e.thread, .int .i64 e.kind, .int .i64 e.op, .int .u64 e.id, .int .i64 e.err] 26)).drew) := by
    refine ⟨?_, ?_, ?_, ?_, ?_, ?_⟩ <;> simp
  have b0 : Below w.heap.size w (w.alloc (.cells #[.int .u64 e.step, .int .i64 e.thread, .int .i64 e.kind, .int .i64 e.op, .int .u64 e.id, .int .i64 e.err] 26)).drew := ((Below.refl _ _).alloc (Nat.le_refl _) _).drew
  refine reg_start 23 (Six w.heap.size e) (by kernel_rfl) (by kernel_rfl) ?_
  intro hA
  generalize (w.alloc (.cells #[.int .u64 e.step, .int .i64 e.thread, .int .i64 e.kind, .int .i64 e.op, .int .u64 e.id, .int .i64 e.err] 26)).drew = W at *
  have HA := Lib.hid hA
  clear hA
  refine reg_load 0 HA.out rfl (by kernel_rfl) (by decide) (fun _ _ _ _ h => h) d0 rfl ?_
  apply Exists.intro
  refine ⟨fun w' hw => by (obtain ⟨h0, h1, h2, h3, h4, h5⟩ := hw; go_simp; exact rfl), ?_⟩
  refine reg_load 1 HA.out rfl (by kernel_rfl) (by decide) (fun _ _ _ _ h => h) d0 rfl ?_
  apply Exists.intro
  refine ⟨fun w' hw => by (obtain ⟨h0, h1, h2, h3, h4, h5⟩ := hw; go_simp; exact rfl), ?_⟩
  refine reg_load 3 HA.out rfl (by kernel_rfl) (by decide) (fun _ _ _ _ h => h) d0 rfl ?_
  apply Exists.intro
  refine ⟨fun w' hw => by (obtain ⟨h0, h1, h2, h3, h4, h5⟩ := hw; go_simp; exact rfl), ?_⟩
  refine reg_load 4 HA.out rfl (by kernel_rfl) (by decide) (fun _ _ _ _ h => h) d0 rfl ?_
  apply Exists.intro
  refine ⟨fun w' hw => by (obtain ⟨h0, h1, h2, h3, h4, h5⟩ := hw; go_simp; exact rfl), ?_⟩
  refine reg_load 6 HA.out rfl (by kernel_rfl) (by decide) (fun _ _ _ _ h => h) d0 rfl ?_
  apply Exists.intro
  refine ⟨fun w' hw => by (obtain ⟨h0, h1, h2, h3, h4, h5⟩ := hw; go_simp; exact rfl), ?_⟩
  refine reg_load 7 HA.out rfl (by kernel_rfl) (by decide) (fun _ _ _ _ h => h) d0 rfl ?_
  apply Exists.intro
  refine ⟨fun w' hw => by (obtain ⟨h0, h1, h2, h3, h4, h5⟩ := hw; go_simp; exact rfl), ?_⟩
  refine reg_load 10 HA.out rfl (by kernel_rfl) (by decide) (fun _ _ _ _ h => h) d0 rfl ?_
  apply Exists.intro
  refine ⟨fun w' hw => by (obtain ⟨h0, h1, h2, h3, h4, h5⟩ := hw; go_simp; exact rfl), ?_⟩
  refine reg_load 11 HA.out rfl (by kernel_rfl) (by decide) (fun _ _ _ _ h => h) d0 rfl ?_
  apply Exists.intro
  refine ⟨fun w' hw => by (obtain ⟨h0, h1, h2, h3, h4, h5⟩ := hw; go_simp; exact rfl), ?_⟩
  refine reg_load 14 HA.out rfl (by kernel_rfl) (by decide) (fun _ _ _ _ h => h) d0 rfl ?_
  apply Exists.intro
  refine ⟨fun w' hw => by (obtain ⟨h0, h1, h2, h3, h4, h5⟩ := hw; go_simp; exact rfl), ?_⟩
  refine reg_load 15 HA.out rfl (by kernel_rfl) (by decide) (fun _ _ _ _ h => h) d0 rfl ?_
  apply Exists.intro
  refine ⟨fun w' hw => by (obtain ⟨h0, h1, h2, h3, h4, h5⟩ := hw; go_simp; exact rfl), ?_⟩
  refine reg_load 17 HA.out rfl (by kernel_rfl) (by decide) (fun _ _ _ _ h => h) d0 rfl ?_
  apply Exists.intro
  refine ⟨fun w' hw => by (obtain ⟨h0, h1, h2, h3, h4, h5⟩ := hw; go_simp; exact rfl), ?_⟩
  refine reg_load 18 HA.out rfl (by kernel_rfl) (by decide) (fun _ _ _ _ h => h) d0 rfl ?_
  apply Exists.intro
  refine ⟨fun w' hw => by (obtain ⟨h0, h1, h2, h3, h4, h5⟩ := hw; go_simp; exact rfl), ?_⟩
  refine reg_stable [2, 5, 8, 9, 12, 13, 16, 19, 20, 21, 22] (fun w w' => Below w.heap.size w w') (tT e) ?_ ?_ ?_ ?_ ?_ ?_ ?_ (fun _ => Below.refl _ _) (fun _ _ _ h1 h2 => h1.trans (h2.mono h1.size)) (tT_mono e) (fun _ h => d0.below h) ?_ ?_
  · kernel_rfl
  · kernel_rfl
  · kernel_rfl
  · kernel_rfl
  · kernel_rfl
  · kernel_rfl
  · kernel_rfl
  · refine ⟨?_, ?_, ?_, ?_, ?_, ?_, ?_, ?_, ?_, ?_, ?_, trivial⟩
    · intro a' w' val hb hfr hd
      have e4 : a'.tmps[4]?.getD undef = .int .u64 e.step := (hfr 4 (by kernel_rfl)).trans (by kernel_rfl)
      clear hfr hd
      refine ⟨_, rfl, ?_⟩
      unfold Oper.wp
      go_simp
      refine (funit_any e.step HK.out.step.1 HK.out.step.2 w' (HT.out.below (b0.trans (hb.mono b0.size)))).mono ?_
      rintro x w2 ⟨rfl, hb2⟩
      exact ⟨_, rfl, rfl, hb2⟩
    · intro a' w' val hb hfr hd
      have e7 : a'.tmps[7]?.getD undef = .int .i64 e.thread := (hfr 7 (by kernel_rfl)).trans (by kernel_rfl)
      clear hfr hd
      refine ⟨_, rfl, ?_⟩
      unfold Oper.wp
      go_simp
      refine (itoa_any e.thread HK.out.thread.1 HK.out.thread.2 w' (HT.out.below (b0.trans (hb.mono b0.size)))).mono ?_
      rintro x w2 ⟨rfl, hb2⟩
      exact ⟨_, rfl, rfl, hb2⟩
    · intro a' w' val hb hfr hd
      clear hfr hd
      refine ⟨_, rfl, ?_⟩
      unfold Oper.wp
      go_simp
      refine ⟨_, rfl, ⟨_, _, rfl, ?_⟩, (Below.refl _ _).alloc (Nat.le_refl _) _⟩
      exact (rd_strs (xs := kws) rfl (by simp [kws]) _ rfl).more (by simp)
    · intro a' w' val hb hfr hd
      have e10 : a'.tmps[10]?.getD undef = .int .i64 e.kind := (hfr 10 (by kernel_rfl)).trans (by kernel_rfl)
      obtain ⟨q8, s8⟩ := hd 8 (by decide) (by kernel_rfl)
      have e11 := s8 11 (by kernel_rfl)
      clear hfr hd
      obtain ⟨A, c, hv, hr⟩ : ∃ A c, val 8 = .slice A 4 c ∧ Rd Value.string w' w'.heap.size A 4 c kws := q8
      rw [hv] at e11
      refine ⟨_, rfl, ?_⟩
      unfold Oper.wp
      go_simp
      refine (named_any e.kind A 4 c kws _ w' hr).mono ?_
      rintro x w2 ⟨rfl, rfl⟩
      exact ⟨_, rfl, rfl, Below.refl _ _⟩
    · intro a' w' val hb hfr hd
      clear hfr hd
      refine ⟨_, rfl, ?_⟩
      unfold Oper.wp
      go_simp
      refine ⟨_, rfl, ⟨_, _, rfl, ?_⟩, (Below.refl _ _).alloc (Nat.le_refl _) _⟩
      exact (rd_strs (xs := ows) rfl (by simp [ows]) _ rfl).more (by simp)
    · intro a' w' val hb hfr hd
      have e14 : a'.tmps[14]?.getD undef = .int .i64 e.op := (hfr 14 (by kernel_rfl)).trans (by kernel_rfl)
      obtain ⟨q12, s12⟩ := hd 12 (by decide) (by kernel_rfl)
      have e15 := s12 15 (by kernel_rfl)
      clear hfr hd
      obtain ⟨A, c, hv, hr⟩ : ∃ A c, val 12 = .slice A 5 c ∧ Rd Value.string w' w'.heap.size A 5 c ows := q12
      rw [hv] at e15
      refine ⟨_, rfl, ?_⟩
      unfold Oper.wp
      go_simp
      refine (named_any e.op A 5 c ows _ w' hr).mono ?_
      rintro x w2 ⟨rfl, rfl⟩
      exact ⟨_, rfl, rfl, Below.refl _ _⟩
    · intro a' w' val hb hfr hd
      have e18 : a'.tmps[18]?.getD undef = .int .u64 e.id := (hfr 18 (by kernel_rfl)).trans (by kernel_rfl)
      clear hfr hd
      refine ⟨_, rfl, ?_⟩
      unfold Oper.wp
      go_simp
      refine (funit_any e.id HK.out.id.1 HK.out.id.2 w' (HT.out.below (b0.trans (hb.mono b0.size)))).mono ?_
      rintro x w2 ⟨rfl, hb2⟩
      exact ⟨_, rfl, rfl, hb2⟩
    · intro a' w' val hb hfr hd
      have e21 : a'.tmps[21]?.getD undef = .int .i64 e.err := (hfr 21 (by kernel_rfl)).trans (by kernel_rfl)
      clear hfr hd
      refine ⟨_, rfl, ?_⟩
      unfold Oper.wp
      go_simp
      refine (itoa_any e.err HK.out.err.1 HK.out.err.2 w' (HT.out.below (b0.trans (hb.mono b0.size)))).mono ?_
      rintro x w2 ⟨rfl, hb2⟩
      exact ⟨_, rfl, rfl, hb2⟩
    · intro a' w' val hb hfr hd
      obtain ⟨q2, s2⟩ := hd 2 (by decide) (by kernel_rfl)
      have e5 := s2 5 (by kernel_rfl)
      obtain ⟨q5, s5⟩ := hd 5 (by decide) (by kernel_rfl)
      have e8 := s5 8 (by kernel_rfl)
      obtain ⟨q9, s9⟩ := hd 9 (by decide) (by kernel_rfl)
      have e12 := s9 12 (by kernel_rfl)
      obtain ⟨q13, s13⟩ := hd 13 (by decide) (by kernel_rfl)
      have e16 := s13 16 (by kernel_rfl)
      obtain ⟨q16, s16⟩ := hd 16 (by decide) (by kernel_rfl)
      have e19 := s16 19 (by kernel_rfl)
      obtain ⟨q19, s19⟩ := hd 19 (by decide) (by kernel_rfl)
      have e22 := s19 22 (by kernel_rfl)
      clear hfr hd
      rw [show val 2 = .string (bts (Lib.itoa e.step)) from q2] at e5
      rw [show val 5 = .string (bts (Lib.itoa e.thread)) from q5] at e8
      rw [show val 9 = .string (pickw e.kind kws) from q9] at e12
      rw [show val 13 = .string (pickw e.op ows) from q13] at e16
      rw [show val 16 = .string (bts (Lib.itoa e.id)) from q16] at e19
      rw [show val 19 = .string (bts (Lib.itoa e.err)) from q19] at e22
      refine ⟨_, rfl, ?_⟩
      unfold Oper.wp
      go_simp
      refine ⟨_, rfl, ⟨_, _, rfl, ?_⟩, (Below.refl _ _).alloc (Nat.le_refl _) _⟩
      exact (rd_strs (xs := six e) rfl (by simp [six]) _ rfl).more (by simp)
    · intro a' w' val hb hfr hd
      obtain ⟨q20, s20⟩ := hd 20 (by decide) (by kernel_rfl)
      have e23 := s20 23 (by kernel_rfl)
      clear hfr hd
      obtain ⟨A, c, hv, hr⟩ : ∃ A c, val 20 = .slice A 6 c ∧ Rd Value.string w' w'.heap.size A 6 c (six e) := q20
      rw [hv] at e23
      refine ⟨_, rfl, ?_⟩
      unfold Oper.wp
      go_simp
      refine (line_any A 6 c (six e) w' hr (by omega) (txt_le e HK.out) (by omega)).mono ?_
      rintro x w2 ⟨rfl, hb2⟩
      exact ⟨_, rfl, rfl, hb2⟩
    · intro a' w' val hb hfr hd
      obtain ⟨q21, s21⟩ := hd 21 (by decide) (by kernel_rfl)
      have e24 := s21 24 (by kernel_rfl)
      clear hfr hd
      rw [show val 21 = .string (txt e) from q21] at e24
      refine ⟨_, rfl, ?_⟩
      unfold Oper.wp
      go_simp
      exact ⟨_, rfl, rfl, Below.refl _ _⟩
  intro val w' hE hb
  obtain ⟨p2, p5, p8, p9, p12, p13, p16, p19, p20, p21, p22, -⟩ := hE
  have e22 : val 22 = .string (txt e) := p22
  simp only [puts, dstOf]
  go_simp
  go_wp2_with fail
  go_ret
  exact ⟨rfl, b0.trans (hb.mono b0.size)⟩
end Go.Proofs.YtmnjdmcocifogaaGreatDoor.Tx
