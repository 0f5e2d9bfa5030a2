/- The document's text of an event. -/
import Derived.Test.YtmnjdmcocifogaaGreatDoorHistEq
import Derived.Laws.Concat
namespace Go.Proofs.YtmnjdmcocifogaaGreatDoor.Tx
open Go.ChangeShapes Go.WideShapes Go.ChangeAt Go.RowKit Rw Go.Shelf Go.Sort
set_option linter.unusedVariables false

theorem word_any (n : Int) (A : Option Addr) (m c : Nat) (ws : List ByteArray) (B : Nat) (w : World) (h : Rd Value.string w B A m c ws) :
    Calls Tryz.prog 47 #[.int .i64 n, .slice A m c] w fun e w' => e = .returned (.string (pickw n ws)) ∧ w = w' := by
  have hl := h.len
  by_cases h0 : n < 0
  · have hd : decide (0 ≤ n) = false := decide_eq_false (by omega)
    have hp : pickw n ws = bts [63] := by unfold pickw; rw [if_pos h0]
    rw [hp]
    clear h hl hp h0
    go_enter Tryz.func47, Tryz.ntmps47
    go_wp2_with fail
    go_ret
    exact ⟨rfl, rfl⟩
  · obtain ⟨k, rfl⟩ : ∃ k : Nat, n = k := ⟨n.toNat, by omega⟩
    have hd : decide (0 ≤ (k : Int)) = true := decide_eq_true (by omega)
    by_cases h1 : k < m
    · have hge : decide ((k : Int) < (m : Int)) = true := decide_eq_true (by omega)
      obtain ⟨b, o, x, rfl, hb, hx, hc⟩ := h.get h1
      have hp : pickw k ws = x := by unfold pickw; rw [if_neg h0]; simp [hx]
      rw [hp]
      clear h hl hp hx h0
      go_enter Tryz.func47, Tryz.ntmps47
      go_wp2_with fail
      go_ret
      exact ⟨rfl, rfl⟩
    · have hge : decide ((k : Int) < (m : Int)) = false := decide_eq_false (by omega)
      have hp : pickw k ws = bts [63] := by unfold pickw; rw [if_neg h0]; simp [List.getElem?_eq_none (show ws.length ≤ k by omega)]
      rw [hp]
      clear h hl hp h0
      go_enter Tryz.func47, Tryz.ntmps47
      go_wp2_with fail
      go_ret
      exact ⟨rfl, rfl⟩
theorem bts_append (a b : List UInt8) : bts a ++ bts b = bts (a ++ b) := by
  apply ByteArray.ext
  simp [bts]
theorem bts_size (a : List UInt8) : (bts a).size = a.length := by simp [bts, ByteArray.size]
/-- What stands before each blank and behind it. -/
def l1 (e : Ev) := Lib.itoa e.step
def l2 (e : Ev) := l1 e ++ [32] ++ Lib.itoa e.thread
def l3 (e : Ev) := l2 e ++ [32] ++ (pickw e.kind kws).data.toList
def l4 (e : Ev) := l3 e ++ [32] ++ (pickw e.op ows).data.toList
def l5 (e : Ev) := l4 e ++ [32] ++ Lib.itoa e.id
def l6 (e : Ev) := l5 e ++ [32] ++ Lib.itoa e.err
theorem l6_txt (e : Ev) : bts (l6 e) = txt e := by
  unfold txt
  congr 1
  simp only [six, List.map_cons, List.map_nil, Lib.join_cons, Lib.joinTail, List.flatten_cons, List.flatten_nil, l6, l5, l4, l3, l2, l1, bts]
  simp [List.append_assoc]
theorem bts_eta (x : ByteArray) : bts x.data.toList = x := by simp [bts]
theorem l_len (e : Ev) (h : e.ok) : (l1 e).length ≤ 21 ∧ (l2 e).length ≤ 50 ∧ (l3 e).length ≤ 80 ∧ (l4 e).length ≤ 100 ∧ (l5 e).length ≤ 130 ∧ (l6 e).length ≤ 160 := by
  have h1 := itoa_le e.step (by have := h.step.1; omega) h.step.2
  have h2 := itoa_le e.thread h.thread.1 (by have := h.thread.2; omega)
  have h3 := itoa_le e.id (by have := h.id.1; omega) h.id.2
  have h4 := itoa_le e.err h.err.1 (by have := h.err.2; omega)
  have h5 := pickw_le e.kind kws (by decide)
  have h6 := pickw_le e.op ows (by decide)
  simp only [l6, l5, l4, l3, l2, l1, List.length_append, List.length_cons, List.length_nil]
  omega
def rT (e : Ev) : Nat → Value → World → Prop
  | 2, v, _ => v = .string (bts (Lib.itoa e.step))
  | 3, v, _ => v = .string (bts (l1 e ++ [32]))
  | 6, v, _ => v = .string (bts (Lib.itoa e.thread))
  | 7, v, _ => v = .string (bts (l2 e))
  | 8, v, _ => v = .string (bts (l2 e ++ [32]))
  | 11, v, w => ∃ A c, v = .slice A 4 c ∧ Rd Value.string w w.heap.size A 4 c kws
  | 12, v, _ => v = .string (bts (pickw e.kind kws).data.toList)
  | 13, v, _ => v = .string (bts (l3 e))
  | 14, v, _ => v = .string (bts (l3 e ++ [32]))
  | 17, v, w => ∃ A c, v = .slice A 5 c ∧ Rd Value.string w w.heap.size A 5 c ows
  | 18, v, _ => v = .string (bts (pickw e.op ows).data.toList)
  | 19, v, _ => v = .string (bts (l4 e))
  | 20, v, _ => v = .string (bts (l4 e ++ [32]))
  | 23, v, _ => v = .string (bts (Lib.itoa e.id))
  | 24, v, _ => v = .string (bts (l5 e))
  | 25, v, _ => v = .string (bts (l5 e ++ [32]))
  | 28, v, _ => v = .string (bts (Lib.itoa e.err))
  | 29, v, _ => v = .string (bts (l6 e))
  | 30, v, _ => v = .string (bts (l6 e))
  | _, _, _ => True
theorem rT_mono (e : Ev) (i : Nat) (v : Value) (w w' : World) (h : rT e i v w) (hb : Below w.heap.size w w') : rT e i v w' := by
  unfold rT at *
  split at h
  all_goals first
    | exact h
    | (obtain ⟨A, c, e1, e2⟩ := h; exact ⟨A, c, e1, e2.later hb⟩)
set_option maxHeartbeats 4000000 in
set_option maxRecDepth 100000 in
theorem rtext_any (e : Ev) (h : e.ok) (w : World) (hT : Tab w) :
    Calls Tryz.prog 22 #[e.val] w fun x w' => x = .returned (.string (txt e)) ∧ Below w.heap.size w w' := by
  have HK := Lib.hid h
  have HT := Lib.hid hT
  have HLL := Lib.hid (l_len e h)
  have h5 := Lib.hid (pickw_le e.kind kws (by decide))
  have h6 := Lib.hid (pickw_le e.op ows (by decide))
  have i1 := Lib.hid (itoa_le e.step (by have := h.step.1; omega) h.step.2)
  have i2 := Lib.hid (itoa_le e.thread h.thread.1 (by have := h.thread.2; omega))
  have i3 := Lib.hid (itoa_le e.id (by have := h.id.1; omega) h.id.2)
  have i4 := Lib.hid (itoa_le e.err h.err.1 (by have := h.err.2; omega))
  clear h hT
  unfold Ev.val
  go_enter Tryz.func22, Tryz.ntmps22
  go_wp2_with fail
  have d0 : Six w.heap.size e ((w.alloc (.cells #[.int .u64 e.step, .int .i64 e.thread, .int .i64 e.kind, .int .i64 e.op, .int .u64 e.id, .int .i64 e.err] 38)).drew) := by
    refine ⟨?_, ?_, ?_, ?_, ?_, ?_⟩ <;> simp
  have b0 : Below w.heap.size w (w.alloc (.cells #[.int .u64 e.step, .int .i64 e.thread, .int .i64 e.kind, .int .i64 e.op, .int .u64 e.id, .int .i64 e.err] 38)).drew := ((Below.refl _ _).alloc (Nat.le_refl _) _).drew
  refine reg_start 31 (Six w.heap.size e) (by kernel_rfl) (by kernel_rfl) ?_
  intro hA
  generalize (w.alloc (.cells #[.int .u64 e.step, .int .i64 e.thread, .int .i64 e.kind, .int .i64 e.op, .int .u64 e.id, .int .i64 e.err] 38)).drew = W at *
  have HA := Lib.hid hA
  clear hA
  refine reg_load 0 HA.out rfl (by kernel_rfl) (by decide) (fun _ _ _ _ h => h) d0 rfl ?_
  apply Exists.intro
  refine ⟨fun w' hw => by (obtain ⟨h0, h1, h2, h3, h4, h5⟩ := hw; go_simp; exact rfl), ?_⟩
  refine reg_load 1 HA.out rfl (by kernel_rfl) (by decide) (fun _ _ _ _ h => h) d0 rfl ?_
  apply Exists.intro
  refine ⟨fun w' hw => by (obtain ⟨h0, h1, h2, h3, h4, h5⟩ := hw; go_simp; exact rfl), ?_⟩
  refine reg_load 4 HA.out rfl (by kernel_rfl) (by decide) (fun _ _ _ _ h => h) d0 rfl ?_
  apply Exists.intro
  refine ⟨fun w' hw => by (obtain ⟨h0, h1, h2, h3, h4, h5⟩ := hw; go_simp; exact rfl), ?_⟩
  refine reg_load 5 HA.out rfl (by kernel_rfl) (by decide) (fun _ _ _ _ h => h) d0 rfl ?_
  apply Exists.intro
  refine ⟨fun w' hw => by (obtain ⟨h0, h1, h2, h3, h4, h5⟩ := hw; go_simp; exact rfl), ?_⟩
  refine reg_load 9 HA.out rfl (by kernel_rfl) (by decide) (fun _ _ _ _ h => h) d0 rfl ?_
  apply Exists.intro
  refine ⟨fun w' hw => by (obtain ⟨h0, h1, h2, h3, h4, h5⟩ := hw; go_simp; exact rfl), ?_⟩
  refine reg_load 10 HA.out rfl (by kernel_rfl) (by decide) (fun _ _ _ _ h => h) d0 rfl ?_
  apply Exists.intro
  refine ⟨fun w' hw => by (obtain ⟨h0, h1, h2, h3, h4, h5⟩ := hw; go_simp; exact rfl), ?_⟩
  refine reg_load 15 HA.out rfl (by kernel_rfl) (by decide) (fun _ _ _ _ h => h) d0 rfl ?_
  apply Exists.intro
  refine ⟨fun w' hw => by (obtain ⟨h0, h1, h2, h3, h4, h5⟩ := hw; go_simp; exact rfl), ?_⟩
  refine reg_load 16 HA.out rfl (by kernel_rfl) (by decide) (fun _ _ _ _ h => h) d0 rfl ?_
  apply Exists.intro
  refine ⟨fun w' hw => by (obtain ⟨h0, h1, h2, h3, h4, h5⟩ := hw; go_simp; exact rfl), ?_⟩
  refine reg_load 21 HA.out rfl (by kernel_rfl) (by decide) (fun _ _ _ _ h => h) d0 rfl ?_
  apply Exists.intro
  refine ⟨fun w' hw => by (obtain ⟨h0, h1, h2, h3, h4, h5⟩ := hw; go_simp; exact rfl), ?_⟩
  refine reg_load 22 HA.out rfl (by kernel_rfl) (by decide) (fun _ _ _ _ h => h) d0 rfl ?_
  apply Exists.intro
  refine ⟨fun w' hw => by (obtain ⟨h0, h1, h2, h3, h4, h5⟩ := hw; go_simp; exact rfl), ?_⟩
  refine reg_load 26 HA.out rfl (by kernel_rfl) (by decide) (fun _ _ _ _ h => h) d0 rfl ?_
  apply Exists.intro
  refine ⟨fun w' hw => by (obtain ⟨h0, h1, h2, h3, h4, h5⟩ := hw; go_simp; exact rfl), ?_⟩
  refine reg_load 27 HA.out rfl (by kernel_rfl) (by decide) (fun _ _ _ _ h => h) d0 rfl ?_
  apply Exists.intro
  refine ⟨fun w' hw => by (obtain ⟨h0, h1, h2, h3, h4, h5⟩ := hw; go_simp; exact rfl), ?_⟩
  refine reg_stable [2, 3, 6, 7, 8, 11, 12, 13, 14, 17, 18, 19, 20, 23, 24, 25, 28, 29, 30] (fun w w' => Below w.heap.size w w') (rT e) ?_ ?_ ?_ ?_ ?_ ?_ ?_ (fun _ => Below.refl _ _) (fun _ _ _ h1 h2 => h1.trans (h2.mono h1.size)) (rT_mono e) (fun _ h => d0.below h) ?_ ?_
  · kernel_rfl
  · kernel_rfl
  · kernel_rfl
  · kernel_rfl
  · kernel_rfl
  · kernel_rfl
  · kernel_rfl
  · refine ⟨?_, ?_, ?_, ?_, ?_, ?_, ?_, ?_, ?_, ?_, ?_, ?_, ?_, ?_, ?_, ?_, ?_, ?_, ?_, trivial⟩
    · intro a' w' val hb hfr hd
      have e4 : a'.tmps[4]?.getD undef = .int .u64 e.step := (hfr 4 (by kernel_rfl)).trans (by kernel_rfl)
      clear hfr hd
      refine ⟨_, rfl, ?_⟩
      unfold Oper.wp
      go_simp
      refine (funit_any e.step HK.out.step.1 HK.out.step.2 w' (HT.out.below (b0.trans (hb.mono b0.size)))).mono ?_
      rintro x w2 ⟨rfl, hb2⟩
      exact ⟨_, rfl, rfl, hb2⟩
    · intro a' w' val hb hfr hd
      obtain ⟨q2, s2⟩ := hd 2 (by decide) (by kernel_rfl)
      have e5 : a'.tmps[5]?.getD undef = .string (bts (l1 e)) := (s2 5 (by kernel_rfl)).trans q2
      clear hfr hd
      have z1 : (bts (l1 e)).size ≤ 1000 := by
        rw [bts_size]
        have := HLL.out.1; omega
      have z2 : (bts ([32])).size ≤ 1000 := by
        rw [bts_size]
        simp
      have Z1 := Lib.hid z1
      have Z2 := Lib.hid z2
      clear z1 z2
      refine ⟨_, rfl, ?_⟩
      unfold Oper.wp
      go_simp
      rw [if_neg (by have := Z1.out; have := Z2.out; first | omega | (simp at *; omega))]
      exact ⟨_, rfl, congrArg Value.string (bts_append (l1 e) ([32])), Below.refl _ _⟩
    · intro a' w' val hb hfr hd
      have e8 : a'.tmps[8]?.getD undef = .int .i64 e.thread := (hfr 8 (by kernel_rfl)).trans (by kernel_rfl)
      clear hfr hd
      refine ⟨_, rfl, ?_⟩
      unfold Oper.wp
      go_simp
      refine (itoa_any e.thread HK.out.thread.1 HK.out.thread.2 w' (HT.out.below (b0.trans (hb.mono b0.size)))).mono ?_
      rintro x w2 ⟨rfl, hb2⟩
      exact ⟨_, rfl, rfl, hb2⟩
    · intro a' w' val hb hfr hd
      obtain ⟨q3, s3⟩ := hd 3 (by decide) (by kernel_rfl)
      have e6 : a'.tmps[6]?.getD undef = .string (bts (l1 e ++ [32])) := (s3 6 (by kernel_rfl)).trans q3
      obtain ⟨q6, s6⟩ := hd 6 (by decide) (by kernel_rfl)
      have e9 : a'.tmps[9]?.getD undef = .string (bts (Lib.itoa e.thread)) := (s6 9 (by kernel_rfl)).trans q6
      clear hfr hd
      have z1 : (bts (l1 e ++ [32])).size ≤ 1000 := by
        rw [bts_size]
        have := HLL.out.1; simp; omega
      have z2 : (bts (Lib.itoa e.thread)).size ≤ 1000 := by
        rw [bts_size]
        have := i2.out; omega
      have Z1 := Lib.hid z1
      have Z2 := Lib.hid z2
      clear z1 z2
      refine ⟨_, rfl, ?_⟩
      unfold Oper.wp
      go_simp
      rw [if_neg (by have := Z1.out; have := Z2.out; first | omega | (simp at *; omega))]
      exact ⟨_, rfl, congrArg Value.string (bts_append (l1 e ++ [32]) (Lib.itoa e.thread)), Below.refl _ _⟩
    · intro a' w' val hb hfr hd
      obtain ⟨q7, s7⟩ := hd 7 (by decide) (by kernel_rfl)
      have e10 : a'.tmps[10]?.getD undef = .string (bts (l2 e)) := (s7 10 (by kernel_rfl)).trans q7
      clear hfr hd
      have z1 : (bts (l2 e)).size ≤ 1000 := by
        rw [bts_size]
        have := HLL.out.2.1; omega
      have z2 : (bts ([32])).size ≤ 1000 := by
        rw [bts_size]
        simp
      have Z1 := Lib.hid z1
      have Z2 := Lib.hid z2
      clear z1 z2
      refine ⟨_, rfl, ?_⟩
      unfold Oper.wp
      go_simp
      rw [if_neg (by have := Z1.out; have := Z2.out; first | omega | (simp at *; omega))]
      exact ⟨_, rfl, congrArg Value.string (bts_append (l2 e) ([32])), Below.refl _ _⟩
    · intro a' w' val hb hfr hd
      clear hfr hd
      refine ⟨_, rfl, ?_⟩
      unfold Oper.wp
      go_simp
      refine ⟨_, rfl, ⟨_, _, rfl, ?_⟩, (Below.refl _ _).alloc (Nat.le_refl _) _⟩
      exact (rd_strs (xs := kws) rfl (by simp [kws]) _ rfl).more (by simp)
    · intro a' w' val hb hfr hd
      have e13 : a'.tmps[13]?.getD undef = .int .i64 e.kind := (hfr 13 (by kernel_rfl)).trans (by kernel_rfl)
      obtain ⟨q11, s11⟩ := hd 11 (by decide) (by kernel_rfl)
      have e14 := s11 14 (by kernel_rfl)
      clear hfr hd
      obtain ⟨A, c, hv, hr⟩ : ∃ A c, val 11 = .slice A 4 c ∧ Rd Value.string w' w'.heap.size A 4 c kws := q11
      rw [hv] at e14
      refine ⟨_, rfl, ?_⟩
      unfold Oper.wp
      go_simp
      refine (word_any e.kind A 4 c kws _ w' hr).mono ?_
      rintro x w2 ⟨rfl, rfl⟩
      exact ⟨_, rfl, (congrArg Value.string (bts_eta _)).symm, Below.refl _ _⟩
    · intro a' w' val hb hfr hd
      obtain ⟨q8, s8⟩ := hd 8 (by decide) (by kernel_rfl)
      have e11 : a'.tmps[11]?.getD undef = .string (bts (l2 e ++ [32])) := (s8 11 (by kernel_rfl)).trans q8
      obtain ⟨q12, s12⟩ := hd 12 (by decide) (by kernel_rfl)
      have e15 : a'.tmps[15]?.getD undef = .string (bts ((pickw e.kind kws).data.toList)) := (s12 15 (by kernel_rfl)).trans q12
      clear hfr hd
      have z1 : (bts (l2 e ++ [32])).size ≤ 1000 := by
        rw [bts_size]
        have := HLL.out.2.1; simp; omega
      have z2 : (bts ((pickw e.kind kws).data.toList)).size ≤ 1000 := by
        rw [bts_size]
        have := h5.out; omega
      have Z1 := Lib.hid z1
      have Z2 := Lib.hid z2
      clear z1 z2
      refine ⟨_, rfl, ?_⟩
      unfold Oper.wp
      go_simp
      rw [if_neg (by have := Z1.out; have := Z2.out; first | omega | (simp at *; omega))]
      exact ⟨_, rfl, congrArg Value.string (bts_append (l2 e ++ [32]) ((pickw e.kind kws).data.toList)), Below.refl _ _⟩
    · intro a' w' val hb hfr hd
      obtain ⟨q13, s13⟩ := hd 13 (by decide) (by kernel_rfl)
      have e16 : a'.tmps[16]?.getD undef = .string (bts (l3 e)) := (s13 16 (by kernel_rfl)).trans q13
      clear hfr hd
      have z1 : (bts (l3 e)).size ≤ 1000 := by
        rw [bts_size]
        have := HLL.out.2.2.1; omega
      have z2 : (bts ([32])).size ≤ 1000 := by
        rw [bts_size]
        simp
      have Z1 := Lib.hid z1
      have Z2 := Lib.hid z2
      clear z1 z2
      refine ⟨_, rfl, ?_⟩
      unfold Oper.wp
      go_simp
      rw [if_neg (by have := Z1.out; have := Z2.out; first | omega | (simp at *; omega))]
      exact ⟨_, rfl, congrArg Value.string (bts_append (l3 e) ([32])), Below.refl _ _⟩
    · intro a' w' val hb hfr hd
      clear hfr hd
      refine ⟨_, rfl, ?_⟩
      unfold Oper.wp
      go_simp
      refine ⟨_, rfl, ⟨_, _, rfl, ?_⟩, (Below.refl _ _).alloc (Nat.le_refl _) _⟩
      exact (rd_strs (xs := ows) rfl (by simp [ows]) _ rfl).more (by simp)
    · intro a' w' val hb hfr hd
      have e19 : a'.tmps[19]?.getD undef = .int .i64 e.op := (hfr 19 (by kernel_rfl)).trans (by kernel_rfl)
      obtain ⟨q17, s17⟩ := hd 17 (by decide) (by kernel_rfl)
      have e20 := s17 20 (by kernel_rfl)
      clear hfr hd
      obtain ⟨A, c, hv, hr⟩ : ∃ A c, val 17 = .slice A 5 c ∧ Rd Value.string w' w'.heap.size A 5 c ows := q17
      rw [hv] at e20
      refine ⟨_, rfl, ?_⟩
      unfold Oper.wp
      go_simp
      refine (word_any e.op A 5 c ows _ w' hr).mono ?_
      rintro x w2 ⟨rfl, rfl⟩
      exact ⟨_, rfl, (congrArg Value.string (bts_eta _)).symm, Below.refl _ _⟩
    · intro a' w' val hb hfr hd
      obtain ⟨q14, s14⟩ := hd 14 (by decide) (by kernel_rfl)
      have e17 : a'.tmps[17]?.getD undef = .string (bts (l3 e ++ [32])) := (s14 17 (by kernel_rfl)).trans q14
      obtain ⟨q18, s18⟩ := hd 18 (by decide) (by kernel_rfl)
      have e21 : a'.tmps[21]?.getD undef = .string (bts ((pickw e.op ows).data.toList)) := (s18 21 (by kernel_rfl)).trans q18
      clear hfr hd
      have z1 : (bts (l3 e ++ [32])).size ≤ 1000 := by
        rw [bts_size]
        have := HLL.out.2.2.1; simp; omega
      have z2 : (bts ((pickw e.op ows).data.toList)).size ≤ 1000 := by
        rw [bts_size]
        have := h6.out; omega
      have Z1 := Lib.hid z1
      have Z2 := Lib.hid z2
      clear z1 z2
      refine ⟨_, rfl, ?_⟩
      unfold Oper.wp
      go_simp
      rw [if_neg (by have := Z1.out; have := Z2.out; first | omega | (simp at *; omega))]
      exact ⟨_, rfl, congrArg Value.string (bts_append (l3 e ++ [32]) ((pickw e.op ows).data.toList)), Below.refl _ _⟩
    · intro a' w' val hb hfr hd
      obtain ⟨q19, s19⟩ := hd 19 (by decide) (by kernel_rfl)
      have e22 : a'.tmps[22]?.getD undef = .string (bts (l4 e)) := (s19 22 (by kernel_rfl)).trans q19
      clear hfr hd
      have z1 : (bts (l4 e)).size ≤ 1000 := by
        rw [bts_size]
        have := HLL.out.2.2.2.1; omega
      have z2 : (bts ([32])).size ≤ 1000 := by
        rw [bts_size]
        simp
      have Z1 := Lib.hid z1
      have Z2 := Lib.hid z2
      clear z1 z2
      refine ⟨_, rfl, ?_⟩
      unfold Oper.wp
      go_simp
      rw [if_neg (by have := Z1.out; have := Z2.out; first | omega | (simp at *; omega))]
      exact ⟨_, rfl, congrArg Value.string (bts_append (l4 e) ([32])), Below.refl _ _⟩
    · intro a' w' val hb hfr hd
      have e25 : a'.tmps[25]?.getD undef = .int .u64 e.id := (hfr 25 (by kernel_rfl)).trans (by kernel_rfl)
      clear hfr hd
      refine ⟨_, rfl, ?_⟩
      unfold Oper.wp
      go_simp
      refine (funit_any e.id HK.out.id.1 HK.out.id.2 w' (HT.out.below (b0.trans (hb.mono b0.size)))).mono ?_
      rintro x w2 ⟨rfl, hb2⟩
      exact ⟨_, rfl, rfl, hb2⟩
    · intro a' w' val hb hfr hd
      obtain ⟨q20, s20⟩ := hd 20 (by decide) (by kernel_rfl)
      have e23 : a'.tmps[23]?.getD undef = .string (bts (l4 e ++ [32])) := (s20 23 (by kernel_rfl)).trans q20
      obtain ⟨q23, s23⟩ := hd 23 (by decide) (by kernel_rfl)
      have e26 : a'.tmps[26]?.getD undef = .string (bts (Lib.itoa e.id)) := (s23 26 (by kernel_rfl)).trans q23
      clear hfr hd
      have z1 : (bts (l4 e ++ [32])).size ≤ 1000 := by
        rw [bts_size]
        have := HLL.out.2.2.2.1; simp; omega
      have z2 : (bts (Lib.itoa e.id)).size ≤ 1000 := by
        rw [bts_size]
        have := i3.out; omega
      have Z1 := Lib.hid z1
      have Z2 := Lib.hid z2
      clear z1 z2
      refine ⟨_, rfl, ?_⟩
      unfold Oper.wp
      go_simp
      rw [if_neg (by have := Z1.out; have := Z2.out; first | omega | (simp at *; omega))]
      exact ⟨_, rfl, congrArg Value.string (bts_append (l4 e ++ [32]) (Lib.itoa e.id)), Below.refl _ _⟩
    · intro a' w' val hb hfr hd
      obtain ⟨q24, s24⟩ := hd 24 (by decide) (by kernel_rfl)
      have e27 : a'.tmps[27]?.getD undef = .string (bts (l5 e)) := (s24 27 (by kernel_rfl)).trans q24
      clear hfr hd
      have z1 : (bts (l5 e)).size ≤ 1000 := by
        rw [bts_size]
        have := HLL.out.2.2.2.2.1; omega
      have z2 : (bts ([32])).size ≤ 1000 := by
        rw [bts_size]
        simp
      have Z1 := Lib.hid z1
      have Z2 := Lib.hid z2
      clear z1 z2
      refine ⟨_, rfl, ?_⟩
      unfold Oper.wp
      go_simp
      rw [if_neg (by have := Z1.out; have := Z2.out; first | omega | (simp at *; omega))]
      exact ⟨_, rfl, congrArg Value.string (bts_append (l5 e) ([32])), Below.refl _ _⟩
    · intro a' w' val hb hfr hd
      have e30 : a'.tmps[30]?.getD undef = .int .i64 e.err := (hfr 30 (by kernel_rfl)).trans (by kernel_rfl)
      clear hfr hd
      refine ⟨_, rfl, ?_⟩
      unfold Oper.wp
      go_simp
      refine (itoa_any e.err HK.out.err.1 HK.out.err.2 w' (HT.out.below (b0.trans (hb.mono b0.size)))).mono ?_
      rintro x w2 ⟨rfl, hb2⟩
      exact ⟨_, rfl, rfl, hb2⟩
    · intro a' w' val hb hfr hd
      obtain ⟨q25, s25⟩ := hd 25 (by decide) (by kernel_rfl)
      have e28 : a'.tmps[28]?.getD undef = .string (bts (l5 e ++ [32])) := (s25 28 (by kernel_rfl)).trans q25
      obtain ⟨q28, s28⟩ := hd 28 (by decide) (by kernel_rfl)
      have e31 : a'.tmps[31]?.getD undef = .string (bts (Lib.itoa e.err)) := (s28 31 (by kernel_rfl)).trans q28
      clear hfr hd
      have z1 : (bts (l5 e ++ [32])).size ≤ 1000 := by
        rw [bts_size]
        have := HLL.out.2.2.2.2.1; simp; omega
      have z2 : (bts (Lib.itoa e.err)).size ≤ 1000 := by
        rw [bts_size]
        have := i4.out; omega
      have Z1 := Lib.hid z1
      have Z2 := Lib.hid z2
      clear z1 z2
      refine ⟨_, rfl, ?_⟩
      unfold Oper.wp
      go_simp
      rw [if_neg (by have := Z1.out; have := Z2.out; first | omega | (simp at *; omega))]
      exact ⟨_, rfl, congrArg Value.string (bts_append (l5 e ++ [32]) (Lib.itoa e.err)), Below.refl _ _⟩
    · intro a' w' val hb hfr hd
      obtain ⟨q29, s29⟩ := hd 29 (by decide) (by kernel_rfl)
      have e32 : a'.tmps[32]?.getD undef = .string (bts (l6 e)) := (s29 32 (by kernel_rfl)).trans q29
      clear hfr hd
      refine ⟨_, rfl, ?_⟩
      unfold Oper.wp
      go_simp
      exact ⟨_, rfl, rfl, Below.refl _ _⟩
  intro val w' hE hb
  have e30 : val 30 = .string (bts (l6 e)) := hE.2.2.2.2.2.2.2.2.2.2.2.2.2.2.2.2.2.2.1
  rw [l6_txt] at e30
  simp only [puts, dstOf]
  go_simp
  go_wp2_with fail
  go_ret
  exact ⟨rfl, b0.trans (hb.mono b0.size)⟩
end Go.Proofs.YtmnjdmcocifogaaGreatDoor.Tx
