/- The walk of hackneylaw09.HistTells. -/
import Derived.Test.YtmnjdmcocifogaaGreatDoorHistOpen
import Derived.Test.YtmnjdmcocifogaaGreatDoorHistRPend
import Derived.Test.YtmnjdmcocifogaaGreatDoorTextRef
import Derived.Test.YtmnjdmcocifogaaGreatDoorSlicesI
import Derived.Test.YtmnjdmcocifogaaGreatDoorAfter
import Derived.Deep.RegionHeld3
namespace Go.Proofs.YtmnjdmcocifogaaGreatDoor.Hi
open Go.ChangeShapes Go.WideShapes Go.ChangeAt Go.RowKit Go.Maps Rw Tx
set_option linter.unusedVariables false

/-- The document's events, apart from a history and from the document's variable. -/
structure Wd (w : World) (p dd : Nat) (r : Option Nat) (A : Option Addr) (k c : Nat) (L : List Ev) : Prop where
  own : w.ownsRow 0 38 6 (.slice A k c) k (flat encE L)
  len : L.length = k
  ne : ∀ g, (Value.slice A k c).ownBlock = some g → g ≠ p ∧ r ≠ some g ∧ g ≠ dd
theorem Wd.rs {w : World} {p dd : Nat} {r : Option Nat} {A : Option Addr} {k c : Nat} {L : List Ev} (h : Wd w p dd r A k c L) : Rs encE 6 w w.heap.size A k c L := Rs.own_rs encE_len h.len h.own
theorem Wd.keep {w w' : World} {p dd p' : Nat} {r r' : Option Nat} {A : Option Addr} {k c : Nat} {L : List Ev} (h : Wd w p dd r A k c L) (hf : ∀ g, g < w.heap.size → g ≠ p → r ≠ some g → g ≠ dd → w'.heap[g]? = w.heap[g]?)
    (hp : p' = p ∨ w.heap.size ≤ p') (hr : r' = r ∨ ∀ g, r' = some g → w.heap.size ≤ g) : Wd w' p' dd r' A k c L :=
  ⟨own_same h.own fun g hg => hf g (h.own.lt g hg).2 (h.ne g hg).1 (h.ne g hg).2.1 (h.ne g hg).2.2, h.len, fun g hg => by
    obtain ⟨h1, h2, h3⟩ := h.ne g hg
    have hl := (h.own.lt g hg).2
    refine ⟨?_, ?_, h3⟩
    · rcases hp with rfl | hp
      · exact h1
      · omega
    · rcases hr with rfl | hr
      · exact h2
      · intro e
        have := hr g e
        omega⟩
theorem Wd.fr {w w' : World} {p dd : Nat} {r r' : Option Nat} {A : Option Addr} {k c : Nat} {L : List Ev} (h : Wd w p dd r A k c L) (hf : Fr (some p) r w w') (hr : r' = r ∨ ∃ g, r' = some g ∧ w.heap.size ≤ g) : Wd w' p dd r' A k c L :=
  h.keep (fun g hg h1 h2 _ => hf.block g hg (fun e => h1 (by injection e)) (fun e => h2 e.symm)) (.inl rfl) (by
    rcases hr with rfl | ⟨g, rfl, hg⟩
    · exact .inl rfl
    · exact .inr (fun g' e => by injection e with e; omega))
theorem Wd.below {w w' : World} {p dd : Nat} {r : Option Nat} {A : Option Addr} {k c : Nat} {L : List Ev} (h : Wd w p dd r A k c L) (hb : Below w.heap.size w w') : Wd w' p dd r A k c L :=
  h.keep (fun g hg _ _ _ => hb.block g hg) (.inl rfl) (.inl rfl)
theorem Wd.set {w : World} {p dd : Nat} {r : Option Nat} {A : Option Addr} {k c : Nat} {L : List Ev} (h : Wd w p dd r A k c L) (o : Nat) (u : Value) : Wd (w.setCell ⟨dd, o, none⟩ u) p dd r A k c L :=
  h.keep (fun g hg _ _ h3 => heap_setCell_other w _ g _ h3) (.inl rfl) (.inl rfl)
theorem V2.fr {w w' : World} {p dd : Nat} {r : Option Nat} {a b : Value} (h : V2 w dd a b) (hf : Fr (some p) r w w') (h1 : dd ≠ p) (h2 : r ≠ some dd) : V2 w' dd a b := by
  have hl := Lw.lt_heap h.1.1
  have e1 : some dd ≠ some p := fun e => h1 (by injection e)
  have e2 : some dd ≠ r := fun e => h2 e.symm
  exact ⟨⟨(hf.cell (p := ⟨dd, 0, none⟩) hl e1 e2).trans h.1.1, (hf.cell (p := ⟨dd, 1, none⟩) hl e1 e2).trans h.1.2⟩, (hf.frozen (p := ⟨dd, 0, none⟩) hl e1 e2).trans h.2.1, (hf.frozen (p := ⟨dd, 1, none⟩) hl e1 e2).trans h.2.2⟩
theorem V2.put0 {w : World} {dd : Nat} {a b : Value} (h : V2 w dd a b) (u : Value) : V2 (w.setCell ⟨dd, 0, none⟩ u) dd u b :=
  ⟨⟨World.cell?_setCell_same _ _ _ h.1.1, (World.cell?_setCell_other _ _ _ _ (fun e => by injection e with _ e; omega)).trans h.1.2⟩, by simpa using h.2.1, by simpa using h.2.2⟩
theorem V2.put1 {w : World} {dd : Nat} {a b : Value} (h : V2 w dd a b) (u : Value) : V2 (w.setCell ⟨dd, 1, none⟩ u) dd a u :=
  ⟨⟨(World.cell?_setCell_other _ _ _ _ (fun e => by injection e with _ e; omega)).trans h.1.1, World.cell?_setCell_same _ _ _ h.1.2⟩, by simpa using h.2.1, by simpa using h.2.2⟩
theorem Hs.set {w : World} {B p dd : Nat} {r : Option Nat} {s : Int} {l : List Ev} (h : Hs w B p r s l) (o : Nat) (u : Value) (h1 : dd ≠ p) (h2 : r ≠ some dd) : Hs (w.setCell ⟨dd, o, none⟩ u) B p r s l :=
  h.same (heap_setCell_other w _ p _ (Ne.symm h1)) (fun g hg => heap_setCell_other w _ g _ (fun e => h2 (by rw [hg, show g = dd from e])))
theorem Six.set {w : World} {g dd : Nat} {e : Ev} (h : Six g e w) (o : Nat) (u : Value) (hg : g ≠ dd) : Six g e (w.setCell ⟨dd, o, none⟩ u) := by
  have hk (i : Nat) : (w.setCell ⟨dd, o, none⟩ u).cell? ⟨g, i, none⟩ = w.cell? ⟨g, i, none⟩ := World.cell?_setCell_other _ _ _ _ (fun e => by injection e with e; omega)
  obtain ⟨h0, h1, h2, h3, h4, h5⟩ := h
  exact ⟨(hk _).trans h0, (hk _).trans h1, (hk _).trans h2, (hk _).trans h3, (hk _).trans h4, (hk _).trans h5⟩
theorem Six.fr {w w' : World} {g p : Nat} {r : Option Nat} {e : Ev} (h : Six g e w) (hf : Fr (some p) r w w') (h1 : g ≠ p) (h2 : r ≠ some g) : Six g e w' := by
  have hl : g < w.heap.size := Lw.lt_heap h.1
  have hk (i : Nat) : w'.cell? ⟨g, i, none⟩ = w.cell? ⟨g, i, none⟩ := hf.cell (p := ⟨g, i, none⟩) hl (fun e => h1 (by injection e)) (fun e => h2 e.symm)
  obtain ⟨h0, h1, h2, h3, h4, h5⟩ := h
  exact ⟨(hk _).trans h0, (hk _).trans h1, (hk _).trans h2, (hk _).trans h3, (hk _).trans h4, (hk _).trans h5⟩
def evv (e : Ev) : Value := .agg #[.int .u64 e.step, .int .i64 e.thread, .int .i64 e.kind, .int .i64 e.op, .int .u64 e.id, .int .i64 e.err]
set_option maxRecDepth 100000 in
theorem tells_long (A : Option Addr) (n c : Nat) (e : Ev) (w : World) (hT : Tab w) (hn : n ≤ 9223372036854775807) (h : 100 < n) :
    Calls Tryz.prog 3 #[.slice A n c, .agg #[.int .u64 e.step, .int .i64 e.thread, .int .i64 e.kind, .int .i64 e.op, .int .u64 e.id, .int .i64 e.err]] w fun e w' => e = .returned (.bool true) ∧ Below w.heap.size w w' := by
  have t0 : decide ((100 : Int) < (n : Int)) = true := decide_eq_true (by omega)
  have t0' : decide (100 < n) = true := decide_eq_true (by omega)
  have hb0 : Below w.heap.size w (w.alloc (.cells #[.int .u64 e.step, .int .i64 e.thread, .int .i64 e.kind, .int .i64 e.op, .int .u64 e.id, .int .i64 e.err] 26)) := (Below.refl _ _).alloc (Nat.le_refl _) _
  have HB0 := Lib.hid hb0
  clear hb0
  go_enter Tryz.func3, Tryz.ntmps3
  go_wp2_with fail
  refine (awake9_any _ (hT.below HB0.out)).mono ?_
  rintro e w1 ⟨rfl, hb1⟩
  go_wp2_with fail
  go_ret
  exact ⟨rfl, HB0.out.trans (hb1.mono HB0.out.size)⟩
theorem all_n (w : World) (B p n : Nat) (r : Option Nat) (s : Int) (l : List Ev) (h : Hs w B p r s l) (hl : l.length = n) (hn : n ≤ 1000) :
    Calls Tryz.prog 16 #[.pointer (some ⟨p, 0, none⟩)] w fun e w' => ∃ A c, e = .returned (.slice A n c) ∧ Rs encE 6 w' w'.heap.size A n c l ∧ Below w.heap.size w w' := by
  subst hl
  exact (all_any w B p r s l h (by omega)).mono fun e w' ⟨A, c, h1, h2, h3⟩ => ⟨A, c, h1, Rs.own_rs encE_len rfl h2, h3⟩
theorem of_n (A : Option Addr) (n c : Nat) (l : List Ev) (w : World) (h : Rs encE 6 w w.heap.size A n c l) (hn : n ≤ 1000) :
    Calls Tryz.prog 15 #[.slice A n c] w fun e w' => ∃ A' c', e = .returned (.slice A' n c') ∧ Rs encE 6 w' w'.heap.size A' n c' l ∧ Below w.heap.size w w' :=
  (of_any A n c _ l w h (Nat.le_refl _) hn).mono fun e w' ⟨A', c', h1, h2, h3⟩ => ⟨A', c', h1, Rs.own_rs encE_len h.len h2, h3⟩
theorem req_n (A A' : Option Addr) (n c c' : Nat) (xs : List Ev) (B B' : Nat) (w : World) (h : Rs encE 6 w B A n c xs) (h' : Rs encE 6 w B' A' n c' xs) :
    Calls Tryz.prog 14 #[.slice A n c, .slice A' n c'] w fun e w' => e = .returned (.bool true) ∧ Below w.heap.size w w' :=
  (revequal_same A A' n c c' xs B B' w h h').mono fun e w' ⟨h1, q, h2⟩ => ⟨h1, h2 ▸ below_drewN (Below.refl _ _) q⟩
theorem pend_n (w : World) (B p : Nat) (r : Option Nat) (s : Int) (l : List Ev) (h : Hs w B p r s l) (hok : ∀ e ∈ l, e.ok) (hn : l.length ≤ 1000) :
    Calls Tryz.prog 19 #[.pointer (some ⟨p, 0, none⟩)] w fun e w' => ∃ A n c ps, e = .returned (.slice A n c) ∧ Rd (Value.int .i64) w' w'.heap.size A n c ps ∧ Pn l ps ∧ Below w.heap.size w w' :=
  (pending_any w B p r s l h hok hn).mono fun e w' ⟨A, n, c, ps, h1, h2, h3, _, h5⟩ => ⟨A, n, c, ps, h1, Rd.own_rd h2, h3, h5⟩
theorem peq_n (A A' : Option Addr) (n c m c' : Nat) (xs ys : List Int) (l : List Ev) (B B' : Nat) (w : World) (h : Rd (Value.int .i64) w B A n c xs) (h' : Rd (Value.int .i64) w B' A' m c' ys) (h1 : Pn l xs) (h2 : Pn l ys) :
    Calls Tryz.prog 18 #[.slice A n c, .slice A' m c'] w fun e w' => e = .returned (.bool true) ∧ Below w.heap.size w w' :=
  (Si.equal_any A A' n c m c' xs ys B B' w h h').mono fun e w' ⟨h3, q, h4⟩ => ⟨by rw [h3, decide_eq_true (h1.eq h2)], h4 ▸ below_drewN (Below.refl _ _) q⟩
def Two9 (W : World) (g : Nat) (a b : Value) (w : World) : Prop := w.cell? ⟨g, 0, none⟩ = some a ∧ w.cell? ⟨g, 1, none⟩ = some b ∧ Below W.heap.size W w
theorem Two9.on {W : World} {g : Nat} {a b : Value} {w w' : World} (h : Two9 W g a b w) (hb : Below w.heap.size w w') : Two9 W g a b w' :=
  ⟨(hb.cell (Lw.lt_heap h.1)).trans h.1, (hb.cell (p := ⟨g, 1, none⟩) (Lw.lt_heap h.2.1)).trans h.2.1, h.2.2.trans (hb.mono h.2.2.size)⟩
theorem Two9.bel {W : World} {g : Nat} {a b : Value} {w : World} (h : Two9 W g a b w) : Below W.heap.size W w := h.2.2
theorem Two9.drew {W : World} {g : Nat} {a b : Value} {w : World} (h : Two9 W g a b w) : Two9 W g a b w.drew := ⟨h.1, h.2.1, h.2.2.drew⟩
def qT (e : Ev) : Nat → Value → World → Prop
  | 1, v, _ => v = .string (txt e)
  | 3, v, w => ∃ A, v = .slice A 1 1 ∧ Rs encE 6 w w.heap.size A 1 1 [e]
  | 4, v, w => ∃ A c, v = .slice A 1 c ∧ Rs encE 6 w w.heap.size A 1 c [e]
  | 5, v, w => ∃ b o, v = .pointer (some ⟨b, o, none⟩) ∧ b < w.heap.size ∧ w.cell? ⟨b, o, none⟩ = some (.int .u64 e.step) ∧ w.cell? ⟨b, o + 1, none⟩ = some (.int .i64 e.thread) ∧ w.cell? ⟨b, o + 2, none⟩ = some (.int .i64 e.kind) ∧ w.cell? ⟨b, o + 3, none⟩ = some (.int .i64 e.op) ∧ w.cell? ⟨b, o + 4, none⟩ = some (.int .u64 e.id) ∧ w.cell? ⟨b, o + 5, none⟩ = some (.int .i64 e.err)
  | 6, v, _ => v = .agg #[.int .u64 e.step, .int .i64 e.thread, .int .i64 e.kind, .int .i64 e.op, .int .u64 e.id, .int .i64 e.err]
  | 7, v, _ => v = .string (txt e)
  | 8, v, _ => v = .bool true
  | 9, v, _ => v = .bool true
  | _, _, _ => True
theorem qT_mono (e : Ev) (i : Nat) (v : Value) (w w' : World) (h : qT e i v w) (hb : Below w.heap.size w w') : qT e i v w' := by
  unfold qT at *
  split at h
  all_goals first
    | exact h
    | (obtain ⟨A, e1, e2⟩ := h; exact ⟨A, e1, e2.later hb⟩)
    | (obtain ⟨A, c, e1, e2⟩ := h; exact ⟨A, c, e1, e2.later hb⟩)
    | (obtain ⟨b, o, e1, hl, c0, c1, c2, c3, c4, c5⟩ := h; exact ⟨b, o, e1, Nat.lt_of_lt_of_le hl hb.size, (hb.cell (p := ⟨b, o, none⟩) hl).trans c0, (hb.cell (p := ⟨b, o + 1, none⟩) hl).trans c1, (hb.cell (p := ⟨b, o + 2, none⟩) hl).trans c2, (hb.cell (p := ⟨b, o + 3, none⟩) hl).trans c3, (hb.cell (p := ⟨b, o + 4, none⟩) hl).trans c4, (hb.cell (p := ⟨b, o + 5, none⟩) hl).trans c5⟩)
set_option maxHeartbeats 2000000 in
set_option maxRecDepth 100000 in
theorem tells_any (A : Option Addr) (n c : Nat) (xs : List Ev) (e : Ev) (w : World) (hT : Tab w) (h : Rs encE 6 w w.heap.size A n c xs) (hn : n ≤ 100) (hok : ∀ x ∈ xs, x.ok) (hek : e.ok) :
    Calls Tryz.prog 3 #[.slice A n c, .agg #[.int .u64 e.step, .int .i64 e.thread, .int .i64 e.kind, .int .i64 e.op, .int .u64 e.id, .int .i64 e.err]] w fun e w' => e = .returned (.bool true) ∧ Below w.heap.size w w' := by
  have HK := Lib.hid hok
  have HEK := Lib.hid hek
  have hnc := h.cap
  have htop := h.top
  have hb0 : Below w.heap.size w (w.alloc (.cells #[.int .u64 e.step, .int .i64 e.thread, .int .i64 e.kind, .int .i64 e.op, .int .u64 e.id, .int .i64 e.err] 26)) := (Below.refl _ _).alloc (Nat.le_refl _) _
  have hsix : Six w.heap.size e (w.alloc (.cells #[.int .u64 e.step, .int .i64 e.thread, .int .i64 e.kind, .int .i64 e.op, .int .u64 e.id, .int .i64 e.err] 26)) := by refine ⟨?_, ?_, ?_, ?_, ?_, ?_⟩ <;> simp
  have hsz : (w.alloc (.cells #[.int .u64 e.step, .int .i64 e.thread, .int .i64 e.kind, .int .i64 e.op, .int .u64 e.id, .int .i64 e.err] 26)).heap.size = w.heap.size + 1 := by simp
  have HT := Lib.hid (hT.below hb0)
  have R := Lib.hid (h.below hb0)
  have HB0 := Lib.hid hb0
  have HSX := Lib.hid hsix
  clear hT h hok hek hb0 hsix
  go_enter Tryz.func3, Tryz.ntmps3
  go_wp2_with fail
  generalize (w.alloc (.cells #[.int .u64 e.step, .int .i64 e.thread, .int .i64 e.kind, .int .i64 e.op, .int .u64 e.id, .int .i64 e.err] 26)) = W0 at *
  refine (awake9_any _ HT.out).mono ?_
  rintro e' w1 ⟨rfl, hb1⟩
  go_wp2_with fail
  refine (new_any _ W0.heap.size hb1.size).mono ?_
  rintro e' w2 ⟨p0, rfl, h2, hp2, hb2⟩
  have b2 : Below W0.heap.size W0 w2 := hb1.trans (hb2.mono hb1.size)
  have hp0 := h2.lt
  obtain ⟨dd, hdd⟩ : ∃ dd, w2.heap.size = dd := ⟨_, rfl⟩
  have hd0 : W0.heap.size ≤ dd := by rw [← hdd]; exact b2.size
  have hbd : Below w2.heap.size w2 (w2.alloc (.cells #[.int .u64 0, .slice none 0 0] 32)) := (Below.refl _ _).alloc (Nat.le_refl _) _
  have H2 := Lib.hid (h2.later hbd)
  have HB2 := Lib.hid (b2.trans (hbd.mono b2.size))
  have HV2 := Lib.hid (V2.new w2 (.int .u64 0) (.slice none 0 0) 32)
  rw [hdd] at HV2
  have hpd : dd ≠ p0 := by omega
  clear h2 b2 hb2 hb1 hp2 hbd
  go_wp2_with fail
  generalize (w2.alloc (.cells #[.int .u64 0, .slice none 0 0] 32)) = W2 at *
  try rw [hdd]
  clear hdd hp0
  go_loopw [5, 18] (fun v i wr => ∃ (k c4 p : Nat) (A4 : Option Addr) (r : Option Nat) (s : Int) (L : List Ev), k ≤ n ∧ i = .int .i64 k ∧ v = .pointer (some ⟨p, 0, none⟩) ∧ Hid (Wd wr p dd r A4 k c4 L) ∧
      Hid (Hs wr W0.heap.size p r s L) ∧ Hid (V2 wr dd (.int .u64 s) (.slice A4 k c4)) ∧ Hid (Below W0.heap.size W0 wr) ∧ dd ≠ p ∧ Hid (r ≠ some dd) ∧ 0 ≤ s ∧ s ≤ 3 * k ∧ Hid (∀ x ∈ L, x.ok)) (fun _ i _ => n - (intOf i).toNat)
  case atStart => exact ⟨0, 0, p0, none, none, 0, [], Nat.zero_le _, rfl, rfl, Lib.hid ⟨World.ownsRow_nil _ _ _ _, rfl, fun g hg => by cases hg⟩, H2, HV2, HB2, hpd, Lib.hid (fun e => by cases e), by omega, by omega, Lib.hid (fun x hx => by cases hx)⟩
  case round =>
    clear H2 HB2 HV2 hpd
    obtain ⟨k, c4, p, A4, r, s, L, hk, rfl, rfl, HW, HH, HV, HB, hdp, HRD, hs0, hs1, HLK⟩ := hrel
    have hpl := HH.out.lt
    have hdl := Lw.lt_heap HV.out.1.1
    simp only at hdl
    by_cases hlt : k < n
    · obtain ⟨b, o, x, rfl, hbb, hx, c0, c1, c2, c3, c4', c5⟩ := six_at R.out hlt
      have hxk := HK.out x (List.mem_of_getElem? hx)
      have hbel := HB.out
      have hbb2 : b < W0.heap.size := by omega
      rw [← hbel.cell (p := ⟨b, _, none⟩) hbb2] at c0 c1 c2 c3 c4' c5
      have hs := hbel.size
      clear hbel hx
      obtain ⟨x0, x1, x2, x3, x4, x5⟩ := x
      have hx0 := hxk.step
      unfold U64 at hx0
      simp only at c0 c1 c2 c3 c4' c5 hx0
      obtain ⟨q, hq, hq3⟩ : ∃ q : Nat, x0 % 3 = q ∧ q ≤ 2 := ⟨(x0 % 3).toNat, by omega, by omega⟩
      have HQ := Lib.hid hq
      have HXK := Lib.hid hxk
      clear hq hxk
      go_wp2_with fail
      rw [HQ.out]
      have e0 : (wr.alloc (.cells #[.int .u64 x0, .int .i64 x1, .int .i64 x2, .int .i64 x3, .int .u64 x4, .int .i64 x5] 26)).heap.size = wr.heap.size + 1 := by simp
      have HX := Lib.hid (show Six wr.heap.size ⟨x0, x1, x2, x3, x4, x5⟩ (wr.alloc (.cells #[.int .u64 x0, .int .i64 x1, .int .i64 x2, .int .i64 x3, .int .u64 x4, .int .i64 x5] 26)) by refine ⟨?_, ?_, ?_, ?_, ?_, ?_⟩ <;> simp)
      have hba : Below wr.heap.size wr (wr.alloc (.cells #[.int .u64 x0, .int .i64 x1, .int .i64 x2, .int .i64 x3, .int .u64 x4, .int .i64 x5] 26)) := (Below.refl _ _).alloc (Nat.le_refl _) _
      have HW1 := Lib.hid (HW.out.below hba)
      have HH1 := Lib.hid (HH.out.later hba)
      have HV1 := Lib.hid (HV.out.below hba hdl)
      have HB1 := Lib.hid (HB.out.trans (hba.mono hs))
      have hgr : r ≠ some wr.heap.size := fun e => by have := (HH.out.row _ e).2; omega
      have HGR := Lib.hid hgr
      clear hba HW HH HV HB c0 c1 c2 c3 c4' c5 hgr
      generalize (wr.alloc (.cells #[.int .u64 x0, .int .i64 x1, .int .i64 x2, .int .i64 x3, .int .u64 x4, .int .i64 x5] 26)) = W at *
      obtain ⟨g, hg⟩ : ∃ g, wr.heap.size = g := ⟨_, rfl⟩
      rw [hg] at e0 hpl hdl HX HGR hs ⊢
      clear hg
      have hgp : g ≠ p := by omega
      have hgd : g ≠ dd := by omega
      go_loopw [26] (fun j wq => ∃ a : Nat, a ≤ q ∧ j = .int .u64 a ∧ Hid (Wd wq p dd r A4 k c4 L) ∧ Hid (Hs wq W0.heap.size p r (s + a) L) ∧ Hid (V2 wq dd (.int .u64 (s + a)) (.slice A4 k c4)) ∧ Hid (Below W0.heap.size W0 wq) ∧ Hid (Six g ⟨x0, x1, x2, x3, x4, x5⟩ wq)) (fun j _ => q - (intOf j).toNat)
      case atStart => exact ⟨0, Nat.zero_le _, rfl, HW1, by simpa using HH1, by simpa using HV1, HB1, HX⟩
      case round =>
        clear HW1 HH1 HV1 HB1 HX
        obtain ⟨a, ha, rfl, HW2, HH2, HV2, HB2, HX2⟩ := hrel
        by_cases hlt2 : a < q
        · obtain ⟨⟨v0, v1⟩, f0, f1⟩ := HV2.out
          have hw1 : IntKind.u64.wrap (s + a + 1) = s + a + 1 := by rw [IntKind.wrap_u64]; omega
          have HW3 := Lib.hid (HW2.out.set 0 (.int .u64 (s + a + 1)))
          have HH3 := Lib.hid (HH2.out.set 0 (.int .u64 (s + a + 1)) hdp HRD.out)
          have HV3 := Lib.hid (HV2.out.put0 (.int .u64 (s + a + 1)))
          have HB3 := Lib.hid (HB2.out.setCell (p := ⟨dd, 0, none⟩) hd0 (.int .u64 (s + a + 1)))
          have HX3 := Lib.hid (Six.set HX2.out 0 (.int .u64 (s + a + 1)) hgd)
          clear HW2 HH2 HV2 HB2 HX2
          go_wp2_with fail
          generalize (wr.setCell ⟨dd, 0, none⟩ (.int .u64 (s + a + 1))) = W3 at *
          have d0 := HV3.out.1.1
          refine reg_start 5 (fun w' => w'.cell? ⟨dd, 0, none⟩ = some (.int .u64 (s + a + 1))) (by kernel_rfl) (by kernel_rfl) ?_
          intro hT
          have HTT := Lib.hid hT
          clear hT
          refine reg_load 0 HTT.out rfl (by kernel_rfl) (by decide) (fun _ _ _ _ h => h) d0 rfl ?_
          apply Exists.intro
          refine ⟨fun w' hw => by (go_simp; exact rfl), ?_⟩
          refine reg_load 2 HTT.out rfl (by kernel_rfl) (by decide) (fun _ _ _ _ h => h) d0 rfl ?_
          apply Exists.intro
          refine ⟨fun w' hw => by (go_simp; exact rfl), ?_⟩
          refine reg_load 3 HTT.out rfl (by kernel_rfl) (by decide) (fun _ _ _ _ h => h) d0 rfl ?_
          apply Exists.intro
          refine ⟨fun w' hw => by (go_simp; exact rfl), ?_⟩
          refine reg_only 1 rfl (by kernel_rfl) rfl ?_
          unfold Oper.wp
          go_simp
          refine (advance_any _ _ _ _ _ _ (HH3.out.later (Below.refl _ _).drew) (by omega)).mono ?_
          rintro e' w4 ⟨rfl, hh4, hf4⟩
          have HV4 := Lib.hid (V2.fr (HV3.out.below (Below.refl _ _).drew (Lw.lt_heap d0)) hf4 hdp HRD.out)
          have HW4 := Lib.hid ((HW3.out.below (Below.refl _ _).drew).fr hf4 (.inl rfl))
          have HX4 := Lib.hid (Six.fr (HX3.out.below (Below.refl _ _).drew) hf4 hgp HGR.out)
          have HB4 := Lib.hid ((HB3.out.trans ((Below.refl _ _).drew)).trans (hf4.below HB3.out.size (fun j e => by injection e with e; have := HH3.out.lo; omega) (fun j e => (HH3.out.row j e).1)))
          have HH4 := Lib.hid hh4
          clear hh4 hf4 HH3 HV3 HW3 HX3 HB3 d0
          refine ⟨HV4.out.1.1, ?_⟩
          refine reg_only 4 rfl (by kernel_rfl) rfl ?_
          unfold Oper.wp
          go_simp
          refine ⟨HV4.out.1.1, ?_⟩
          refine reg_done (by kernel_rfl) ?_
          go_wp2_with fail
          go_roundw
          case rel => exact ⟨a + 1, by omega, by go_num, HW4, by rw [show s + ((a + 1 : Nat) : Int) = s + a + 1 by omega]; exact HH4, by rw [show s + ((a + 1 : Nat) : Int) = s + a + 1 by omega]; exact HV4, HB4, HX4⟩
          case measure => simp [intOf]; omega
        · obtain rfl : a = q := by omega
          clear hlt2
          obtain ⟨t, ht⟩ : ∃ t, s + (a : Int) = t := ⟨_, rfl⟩
          rw [ht] at HH2 HV2
          have ht0 : 0 ≤ t := by omega
          have ht1 : t ≤ 3 * (k + 1) := by omega
          have hpl2 := HH2.out.lt
          have hdl2 := Lw.lt_heap HV2.out.1.1
          simp only at hdl2
          have hgl2 : g < wr.heap.size := Lw.lt_heap HX2.out.1
          clear ht hs1
          by_cases hk3 : k = 3
          · have hk3b : ((k : Int) == 3) = true := by simp; omega
            have hk3c : (k == 3) = true := by simp; omega
            clear hk3
            go_wp2_with fail
            refine (clone_any _ _ _ _ _ _ HH2.out (by have := HW2.out.len; omega)).mono ?_
            rintro e' w4 ⟨p', r', rfl, hh4, hp4, hr4, hb4⟩
            have HO4 := Lib.hid (HH2.out.later hb4)
            have HN4 := Lib.hid hh4
            have HR4 := Lib.hid hr4
            have HB4 := Lib.hid hb4
            clear hh4 hr4 hb4
            go_wp2_with fail
            refine (advance_any _ _ _ _ _ _ HO4.out (by omega)).mono ?_
            rintro e' w5 ⟨rfl, hh5, hf5⟩
            have HH5 := Lib.hid hh5
            have HF5 := Lib.hid hf5
            clear hh5 hf5
            go_wp2_with fail
            refine (add_any _ _ _ _ _ _ 9 9 9 9 9 HH5.out (by have := HW2.out.len; omega)).mono ?_
            rintro e' w6 ⟨rfl, r6, -, hf6, -⟩
            have hf : Fr (some p) r w4 w6 := HF5.out.then hf6 (fun k e _ => .inl e.symm) (fun k e _ => .inr e.symm)
            have hrl : ∀ j, r = some j → j < wr.heap.size := fun j e => (HH2.out.row j e).2
            have HH6 := Lib.hid (HN4.out.fr hf (fun e => by injection e with e; omega) (fun e => by have := hrl _ e.symm; omega) (fun j e => ⟨fun e2 => by injection e2 with e2; have := HR4.out j e; omega, fun e2 => by have := hrl _ e2.symm; have := HR4.out j e; omega⟩))
            have HV6 := Lib.hid (V2.fr (HV2.out.below HB4.out hdl2) hf hdp HRD.out)
            have HX6 := Lib.hid (Six.fr (HX2.out.below HB4.out) hf hgp HGR.out)
            have HW6 := Lib.hid (HW2.out.keep (p' := p') (r' := r') (w' := w6) (fun j hj h1 h2 _ => (hf.block j (Nat.lt_of_lt_of_le hj HB4.out.size) (fun e => h1 (by injection e)) (fun e => h2 e.symm)).trans (HB4.out.block j hj)) (.inr hp4) (.inr HR4.out))
            have hb24 := HB2.out.trans (HB4.out.mono HB2.out.size)
            have HB6 := Lib.hid (hb24.trans (hf.below hb24.size (fun j e => by injection e with e; have := HH2.out.lo; omega) (fun j e => (HH2.out.row j e).1)))
            have hdp' : dd ≠ p' := by omega
            have hgp' : g ≠ p' := by omega
            have HRD' := Lib.hid (show r' ≠ some dd from fun e => by have := HR4.out _ e; omega)
            have HGR' := Lib.hid (show r' ≠ some g from fun e => by have := HR4.out _ e; omega)
            clear hb24 hf hf6 HH5 HF5 HO4 HN4 HR4 HB4 HH2 HV2 HX2 HW2 HB2 hrl hgl2 hdl2 hpl2
            obtain ⟨⟨v0, v1⟩, f0, f1⟩ := HV6.out
            obtain ⟨y0, y1, y2, y3, y4, y5⟩ := HX6.out
            simp only at y0 y1 y2 y3 y4 y5
            have hdt := Lw.lt_heap v0
            simp only at hdt
            go_wp2_with fail
            refine (add_any _ _ _ _ _ _ x1 x2 x3 x4 x5 HH6.out (by have := HW6.out.len; omega)).mono ?_
            rintro e' w7 ⟨rfl, r7, hh7, hf7, hr7⟩
            have HV7 := Lib.hid (V2.fr HV6.out hf7 hdp' HRD'.out)
            have HX7 := Lib.hid (Six.fr HX6.out hf7 hgp' HGR'.out)
            have HW7 := Lib.hid (HW6.out.fr hf7 hr7)
            have HB7 := Lib.hid (HB6.out.trans (hf7.below HB6.out.size (fun j e => by injection e with e; have := HH6.out.lo; omega) (fun j e => (HH6.out.row j e).1)))
            have hrd7 : r7 ≠ some dd := by
              rcases hr7 with h | ⟨g', h, hg'⟩
              · rw [h]; exact HRD'.out
              · rw [h]; intro e; injection e with e; omega
            have HRD7 := Lib.hid hrd7
            obtain ⟨ev, hev⟩ : ∃ ev : Ev, ev = ⟨t, x1, x2, x3, x4, x5⟩ := ⟨_, rfl⟩
            rw [← hev] at hh7
            have HEV := Lib.hid hev
            have HH7 := Lib.hid hh7
            clear v0 v1 f0 f1 y0 y1 y2 y3 y4 y5 hh7 hf7 hr7 hrd7 hev hdt HV6 HX6 HW6 HB6 HH6
            obtain ⟨⟨v0, v1⟩, f0, f1⟩ := HV7.out
            obtain ⟨y0, y1, y2, y3, y4, y5⟩ := HX7.out
            simp only at y0 y1 y2 y3 y4 y5
            have hdt := Lw.lt_heap v0
            simp only at hdt
            go_wp2_with fail
            refine (radd_any A4 k c4 L t x1 x2 x3 x4 x5 _ HW7.out.rs (by omega)).mono ?_
            rintro e' w8 ⟨A8, c8, rfl, ho8, hb8⟩
            rw [← HEV.out] at ho8
            have HV8 := Lib.hid (HV7.out.below hb8 hdt)
            have HB8 := Lib.hid (HB7.out.trans (hb8.mono HB7.out.size))
            have hpl7 := HH7.out.lt
            have hwd : Wd w8 p' dd r7 A8 (k + 1) c8 (L ++ [ev]) := ⟨own_mono ho8 (Nat.zero_le _), by simp [HW7.out.len], fun g' hg' => by
              have hl := (ho8.lt g' hg').1
              refine ⟨by omega, fun e => ?_, by omega⟩
              have := (HH7.out.row g' e).2
              omega⟩
            have HW9 := Lib.hid ((hwd.set 0 (.int .u64 t)).set 1 (.slice A8 (k + 1) c8))
            have HH9 := Lib.hid (((HH7.out.later hb8).set 0 (.int .u64 t) hdp' HRD7.out).set 1 (.slice A8 (k + 1) c8) hdp' HRD7.out)
            have HV9 := Lib.hid ((HV8.out.put0 (.int .u64 t)).put1 (.slice A8 (k + 1) c8))
            have HB9 := Lib.hid ((HB8.out.setCell (p := ⟨dd, 0, none⟩) hd0 (.int .u64 t)).setCell (p := ⟨dd, 1, none⟩) hd0 (.slice A8 (k + 1) c8))
            clear v0 v1 f0 f1 y0 y1 y2 y3 y4 y5 hwd ho8 hb8 hpl7 HV7 HX7 HW7 HB7 HH7 HB8 hdt
            obtain ⟨⟨v0, v1⟩, f0, f1⟩ := HV8.out
            clear HV8
            go_wp2_with fail
            go_roundw
            case rel => exact ⟨k + 1, c8, p', A8, r7, t, L ++ [ev], by omega, by go_num, rfl, HW9, HH9, HV9, HB9, hdp', HRD7, ht0, by omega, Lib.hid (fun x hx => by
              rcases List.mem_append.1 hx with hx | hx
              · exact HLK.out x hx
              · simp at hx
                subst hx
                rw [HEV.out]
                exact ⟨⟨ht0, by show t ≤ _; omega⟩, HXK.out.thread, HXK.out.kind, HXK.out.op, HXK.out.id, HXK.out.err⟩)⟩
            case measure => simp [intOf]; omega
          · have hk3b : ((k : Int) == 3) = false := by simp; omega
            have hk3c : (k == 3) = false := by simp; omega
            clear hk3
            clear hgl2 hdl2 hpl2
            obtain ⟨⟨v0, v1⟩, f0, f1⟩ := HV2.out
            obtain ⟨y0, y1, y2, y3, y4, y5⟩ := HX2.out
            simp only at y0 y1 y2 y3 y4 y5
            have hdt := Lw.lt_heap v0
            simp only at hdt
            go_wp2_with fail
            refine (add_any _ _ _ _ _ _ x1 x2 x3 x4 x5 HH2.out (by have := HW2.out.len; omega)).mono ?_
            rintro e' w7 ⟨rfl, r7, hh7, hf7, hr7⟩
            have HV7 := Lib.hid (V2.fr HV2.out hf7 hdp HRD.out)
            have HX7 := Lib.hid (Six.fr HX2.out hf7 hgp HGR.out)
            have HW7 := Lib.hid (HW2.out.fr hf7 hr7)
            have HB7 := Lib.hid (HB2.out.trans (hf7.below HB2.out.size (fun j e => by injection e with e; have := HH2.out.lo; omega) (fun j e => (HH2.out.row j e).1)))
            have hrd7 : r7 ≠ some dd := by
              rcases hr7 with h | ⟨g', h, hg'⟩
              · rw [h]; exact HRD.out
              · rw [h]; intro e; injection e with e; omega
            have HRD7 := Lib.hid hrd7
            obtain ⟨ev, hev⟩ : ∃ ev : Ev, ev = ⟨t, x1, x2, x3, x4, x5⟩ := ⟨_, rfl⟩
            rw [← hev] at hh7
            have HEV := Lib.hid hev
            have HH7 := Lib.hid hh7
            clear v0 v1 f0 f1 y0 y1 y2 y3 y4 y5 hh7 hf7 hr7 hrd7 hev hdt HV2 HX2 HW2 HB2 HH2
            obtain ⟨⟨v0, v1⟩, f0, f1⟩ := HV7.out
            obtain ⟨y0, y1, y2, y3, y4, y5⟩ := HX7.out
            simp only at y0 y1 y2 y3 y4 y5
            have hdt := Lw.lt_heap v0
            simp only at hdt
            go_wp2_with fail
            refine (radd_any A4 k c4 L t x1 x2 x3 x4 x5 _ HW7.out.rs (by omega)).mono ?_
            rintro e' w8 ⟨A8, c8, rfl, ho8, hb8⟩
            rw [← HEV.out] at ho8
            have HV8 := Lib.hid (HV7.out.below hb8 hdt)
            have HB8 := Lib.hid (HB7.out.trans (hb8.mono HB7.out.size))
            have hpl7 := HH7.out.lt
            have hwd : Wd w8 p dd r7 A8 (k + 1) c8 (L ++ [ev]) := ⟨own_mono ho8 (Nat.zero_le _), by simp [HW7.out.len], fun g' hg' => by
              have hl := (ho8.lt g' hg').1
              refine ⟨by omega, fun e => ?_, by omega⟩
              have := (HH7.out.row g' e).2
              omega⟩
            have HW9 := Lib.hid ((hwd.set 0 (.int .u64 t)).set 1 (.slice A8 (k + 1) c8))
            have HH9 := Lib.hid (((HH7.out.later hb8).set 0 (.int .u64 t) hdp HRD7.out).set 1 (.slice A8 (k + 1) c8) hdp HRD7.out)
            have HV9 := Lib.hid ((HV8.out.put0 (.int .u64 t)).put1 (.slice A8 (k + 1) c8))
            have HB9 := Lib.hid ((HB8.out.setCell (p := ⟨dd, 0, none⟩) hd0 (.int .u64 t)).setCell (p := ⟨dd, 1, none⟩) hd0 (.slice A8 (k + 1) c8))
            clear v0 v1 f0 f1 y0 y1 y2 y3 y4 y5 hwd ho8 hb8 hpl7 HV7 HX7 HW7 HB7 HH7 HB8 hdt
            obtain ⟨⟨v0, v1⟩, f0, f1⟩ := HV8.out
            clear HV8
            go_wp2_with fail
            go_roundw
            case rel => exact ⟨k + 1, c8, p, A8, r7, t, L ++ [ev], by omega, by go_num, rfl, HW9, HH9, HV9, HB9, hdp, HRD7, ht0, by omega, Lib.hid (fun x hx => by
              rcases List.mem_append.1 hx with hx | hx
              · exact HLK.out x hx
              · simp at hx
                subst hx
                rw [HEV.out]
                exact ⟨⟨ht0, by show t ≤ _; omega⟩, HXK.out.thread, HXK.out.kind, HXK.out.op, HXK.out.id, HXK.out.err⟩)⟩
            case measure => simp [intOf]; omega
    · obtain rfl : k = n := by omega
      have hlen := HW.out.len
      have HLEN := Lib.hid hlen
      have HRW := Lib.hid HW.out.rs
      have st : Two9 wr dd (.int .u64 s) (.slice A4 k c4) wr := ⟨HV.out.1.1, HV.out.1.2, Below.refl _ _⟩
      clear hlen
      go_wp2_with fail
      go_region_held3 (fun w' => w'.cell? ⟨dd, 0, none⟩ = some (.int .u64 s) ∧ w'.cell? ⟨dd, 1, none⟩ = some (.slice A4 k c4) ∧ Below wr.heap.size wr w') (first | exact st | exact st.drew)
        (first
          | (go_at_call 16; (with_reducible refine (all_n _ W0.heap.size p k r s L (HH.out.later st.drew.bel) HLEN.out (by omega)).mono ?_); rintro e' w' ⟨A5, c5, rfl, h5, hb⟩; replace st := st.drew.on hb; have H5 := Lib.hid h5; clear h5)
          | (go_at_call 15; (with_reducible refine (of_n A5 k c5 L _ H5.out (by omega)).mono ?_); rintro e' w' ⟨A6, c6, rfl, h6, hb⟩; replace st := st.on hb; have H6 := Lib.hid h6; clear h6)
          | (go_at_call 14; (with_reducible refine (req_n _ _ _ _ _ _ _ _ _ H6.out (HRW.out.later st.bel)).mono ?_); rintro e' w' ⟨rfl, hb⟩; replace st := st.on hb)
          | (go_at_call 17; (with_reducible refine (now_any _ W0.heap.size p r s L (HH.out.later st.bel)).mono ?_); rintro e' w' ⟨rfl, rfl⟩)
          | (go_at_call 19; (with_reducible refine (pend_n _ W0.heap.size p r s L (HH.out.later st.bel) HLK.out (by have := HLEN.out; omega)).mono ?_); rintro e' w' ⟨A7, n7, c7, ps7, rfl, h7, hp7, hb⟩; replace st := st.on hb; have H7 := Lib.hid h7; have HP7 := Lib.hid hp7; clear h7 hp7)
          | (go_at_call 20; (with_reducible refine (rpending_any A4 k c4 _ L _ (HRW.out.later st.bel) (Nat.le_refl _) (by omega)).mono ?_); rintro e' w' ⟨A8, n8, c8, ps8, rfl, h8, hp8, hb⟩; replace st := st.on hb; have H8 := Lib.hid h8; have HP8 := Lib.hid hp8; have HB8 := Lib.hid hb; clear h8 hp8)
          | (go_at_call 18; (with_reducible refine (peq_n _ _ _ _ _ _ _ _ L _ _ _ (H7.out.later HB8.out) H8.out HP7.out HP8.out).mono ?_); rintro e' w' ⟨rfl, hb⟩; replace st := st.on hb))
      have hbw := (HB.out.trans (st.bel.mono HB.out.size)).drew
      have HBW := Lib.hid hbw
      have d0 := HSX.out.below hbw
      have HTW := Lib.hid (HT.out.below hbw)
      have TX : ∀ W, Tab W → Calls Tryz.prog 21 #[.agg #[.int .u64 e.step, .int .i64 e.thread, .int .i64 e.kind, .int .i64 e.op, .int .u64 e.id, .int .i64 e.err]] W fun x w' => x = .returned (.string (txt e)) ∧ Below W.heap.size W w' := fun W h => text_any e HEK.out W h
      have RX : ∀ W, Tab W → Calls Tryz.prog 22 #[.agg #[.int .u64 e.step, .int .i64 e.thread, .int .i64 e.kind, .int .i64 e.op, .int .u64 e.id, .int .i64 e.err]] W fun x w' => x = .returned (.string (txt e)) ∧ Below W.heap.size W w' := fun W h => rtext_any e HEK.out W h
      have HTX := Lib.hid TX
      have HRX := Lib.hid RX
      clear hbw st TX RX
      go_wp2_with fail
      refine reg_start 10 (Six w.heap.size e) (by kernel_rfl) (by kernel_rfl) ?_
      intro hA
      have HA := Lib.hid hA
      clear hA
      refine reg_load 0 HA.out rfl (by kernel_rfl) (by decide) (fun _ _ _ _ h => h) d0 rfl ?_
      apply Exists.intro
      refine ⟨fun w' hw => by (obtain ⟨h0, h1, h2, h3, h4, h5⟩ := hw; go_simp; exact rfl), ?_⟩
      refine reg_load 2 HA.out rfl (by kernel_rfl) (by decide) (fun _ _ _ _ h => h) d0 rfl ?_
      apply Exists.intro
      refine ⟨fun w' hw => by (obtain ⟨h0, h1, h2, h3, h4, h5⟩ := hw; go_simp; exact rfl), ?_⟩
      refine reg_stable [1, 3, 4, 5, 6, 7, 8, 9] (fun w w' => Below w.heap.size w w') (qT e) ?_ ?_ ?_ ?_ ?_ ?_ ?_ (fun _ => Below.refl _ _) (fun _ _ _ h1 h2 => h1.trans (h2.mono h1.size)) (qT_mono e) (fun _ h => d0.below h) ?_ ?_
      · kernel_rfl
      · kernel_rfl
      · kernel_rfl
      · kernel_rfl
      · kernel_rfl
      · kernel_rfl
      · kernel_rfl
      · refine ⟨?_, ?_, ?_, ?_, ?_, ?_, ?_, ?_, trivial⟩
        · intro a' w' val hb hfr hd
          have e95 : a'.tmps[95]?.getD undef = .agg #[.int .u64 e.step, .int .i64 e.thread, .int .i64 e.kind, .int .i64 e.op, .int .u64 e.id, .int .i64 e.err] := (hfr 95 (by kernel_rfl)).trans (by kernel_rfl)
          clear hfr hd
          refine ⟨_, rfl, ?_⟩
          unfold Oper.wp
          go_simp
          refine (HTX.out w' (HTW.out.below (hb.mono (Nat.le_refl _)))).mono ?_
          rintro x w2 ⟨rfl, hb2⟩
          exact ⟨_, rfl, rfl, hb2⟩
        · intro a' w' val hb hfr hd
          have e97 : a'.tmps[97]?.getD undef = .agg #[.int .u64 e.step, .int .i64 e.thread, .int .i64 e.kind, .int .i64 e.op, .int .u64 e.id, .int .i64 e.err] := (hfr 97 (by kernel_rfl)).trans (by kernel_rfl)
          clear hfr hd
          refine ⟨_, rfl, ?_⟩
          unfold Oper.wp
          go_simp
          refine ⟨_, rfl, ⟨_, rfl, ?_⟩, (Below.refl _ _).alloc (Nat.le_refl _) _⟩
          exact (rs_one encE_len w' e _ (cs := #[.int .u64 e.step, .int .i64 e.thread, .int .i64 e.kind, .int .i64 e.op, .int .u64 e.id, .int .i64 e.err]) rfl).more (by simp)
        · intro a' w' val hb hfr hd
          obtain ⟨q3, s3⟩ := hd 3 (by decide) (by kernel_rfl)
          have e98 := s3 98 (by kernel_rfl)
          clear hfr hd
          obtain ⟨A3, hv, hr⟩ : ∃ A3, val 3 = .slice A3 1 1 ∧ Rs encE 6 w' w'.heap.size A3 1 1 [e] := q3
          rw [hv] at e98
          refine ⟨_, rfl, ?_⟩
          unfold Oper.wp
          go_simp
          refine (of_n A3 1 1 [e] w' hr (by omega)).mono ?_
          rintro x w2 ⟨A', c', rfl, h2, hb2⟩
          exact ⟨_, rfl, ⟨A', c', rfl, h2⟩, hb2⟩
        · intro a' w' val hb hfr hd
          obtain ⟨q4, s4⟩ := hd 4 (by decide) (by kernel_rfl)
          have e99 := s4 99 (by kernel_rfl)
          clear hfr hd
          obtain ⟨A4', c4', hv, hr⟩ : ∃ A3 c3, val 4 = .slice A3 1 c3 ∧ Rs encE 6 w' w'.heap.size A3 1 c3 [e] := q4
          rw [hv] at e99
          obtain ⟨b, o, x, rfl, hbb, hx, c0, c1, c2, c3, c4, c5⟩ := rs_six hr (k := 0) (by omega)
          obtain rfl : e = x := by simpa using hx
          simp only [Nat.zero_mul, Nat.add_zero] at c0 c1 c2 c3 c4 c5
          clear hx
          refine ⟨_, rfl, ?_⟩
          unfold Oper.wp
          go_simp
          exact ⟨_, rfl, ⟨b, _, rfl, hbb, c0, c1, c2, c3, c4, c5⟩, Below.refl _ _⟩
        · intro a' w' val hb hfr hd
          obtain ⟨q5, s5⟩ := hd 5 (by decide) (by kernel_rfl)
          have e100 := s5 100 (by kernel_rfl)
          clear hfr hd
          obtain ⟨b, o, hv, hbb, c0, c1, c2, c3, c4, c5⟩ := q5
          rw [hv] at e100
          refine ⟨_, rfl, ?_⟩
          unfold Oper.wp
          go_simp
          exact ⟨_, rfl, rfl, Below.refl _ _⟩
        · intro a' w' val hb hfr hd
          obtain ⟨q6, s6⟩ := hd 6 (by decide) (by kernel_rfl)
          have e101 : a'.tmps[101]?.getD undef = .agg #[.int .u64 e.step, .int .i64 e.thread, .int .i64 e.kind, .int .i64 e.op, .int .u64 e.id, .int .i64 e.err] := (s6 101 (by kernel_rfl)).trans q6
          clear hfr hd
          refine ⟨_, rfl, ?_⟩
          unfold Oper.wp
          go_simp
          refine (HRX.out w' (HTW.out.below (hb.mono (Nat.le_refl _)))).mono ?_
          rintro x w2 ⟨rfl, hb2⟩
          exact ⟨_, rfl, rfl, hb2⟩
        · intro a' w' val hb hfr hd
          obtain ⟨q1, s1⟩ := hd 1 (by decide) (by kernel_rfl)
          have e96 : a'.tmps[96]?.getD undef = .string (txt e) := (s1 96 (by kernel_rfl)).trans q1
          obtain ⟨q7, s7⟩ := hd 7 (by decide) (by kernel_rfl)
          have e102 : a'.tmps[102]?.getD undef = .string (txt e) := (s7 102 (by kernel_rfl)).trans q7
          clear hfr hd
          refine ⟨_, rfl, ?_⟩
          unfold Oper.wp
          go_simp
          exact ⟨_, rfl, by first | rfl | (simp [qT]; done), Below.refl _ _⟩
        · intro a' w' val hb hfr hd
          obtain ⟨q8, s8⟩ := hd 8 (by decide) (by kernel_rfl)
          have e103 : a'.tmps[103]?.getD undef = .bool true := (s8 103 (by kernel_rfl)).trans q8
          clear hfr hd
          refine ⟨_, rfl, ?_⟩
          unfold Oper.wp
          go_simp
          exact ⟨_, rfl, rfl, Below.refl _ _⟩
      intro val w' hE hb
      have e9 : val 9 = .bool true := hE.2.2.2.2.2.2.2.1
      simp only [puts, dstOf]
      go_simp
      go_wp2_with fail
      go_ret
      exact ⟨rfl, HB0.out.trans ((HBW.out.trans (hb.mono HBW.out.size)).mono HB0.out.size)⟩
end Go.Proofs.YtmnjdmcocifogaaGreatDoor.Hi
