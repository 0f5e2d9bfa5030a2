/- The walk of hackneylaw10.FactoryPlays. -/
import Derived.Test.YtmnjdmcocifogaaGreatDoorFactTold
namespace Go.Proofs.YtmnjdmcocifogaaGreatDoor.Fc
open Go.ChangeShapes Go.WideShapes Go.ChangeAt Go.RowKit Go.Maps Rw
set_option linter.unusedVariables false
theorem Rn.setOther {w : World} {p m : Nat} {A : Option Addr} {n c : Nat} {O : List Bool} (h : Rn w p m A n c O) {q : Addr} {B : Option Addr} {k l : Nat} (hq : w.cell? q = some (.slice B k l)) (u : Value) : Rn (w.setCell q u) p m A n c O :=
  ⟨by have := h.rd.setOther hq (fun x e => by cases e) u; simpa using this, h.ne⟩
theorem Rn.move {W w : World} {p m p' m' : Nat} {A : Option Addr} {n c : Nat} {O O' : List Bool} (h0 : Rn W p m A n c O') (h : Rn w p m A n c O) (hp : W.heap.size ≤ p') (hm : W.heap.size ≤ m') : Rn w p' m' A n c O :=
  ⟨h.rd, fun hn g o e => by
    obtain ⟨b, o', e', hb', _⟩ := h0.rd.at_ hn
    rw [e] at e'
    injection e' with e'
    injection e' with e1 e2
    omega⟩
theorem Rf.move {W w : World} {p m p' m' n : Nat} {v : Value} {O P : List Bool} {C : List Int} (h0 : Rf W p m v O P n C) (h : Rf w p m v O P n C) (hp : W.heap.size ≤ p') (hm : W.heap.size ≤ m') : Rf w p' m' v O P n C := by
  obtain ⟨A1, n1, c1, A2, n2, c2, A3, c3, S, e, h1, h2, h3, h4⟩ := h0.form
  obtain ⟨B1, k1, d1, B2, k2, d2, B3, d3, S', e', h1', h2', h3', h4'⟩ := h.form
  rw [e] at e'
  injection e' with e'
  injection e' with e'
  simp only [List.cons.injEq, Value.slice.injEq, and_true] at e'
  obtain ⟨⟨rfl, rfl, rfl⟩, ⟨rfl, rfl, rfl⟩, ⟨rfl, -, rfl⟩⟩ := e'
  exact ⟨⟨_, _, _, _, _, _, _, _, _, e, Rn.move h1 h1' hp hm, Rn.move h2 h2' hp hm, Rn.move h3 h3' hp hm, h4'⟩⟩
/-- The document's factory is put into its variable. -/
theorem put3 {w : World} {gd b m p q : Nat} {O P : List Bool} {C : List Int} {s1 s2 s3 t1 t2 t3 : Value} (hf : Fa w b m p O P q C) (hr : Rf w p m (.agg #[t1, t2, t3]) O P q C) (hv : V3 w gd s1 s2 s3)
    (z1 : ∃ A n c, s1 = .slice A n c) (z2 : ∃ A n c, s2 = .slice A n c) (z3 : ∃ A n c, s3 = .slice A n c) (hg : gd < b ∨ p < gd) :
    Fa (((w.setCell ⟨gd, 0, none⟩ t1).setCell ⟨gd, 1, none⟩ t2).setCell ⟨gd, 2, none⟩ t3) b m p O P q C ∧ Rf (((w.setCell ⟨gd, 0, none⟩ t1).setCell ⟨gd, 1, none⟩ t2).setCell ⟨gd, 2, none⟩ t3) p m (.agg #[t1, t2, t3]) O P q C ∧ V3 (((w.setCell ⟨gd, 0, none⟩ t1).setCell ⟨gd, 1, none⟩ t2).setCell ⟨gd, 2, none⟩ t3) gd t1 t2 t3 := by
  obtain ⟨X1, x1, y1, rfl⟩ := z1
  obtain ⟨X2, x2, y2, rfl⟩ := z2
  obtain ⟨X3, x3, y3, rfl⟩ := z3
  obtain ⟨⟨c1, c2, c3⟩, f1, f2, f3⟩ := hv
  have d2 : (w.setCell ⟨gd, 0, none⟩ t1).cell? ⟨gd, 1, none⟩ = some (.slice X2 x2 y2) := (setCell_ne w 0 1 _ (by omega)).trans c2
  have d3 : ((w.setCell ⟨gd, 0, none⟩ t1).setCell ⟨gd, 1, none⟩ t2).cell? ⟨gd, 2, none⟩ = some (.slice X3 x3 y3) := (setCell_ne _ 1 2 _ (by omega)).trans ((setCell_ne w 0 2 _ (by omega)).trans c3)
  refine ⟨hf.same fun g h1 h2 => ?_, ?_, ⟨⟨?_, ?_, ?_⟩, by simpa using f1, by simpa using f2, by simpa using f3⟩⟩
  · have hne : g ≠ gd := by omega
    rw [heap_setCell_other _ _ g _ hne, heap_setCell_other _ _ g _ hne, heap_setCell_other _ _ g _ hne]
  · obtain ⟨A1, n1, k1, A2, n2, k2, A3, k3, S, e, h1, h2, h3, h4⟩ := hr.form
    exact ⟨⟨_, _, _, _, _, _, _, _, _, e, ((h1.setOther c1 _).setOther d2 _).setOther d3 _, ((h2.setOther c1 _).setOther d2 _).setOther d3 _, ((h3.setOther c1 _).setOther d2 _).setOther d3 _, h4⟩⟩
  · rw [setCell_ne _ 2 0 _ (by omega), setCell_ne _ 1 0 _ (by omega)]; exact World.cell?_setCell_same _ _ _ c1
  · rw [setCell_ne _ 2 1 _ (by omega)]; exact World.cell?_setCell_same _ _ _ d2
  · exact World.cell?_setCell_same _ _ _ d3
theorem V3.fr {w w' : World} {g : Nat} {x y : Option Nat} {a b c : Value} (h : V3 w g a b c) (hf : Hi.Fr x y w w') (h1 : some g ≠ x) (h2 : some g ≠ y) : V3 w' g a b c :=
  ⟨⟨(hf.cell (p := ⟨g, 0, none⟩) h.lt h1 h2).trans h.1.1, (hf.cell (p := ⟨g, 1, none⟩) h.lt h1 h2).trans h.1.2.1, (hf.cell (p := ⟨g, 2, none⟩) h.lt h1 h2).trans h.1.2.2⟩, (hf.frozen (p := ⟨g, 0, none⟩) h.lt h1 h2).trans h.2.1, (hf.frozen (p := ⟨g, 1, none⟩) h.lt h1 h2).trans h.2.2.1, (hf.frozen (p := ⟨g, 2, none⟩) h.lt h1 h2).trans h.2.2.2⟩
theorem V3.later {w w' : World} {g : Nat} {a b c : Value} (h : V3 w g a b c) (hb : Below w.heap.size w w') : V3 w' g a b c := h.below hb h.lt
/-- All that stands behind a round. -/
structure Al (w : World) (gd b m p : Nat) (s1 s2 s3 : Value) (O P : List Bool) (q : Nat) (C : List Int) : Prop where
  fa : Fa w b m p O P q C
  rf : Rf w p m (.agg #[s1, s2, s3]) O P q C
  va : V3 w gd s1 s2 s3
  out : gd < b ∨ p < gd
theorem Al.later {w w' : World} {gd b m p q : Nat} {s1 s2 s3 : Value} {O P : List Bool} {C : List Int} (h : Al w gd b m p s1 s2 s3 O P q C) (hb : Below w.heap.size w w') : Al w' gd b m p s1 s2 s3 O P q C :=
  ⟨h.fa.later hb, h.rf.below hb, h.va.later hb, h.out⟩
theorem Al.slices {w : World} {gd b m p q : Nat} {s1 s2 s3 : Value} {O P : List Bool} {C : List Int} (h : Al w gd b m p s1 s2 s3 O P q C) : (∃ A n c, s1 = .slice A n c) ∧ (∃ A n c, s2 = .slice A n c) ∧ ∃ A n c, s3 = .slice A n c := by
  obtain ⟨A1, n1, c1, A2, n2, c2, A3, c3, S, e, -⟩ := h.rf.form
  injection e with e
  injection e with e
  simp only [List.cons.injEq, and_true] at e
  exact ⟨⟨_, _, _, e.1⟩, ⟨_, _, _, e.2.1⟩, ⟨_, _, _, e.2.2⟩⟩
theorem Al.gne {w : World} {gd b m p q : Nat} {s1 s2 s3 : Value} {O P : List Bool} {C : List Int} (h : Al w gd b m p s1 s2 s3 O P q C) : some gd ≠ some p ∧ some gd ≠ some m := by
  have := h.fa.lo; have := h.fa.lt; have := h.out
  exact ⟨fun e => by injection e; omega, fun e => by injection e; omega⟩
theorem nx_len (l : List Bool) : (nx l).2.length ≤ l.length := by cases l <;> simp [nx]
theorem Rf.agg {w : World} {p m n : Nat} {v : Value} {O P : List Bool} {C : List Int} (h : Rf w p m v O P n C) : ∃ B1 k1 d1 B2 k2 d2 B3 k3 d3, v = .agg #[.slice B1 k1 d1, .slice B2 k2 d2, .slice B3 k3 d3] := by
  obtain ⟨A1, n1, c1, A2, n2, c2, A3, c3, S, e, -⟩ := h.form
  exact ⟨_, _, _, _, _, _, _, _, _, e⟩

theorem prove2 {p b m n : Nat} {O P P2 : List Bool} {C : List Int} {id z : Int} {bp : Bool} {w : World} (h : Fa w b m p O P n C) (hid : 0 ≤ id ∧ id ≤ 18446744073709551615) (hz : kn n C id 6 = z) (hb : (if kn n C id 6 = 0 then (nx P).1 else false) = bp) (hP : (if kn n C id 6 = 0 then (nx P).2 else P) = P2) :
    Calls Tryz.prog 29 #[ptr p, .int .u64 id] w fun e w' => e = .returned (.tuple #[.bool bp, .int .i64 z]) ∧ Fa w' b m p O P2 n C ∧ Hi.Fr (some p) (some m) w w' := by
  subst hz hb hP; exact prove_any p b m n O P C id w h hid
theorem rprove2 {v : Value} {p m n : Nat} {O P P2 : List Bool} {C : List Int} {id z : Int} {bp : Bool} {w : World} (h : Rf w p m v O P n C) (hn : n ≤ 1000) (hid : 0 ≤ id ∧ id ≤ 18446744073709551615) (hz : kn n C id 6 = z) (hb : (if kn n C id 6 = 0 then (nx P).1 else false) = bp) (hP : (if kn n C id 6 = 0 then (nx P).2 else P) = P2) :
    Calls Tryz.prog 30 #[v, .int .u64 id] w fun e w' => ∃ v', e = .returned (.tuple #[v', .bool bp, .int .i64 z]) ∧ Rf w' p m v' O P2 n C ∧ Below w.heap.size w w' := by
  subst hz hb hP; exact rprove_any v p m n O P C id w h hn hid
theorem close2 {p b m n : Nat} {O P : List Bool} {C C2 : List Int} {id z : Int} {w : World} (h : Fa w b m p O P n C) (hid : 0 ≤ id ∧ id ≤ 18446744073709551615) (hn : C.length < 1000) (hz : kn n C id 10 = z) (hC : (if kn n C id 10 = 0 then C ++ [id] else C) = C2) :
    Calls Tryz.prog 28 #[ptr p, .int .u64 id] w fun e w' => e = .returned (.int .i64 z) ∧ Fa w' b m p O P n C2 ∧ Hi.Fr (some p) (some m) w w' := by
  subst hz hC; exact close_any p b m n O P C id w h hid hn
theorem rclose2 {v : Value} {p m n : Nat} {O P : List Bool} {C C2 : List Int} {id z : Int} {w : World} (h : Rf w p m v O P n C) (hn : n ≤ 1000) (hid : 0 ≤ id ∧ id ≤ 18446744073709551615) (hp : p < w.heap.size) (hm : m < w.heap.size) (hz : kn n C id 10 = z) (hC : (if kn n C id 10 = 0 then C ++ [id] else C) = C2) :
    Calls Tryz.prog 31 #[v, .int .u64 id] w fun e w' => ∃ v', e = .returned (.tuple #[v', .int .i64 z]) ∧ Rf w' p m v' O P n C2 ∧ Below w.heap.size w w' := by
  subst hz hC; exact rclose_any v p m n O P C id w h hn hid hp hm
theorem open2 {p b m n n2 : Nat} {O P O2 : List Bool} {C : List Int} {y : Int} {ok : Bool} {w : World} (h : Fa w b m p O P n C) (hn : n < 18446744073709551615) (hy : (if (nx O).1 then (n : Int) + 1 else 0) = y) (ho : (nx O).1 = ok) (hO : (nx O).2 = O2) (hn2 : (if (nx O).1 then n + 1 else n) = n2) :
    Calls Tryz.prog 27 #[ptr p] w fun e w' => e = .returned (.tuple #[.int .u64 y, .bool ok]) ∧ Fa w' b m p O2 P n2 C ∧ Hi.Fr (some p) (some m) w w' := by
  subst hy ho hO hn2; exact open_any p b m n O P C w h hn
theorem ropen2 {v : Value} {p m n n2 : Nat} {O P O2 : List Bool} {C : List Int} {y : Int} {ok : Bool} {w : World} (h : Rf w p m v O P n C) (hn : n ≤ 1000) (hC : ∀ x ∈ C, 1 ≤ x ∧ x ≤ n) (hp : p < w.heap.size) (hm : m < w.heap.size) (hy : (if (nx O).1 then (n : Int) + 1 else 0) = y) (ho : (nx O).1 = ok) (hO : (nx O).2 = O2) (hn2 : (if (nx O).1 then n + 1 else n) = n2) :
    Calls Tryz.prog 32 #[v] w fun e w' => ∃ v', e = .returned (.tuple #[v', .int .u64 y, .bool ok]) ∧ Rf w' p m v' O2 P n2 C ∧ Below w.heap.size w w' := by
  subst hy ho hO hn2; exact ropen_any v p m n O P C w h hn hC hp hm
theorem prove_len (n : Nat) (C : List Int) (id : Int) (P : List Bool) : (if kn n C id 6 = 0 then (nx P).2 else P).length ≤ P.length := by
  split
  · exact nx_len P
  · exact Nat.le_refl _
theorem close_len (n : Nat) (C : List Int) (id : Int) : (if kn n C id 10 = 0 then C ++ [id] else C).length ≤ C.length + 1 := by
  split <;> simp
set_option maxRecDepth 100000 in
theorem plays_long (A : Option Addr) (n c : Nat) (A' : Option Addr) (n' c' : Nat) (A'' : Option Addr) (n'' c'' : Nat) (w : World) (hT : Tx.Tab w) (hn : n ≤ 9223372036854775807) (hn' : n' ≤ 9223372036854775807) (hn'' : n'' ≤ 9223372036854775807) (h : 100 < n ∨ 100 < n' ∨ 100 < n'') :
    Calls Tryz.prog 5 #[.slice A n c, .slice A' n' c', .slice A'' n'' c''] w fun e w' => e = .returned (.bool true) ∧ Below w.heap.size w w' := by
  by_cases h1 : 100 < n
  · have t0 : decide ((100 : Int) < (n : Int)) = true := decide_eq_true (by omega)
    have t0' : decide (100 < n) = true := decide_eq_true (by omega)
    go_enter Tryz.func5, Tryz.ntmps5
    go_wp2_with fail
    refine (awake10_any _ hT).mono ?_
    rintro e w1 ⟨rfl, hb1⟩
    go_wp2_with fail
    go_ret
    exact ⟨rfl, hb1⟩
  · have t0 : decide ((100 : Int) < (n : Int)) = false := decide_eq_false (by omega)
    have t0' : decide (100 < n) = false := decide_eq_false (by omega)
    by_cases h2 : 100 < n'
    · have t1 : decide ((100 : Int) < (n' : Int)) = true := decide_eq_true (by omega)
      have t1' : decide (100 < n') = true := decide_eq_true (by omega)
      go_enter Tryz.func5, Tryz.ntmps5
      go_wp2_with fail
      refine (awake10_any _ hT).mono ?_
      rintro e w1 ⟨rfl, hb1⟩
      go_wp2_with fail
      go_ret
      exact ⟨rfl, hb1⟩
    · have t1 : decide ((100 : Int) < (n' : Int)) = false := decide_eq_false (by omega)
      have t1' : decide (100 < n') = false := decide_eq_false (by omega)
      have t2 : decide ((100 : Int) < (n'' : Int)) = true := decide_eq_true (by omega)
      have t2' : decide (100 < n'') = true := decide_eq_true (by omega)
      go_enter Tryz.func5, Tryz.ntmps5
      go_wp2_with fail
      refine (awake10_any _ hT).mono ?_
      rintro e w1 ⟨rfl, hb1⟩
      go_wp2_with fail
      go_ret
      exact ⟨rfl, hb1⟩
set_option maxHeartbeats 16000000 in
set_option maxRecDepth 100000 in
theorem plays_any (A : Option Addr) (n c : Nat) (O : List Bool) (A' : Option Addr) (n' c' : Nat) (P : List Bool) (A'' : Option Addr) (N c'' : Nat) (xs : List Ac) (w : World) (hT : Tx.Tab w) (h : Rd Value.bool w w.heap.size A n c O) (h' : Rd Value.bool w w.heap.size A' n' c' P) (h'' : Rs encA 2 w w.heap.size A'' N c'' xs)
    (hn : n ≤ 100) (hn' : n' ≤ 100) (hN : N ≤ 100) (hok : ∀ x ∈ xs, x.ok) :
    Calls Tryz.prog 5 #[.slice A n c, .slice A' n' c', .slice A'' N c''] w fun e w' => e = .returned (.bool true) ∧ Below w.heap.size w w' := by
  have HT := Lib.hid hT
  have R := Lib.hid h
  have R' := Lib.hid h'
  have R'' := Lib.hid h''
  have HK := Lib.hid hok
  have hnc := h''.cap
  have htop := h''.top
  have t0 : decide ((100 : Int) < (n : Int)) = false := decide_eq_false (by omega)
  have t0' : decide (100 < n) = false := decide_eq_false (by omega)
  have t1 : decide ((100 : Int) < (n' : Int)) = false := decide_eq_false (by omega)
  have t1' : decide (100 < n') = false := decide_eq_false (by omega)
  have t2 : decide ((100 : Int) < (N : Int)) = false := decide_eq_false (by omega)
  have t2' : decide (100 < N) = false := decide_eq_false (by omega)
  have hOl : O.length ≤ 100 := by have := h.len; omega
  have hPl : P.length ≤ 100 := by have := h'.len; omega
  clear hT h h' h'' hok
  go_enter Tryz.func5, Tryz.ntmps5
  go_wp2_with fail
  refine (awake10_any _ HT.out).mono ?_
  rintro e w1 ⟨rfl, hb1⟩
  go_wp2_with fail
  refine (new_any A n c _ O A' n' c' _ P _ (R.out.below hb1) (R'.out.below hb1) hb1.size hb1.size (by omega) (by omega)).mono ?_
  rintro e w2 ⟨m, p, rfl, h2, hb2⟩
  have hs1 := hb1.size
  have hbl : w1.heap.size ≤ m := h2.lo
  have hmp := h2.lt
  have hp2 := h2.in_
  have b2 : Below w.heap.size w w2 := hb1.trans (hb2.mono hb1.size)
  obtain ⟨b, hbb⟩ : ∃ b, w1.heap.size = b := ⟨_, rfl⟩
  rw [hbb] at h2 hbl hs1
  have hal : Al (w2.alloc (.cells #[.slice A n c, .slice A' n' c', .slice none 0 0] 55)) w2.heap.size b m p (.slice A n c) (.slice A' n' c') (.slice none 0 0) O P 0 [] := by
    have hba : Below w2.heap.size w2 (w2.alloc (.cells #[.slice A n c, .slice A' n' c', .slice none 0 0] 55)) := (Below.refl _ _).alloc (Nat.le_refl _) _
    have b3 : Below w.heap.size w (w2.alloc (.cells #[.slice A n c, .slice A' n' c', .slice none 0 0] 55)) := b2.trans (hba.mono b2.size)
    have mk : ∀ (X : Option Addr) (k l : Nat) (Q : List Bool), Rd Value.bool w w.heap.size X k l Q → Rn (w2.alloc (.cells #[.slice A n c, .slice A' n' c', .slice none 0 0] 55)) p m X k l Q := fun X k l Q hQ => ⟨hQ.later b3, fun hk g o e => by
      obtain ⟨b', o', e', hb', _⟩ := hQ.at_ hk
      rw [e] at e'
      injection e' with e'
      injection e' with e1 e2
      omega⟩
    exact ⟨h2.later hba, ⟨⟨_, _, _, _, _, _, _, _, [], rfl, mk _ _ _ _ R.out, mk _ _ _ _ R'.out, Rn.nil_ _ _ _, Sh.nil_⟩⟩, V3.new w2 _ _ _ _, .inr hp2⟩
  have b3 : Below w.heap.size w (w2.alloc (.cells #[.slice A n c, .slice A' n' c', .slice none 0 0] 55)) := b2.alloc b2.size _
  have HAL := Lib.hid hal
  have HB := Lib.hid b3
  have hgd : w.heap.size ≤ w2.heap.size := b2.size
  clear hal b3 b2 h2 hb1 hb2 hbb
  go_wp2_with fail
  generalize hgg : w2.heap.size = gd at *
  generalize (w2.alloc (.cells #[.slice A n c, .slice A' n' c', .slice none 0 0] 55)) = W3 at *
  clear hgg
  go_loopw [7, 48] (fun f i wr => ∃ (k b m p : Nat) (s1 s2 s3 : Value) (O P : List Bool) (q : Nat) (C : List Int), k ≤ N ∧ i = .int .i64 k ∧ f = ptr p ∧ q ≤ k ∧ C.length ≤ k ∧ Al wr gd b m p s1 s2 s3 O P q C ∧ Below w.heap.size w wr ∧ w.heap.size ≤ b ∧ O.length ≤ 100 ∧ P.length ≤ 100) (fun _ i _ => N - (intOf i).toNat)
  case atStart => exact ⟨0, b, m, p, _, _, _, O, P, 0, [], Nat.zero_le _, rfl, rfl, Nat.le_refl _, Nat.le_refl _, HAL.out, HB.out, hs1, hOl, hPl⟩
  case round =>
    clear HAL HB
    obtain ⟨k, b, m, p, s1, s2, s3, O, P, q, C, hk, rfl, rfl, hq, hC, hal, hb, hwb, hOl, hPl⟩ := hrel
    have HAL := Lib.hid hal
    have HB := Lib.hid hb
    clear hal hb
    by_cases hlt : k < N
    · obtain ⟨ab, ao, x, rfl, hab, hx, c0, c1⟩ := two_at R''.out hlt
      have hxk := HK.out x (List.mem_of_getElem? hx)
      have hbel := HB.out
      rw [← hbel.cell (p := ⟨ab, _, none⟩) hab] at c0 c1
      have hs := hbel.size
      clear hbel hx
      obtain ⟨x0, id⟩ := x
      obtain ⟨hx0, hid⟩ := hxk
      simp only at c0 c1 hx0 hid
      have hba : Below wr.heap.size wr (wr.alloc (.cells #[.int .u8 x0, .int .u64 id] 57)) := (Below.refl _ _).alloc (Nat.le_refl _) _
      have HA1 := Lib.hid (HAL.out.later hba)
      have HB1 := Lib.hid (HB.out.trans (hba.mono hs))
      have e0 : (wr.alloc (.cells #[.int .u8 x0, .int .u64 id] 57)).cell? ⟨wr.heap.size, 0, none⟩ = some (.int .u8 x0) := by simp
      have e1 : (wr.alloc (.cells #[.int .u8 x0, .int .u64 id] 57)).cell? ⟨wr.heap.size, 1, none⟩ = some (.int .u64 id) := by simp
      have hgs : (wr.alloc (.cells #[.int .u8 x0, .int .u64 id] 57)).heap.size = wr.heap.size + 1 := by simp
      have hpg : p < wr.heap.size := HAL.out.fa.in_
      have hmpp : m < p := HAL.out.fa.lt
      have hgdl : gd < wr.heap.size := HAL.out.va.lt
      clear hba HAL HB hmp hbl hp2 hs1
      have hgp : wr.heap.size ≠ p := by omega
      have hgm : wr.heap.size ≠ m := by omega
      have hggd : wr.heap.size ≠ gd := by omega
      have hgW : wr.heap.size < (wr.alloc (.cells #[.int .u8 x0, .int .u64 id] 57)).heap.size := by rw [hgs]; omega
      by_cases hd : 128 ≤ x0
      · have hdb : decide (128 ≤ x0) = true := decide_eq_true hd
        clear hd
        go_wp2_with fail
        refine (fclone_any p b m q O P C _ HA1.out.fa (by omega) (by omega)).mono ?_
        rintro e w4 ⟨m', p', rfl, h4, hb4⟩
        obtain ⟨b2, hb2⟩ : ∃ b2, (wr.alloc (.cells #[.int .u8 x0, .int .u64 id] 57)).heap.size = b2 := ⟨_, rfl⟩
        have hA4 := HA1.out.later hb4
        have hlo4 := h4.lo
        have hlt4 := h4.lt
        have hp4 := h4.in_
        rw [hb2] at h4 hlo4
        have hb2' : b2 = wr.heap.size + 1 := by rw [← hb2]; simp
        have HA4 := Lib.hid hA4
        have HB4 := Lib.hid (HB1.out.trans (hb4.mono HB1.out.size))
        have H4 := Lib.hid h4
        have e04 := (hb4.cell (p := ⟨wr.heap.size, 0, none⟩) hgW).trans e0
        have e14 := (hb4.cell (p := ⟨wr.heap.size, 1, none⟩) hgW).trans e1
        have hs4 := hb4.size
        rw [hb2] at hs4
        clear hA4 h4 hb4
        go_wp2_with fail
        obtain ⟨yo, hyo⟩ : ∃ yo, (if (nx O).1 then (q : Int) + 1 else 0) = yo := ⟨_, rfl⟩
        obtain ⟨oko, hoko⟩ : ∃ oko, (nx O).1 = oko := ⟨_, rfl⟩
        obtain ⟨Oo, hOo⟩ : ∃ Oo, (nx O).2 = Oo := ⟨_, rfl⟩
        obtain ⟨qo, hqo⟩ : ∃ qo, (if (nx O).1 then q + 1 else q) = qo := ⟨_, rfl⟩
        refine (open2 HA4.out.fa (by omega) hyo hoko hOo hqo).mono ?_
        rintro e w5 ⟨rfl, h5, hf5⟩
        clear hyo hoko hOo hqo
        have hgne := HA4.out.gne
        have H5 := Lib.hid h5
        have H45 := Lib.hid (H4.out.same (w' := w5) fun j h1 h2 => hf5.block j (by omega) (fun e => by injection e; omega) (fun e => by injection e; omega))
        have HR5 := Lib.hid (HA4.out.rf.fr hf5)
        have HV5 := Lib.hid (HA4.out.va.fr hf5 hgne.1 hgne.2)
        have HB5 := Lib.hid (HB4.out.trans (hf5.below HB4.out.size (fun j e => by injection e with e; have := HA4.out.fa.lo; omega) (fun j e => by injection e with e; have := HA4.out.fa.lo; omega)))
        have e05 := (hf5.cell (p := ⟨wr.heap.size, 0, none⟩) (by simp; omega) (fun e => by injection e with e; exact hgp e) (fun e => by injection e with e; exact hgm e)).trans e04
        have e15 := (hf5.cell (p := ⟨wr.heap.size, 1, none⟩) (by simp; omega) (fun e => by injection e with e; exact hgp e) (fun e => by injection e with e; exact hgm e)).trans e14
        have hs5 := hf5.size
        clear h5 hf5 e04 e14 HB4 H4
        go_wp2_with fail
        refine (close_any p b m _ _ P C 1 _ H5.out (by omega) (by omega)).mono ?_
        rintro e w6 ⟨rfl, -, hf6⟩
        have HA6 : Hid (Al w6 gd b2 m' p' s1 s2 s3 O P q C) := Lib.hid ⟨H45.out.same (w' := w6) fun j h1 h2 => hf6.block j (by omega) (fun e => by injection e; omega) (fun e => by injection e; omega), (HA1.out.rf).move (HR5.out.fr hf6) (by rw [hb2]; omega) (by rw [hb2]; omega), HV5.out.fr hf6 hgne.1 hgne.2, .inl (by omega)⟩
        have HB6 := Lib.hid (HB5.out.trans (hf6.below HB5.out.size (fun j e => by injection e with e; have := HA4.out.fa.lo; omega) (fun j e => by injection e with e; have := HA4.out.fa.lo; omega)))
        have e06 := (hf6.cell (p := ⟨wr.heap.size, 0, none⟩) (by simp; omega) (fun e => by injection e with e; exact hgp e) (fun e => by injection e with e; exact hgm e)).trans e05
        have e16_ := (hf6.cell (p := ⟨wr.heap.size, 1, none⟩) (by simp; omega) (fun e => by injection e with e; exact hgp e) (fun e => by injection e with e; exact hgm e)).trans e15
        have hs6 := hf6.size
        have hgp' : wr.heap.size ≠ p' := by omega
        have hgm' : wr.heap.size ≠ m' := by omega
        have hgW6 : wr.heap.size < w6.heap.size := by omega
        have hwb2 : w.heap.size ≤ b2 := by omega
        clear hf6 HB5 HR5 HV5 H45 H5 HA4 HA1 HB1 e05 e15 e0 e1 hgne hgs hb2 hgW
        by_cases h2 : x0 % 4 = 2
        · have r2 : (x0 % 4 == 2) = true := by simpa using h2
          obtain ⟨z, hz⟩ : ∃ z, kn q C id 6 = z := ⟨_, rfl⟩
          obtain ⟨bp, hbp⟩ : ∃ bp, (if kn q C id 6 = 0 then (nx P).1 else false) = bp := ⟨_, rfl⟩
          obtain ⟨P2, hP2⟩ : ∃ P2, (if kn q C id 6 = 0 then (nx P).2 else P) = P2 := ⟨_, rfl⟩
          have hPl2 : P2.length ≤ 100 := by have := prove_len q C id P; rw [hP2] at this; omega
          have hOl2 := hOl
          have hbb : (bp != bp) = false := by cases bp <;> rfl
          have hzz : (z != z) = false := by simp
          have HEQ : Hid (kn q C id 6 = z ∧ (if kn q C id 6 = 0 then (nx P).1 else false) = bp ∧ (if kn q C id 6 = 0 then (nx P).2 else P) = P2) := Lib.hid ⟨hz, hbp, hP2⟩
          clear hz hbp hP2
          have hCl2 : C.length ≤ k + 1 := by omega
          have hq2' : q ≤ k + 1 := by omega
          go_wp2_with fail
          refine (prove2 HA6.out.fa hid HEQ.out.1 HEQ.out.2.1 HEQ.out.2.2).mono ?_
          rintro e w5 ⟨rfl, h5, hf5⟩
          have hgne := HA6.out.gne
          have HR5 := Lib.hid (HA6.out.rf.fr hf5)
          have HV5 := Lib.hid (HA6.out.va.fr hf5 hgne.1 hgne.2)
          have HF5 := Lib.hid h5
          have HB5 := Lib.hid (HB6.out.trans (hf5.below HB6.out.size (fun j e => by injection e with e; have := HA6.out.fa.lo; have := HA6.out.fa.lt; omega) (fun j e => by injection e with e; have := HA6.out.fa.lo; omega)))
          have e15 := (hf5.cell (p := ⟨wr.heap.size, 1, none⟩) hgW6 (fun e => by injection e with e; exact hgp' e) (fun e => by injection e with e; exact hgm' e)).trans e16_
          have hgW5 : wr.heap.size < w5.heap.size := Nat.lt_of_lt_of_le hgW6 hf5.size
          obtain ⟨⟨v0, v1, v2⟩, -⟩ := HV5.out
          clear h5 hf5 hgne
          go_wp2_with fail
          refine (rprove2 HR5.out (by omega) hid HEQ.out.1 HEQ.out.2.1 HEQ.out.2.2).mono ?_
          rintro e w6 ⟨v6, rfl, hr6, hb6⟩
          obtain ⟨B1, k1, d1, B2, k2, d2, B3, k3, d3, rfl⟩ := hr6.agg
          have hba7 : Below w6.heap.size w6 (w6.alloc (.cells #[(.slice B1 k1 d1), (.slice B2 k2 d2), (.slice B3 k3 d3)] 55)) := (Below.refl _ _).alloc (Nat.le_refl _) _
          have hb7 : Below w5.heap.size w5 (w6.alloc (.cells #[(.slice B1 k1 d1), (.slice B2 k2 d2), (.slice B3 k3 d3)] 55)) := hb6.trans (hba7.mono hb6.size)
          have P3 := put3 (HF5.out.later hb7) (hr6.below hba7) (HV5.out.later hb7) HA6.out.slices.1 HA6.out.slices.2.1 HA6.out.slices.2.2 HA6.out.out
          have HP3 := Lib.hid P3
          obtain ⟨⟨v3, v4, v5⟩, z0, z1, z2⟩ := HV5.out.later hb7
          have e18 : ((((w6.alloc (.cells #[(.slice B1 k1 d1), (.slice B2 k2 d2), (.slice B3 k3 d3)] 55)).setCell ⟨gd, 0, none⟩ (.slice B1 k1 d1)).setCell ⟨gd, 1, none⟩ (.slice B2 k2 d2)).setCell ⟨gd, 2, none⟩ (.slice B3 k3 d3)).cell? ⟨wr.heap.size, 1, none⟩ = some (.int .u64 id) := by
            rw [World.cell?_setCell_other _ _ _ _ (fun e => by injection e with e; exact hggd e.symm), World.cell?_setCell_other _ _ _ _ (fun e => by injection e with e; exact hggd e.symm), World.cell?_setCell_other _ _ _ _ (fun e => by injection e with e; exact hggd e.symm)]
            exact (hb7.cell (p := ⟨wr.heap.size, 1, none⟩) hgW5).trans e15
          have e16 := (hb6.cell (p := ⟨wr.heap.size, 1, none⟩) hgW5).trans e15
          have HB8 : Hid (Below w.heap.size w ((((w6.alloc (.cells #[(.slice B1 k1 d1), (.slice B2 k2 d2), (.slice B3 k3 d3)] 55)).setCell ⟨gd, 0, none⟩ (.slice B1 k1 d1)).setCell ⟨gd, 1, none⟩ (.slice B2 k2 d2)).setCell ⟨gd, 2, none⟩ (.slice B3 k3 d3))) := Lib.hid ((((HB5.out.trans (hb7.mono HB5.out.size)).setCell hgd _).setCell hgd _).setCell hgd _)
          have HOUT := Lib.hid HA6.out.out
          obtain ⟨⟨v6, v7, v8⟩, -⟩ := HP3.out.2.2
          clear hb6 hr6 hba7 hb7 P3 HR5 HV5 HF5 HB5 v0 v1 v2 HA6 HB6 e16_ e06
          go_wp2_with fail
          refine (told_any _ p' b2 m' q O P2 C id _ HP3.out.1 HP3.out.2.1 (by omega) hid).mono ?_
          rintro e w9 ⟨rfl, hb9⟩
          have HA9 := Lib.hid ((Al.mk HP3.out.1 HP3.out.2.1 HP3.out.2.2 HOUT.out).later hb9)
          have HB9 := Lib.hid (HB8.out.trans (hb9.mono HB8.out.size))
          clear hb9 HP3 HB8 HOUT e18
          go_wp2_with fail
          go_roundw
          case rel => exact ⟨k + 1, b2, m', p', (.slice B1 k1 d1), (.slice B2 k2 d2), (.slice B3 k3 d3), O, P2, q, C, by omega, by go_num, rfl, hq2', hCl2, HA9.out, HB9.out, hwb2, hOl2, hPl2⟩
          case measure => simp [intOf]; omega
        · have r2 : (x0 % 4 == 2) = false := by simpa using h2
          by_cases h3 : x0 % 4 = 3
          · have r3 : (x0 % 4 == 3) = true := by simpa using h3
            obtain ⟨z, hz⟩ : ∃ z, kn q C id 10 = z := ⟨_, rfl⟩
            obtain ⟨C2, hC2⟩ : ∃ C2, (if kn q C id 10 = 0 then C ++ [id] else C) = C2 := ⟨_, rfl⟩
            have hCl2 : C2.length ≤ k + 1 := by have := close_len q C id; rw [hC2] at this; omega
            have hPl2 := hPl
            have hOl2 := hOl
            have hzz : (z != z) = false := by simp
            have HEQ : Hid (kn q C id 10 = z ∧ (if kn q C id 10 = 0 then C ++ [id] else C) = C2) := Lib.hid ⟨hz, hC2⟩
            clear hz hC2
            have hq2' : q ≤ k + 1 := by omega
            go_wp2_with fail
            refine (close2 HA6.out.fa hid (by omega) HEQ.out.1 HEQ.out.2).mono ?_
            rintro e w5 ⟨rfl, h5, hf5⟩
            have hgne := HA6.out.gne
            have HR5 := Lib.hid (HA6.out.rf.fr hf5)
            have HV5 := Lib.hid (HA6.out.va.fr hf5 hgne.1 hgne.2)
            have HF5 := Lib.hid h5
            have HB5 := Lib.hid (HB6.out.trans (hf5.below HB6.out.size (fun j e => by injection e with e; have := HA6.out.fa.lo; have := HA6.out.fa.lt; omega) (fun j e => by injection e with e; have := HA6.out.fa.lo; omega)))
            have e15 := (hf5.cell (p := ⟨wr.heap.size, 1, none⟩) hgW6 (fun e => by injection e with e; exact hgp' e) (fun e => by injection e with e; exact hgm' e)).trans e16_
            have hgW5 : wr.heap.size < w5.heap.size := Nat.lt_of_lt_of_le hgW6 hf5.size
            obtain ⟨⟨v0, v1, v2⟩, -⟩ := HV5.out
            clear h5 hf5 hgne
            go_wp2_with fail
            refine (rclose2 HR5.out (by omega) hid HF5.out.in_ (Nat.lt_trans HF5.out.lt HF5.out.in_) HEQ.out.1 HEQ.out.2).mono ?_
            rintro e w6 ⟨v6, rfl, hr6, hb6⟩
            obtain ⟨B1, k1, d1, B2, k2, d2, B3, k3, d3, rfl⟩ := hr6.agg
            have hba7 : Below w6.heap.size w6 (w6.alloc (.cells #[(.slice B1 k1 d1), (.slice B2 k2 d2), (.slice B3 k3 d3)] 55)) := (Below.refl _ _).alloc (Nat.le_refl _) _
            have hb7 : Below w5.heap.size w5 (w6.alloc (.cells #[(.slice B1 k1 d1), (.slice B2 k2 d2), (.slice B3 k3 d3)] 55)) := hb6.trans (hba7.mono hb6.size)
            have P3 := put3 (HF5.out.later hb7) (hr6.below hba7) (HV5.out.later hb7) HA6.out.slices.1 HA6.out.slices.2.1 HA6.out.slices.2.2 HA6.out.out
            have HP3 := Lib.hid P3
            obtain ⟨⟨v3, v4, v5⟩, z0, z1, z2⟩ := HV5.out.later hb7
            have e18 : ((((w6.alloc (.cells #[(.slice B1 k1 d1), (.slice B2 k2 d2), (.slice B3 k3 d3)] 55)).setCell ⟨gd, 0, none⟩ (.slice B1 k1 d1)).setCell ⟨gd, 1, none⟩ (.slice B2 k2 d2)).setCell ⟨gd, 2, none⟩ (.slice B3 k3 d3)).cell? ⟨wr.heap.size, 1, none⟩ = some (.int .u64 id) := by
              rw [World.cell?_setCell_other _ _ _ _ (fun e => by injection e with e; exact hggd e.symm), World.cell?_setCell_other _ _ _ _ (fun e => by injection e with e; exact hggd e.symm), World.cell?_setCell_other _ _ _ _ (fun e => by injection e with e; exact hggd e.symm)]
              exact (hb7.cell (p := ⟨wr.heap.size, 1, none⟩) hgW5).trans e15
            have e16 := (hb6.cell (p := ⟨wr.heap.size, 1, none⟩) hgW5).trans e15
            have HB8 : Hid (Below w.heap.size w ((((w6.alloc (.cells #[(.slice B1 k1 d1), (.slice B2 k2 d2), (.slice B3 k3 d3)] 55)).setCell ⟨gd, 0, none⟩ (.slice B1 k1 d1)).setCell ⟨gd, 1, none⟩ (.slice B2 k2 d2)).setCell ⟨gd, 2, none⟩ (.slice B3 k3 d3))) := Lib.hid ((((HB5.out.trans (hb7.mono HB5.out.size)).setCell hgd _).setCell hgd _).setCell hgd _)
            have HOUT := Lib.hid HA6.out.out
            obtain ⟨⟨v6, v7, v8⟩, -⟩ := HP3.out.2.2
            clear hb6 hr6 hba7 hb7 P3 HR5 HV5 HF5 HB5 v0 v1 v2 HA6 HB6 e16_ e06
            go_wp2_with fail
            refine (told_any _ p' b2 m' q O P C2 id _ HP3.out.1 HP3.out.2.1 (by omega) hid).mono ?_
            rintro e w9 ⟨rfl, hb9⟩
            have HA9 := Lib.hid ((Al.mk HP3.out.1 HP3.out.2.1 HP3.out.2.2 HOUT.out).later hb9)
            have HB9 := Lib.hid (HB8.out.trans (hb9.mono HB8.out.size))
            clear hb9 HP3 HB8 HOUT e18
            go_wp2_with fail
            go_roundw
            case rel => exact ⟨k + 1, b2, m', p', (.slice B1 k1 d1), (.slice B2 k2 d2), (.slice B3 k3 d3), O, P, q, C2, by omega, by go_num, rfl, hq2', hCl2, HA9.out, HB9.out, hwb2, hOl2, hPl2⟩
            case measure => simp [intOf]; omega
          · have r3 : (x0 % 4 == 3) = false := by simpa using h3
            obtain ⟨y, hy⟩ : ∃ y, (if (nx O).1 then (q : Int) + 1 else 0) = y := ⟨_, rfl⟩
            obtain ⟨ok, hok⟩ : ∃ ok, (nx O).1 = ok := ⟨_, rfl⟩
            obtain ⟨O2, hO2⟩ : ∃ O2, (nx O).2 = O2 := ⟨_, rfl⟩
            obtain ⟨q2, hq2⟩ : ∃ q2, (if (nx O).1 then q + 1 else q) = q2 := ⟨_, rfl⟩
            have hOl2 : O2.length ≤ 100 := by have := nx_len O; rw [hO2] at this; omega
            have hPl2 := hPl
            have hq2' : q2 ≤ k + 1 := by rw [← hq2]; split <;> omega
            have hbb : (ok != ok) = false := by cases ok <;> rfl
            have hzz : (y != y) = false := by simp
            have hCl2 : C.length ≤ k + 1 := by omega
            have HEQ : Hid ((if (nx O).1 then (q : Int) + 1 else 0) = y ∧ (nx O).1 = ok ∧ (nx O).2 = O2 ∧ (if (nx O).1 then q + 1 else q) = q2) := Lib.hid ⟨hy, hok, hO2, hq2⟩
            clear hy hok hO2 hq2
            go_wp2_with fail
            refine (open2 HA6.out.fa (by omega) HEQ.out.1 HEQ.out.2.1 HEQ.out.2.2.1 HEQ.out.2.2.2).mono ?_
            rintro e w5 ⟨rfl, h5, hf5⟩
            have hgne := HA6.out.gne
            have HR5 := Lib.hid (HA6.out.rf.fr hf5)
            have HV5 := Lib.hid (HA6.out.va.fr hf5 hgne.1 hgne.2)
            have HF5 := Lib.hid h5
            have HB5 := Lib.hid (HB6.out.trans (hf5.below HB6.out.size (fun j e => by injection e with e; have := HA6.out.fa.lo; have := HA6.out.fa.lt; omega) (fun j e => by injection e with e; have := HA6.out.fa.lo; omega)))
            have e15 := (hf5.cell (p := ⟨wr.heap.size, 1, none⟩) hgW6 (fun e => by injection e with e; exact hgp' e) (fun e => by injection e with e; exact hgm' e)).trans e16_
            have hgW5 : wr.heap.size < w5.heap.size := Nat.lt_of_lt_of_le hgW6 hf5.size
            obtain ⟨⟨v0, v1, v2⟩, -⟩ := HV5.out
            clear h5 hf5 hgne
            go_wp2_with fail
            refine (ropen2 HR5.out (by omega) HA6.out.fa.mem HF5.out.in_ (Nat.lt_trans HF5.out.lt HF5.out.in_) HEQ.out.1 HEQ.out.2.1 HEQ.out.2.2.1 HEQ.out.2.2.2).mono ?_
            rintro e w6 ⟨v6, rfl, hr6, hb6⟩
            obtain ⟨B1, k1, d1, B2, k2, d2, B3, k3, d3, rfl⟩ := hr6.agg
            have hba7 : Below w6.heap.size w6 (w6.alloc (.cells #[(.slice B1 k1 d1), (.slice B2 k2 d2), (.slice B3 k3 d3)] 55)) := (Below.refl _ _).alloc (Nat.le_refl _) _
            have hb7 : Below w5.heap.size w5 (w6.alloc (.cells #[(.slice B1 k1 d1), (.slice B2 k2 d2), (.slice B3 k3 d3)] 55)) := hb6.trans (hba7.mono hb6.size)
            have P3 := put3 (HF5.out.later hb7) (hr6.below hba7) (HV5.out.later hb7) HA6.out.slices.1 HA6.out.slices.2.1 HA6.out.slices.2.2 HA6.out.out
            have HP3 := Lib.hid P3
            obtain ⟨⟨v3, v4, v5⟩, z0, z1, z2⟩ := HV5.out.later hb7
            have e18 : ((((w6.alloc (.cells #[(.slice B1 k1 d1), (.slice B2 k2 d2), (.slice B3 k3 d3)] 55)).setCell ⟨gd, 0, none⟩ (.slice B1 k1 d1)).setCell ⟨gd, 1, none⟩ (.slice B2 k2 d2)).setCell ⟨gd, 2, none⟩ (.slice B3 k3 d3)).cell? ⟨wr.heap.size, 1, none⟩ = some (.int .u64 id) := by
              rw [World.cell?_setCell_other _ _ _ _ (fun e => by injection e with e; exact hggd e.symm), World.cell?_setCell_other _ _ _ _ (fun e => by injection e with e; exact hggd e.symm), World.cell?_setCell_other _ _ _ _ (fun e => by injection e with e; exact hggd e.symm)]
              exact (hb7.cell (p := ⟨wr.heap.size, 1, none⟩) hgW5).trans e15
            have e16 := (hb6.cell (p := ⟨wr.heap.size, 1, none⟩) hgW5).trans e15
            have HB8 : Hid (Below w.heap.size w ((((w6.alloc (.cells #[(.slice B1 k1 d1), (.slice B2 k2 d2), (.slice B3 k3 d3)] 55)).setCell ⟨gd, 0, none⟩ (.slice B1 k1 d1)).setCell ⟨gd, 1, none⟩ (.slice B2 k2 d2)).setCell ⟨gd, 2, none⟩ (.slice B3 k3 d3))) := Lib.hid ((((HB5.out.trans (hb7.mono HB5.out.size)).setCell hgd _).setCell hgd _).setCell hgd _)
            have HOUT := Lib.hid HA6.out.out
            obtain ⟨⟨v6, v7, v8⟩, -⟩ := HP3.out.2.2
            clear hb6 hr6 hba7 hb7 P3 HR5 HV5 HF5 HB5 v0 v1 v2 HA6 HB6 e16_ e06
            go_wp2_with fail
            refine (told_any _ p' b2 m' q2 O2 P C id _ HP3.out.1 HP3.out.2.1 (by omega) hid).mono ?_
            rintro e w9 ⟨rfl, hb9⟩
            have HA9 := Lib.hid ((Al.mk HP3.out.1 HP3.out.2.1 HP3.out.2.2 HOUT.out).later hb9)
            have HB9 := Lib.hid (HB8.out.trans (hb9.mono HB8.out.size))
            clear hb9 HP3 HB8 HOUT e18
            go_wp2_with fail
            go_roundw
            case rel => exact ⟨k + 1, b2, m', p', (.slice B1 k1 d1), (.slice B2 k2 d2), (.slice B3 k3 d3), O2, P, q2, C, by omega, by go_num, rfl, hq2', hCl2, HA9.out, HB9.out, hwb2, hOl2, hPl2⟩
            case measure => simp [intOf]; omega
      · have hdb : decide (128 ≤ x0) = false := decide_eq_false hd
        clear hd
        by_cases h2 : x0 % 4 = 2
        · have r2 : (x0 % 4 == 2) = true := by simpa using h2
          obtain ⟨z, hz⟩ : ∃ z, kn q C id 6 = z := ⟨_, rfl⟩
          obtain ⟨bp, hbp⟩ : ∃ bp, (if kn q C id 6 = 0 then (nx P).1 else false) = bp := ⟨_, rfl⟩
          obtain ⟨P2, hP2⟩ : ∃ P2, (if kn q C id 6 = 0 then (nx P).2 else P) = P2 := ⟨_, rfl⟩
          have hPl2 : P2.length ≤ 100 := by have := prove_len q C id P; rw [hP2] at this; omega
          have hOl2 := hOl
          have hbb : (bp != bp) = false := by cases bp <;> rfl
          have hzz : (z != z) = false := by simp
          have HEQ : Hid (kn q C id 6 = z ∧ (if kn q C id 6 = 0 then (nx P).1 else false) = bp ∧ (if kn q C id 6 = 0 then (nx P).2 else P) = P2) := Lib.hid ⟨hz, hbp, hP2⟩
          clear hz hbp hP2
          have hCl2 : C.length ≤ k + 1 := by omega
          have hq2' : q ≤ k + 1 := by omega
          go_wp2_with fail
          refine (prove2 HA1.out.fa hid HEQ.out.1 HEQ.out.2.1 HEQ.out.2.2).mono ?_
          rintro e w5 ⟨rfl, h5, hf5⟩
          have hgne := HA1.out.gne
          have HR5 := Lib.hid (HA1.out.rf.fr hf5)
          have HV5 := Lib.hid (HA1.out.va.fr hf5 hgne.1 hgne.2)
          have HF5 := Lib.hid h5
          have HB5 := Lib.hid (HB1.out.trans (hf5.below HB1.out.size (fun j e => by injection e with e; have := HA1.out.fa.lo; have := HA1.out.fa.lt; omega) (fun j e => by injection e with e; have := HA1.out.fa.lo; omega)))
          have e15 := (hf5.cell (p := ⟨wr.heap.size, 1, none⟩) hgW (fun e => by injection e with e; exact hgp e) (fun e => by injection e with e; exact hgm e)).trans e1
          have hgW5 : wr.heap.size < w5.heap.size := Nat.lt_of_lt_of_le hgW hf5.size
          obtain ⟨⟨v0, v1, v2⟩, -⟩ := HV5.out
          clear h5 hf5 hgne
          go_wp2_with fail
          refine (rprove2 HR5.out (by omega) hid HEQ.out.1 HEQ.out.2.1 HEQ.out.2.2).mono ?_
          rintro e w6 ⟨v6, rfl, hr6, hb6⟩
          obtain ⟨B1, k1, d1, B2, k2, d2, B3, k3, d3, rfl⟩ := hr6.agg
          have hba7 : Below w6.heap.size w6 (w6.alloc (.cells #[(.slice B1 k1 d1), (.slice B2 k2 d2), (.slice B3 k3 d3)] 55)) := (Below.refl _ _).alloc (Nat.le_refl _) _
          have hb7 : Below w5.heap.size w5 (w6.alloc (.cells #[(.slice B1 k1 d1), (.slice B2 k2 d2), (.slice B3 k3 d3)] 55)) := hb6.trans (hba7.mono hb6.size)
          have P3 := put3 (HF5.out.later hb7) (hr6.below hba7) (HV5.out.later hb7) HA1.out.slices.1 HA1.out.slices.2.1 HA1.out.slices.2.2 HA1.out.out
          have HP3 := Lib.hid P3
          obtain ⟨⟨v3, v4, v5⟩, z0, z1, z2⟩ := HV5.out.later hb7
          have e18 : ((((w6.alloc (.cells #[(.slice B1 k1 d1), (.slice B2 k2 d2), (.slice B3 k3 d3)] 55)).setCell ⟨gd, 0, none⟩ (.slice B1 k1 d1)).setCell ⟨gd, 1, none⟩ (.slice B2 k2 d2)).setCell ⟨gd, 2, none⟩ (.slice B3 k3 d3)).cell? ⟨wr.heap.size, 1, none⟩ = some (.int .u64 id) := by
            rw [World.cell?_setCell_other _ _ _ _ (fun e => by injection e with e; exact hggd e.symm), World.cell?_setCell_other _ _ _ _ (fun e => by injection e with e; exact hggd e.symm), World.cell?_setCell_other _ _ _ _ (fun e => by injection e with e; exact hggd e.symm)]
            exact (hb7.cell (p := ⟨wr.heap.size, 1, none⟩) hgW5).trans e15
          have e16 := (hb6.cell (p := ⟨wr.heap.size, 1, none⟩) hgW5).trans e15
          have HB8 : Hid (Below w.heap.size w ((((w6.alloc (.cells #[(.slice B1 k1 d1), (.slice B2 k2 d2), (.slice B3 k3 d3)] 55)).setCell ⟨gd, 0, none⟩ (.slice B1 k1 d1)).setCell ⟨gd, 1, none⟩ (.slice B2 k2 d2)).setCell ⟨gd, 2, none⟩ (.slice B3 k3 d3))) := Lib.hid ((((HB5.out.trans (hb7.mono HB5.out.size)).setCell hgd _).setCell hgd _).setCell hgd _)
          have HOUT := Lib.hid HA1.out.out
          obtain ⟨⟨v6, v7, v8⟩, -⟩ := HP3.out.2.2
          clear hb6 hr6 hba7 hb7 P3 HR5 HV5 HF5 HB5 v0 v1 v2 HA1 HB1 e1 e0 hgs
          go_wp2_with fail
          refine (told_any _ p b m q O P2 C id _ HP3.out.1 HP3.out.2.1 (by omega) hid).mono ?_
          rintro e w9 ⟨rfl, hb9⟩
          have HA9 := Lib.hid ((Al.mk HP3.out.1 HP3.out.2.1 HP3.out.2.2 HOUT.out).later hb9)
          have HB9 := Lib.hid (HB8.out.trans (hb9.mono HB8.out.size))
          clear hb9 HP3 HB8 HOUT e18
          go_wp2_with fail
          go_roundw
          case rel => exact ⟨k + 1, b, m, p, (.slice B1 k1 d1), (.slice B2 k2 d2), (.slice B3 k3 d3), O, P2, q, C, by omega, by go_num, rfl, hq2', hCl2, HA9.out, HB9.out, hwb, hOl2, hPl2⟩
          case measure => simp [intOf]; omega
        · have r2 : (x0 % 4 == 2) = false := by simpa using h2
          by_cases h3 : x0 % 4 = 3
          · have r3 : (x0 % 4 == 3) = true := by simpa using h3
            obtain ⟨z, hz⟩ : ∃ z, kn q C id 10 = z := ⟨_, rfl⟩
            obtain ⟨C2, hC2⟩ : ∃ C2, (if kn q C id 10 = 0 then C ++ [id] else C) = C2 := ⟨_, rfl⟩
            have hCl2 : C2.length ≤ k + 1 := by have := close_len q C id; rw [hC2] at this; omega
            have hPl2 := hPl
            have hOl2 := hOl
            have hzz : (z != z) = false := by simp
            have HEQ : Hid (kn q C id 10 = z ∧ (if kn q C id 10 = 0 then C ++ [id] else C) = C2) := Lib.hid ⟨hz, hC2⟩
            clear hz hC2
            have hq2' : q ≤ k + 1 := by omega
            go_wp2_with fail
            refine (close2 HA1.out.fa hid (by omega) HEQ.out.1 HEQ.out.2).mono ?_
            rintro e w5 ⟨rfl, h5, hf5⟩
            have hgne := HA1.out.gne
            have HR5 := Lib.hid (HA1.out.rf.fr hf5)
            have HV5 := Lib.hid (HA1.out.va.fr hf5 hgne.1 hgne.2)
            have HF5 := Lib.hid h5
            have HB5 := Lib.hid (HB1.out.trans (hf5.below HB1.out.size (fun j e => by injection e with e; have := HA1.out.fa.lo; have := HA1.out.fa.lt; omega) (fun j e => by injection e with e; have := HA1.out.fa.lo; omega)))
            have e15 := (hf5.cell (p := ⟨wr.heap.size, 1, none⟩) hgW (fun e => by injection e with e; exact hgp e) (fun e => by injection e with e; exact hgm e)).trans e1
            have hgW5 : wr.heap.size < w5.heap.size := Nat.lt_of_lt_of_le hgW hf5.size
            obtain ⟨⟨v0, v1, v2⟩, -⟩ := HV5.out
            clear h5 hf5 hgne
            go_wp2_with fail
            refine (rclose2 HR5.out (by omega) hid HF5.out.in_ (Nat.lt_trans HF5.out.lt HF5.out.in_) HEQ.out.1 HEQ.out.2).mono ?_
            rintro e w6 ⟨v6, rfl, hr6, hb6⟩
            obtain ⟨B1, k1, d1, B2, k2, d2, B3, k3, d3, rfl⟩ := hr6.agg
            have hba7 : Below w6.heap.size w6 (w6.alloc (.cells #[(.slice B1 k1 d1), (.slice B2 k2 d2), (.slice B3 k3 d3)] 55)) := (Below.refl _ _).alloc (Nat.le_refl _) _
            have hb7 : Below w5.heap.size w5 (w6.alloc (.cells #[(.slice B1 k1 d1), (.slice B2 k2 d2), (.slice B3 k3 d3)] 55)) := hb6.trans (hba7.mono hb6.size)
            have P3 := put3 (HF5.out.later hb7) (hr6.below hba7) (HV5.out.later hb7) HA1.out.slices.1 HA1.out.slices.2.1 HA1.out.slices.2.2 HA1.out.out
            have HP3 := Lib.hid P3
            obtain ⟨⟨v3, v4, v5⟩, z0, z1, z2⟩ := HV5.out.later hb7
            have e18 : ((((w6.alloc (.cells #[(.slice B1 k1 d1), (.slice B2 k2 d2), (.slice B3 k3 d3)] 55)).setCell ⟨gd, 0, none⟩ (.slice B1 k1 d1)).setCell ⟨gd, 1, none⟩ (.slice B2 k2 d2)).setCell ⟨gd, 2, none⟩ (.slice B3 k3 d3)).cell? ⟨wr.heap.size, 1, none⟩ = some (.int .u64 id) := by
              rw [World.cell?_setCell_other _ _ _ _ (fun e => by injection e with e; exact hggd e.symm), World.cell?_setCell_other _ _ _ _ (fun e => by injection e with e; exact hggd e.symm), World.cell?_setCell_other _ _ _ _ (fun e => by injection e with e; exact hggd e.symm)]
              exact (hb7.cell (p := ⟨wr.heap.size, 1, none⟩) hgW5).trans e15
            have e16 := (hb6.cell (p := ⟨wr.heap.size, 1, none⟩) hgW5).trans e15
            have HB8 : Hid (Below w.heap.size w ((((w6.alloc (.cells #[(.slice B1 k1 d1), (.slice B2 k2 d2), (.slice B3 k3 d3)] 55)).setCell ⟨gd, 0, none⟩ (.slice B1 k1 d1)).setCell ⟨gd, 1, none⟩ (.slice B2 k2 d2)).setCell ⟨gd, 2, none⟩ (.slice B3 k3 d3))) := Lib.hid ((((HB5.out.trans (hb7.mono HB5.out.size)).setCell hgd _).setCell hgd _).setCell hgd _)
            have HOUT := Lib.hid HA1.out.out
            obtain ⟨⟨v6, v7, v8⟩, -⟩ := HP3.out.2.2
            clear hb6 hr6 hba7 hb7 P3 HR5 HV5 HF5 HB5 v0 v1 v2 HA1 HB1 e1 e0 hgs
            go_wp2_with fail
            refine (told_any _ p b m q O P C2 id _ HP3.out.1 HP3.out.2.1 (by omega) hid).mono ?_
            rintro e w9 ⟨rfl, hb9⟩
            have HA9 := Lib.hid ((Al.mk HP3.out.1 HP3.out.2.1 HP3.out.2.2 HOUT.out).later hb9)
            have HB9 := Lib.hid (HB8.out.trans (hb9.mono HB8.out.size))
            clear hb9 HP3 HB8 HOUT e18
            go_wp2_with fail
            go_roundw
            case rel => exact ⟨k + 1, b, m, p, (.slice B1 k1 d1), (.slice B2 k2 d2), (.slice B3 k3 d3), O, P, q, C2, by omega, by go_num, rfl, hq2', hCl2, HA9.out, HB9.out, hwb, hOl2, hPl2⟩
            case measure => simp [intOf]; omega
          · have r3 : (x0 % 4 == 3) = false := by simpa using h3
            obtain ⟨y, hy⟩ : ∃ y, (if (nx O).1 then (q : Int) + 1 else 0) = y := ⟨_, rfl⟩
            obtain ⟨ok, hok⟩ : ∃ ok, (nx O).1 = ok := ⟨_, rfl⟩
            obtain ⟨O2, hO2⟩ : ∃ O2, (nx O).2 = O2 := ⟨_, rfl⟩
            obtain ⟨q2, hq2⟩ : ∃ q2, (if (nx O).1 then q + 1 else q) = q2 := ⟨_, rfl⟩
            have hOl2 : O2.length ≤ 100 := by have := nx_len O; rw [hO2] at this; omega
            have hPl2 := hPl
            have hq2' : q2 ≤ k + 1 := by rw [← hq2]; split <;> omega
            have hbb : (ok != ok) = false := by cases ok <;> rfl
            have hzz : (y != y) = false := by simp
            have hCl2 : C.length ≤ k + 1 := by omega
            have HEQ : Hid ((if (nx O).1 then (q : Int) + 1 else 0) = y ∧ (nx O).1 = ok ∧ (nx O).2 = O2 ∧ (if (nx O).1 then q + 1 else q) = q2) := Lib.hid ⟨hy, hok, hO2, hq2⟩
            clear hy hok hO2 hq2
            go_wp2_with fail
            refine (open2 HA1.out.fa (by omega) HEQ.out.1 HEQ.out.2.1 HEQ.out.2.2.1 HEQ.out.2.2.2).mono ?_
            rintro e w5 ⟨rfl, h5, hf5⟩
            have hgne := HA1.out.gne
            have HR5 := Lib.hid (HA1.out.rf.fr hf5)
            have HV5 := Lib.hid (HA1.out.va.fr hf5 hgne.1 hgne.2)
            have HF5 := Lib.hid h5
            have HB5 := Lib.hid (HB1.out.trans (hf5.below HB1.out.size (fun j e => by injection e with e; have := HA1.out.fa.lo; have := HA1.out.fa.lt; omega) (fun j e => by injection e with e; have := HA1.out.fa.lo; omega)))
            have e15 := (hf5.cell (p := ⟨wr.heap.size, 1, none⟩) hgW (fun e => by injection e with e; exact hgp e) (fun e => by injection e with e; exact hgm e)).trans e1
            have hgW5 : wr.heap.size < w5.heap.size := Nat.lt_of_lt_of_le hgW hf5.size
            obtain ⟨⟨v0, v1, v2⟩, -⟩ := HV5.out
            clear h5 hf5 hgne
            go_wp2_with fail
            refine (ropen2 HR5.out (by omega) HA1.out.fa.mem HF5.out.in_ (Nat.lt_trans HF5.out.lt HF5.out.in_) HEQ.out.1 HEQ.out.2.1 HEQ.out.2.2.1 HEQ.out.2.2.2).mono ?_
            rintro e w6 ⟨v6, rfl, hr6, hb6⟩
            obtain ⟨B1, k1, d1, B2, k2, d2, B3, k3, d3, rfl⟩ := hr6.agg
            have hba7 : Below w6.heap.size w6 (w6.alloc (.cells #[(.slice B1 k1 d1), (.slice B2 k2 d2), (.slice B3 k3 d3)] 55)) := (Below.refl _ _).alloc (Nat.le_refl _) _
            have hb7 : Below w5.heap.size w5 (w6.alloc (.cells #[(.slice B1 k1 d1), (.slice B2 k2 d2), (.slice B3 k3 d3)] 55)) := hb6.trans (hba7.mono hb6.size)
            have P3 := put3 (HF5.out.later hb7) (hr6.below hba7) (HV5.out.later hb7) HA1.out.slices.1 HA1.out.slices.2.1 HA1.out.slices.2.2 HA1.out.out
            have HP3 := Lib.hid P3
            obtain ⟨⟨v3, v4, v5⟩, z0, z1, z2⟩ := HV5.out.later hb7
            have e18 : ((((w6.alloc (.cells #[(.slice B1 k1 d1), (.slice B2 k2 d2), (.slice B3 k3 d3)] 55)).setCell ⟨gd, 0, none⟩ (.slice B1 k1 d1)).setCell ⟨gd, 1, none⟩ (.slice B2 k2 d2)).setCell ⟨gd, 2, none⟩ (.slice B3 k3 d3)).cell? ⟨wr.heap.size, 1, none⟩ = some (.int .u64 id) := by
              rw [World.cell?_setCell_other _ _ _ _ (fun e => by injection e with e; exact hggd e.symm), World.cell?_setCell_other _ _ _ _ (fun e => by injection e with e; exact hggd e.symm), World.cell?_setCell_other _ _ _ _ (fun e => by injection e with e; exact hggd e.symm)]
              exact (hb7.cell (p := ⟨wr.heap.size, 1, none⟩) hgW5).trans e15
            have e16 := (hb6.cell (p := ⟨wr.heap.size, 1, none⟩) hgW5).trans e15
            have HB8 : Hid (Below w.heap.size w ((((w6.alloc (.cells #[(.slice B1 k1 d1), (.slice B2 k2 d2), (.slice B3 k3 d3)] 55)).setCell ⟨gd, 0, none⟩ (.slice B1 k1 d1)).setCell ⟨gd, 1, none⟩ (.slice B2 k2 d2)).setCell ⟨gd, 2, none⟩ (.slice B3 k3 d3))) := Lib.hid ((((HB5.out.trans (hb7.mono HB5.out.size)).setCell hgd _).setCell hgd _).setCell hgd _)
            have HOUT := Lib.hid HA1.out.out
            obtain ⟨⟨v6, v7, v8⟩, -⟩ := HP3.out.2.2
            clear hb6 hr6 hba7 hb7 P3 HR5 HV5 HF5 HB5 v0 v1 v2 HA1 HB1 e1 e0 hgs
            go_wp2_with fail
            refine (told_any _ p b m q2 O2 P C id _ HP3.out.1 HP3.out.2.1 (by omega) hid).mono ?_
            rintro e w9 ⟨rfl, hb9⟩
            have HA9 := Lib.hid ((Al.mk HP3.out.1 HP3.out.2.1 HP3.out.2.2 HOUT.out).later hb9)
            have HB9 := Lib.hid (HB8.out.trans (hb9.mono HB8.out.size))
            clear hb9 HP3 HB8 HOUT e18
            go_wp2_with fail
            go_roundw
            case rel => exact ⟨k + 1, b, m, p, (.slice B1 k1 d1), (.slice B2 k2 d2), (.slice B3 k3 d3), O2, P, q2, C, by omega, by go_num, rfl, hq2', hCl2, HA9.out, HB9.out, hwb, hOl2, hPl2⟩
            case measure => simp [intOf]; omega
    · obtain rfl : k = N := by omega
      go_wp2_with fail
      go_ret
      exact ⟨rfl, HB.out⟩
end Go.Proofs.YtmnjdmcocifogaaGreatDoor.Fc
