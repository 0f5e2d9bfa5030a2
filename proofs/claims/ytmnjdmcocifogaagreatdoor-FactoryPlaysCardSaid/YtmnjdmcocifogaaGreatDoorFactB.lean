/- Contracts of layer 10 (factory): what it does. -/
import Derived.Test.YtmnjdmcocifogaaGreatDoorFact
namespace Go.Proofs.YtmnjdmcocifogaaGreatDoor.Fc
open Go.ChangeShapes Go.WideShapes Go.ChangeAt Go.RowKit Go.Maps Rw
set_option linter.unusedVariables false

theorem grown_setCell (w : World) (a : Addr) (u : Value) : w.grownBy (w.setCell a u) (some a.block) :=
  ⟨rfl, rfl, rfl, by simp, fun k _ hk => heap_setCell_other w a k u (fun e => hk (by rw [e]))⟩
section
variable {w : World} {b m p n : Nat} {O P : List Bool} {C : List Int}
theorem setCell_ne (w : World) {p : Nat} (i o : Nat) (u : Value) (h : i ≠ o) : (w.setCell ⟨p, i, none⟩ u).cell? ⟨p, o, none⟩ = w.cell? ⟨p, o, none⟩ :=
  World.cell?_setCell_other _ _ _ _ (fun e => by injection e with _ e; exact h e)
theorem Scr.put {A : Option Addr} {k c : Nat} {l : List Bool} (h : Scr w b m A k c l) (hm : m < p) (i : Nat) (u : Value) : Scr (w.setCell ⟨p, i, none⟩ u) b m A k c l :=
  h.same fun g _ hg => heap_setCell_other w _ g _ (fun e => by have : g = p := e; omega)
theorem own_put {k : TypeId} {R : Value → Option (DataW Unit × List MemPlace)} {q : Nat} {D : DataW Unit} (h : w.ownsMap Tryz.prog k R m q D) (hm : m < p) (i : Nat) (u : Value) : (w.setCell ⟨p, i, none⟩ u).ownsMap Tryz.prog k R m q D := by
  obtain ⟨es, clock, hb, hr⟩ := h
  exact ⟨es, clock, (heap_setCell_other w _ m _ (fun e => by have : m = p := e; omega)).trans hb, hr⟩
theorem Fa.put0 (h : Fa w b m p O P n C) {A : Option Addr} {k c : Nat} {l : List Bool} (hs : Scr w b m A k c l) :
    Fa (w.setCell ⟨p, 0, none⟩ (.slice A k c)) b m p l P n C ∧ Hi.Fr (some p) (some m) w (w.setCell ⟨p, 0, none⟩ (.slice A k c)) := by
  obtain ⟨A0, k0, c0, h0, -⟩ := h.opens
  obtain ⟨A1, k1, c1, h1, hs1⟩ := h.proofs
  have hm := h.lt
  exact ⟨⟨⟨A, k, c, World.cell?_setCell_same _ _ _ h0, hs.put hm _ _⟩, ⟨A1, k1, c1, (setCell_ne w 0 1 _ (by omega)).trans h1, hs1.put hm _ _⟩, (setCell_ne w 0 2 _ (by omega)).trans h.many, (setCell_ne w 0 3 _ (by omega)).trans h.map, own_put h.own hm _ _, fun o => by simpa using h.free o, h.lo, hm, h.nd, h.mem⟩, Hi.Fr.of_grown (grown_setCell _ _ _) (.inr (.inl rfl))⟩
theorem Fa.put1 (h : Fa w b m p O P n C) {A : Option Addr} {k c : Nat} {l : List Bool} (hs : Scr w b m A k c l) :
    Fa (w.setCell ⟨p, 1, none⟩ (.slice A k c)) b m p O l n C ∧ Hi.Fr (some p) (some m) w (w.setCell ⟨p, 1, none⟩ (.slice A k c)) := by
  obtain ⟨A0, k0, c0, h0, hs0⟩ := h.opens
  obtain ⟨A1, k1, c1, h1, hs1⟩ := h.proofs
  have hm := h.lt
  exact ⟨⟨⟨A0, k0, c0, (setCell_ne w 1 0 _ (by omega)).trans h0, hs0.put hm _ _⟩, ⟨A, k, c, World.cell?_setCell_same _ _ _ h1, hs.put hm _ _⟩, (setCell_ne w 1 2 _ (by omega)).trans h.many, (setCell_ne w 1 3 _ (by omega)).trans h.map, own_put h.own hm _ _, fun o => by simpa using h.free o, h.lo, hm, h.nd, h.mem⟩, Hi.Fr.of_grown (grown_setCell _ _ _) (.inr (.inl rfl))⟩
theorem Fa.put2 (h : Fa w b m p O P n C) :
    Fa (w.setCell ⟨p, 2, none⟩ (.int .u64 ((n : Int) + 1))) b m p O P (n + 1) C ∧ Hi.Fr (some p) (some m) w (w.setCell ⟨p, 2, none⟩ (.int .u64 ((n : Int) + 1))) := by
  obtain ⟨A0, k0, c0, h0, hs0⟩ := h.opens
  obtain ⟨A1, k1, c1, h1, hs1⟩ := h.proofs
  have hm := h.lt
  exact ⟨⟨⟨A0, k0, c0, (setCell_ne w 2 0 _ (by omega)).trans h0, hs0.put hm _ _⟩, ⟨A1, k1, c1, (setCell_ne w 2 1 _ (by omega)).trans h1, hs1.put hm _ _⟩, World.cell?_setCell_same _ _ _ h.many, (setCell_ne w 2 3 _ (by omega)).trans h.map, own_put h.own hm _ _, fun o => by simpa using h.free o, h.lo, hm, h.nd, fun x hx => by have := h.mem x hx; omega⟩, Hi.Fr.of_grown (grown_setCell _ _ _) (.inr (.inl rfl))⟩
theorem Fa.shut (h : Fa w b m p O P n C) {w' : World} {x : Int} {q : Nat} (hg : w.grownBy w' (some m)) (ho : w'.ownsMap Tryz.prog 23 (plainElem Tryz.prog 4) m q (Mp.setD .u64 (C ++ [x]))) (hq : q = (C ++ [x]).length) (hx : x ∉ C) (h1 : 1 ≤ x ∧ x ≤ n) :
    Fa w' b m p O P n (C ++ [x]) ∧ Hi.Fr (some p) (some m) w w' := by
  obtain ⟨A0, k0, c0, h0, hs0⟩ := h.opens
  obtain ⟨A1, k1, c1, h1', hs1⟩ := h.proofs
  have hm := h.lt
  have hpl := h.in_
  have hne : some p ≠ some m := fun e => by injection e; omega
  have hb : ∀ g, b ≤ g → g < m → w'.heap[g]? = w.heap[g]? := fun g _ hg' => hg.block g (by omega) (fun e => by injection e; omega)
  subst hq
  refine ⟨⟨⟨A0, k0, c0, hg.cell h0 hne, hs0.same hb⟩, ⟨A1, k1, c1, hg.cell h1' hne, hs1.same hb⟩, hg.cell h.many hne, hg.cell h.map hne, ho, fun o => grown_frozen hg (h.free o) hpl hne, h.lo, hm, ?_, ?_⟩, Hi.Fr.of_grown hg (.inr (.inr rfl))⟩
  · rw [List.nodup_append]
    exact ⟨h.nd, by simp, fun a ha c hc => by simp at hc; subst hc; intro e; subst e; exact hx ha⟩
  · intro y hy
    rcases List.mem_append.1 hy with hy | hy
    · exact h.mem y hy
    · simp at hy; subst hy; exact h1
end

/-- What a script says next, and what is left. -/
def nx : List Bool → Bool × List Bool
  | [] => (true, [])
  | x :: l => (x, l)
/-- The code of an id: never opened, closed, open. -/
def kn (n : Nat) (C : List Int) (id cl : Int) : Int := if id = 0 ∨ (n : Int) < id then 9 else if id ∈ C then cl else 0
abbrev ptr (p : Nat) : Value := .pointer (some ⟨p, 0, none⟩)

theorem next0_any (p b m n : Nat) (O P : List Bool) (C : List Int) (w : World) (h : Fa w b m p O P n C) :
    Calls Tryz.prog 52 #[.pointer (some ⟨p, 0, none⟩)] w fun e w' => e = .returned (.bool (nx O).1) ∧ Fa w' b m p (nx O).2 P n C ∧ Hi.Fr (some p) (some m) w w' := by
  obtain ⟨A, k, c, h0, hs⟩ := h.opens
  cases O with
  | nil =>
    obtain rfl : 0 = k := hs.rd.len
    exact (next_nil p 0 A c w h0).mono fun e w' ⟨h1, h2⟩ => ⟨h1, h2 ▸ h, h2 ▸ Hi.Fr.refl _ _ _⟩
  | cons x l =>
    exact (next_cons p 0 A k c b m x l w h0 (h.free 0) hs h.in_).mono fun e w' ⟨h1, A', k', c', h2, h3⟩ => ⟨h1, h3 ▸ (h.put0 h2).1, h3 ▸ (h.put0 h2).2⟩
theorem next1_any (p b m n : Nat) (O P : List Bool) (C : List Int) (w : World) (h : Fa w b m p O P n C) :
    Calls Tryz.prog 52 #[.pointer (some ⟨p, 1, none⟩)] w fun e w' => e = .returned (.bool (nx P).1) ∧ Fa w' b m p O (nx P).2 n C ∧ Hi.Fr (some p) (some m) w w' := by
  obtain ⟨A, k, c, h0, hs⟩ := h.proofs
  cases P with
  | nil =>
    obtain rfl : 0 = k := hs.rd.len
    exact (next_nil p 1 A c w h0).mono fun e w' ⟨h1, h2⟩ => ⟨h1, h2 ▸ h, h2 ▸ Hi.Fr.refl _ _ _⟩
  | cons x l =>
    exact (next_cons p 1 A k c b m x l w h0 (h.free 1) hs h.in_).mono fun e w' ⟨h1, A', k', c', h2, h3⟩ => ⟨h1, h3 ▸ (h.put1 h2).1, h3 ▸ (h.put1 h2).2⟩

theorem open_nil (w : World) :
    Calls Tryz.prog 27 #[.pointer none] w fun e w' => e = .returned (.tuple #[.int .u64 0, .bool false]) ∧ w = w' := by
  go_enter Tryz.func27, Tryz.ntmps27
  go_wp2_with fail
  exact bodyPost_ret (v := .tuple #[.int .u64 0, .bool false]) (by simp [results, Tryz.results27, go_sem]) rfl ⟨rfl, rfl⟩
theorem open_any (p b m n : Nat) (O P : List Bool) (C : List Int) (w : World) (h : Fa w b m p O P n C) (hn : n < 18446744073709551615) :
    Calls Tryz.prog 27 #[ptr p] w fun e w' => e = .returned (.tuple #[.int .u64 (if (nx O).1 then (n : Int) + 1 else 0), .bool (nx O).1]) ∧ Fa w' b m p (nx O).2 P (if (nx O).1 then n + 1 else n) C ∧ Hi.Fr (some p) (some m) w w' := by
  have N := next0_any p b m n O P C w h
  have HN := Lib.hid N
  have hl := h.in_
  clear N h
  generalize nx O = r at *
  obtain ⟨r1, l⟩ := r
  cases r1
  · go_enter Tryz.func27, Tryz.ntmps27
    go_wp2_with fail
    refine HN.out.mono ?_
    rintro e w1 ⟨rfl, h1, hf1⟩
    go_wp2_with fail
    exact bodyPost_ret (v := .tuple #[.int .u64 0, .bool false]) (by simp [results, Tryz.results27, go_sem]) rfl ⟨rfl, h1, hf1⟩
  · go_enter Tryz.func27, Tryz.ntmps27
    go_wp2_with fail
    refine HN.out.mono ?_
    rintro e w1 ⟨rfl, h1, hf1⟩
    have d2 := h1.many
    have f2 := h1.free 2
    have hl1 := h1.in_
    have H1 := Lib.hid h1
    have HF := Lib.hid hf1
    clear h1 hf1
    go_wp2_with fail
    obtain ⟨q1, q2⟩ := H1.out.put2
    have q3 := HF.out.then q2 (fun k e _ => .inl e.symm) (fun k e _ => .inr e.symm)
    exact bodyPost_ret (v := .tuple #[.int .u64 ((n : Int) + 1), .bool true]) (by simp [results, Tryz.results27, go_sem]) rfl ⟨rfl, q1, q3⟩

theorem wrong_nil (id cl : Int) (w : World) :
    Calls Tryz.prog 53 #[.pointer none, .int .u64 id, .int .i64 cl] w fun e w' => e = .returned (.int .i64 1) ∧ w = w' := by
  go_enter Tryz.func53, Tryz.ntmps53
  go_wp2_with fail
  go_ret
  exact ⟨rfl, rfl⟩
theorem wrong_any (p b m n : Nat) (O P : List Bool) (C : List Int) (id cl : Int) (w : World) (h : Fa w b m p O P n C) (hid : 0 ≤ id ∧ id ≤ 18446744073709551615) :
    Calls Tryz.prog 53 #[ptr p, .int .u64 id, .int .i64 cl] w fun e w' => e = .returned (.int .i64 (kn n C id cl)) ∧ w = w' := by
  have d2 := h.many
  have d3 := h.map
  have hrun := Wl.set_run hid h.own
  by_cases h0 : id = 0
  · subst h0
    have e : kn n C 0 cl = 9 := by simp [kn]
    rw [e]
    clear h hrun
    go_enter Tryz.func53, Tryz.ntmps53
    go_wp2_with fail
    go_ret
    exact ⟨rfl, rfl⟩
  · have q0 : (id == 0) = false := by simpa using h0
    by_cases h1 : (n : Int) < id
    · have q1 : decide ((n : Int) < id) = true := decide_eq_true h1
      have e : kn n C id cl = 9 := by simp [kn, h1]
      rw [e]
      clear h hrun
      go_enter Tryz.func53, Tryz.ntmps53
      go_wp2_with fail
      go_ret
      exact ⟨rfl, rfl⟩
    · have q1 : decide ((n : Int) < id) = false := decide_eq_false h1
      by_cases h2 : id ∈ C
      · have e : kn n C id cl = cl := by simp [kn, h0, h1, h2]
        rw [e]
        rw [decide_eq_true h2] at hrun
        clear h e h2
        go_enter Tryz.func53, Tryz.ntmps53
        go_wp2_with fail
        go_ret
        exact ⟨rfl, rfl⟩
      · have e : kn n C id cl = 0 := by simp [kn, h0, h1, h2]
        rw [e]
        rw [decide_eq_false h2] at hrun
        clear h e h2
        go_enter Tryz.func53, Tryz.ntmps53
        go_wp2_with fail
        go_ret
        exact ⟨rfl, rfl⟩

theorem prove_nil (id : Int) (w : World) :
    Calls Tryz.prog 29 #[.pointer none, .int .u64 id] w fun e w' => e = .returned (.tuple #[.bool false, .int .i64 1]) ∧ w = w' := by
  go_enter Tryz.func29, Tryz.ntmps29
  go_wp2_with fail
  refine (wrong_nil _ _ _).mono ?_
  rintro e w1 ⟨rfl, rfl⟩
  go_wp2_with fail
  exact bodyPost_ret (v := .tuple #[.bool false, .int .i64 1]) (by simp [results, Tryz.results29, go_sem]) rfl ⟨rfl, rfl⟩
theorem prove_any (p b m n : Nat) (O P : List Bool) (C : List Int) (id : Int) (w : World) (h : Fa w b m p O P n C) (hid : 0 ≤ id ∧ id ≤ 18446744073709551615) :
    Calls Tryz.prog 29 #[ptr p, .int .u64 id] w fun e w' => e = .returned (.tuple #[.bool (if kn n C id 6 = 0 then (nx P).1 else false), .int .i64 (kn n C id 6)]) ∧ Fa w' b m p O (if kn n C id 6 = 0 then (nx P).2 else P) n C ∧ Hi.Fr (some p) (some m) w w' := by
  have W := wrong_any p b m n O P C id 6 w h hid
  have N := next1_any p b m n O P C w h
  have hl := h.in_
  have HW := Lib.hid W
  have HN := Lib.hid N
  have HH := Lib.hid h
  clear W N h
  generalize kn n C id 6 = q at *
  generalize nx P = r at *
  obtain ⟨r1, l⟩ := r
  by_cases hq : q = 0
  · subst hq
    simp only [if_true]
    go_enter Tryz.func29, Tryz.ntmps29
    go_wp2_with fail
    refine HW.out.mono ?_
    rintro e w1 ⟨rfl, rfl⟩
    go_wp2_with fail
    refine HN.out.mono ?_
    rintro e w1 ⟨rfl, h1, hf1⟩
    go_wp2_with fail
    exact bodyPost_ret (v := .tuple #[.bool r1, .int .i64 0]) (by simp [results, Tryz.results29, go_sem]) rfl ⟨rfl, h1, hf1⟩
  · simp only [if_neg hq]
    have hb : (q != 0) = true := by simpa using hq
    go_enter Tryz.func29, Tryz.ntmps29
    go_wp2_with fail
    refine HW.out.mono ?_
    rintro e w1 ⟨rfl, rfl⟩
    go_wp2_with fail
    exact bodyPost_ret (v := .tuple #[.bool false, .int .i64 q]) (by simp [results, Tryz.results29, go_sem]) rfl ⟨rfl, HH.out, Hi.Fr.refl _ _ _⟩

theorem close_nil (id : Int) (w : World) :
    Calls Tryz.prog 28 #[.pointer none, .int .u64 id] w fun e w' => e = .returned (.int .i64 1) ∧ w = w' := by
  go_enter Tryz.func28, Tryz.ntmps28
  go_wp2_with fail
  refine (wrong_nil _ _ _).mono ?_
  rintro e w1 ⟨rfl, rfl⟩
  go_wp2_with fail
  go_ret
  exact ⟨rfl, rfl⟩
theorem close_any (p b m n : Nat) (O P : List Bool) (C : List Int) (id : Int) (w : World) (h : Fa w b m p O P n C) (hid : 0 ≤ id ∧ id ≤ 18446744073709551615) (hn : C.length < 1000) :
    Calls Tryz.prog 28 #[ptr p, .int .u64 id] w fun e w' => e = .returned (.int .i64 (kn n C id 10)) ∧ Fa w' b m p O P n (if kn n C id 10 = 0 then C ++ [id] else C) ∧ Hi.Fr (some p) (some m) w w' := by
  have W := wrong_any p b m n O P C id 10 w h hid
  have hl := h.in_
  have d3 := h.map
  have HW := Lib.hid W
  have HH := Lib.hid h
  have hw : (Lit.int .u64 id).wf = true := Wl.wf64 hid
  clear W h
  by_cases hq : kn n C id 10 = 0
  · rw [hq] at HW ⊢
    simp only [if_true]
    have hx : id ∉ C ∧ 1 ≤ id ∧ id ≤ n := by
      unfold kn at hq
      split at hq
      · omega
      · split at hq
        · omega
        · rename_i h1 h2; exact ⟨h2, by omega, by omega⟩
    have HX := Lib.hid hx
    have HO := Lib.hid HH.out.own
    clear hx hq
    go_enter Tryz.func28, Tryz.ntmps28
    go_wp2_with fail
    refine HW.out.mono ?_
    rintro e w1 ⟨rfl, rfl⟩
    go_wp2_with (refine Mp.update_set w rfl _ _ _ 72 rfl 23 4 .u64 Tryz.underlying23 Tryz.underlying72 Tryz.underlying4 m C.length C rfl HO.out (by unfold maxLen; omega) id rfl rfl hw ?_)
    intro w2 ho2 hg2
    have q := HH.out.shut hg2 ho2 (by simp) HX.out.1 HX.out.2
    have HQ := Lib.hid q
    clear ho2 hg2 q
    go_wp2_with fail
    go_ret
    exact ⟨rfl, HQ.out⟩
  · rw [if_neg hq]
    generalize kn n C id 10 = q at *
    have hb : (q != 0) = true := by simpa using hq
    go_enter Tryz.func28, Tryz.ntmps28
    go_wp2_with fail
    refine HW.out.mono ?_
    rintro e w1 ⟨rfl, rfl⟩
    go_wp2_with fail
    go_ret
    exact ⟨rfl, HH.out, Hi.Fr.refl _ _ _⟩

theorem isopen_nil (id : Int) (w : World) :
    Calls Tryz.prog 34 #[.pointer none, .int .u64 id] w fun e w' => e = .returned (.bool false) ∧ w = w' := by
  go_enter Tryz.func34, Tryz.ntmps34
  go_wp2_with fail
  refine (wrong_nil _ _ _).mono ?_
  rintro e w1 ⟨rfl, rfl⟩
  go_wp2_with fail
  go_ret
  exact ⟨rfl, rfl⟩
theorem isopen_any (p b m n : Nat) (O P : List Bool) (C : List Int) (id : Int) (w : World) (h : Fa w b m p O P n C) (hid : 0 ≤ id ∧ id ≤ 18446744073709551615) :
    Calls Tryz.prog 34 #[ptr p, .int .u64 id] w fun e w' => e = .returned (.bool (kn n C id 6 == 0)) ∧ w = w' := by
  have W := wrong_any p b m n O P C id 6 w h hid
  have HW := Lib.hid W
  clear W h
  generalize kn n C id 6 = q at *
  go_enter Tryz.func34, Tryz.ntmps34
  go_wp2_with fail
  refine HW.out.mono ?_
  rintro e w1 ⟨rfl, rfl⟩
  go_wp2_with fail
  go_ret
  exact ⟨rfl, rfl⟩

theorem opened_nil (w : World) :
    Calls Tryz.prog 35 #[.pointer none] w fun e w' => e = .returned (.int .u64 0) ∧ w = w' := by
  go_enter Tryz.func35, Tryz.ntmps35
  go_wp2_with fail
  go_ret
  exact ⟨rfl, rfl⟩
theorem opened_any (p b m n : Nat) (O P : List Bool) (C : List Int) (w : World) (h : Fa w b m p O P n C) :
    Calls Tryz.prog 35 #[ptr p] w fun e w' => e = .returned (.int .u64 n) ∧ w = w' := by
  have d2 := h.many
  clear h
  go_enter Tryz.func35, Tryz.ntmps35
  go_wp2_with fail
  go_ret
  exact ⟨rfl, rfl⟩

theorem closed_nil (w : World) :
    Calls Tryz.prog 36 #[.pointer none] w fun e w' => e = .returned (.int .u64 0) ∧ w = w' := by
  go_enter Tryz.func36, Tryz.ntmps36
  go_wp2_with fail
  go_ret
  exact ⟨rfl, rfl⟩
theorem closed_any (p b m n : Nat) (O P : List Bool) (C : List Int) (w : World) (h : Fa w b m p O P n C) (hn : C.length < 1000) :
    Calls Tryz.prog 36 #[ptr p] w fun e w' => e = .returned (.int .u64 C.length) ∧ w = w' := by
  have d3 := h.map
  have HO := Lib.hid h.own
  have HS : Hid (Maps.size (Mp.setD .u64 C) = C.length) := Lib.hid (Wl.setD_size C h.nd)
  clear h
  have hcl : ((C.length : Int)) ≤ 1000 := by omega
  go_enter Tryz.func36, Tryz.ntmps36
  go_wp2_with (at_len; refine wpList_len_own _ rfl _ 72 rfl 23 4 Tryz.underlying72 _ m C.length (Mp.setD .u64 C) rfl HO.out ?_; rw [show Maps.size (Mp.setD .u64 C) = C.length from HS.out])
  go_ret
  exact ⟨rfl, rfl⟩
end Go.Proofs.YtmnjdmcocifogaaGreatDoor.Fc
