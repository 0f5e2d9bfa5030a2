/- A part of the claim: the texts Base4. -/
import Derived.Test.YthmdiaingolfnaaGreatDoorZBase2
import Derived.Test.YthmdiaingolfnaaGreatDoorRows
import Derived.Test.YthmdiaingolfnaaGreatDoorZBase1
import Derived.Test.YthmdiaingolfnaaGreatDoorZBase3
import Derived.Shelf.SlMaps.Clone
namespace Go.Proofs.YthmdiaingolfnaaGreatDoor.Wl
open Go.ChangeShapes Go.WideShapes Go.ChangeAt Go.RowKit Go.Maps Rw Sl Sn Ck
set_option linter.unusedVariables false
theorem setD_has (acc : List Int) (x : Int) : Maps.has (Mp.setD .u64 acc) (.int .u64 x) = decide (x ∈ acc) := by
  unfold Mp.setD
  rw [Maps.has_setOf _ _ _ (fun y hy => by obtain ⟨z, _, rfl⟩ := List.mem_map.1 hy; trivial), List.any_map, Bool.eq_iff_iff, List.any_eq_true, decide_eq_true_eq]
  constructor
  · rintro ⟨y, hy, h⟩
    have : y = x := by simpa [Lit.sameKey] using h
    exact this ▸ hy
  · intro h
    exact ⟨x, h, by simp [Lit.sameKey]⟩
theorem setD_tidy (acc : List Int) : Maps.Tidy (Mp.setD .u64 acc) := by
  unfold Mp.setD
  exact Maps.tidy_setOf _ _ (fun y hy => by obtain ⟨z, _, rfl⟩ := List.mem_map.1 hy; trivial)
theorem setD_size : ∀ (acc : List Int), acc.Nodup → Maps.size (Mp.setD .u64 acc) = acc.length := by
  intro acc
  induction h : acc.length generalizing acc with
  | zero =>
    intro _
    obtain rfl := List.eq_nil_of_length_eq_zero h
    rfl
  | succ n ih =>
    intro hn
    obtain ⟨l, y, rfl⟩ : ∃ l y, acc = l ++ [y] := ⟨acc.dropLast, acc.getLast (by intro e; simp [e] at h), (List.dropLast_concat_getLast _).symm⟩
    rw [List.nodup_append] at hn
    have hl : l.length = n := by simpa using h
    have hy : y ∉ l := fun hm => hn.2.2 y hm y (by simp) rfl
    rw [Mp.setD_snoc, Maps.size_put (setD_tidy l), setD_has, decide_eq_false hy, ih l hl hn.1]
    simp
theorem set_run_gen {P : Program} (w : World) (t k e : TypeId) (q : IntKind) (hk : P.underlying k = some (.int q)) (ht : P.underlying t = some (.map k e)) (he : P.underlying e = some .bool) (hz : (zeroValue e).run P w = .ok (.bool false) w) (b n : Nat) (acc : List Int)
    (hown : w.ownsMap P k (plainElem P e) b n (Mp.setD q acc)) (y : Int) (hw : (Lit.int q y).wf = true) :
    (Instr.lookup t (.map (some b)) (.int q y) false).run P w = .ok (.bool (decide (y ∈ acc))) w := by
  obtain ⟨v, ps, hrun, hv⟩ := hown.lookup (int_keyed hk) ht hz (plainElem_bool he false) (keyOf_int_mk hk hw)
  rw [Mp.setD_at] at hv
  have hv' : v = .bool (decide (y ∈ acc)) := by
    unfold plainElem at hv
    rw [he] at hv
    cases v <;> simp at hv
    rw [hv.1]
  subst hv'
  exact hrun
theorem set_run {w : World} {b n : Nat} {acc : List Int} {y : Int} (hy : 0 ≤ y ∧ y ≤ 18446744073709551615) (ho : w.ownsMap Tryz.prog 22 (plainElem Tryz.prog 4) b n (Mp.setD .u64 acc)) :
    (Instr.lookup 102 (.map (some b)) (.int .u64 y) false).run Tryz.prog w = .ok (.bool (decide (y ∈ acc))) w :=
  set_run_gen w _ _ _ .u64 Tryz.underlying22 Tryz.underlying102 Tryz.underlying4 (Sn.zero_bool w) b n acc ho y (wf64 hy)
end Go.Proofs.YthmdiaingolfnaaGreatDoor.Wl
namespace Go.Proofs.YthmdiaingolfnaaGreatDoor.Sf
open Go.ChangeShapes Go.WideShapes Go.ChangeAt Go.RowKit Rw Go.Shelf
set_option linter.unusedVariables false
end Go.Proofs.YthmdiaingolfnaaGreatDoor.Sf
namespace Go.Proofs.YthmdiaingolfnaaGreatDoor.Fc
open Go.ChangeShapes Go.WideShapes Go.ChangeAt Go.RowKit Go.Maps Rw
set_option linter.unusedVariables false
theorem info_bool : (Tryz.prog.info? 4).map (fun i => (i.zero, i.size, i.bytes)) = some (some (.bool false), 1, 1) := by kernel_rfl
theorem one_bool (y : Bool) : (Value.bool y).oneCell' = true := rfl
theorem bclone_any (A : Option Addr) (n c : Nat) (xs : List Bool) (B : Nat) (w : World) (h : Rd Value.bool w B A n c xs) (hB : B ≤ w.heap.size) (hreach : n * 1 ≤ 140737488355328) :
    Calls Tryz.prog 78 #[.slice A n c] w fun e w' => ∃ A' c', e = .returned (.slice A' n c') ∧ w'.ownsRow w.heap.size 4 1 (.slice A' n c') n (xs.map Value.bool) ∧ Below w.heap.size w w' := by
  have hn : n ≤ 9223372036854775807 := by have := h.cap; have := h.top; omega
  obtain ⟨i0, hi, hz0, hz1, hz2⟩ := info_parts info_bool
  cases A with
  | none =>
    have h0 : n = 0 := by
      rcases Nat.eq_zero_or_pos n with h0 | h0
      · exact h0
      · obtain ⟨b, o, e, _⟩ := h.at_ h0
        cases e
    subst h0
    obtain rfl := List.eq_nil_of_length_eq_zero h.len
    clear h
    have hk := @Lib.run_eql_slice_nil Tryz.prog
    go_enter Tryz.func78, Tryz.ntmps78
    go_wp2
    go_ret
    exact ⟨_, _, rfl, World.ownsRow_nil _ _ _ _, Below.refl _ _⟩
  | some a =>
    have HR := Lib.hid h
    clear h
    have hk := @Lib.run_eql_slice_nil Tryz.prog
    go_enter Tryz.func78, Tryz.ntmps78
    go_wp2_with (at_builtin; refine append_rd _ rfl _ _ 25 rfl w.heap.size 4 i0 (.bool false) 1 Tryz.underlying25 hi hz0 hz1 hz2 rfl _ 0 [] rfl (World.ownsRow_lit _ #[] 0 (Nat.le_refl _) (by decide) rfl) B (some a) n c xs rfl (HR.out.alloc hB _) one_bool n (Nat.zero_add _) (xs.map Value.bool) rfl ?_ ?_ ?_ ?_)
    · unfold maxLen; omega
    · omega
    · simp
    · intro A' c' w' hown hg hat
      go_wp2
      go_ret
      refine ⟨A', c', rfl, hown, ((Below.refl _ _).alloc (Nat.le_refl _) _).grown hg (by simp) (fun k hk => ?_)⟩
      simp [Value.ownBlock] at hk
      omega
structure Scr (w : World) (b m : Nat) (A : Option Addr) (k c : Nat) (O : List Bool) : Prop where
  rd : Rd Value.bool w m A k c O
  lo : 0 < k → ∃ g o, A = some ⟨g, o, none⟩ ∧ b ≤ g
theorem Scr.same {w w' : World} {b m : Nat} {A : Option Addr} {k c : Nat} {O : List Bool} (h : Scr w b m A k c O) (hk : ∀ g, b ≤ g → g < m → w'.heap[g]? = w.heap[g]?) : Scr w' b m A k c O :=
  ⟨⟨h.rd.len, h.rd.cap, h.rd.top, fun hn => by
    obtain ⟨g, o, e, hb, hc⟩ := h.rd.at_ hn
    obtain ⟨g', o', e', hb'⟩ := h.lo hn
    rw [e] at e'
    injection e' with e'
    injection e' with e1 e2
    subst e1 e2
    refine ⟨g, o, e, hb, fun j x hx => ?_⟩
    rw [← hc j x hx]
    unfold World.cell?
    simp only [hk g hb' hb]⟩, h.lo⟩
theorem Scr.of_own {w : World} {b m : Nat} {A : Option Addr} {k c : Nat} {O : List Bool} (h : w.ownsRow b 4 1 (.slice A k c) k (O.map Value.bool)) (hm : w.heap.size ≤ m) : Scr w b m A k c O := by
  refine ⟨(Rd.own_rd h).more hm, fun hk => ?_⟩
  rcases h.2 with ⟨e, e0⟩ | ⟨g, cap, cur, e, hbg, _⟩
  · omega
  · injection e with e1 _ _
    exact ⟨g, 0, e1, hbg⟩
structure Fa (w : World) (b m p : Nat) (O P : List Bool) (n : Nat) (C : List Int) : Prop where
  opens : ∃ A k c, w.cell? ⟨p, 0, none⟩ = some (.slice A k c) ∧ Scr w b m A k c O
  proofs : ∃ A k c, w.cell? ⟨p, 1, none⟩ = some (.slice A k c) ∧ Scr w b m A k c P
  many : w.cell? ⟨p, 2, none⟩ = some (.int .u64 n)
  map : w.cell? ⟨p, 3, none⟩ = some (.map (some m))
  own : w.ownsMap Tryz.prog 22 (plainElem Tryz.prog 4) m C.length (Mp.setD .u64 C)
  free : ∀ o, w.frozen? ⟨p, o, none⟩ = false
  lo : b ≤ m
  lt : m < p
  nd : C.Nodup
  mem : ∀ x ∈ C, 1 ≤ x ∧ x ≤ n
theorem Fa.in_ {w : World} {b m p n : Nat} {O P : List Bool} {C : List Int} (h : Fa w b m p O P n C) : p < w.heap.size := Lw.lt_heap h.many
theorem Fa.same {w w' : World} {b m p n : Nat} {O P : List Bool} {C : List Int} (h : Fa w b m p O P n C) (hk : ∀ g, b ≤ g → g ≤ p → w'.heap[g]? = w.heap[g]?) : Fa w' b m p O P n C := by
  have hlo := h.lo
  have hlt := h.lt
  have hp := hk p (by omega) (Nat.le_refl _)
  have hc : ∀ o, w'.cell? ⟨p, o, none⟩ = w.cell? ⟨p, o, none⟩ := fun o => by unfold World.cell?; simp only [hp]
  have hf : ∀ o, w'.frozen? ⟨p, o, none⟩ = w.frozen? ⟨p, o, none⟩ := fun o => by unfold World.frozen?; simp only [hp]
  obtain ⟨A, k, c, h1, h2⟩ := h.opens
  obtain ⟨A', k', c', h1', h2'⟩ := h.proofs
  obtain ⟨es, clock, hb, hr⟩ := h.own
  exact ⟨⟨A, k, c, (hc 0).trans h1, h2.same fun g q1 q2 => hk g q1 (by omega)⟩, ⟨A', k', c', (hc 1).trans h1', h2'.same fun g q1 q2 => hk g q1 (by omega)⟩, (hc 2).trans h.many, (hc 3).trans h.map, ⟨es, clock, (hk m h.lo (by omega)).trans hb, hr⟩, fun o => (hf o).trans (h.free o), h.lo, h.lt, h.nd, h.mem⟩
theorem Fa.later {w w' : World} {b m p n : Nat} {O P : List Bool} {C : List Int} (h : Fa w b m p O P n C) (hb : Below w.heap.size w w') : Fa w' b m p O P n C :=
  h.same fun g _ hg => hb.block g (by have := h.in_; omega)
theorem next_nil (p i : Nat) (A : Option Addr) (c : Nat) (w : World) (h0 : w.cell? ⟨p, i, none⟩ = some (.slice A 0 c)) :
    Calls Tryz.prog 39 #[.pointer (some ⟨p, i, none⟩)] w fun e w' => e = .returned (.bool true) ∧ w = w' := by
  go_enter Tryz.func39, Tryz.ntmps39
  go_wp2_with fail
  go_ret
  exact ⟨rfl, rfl⟩
theorem next_cons (p i : Nat) (A : Option Addr) (k c b m : Nat) (x : Bool) (l : List Bool) (w : World) (h0 : w.cell? ⟨p, i, none⟩ = some (.slice A k c)) (hf : w.frozen? ⟨p, i, none⟩ = false) (h : Scr w b m A k c (x :: l)) (hp : p < w.heap.size) :
    Calls Tryz.prog 39 #[.pointer (some ⟨p, i, none⟩)] w fun e w' => e = .returned (.bool x) ∧ ∃ A' k' c', Scr w b m A' k' c' l ∧ w.setCell ⟨p, i, none⟩ (.slice A' k' c') = w' := by
  obtain ⟨hr, hlo⟩ := h
  have hn : (x :: l).length = k := hr.len
  simp at hn
  have hnc := hr.cap
  have htop := hr.top
  obtain ⟨g, o, y, rfl, hg, hx, hcx⟩ := hr.get (k := 0) (by omega)
  obtain rfl : x = y := by simpa using hx
  obtain ⟨g', o', e, hbg⟩ := hlo (by omega)
  injection e with e
  injection e with e1 e2
  subst e1 e2
  have hz : ((k : Int) == 0) = false := by simp; omega
  have hz' : (k == 0) = false := by simp; omega
  have HR := Lib.hid hr
  have hn1 : 1 ≤ k := by omega
  simp only [Nat.add_zero] at hcx
  have HN := Lib.hid hn
  clear hr hlo hx hn
  by_cases hc1 : c = 1
  · subst hc1
    obtain rfl : k = 1 := by omega
    go_enter Tryz.func39, Tryz.ntmps39
    go_wp2_with fail
    go_ret
    exact ⟨rfl, _, _, _, ⟨HR.out.back (i := 1) (A' := some ⟨g, o, none⟩) (by omega) rfl (by omega), fun hk => (by omega)⟩, rfl⟩
  · have hc2 : 1 < c := by omega
    go_enter Tryz.func39, Tryz.ntmps39
    go_wp2_with fail
    go_ret
    exact ⟨rfl, _, _, _, ⟨HR.out.back (i := 1) (A' := some ⟨g, o + 1, none⟩) (by omega) rfl (fun _ => rfl), fun hk => ⟨g, o + 1, rfl, hbg⟩⟩, rfl⟩
end Go.Proofs.YthmdiaingolfnaaGreatDoor.Fc
namespace Go.Proofs.YthmdiaingolfnaaGreatDoor.Fc
open Go.ChangeShapes Go.WideShapes Go.ChangeAt Go.RowKit Go.Maps Rw
set_option linter.unusedVariables false
theorem grown_setCell (w : World) (a : Addr) (u : Value) : w.grownBy (w.setCell a u) (some a.block) :=
  ⟨rfl, rfl, rfl, by simp, fun k _ hk => heap_setCell_other w a k u (fun e => hk (by rw [e]))⟩
section
variable {w : World} {b m p n : Nat} {O P : List Bool} {C : List Int}
theorem setCell_ne (w : World) {p : Nat} (i o : Nat) (u : Value) (h : i ≠ o) : (w.setCell ⟨p, i, none⟩ u).cell? ⟨p, o, none⟩ = w.cell? ⟨p, o, none⟩ :=
  World.cell?_setCell_other _ _ _ _ (fun e => by injection e with _ e; exact h e)
theorem Scr.put {A : Option Addr} {k c : Nat} {l : List Bool} (h : Scr w b m A k c l) (hm : m < p) (i : Nat) (u : Value) : Scr (w.setCell ⟨p, i, none⟩ u) b m A k c l :=
  h.same fun g _ hg => heap_setCell_other w _ g _ (fun e => by have : g = p := e; omega)
theorem own_put {k : TypeId} {R : Value → Option (DataW Unit × List MemPlace)} {q : Nat} {D : DataW Unit} (h : w.ownsMap Tryz.prog k R m q D) (hm : m < p) (i : Nat) (u : Value) : (w.setCell ⟨p, i, none⟩ u).ownsMap Tryz.prog k R m q D := by
  obtain ⟨es, clock, hb, hr⟩ := h
  exact ⟨es, clock, (heap_setCell_other w _ m _ (fun e => by have : m = p := e; omega)).trans hb, hr⟩
theorem Fa.put0 (h : Fa w b m p O P n C) {A : Option Addr} {k c : Nat} {l : List Bool} (hs : Scr w b m A k c l) :
    Fa (w.setCell ⟨p, 0, none⟩ (.slice A k c)) b m p l P n C ∧ Hi.Fr (some p) (some m) w (w.setCell ⟨p, 0, none⟩ (.slice A k c)) := by
  obtain ⟨A0, k0, c0, h0, -⟩ := h.opens
  obtain ⟨A1, k1, c1, h1, hs1⟩ := h.proofs
  have hm := h.lt
  exact ⟨⟨⟨A, k, c, World.cell?_setCell_same _ _ _ h0, hs.put hm _ _⟩, ⟨A1, k1, c1, (setCell_ne w 0 1 _ (by omega)).trans h1, hs1.put hm _ _⟩, (setCell_ne w 0 2 _ (by omega)).trans h.many, (setCell_ne w 0 3 _ (by omega)).trans h.map, own_put h.own hm _ _, fun o => by simpa using h.free o, h.lo, hm, h.nd, h.mem⟩, Hi.Fr.of_grown (grown_setCell _ _ _) (.inr (.inl rfl))⟩
theorem Fa.put1 (h : Fa w b m p O P n C) {A : Option Addr} {k c : Nat} {l : List Bool} (hs : Scr w b m A k c l) :
    Fa (w.setCell ⟨p, 1, none⟩ (.slice A k c)) b m p O l n C ∧ Hi.Fr (some p) (some m) w (w.setCell ⟨p, 1, none⟩ (.slice A k c)) := by
  obtain ⟨A0, k0, c0, h0, hs0⟩ := h.opens
  obtain ⟨A1, k1, c1, h1, hs1⟩ := h.proofs
  have hm := h.lt
  exact ⟨⟨⟨A0, k0, c0, (setCell_ne w 1 0 _ (by omega)).trans h0, hs0.put hm _ _⟩, ⟨A, k, c, World.cell?_setCell_same _ _ _ h1, hs.put hm _ _⟩, (setCell_ne w 1 2 _ (by omega)).trans h.many, (setCell_ne w 1 3 _ (by omega)).trans h.map, own_put h.own hm _ _, fun o => by simpa using h.free o, h.lo, hm, h.nd, h.mem⟩, Hi.Fr.of_grown (grown_setCell _ _ _) (.inr (.inl rfl))⟩
theorem Fa.put2 (h : Fa w b m p O P n C) :
    Fa (w.setCell ⟨p, 2, none⟩ (.int .u64 ((n : Int) + 1))) b m p O P (n + 1) C ∧ Hi.Fr (some p) (some m) w (w.setCell ⟨p, 2, none⟩ (.int .u64 ((n : Int) + 1))) := by
  obtain ⟨A0, k0, c0, h0, hs0⟩ := h.opens
  obtain ⟨A1, k1, c1, h1, hs1⟩ := h.proofs
  have hm := h.lt
  exact ⟨⟨⟨A0, k0, c0, (setCell_ne w 2 0 _ (by omega)).trans h0, hs0.put hm _ _⟩, ⟨A1, k1, c1, (setCell_ne w 2 1 _ (by omega)).trans h1, hs1.put hm _ _⟩, World.cell?_setCell_same _ _ _ h.many, (setCell_ne w 2 3 _ (by omega)).trans h.map, own_put h.own hm _ _, fun o => by simpa using h.free o, h.lo, hm, h.nd, fun x hx => by have := h.mem x hx; omega⟩, Hi.Fr.of_grown (grown_setCell _ _ _) (.inr (.inl rfl))⟩
theorem Fa.shut (h : Fa w b m p O P n C) {w' : World} {x : Int} {q : Nat} (hg : w.grownBy w' (some m)) (ho : w'.ownsMap Tryz.prog 22 (plainElem Tryz.prog 4) m q (Mp.setD .u64 (C ++ [x]))) (hq : q = (C ++ [x]).length) (hx : x ∉ C) (h1 : 1 ≤ x ∧ x ≤ n) :
    Fa w' b m p O P n (C ++ [x]) ∧ Hi.Fr (some p) (some m) w w' := by
  obtain ⟨A0, k0, c0, h0, hs0⟩ := h.opens
  obtain ⟨A1, k1, c1, h1', hs1⟩ := h.proofs
  have hm := h.lt
  have hpl := h.in_
  have hne : some p ≠ some m := fun e => by injection e; omega
  have hb : ∀ g, b ≤ g → g < m → w'.heap[g]? = w.heap[g]? := fun g _ hg' => hg.block g (by omega) (fun e => by injection e; omega)
  subst hq
  refine ⟨⟨⟨A0, k0, c0, hg.cell h0 hne, hs0.same hb⟩, ⟨A1, k1, c1, hg.cell h1' hne, hs1.same hb⟩, hg.cell h.many hne, hg.cell h.map hne, ho, fun o => grown_frozen hg (h.free o) hpl hne, h.lo, hm, ?_, ?_⟩, Hi.Fr.of_grown hg (.inr (.inr rfl))⟩
  · rw [List.nodup_append]
    exact ⟨h.nd, by simp, fun a ha c hc => by simp at hc; subst hc; intro e; subst e; exact hx ha⟩
  · intro y hy
    rcases List.mem_append.1 hy with hy | hy
    · exact h.mem y hy
    · simp at hy; subst hy; exact h1
end
def nx : List Bool → Bool × List Bool
  | [] => (true, [])
  | x :: l => (x, l)
def kn (n : Nat) (C : List Int) (id cl : Int) : Int := if id = 0 ∨ (n : Int) < id then 9 else if id ∈ C then cl else 0
abbrev ptr (p : Nat) : Value := .pointer (some ⟨p, 0, none⟩)
theorem next0_any (p b m n : Nat) (O P : List Bool) (C : List Int) (w : World) (h : Fa w b m p O P n C) :
    Calls Tryz.prog 39 #[.pointer (some ⟨p, 0, none⟩)] w fun e w' => e = .returned (.bool (nx O).1) ∧ Fa w' b m p (nx O).2 P n C ∧ Hi.Fr (some p) (some m) w w' := by
  obtain ⟨A, k, c, h0, hs⟩ := h.opens
  cases O with
  | nil =>
    obtain rfl : 0 = k := hs.rd.len
    exact (next_nil p 0 A c w h0).mono fun e w' ⟨h1, h2⟩ => ⟨h1, h2 ▸ h, h2 ▸ Hi.Fr.refl _ _ _⟩
  | cons x l =>
    exact (next_cons p 0 A k c b m x l w h0 (h.free 0) hs h.in_).mono fun e w' ⟨h1, A', k', c', h2, h3⟩ => ⟨h1, h3 ▸ (h.put0 h2).1, h3 ▸ (h.put0 h2).2⟩
theorem open_any (p b m n : Nat) (O P : List Bool) (C : List Int) (w : World) (h : Fa w b m p O P n C) (hn : n < 18446744073709551615) :
    Calls Tryz.prog 8 #[ptr p] w fun e w' => e = .returned (.tuple #[.int .u64 (if (nx O).1 then (n : Int) + 1 else 0), .bool (nx O).1]) ∧ Fa w' b m p (nx O).2 P (if (nx O).1 then n + 1 else n) C ∧ Hi.Fr (some p) (some m) w w' := by
  have N := next0_any p b m n O P C w h
  have HN := Lib.hid N
  have hl := h.in_
  clear N h
  generalize nx O = r at *
  obtain ⟨r1, l⟩ := r
  cases r1
  · go_enter Tryz.func8, Tryz.ntmps8
    go_wp2_with fail
    refine HN.out.mono ?_
    rintro e w1 ⟨rfl, h1, hf1⟩
    go_wp2_with fail
    exact bodyPost_ret (v := .tuple #[.int .u64 0, .bool false]) (by simp [results, Tryz.results8, go_sem]) rfl ⟨rfl, h1, hf1⟩
  · go_enter Tryz.func8, Tryz.ntmps8
    go_wp2_with fail
    refine HN.out.mono ?_
    rintro e w1 ⟨rfl, h1, hf1⟩
    have d2 := h1.many
    have f2 := h1.free 2
    have hl1 := h1.in_
    have H1 := Lib.hid h1
    have HF := Lib.hid hf1
    clear h1 hf1
    go_wp2_with fail
    obtain ⟨q1, q2⟩ := H1.out.put2
    have q3 := HF.out.then q2 (fun k e _ => .inl e.symm) (fun k e _ => .inr e.symm)
    exact bodyPost_ret (v := .tuple #[.int .u64 ((n : Int) + 1), .bool true]) (by simp [results, Tryz.results8, go_sem]) rfl ⟨rfl, q1, q3⟩
theorem wrong_any (p b m n : Nat) (O P : List Bool) (C : List Int) (id cl : Int) (w : World) (h : Fa w b m p O P n C) (hid : 0 ≤ id ∧ id ≤ 18446744073709551615) :
    Calls Tryz.prog 62 #[ptr p, .int .u64 id, .int .i64 cl] w fun e w' => e = .returned (.int .i64 (kn n C id cl)) ∧ w = w' := by
  have d2 := h.many
  have d3 := h.map
  have hrun := Wl.set_run hid h.own
  by_cases h0 : id = 0
  · subst h0
    have e : kn n C 0 cl = 9 := by simp [kn]
    rw [e]
    clear h hrun
    go_enter Tryz.func62, Tryz.ntmps62
    go_wp2_with fail
    go_ret
    exact ⟨rfl, rfl⟩
  · have q0 : (id == 0) = false := by simpa using h0
    by_cases h1 : (n : Int) < id
    · have q1 : decide ((n : Int) < id) = true := decide_eq_true h1
      have e : kn n C id cl = 9 := by simp [kn, h1]
      rw [e]
      clear h hrun
      go_enter Tryz.func62, Tryz.ntmps62
      go_wp2_with fail
      go_ret
      exact ⟨rfl, rfl⟩
    · have q1 : decide ((n : Int) < id) = false := decide_eq_false h1
      by_cases h2 : id ∈ C
      · have e : kn n C id cl = cl := by simp [kn, h0, h1, h2]
        rw [e]
        rw [decide_eq_true h2] at hrun
        clear h e h2
        go_enter Tryz.func62, Tryz.ntmps62
        go_wp2_with fail
        go_ret
        exact ⟨rfl, rfl⟩
      · have e : kn n C id cl = 0 := by simp [kn, h0, h1, h2]
        rw [e]
        rw [decide_eq_false h2] at hrun
        clear h e h2
        go_enter Tryz.func62, Tryz.ntmps62
        go_wp2_with fail
        go_ret
        exact ⟨rfl, rfl⟩
theorem close_any (p b m n : Nat) (O P : List Bool) (C : List Int) (id : Int) (w : World) (h : Fa w b m p O P n C) (hid : 0 ≤ id ∧ id ≤ 18446744073709551615) (hn : C.length < 1000) :
    Calls Tryz.prog 59 #[ptr p, .int .u64 id] w fun e w' => e = .returned (.int .i64 (kn n C id 10)) ∧ Fa w' b m p O P n (if kn n C id 10 = 0 then C ++ [id] else C) ∧ Hi.Fr (some p) (some m) w w' := by
  have W := wrong_any p b m n O P C id 10 w h hid
  have hl := h.in_
  have d3 := h.map
  have HW := Lib.hid W
  have HH := Lib.hid h
  have hw : (Lit.int .u64 id).wf = true := Wl.wf64 hid
  clear W h
  by_cases hq : kn n C id 10 = 0
  · rw [hq] at HW ⊢
    simp only [if_true]
    have hx : id ∉ C ∧ 1 ≤ id ∧ id ≤ n := by
      unfold kn at hq
      split at hq
      · omega
      · split at hq
        · omega
        · rename_i h1 h2; exact ⟨h2, by omega, by omega⟩
    have HX := Lib.hid hx
    have HO := Lib.hid HH.out.own
    clear hx hq
    go_enter Tryz.func59, Tryz.ntmps59
    go_wp2_with fail
    refine HW.out.mono ?_
    rintro e w1 ⟨rfl, rfl⟩
    go_wp2_with (refine Mp.update_set w rfl _ _ _ 102 rfl 22 4 .u64 Tryz.underlying22 Tryz.underlying102 Tryz.underlying4 m C.length C rfl HO.out (by unfold maxLen; omega) id rfl rfl hw ?_)
    intro w2 ho2 hg2
    have q := HH.out.shut hg2 ho2 (by simp) HX.out.1 HX.out.2
    have HQ := Lib.hid q
    clear ho2 hg2 q
    go_wp2_with fail
    go_ret
    exact ⟨rfl, HQ.out⟩
  · rw [if_neg hq]
    generalize kn n C id 10 = q at *
    have hb : (q != 0) = true := by simpa using hq
    go_enter Tryz.func59, Tryz.ntmps59
    go_wp2_with fail
    refine HW.out.mono ?_
    rintro e w1 ⟨rfl, rfl⟩
    go_wp2_with fail
    go_ret
    exact ⟨rfl, HH.out, Hi.Fr.refl _ _ _⟩
theorem isopen_any (p b m n : Nat) (O P : List Bool) (C : List Int) (id : Int) (w : World) (h : Fa w b m p O P n C) (hid : 0 ≤ id ∧ id ≤ 18446744073709551615) :
    Calls Tryz.prog 16 #[ptr p, .int .u64 id] w fun e w' => e = .returned (.bool (kn n C id 6 == 0)) ∧ w = w' := by
  have W := wrong_any p b m n O P C id 6 w h hid
  have HW := Lib.hid W
  clear W h
  generalize kn n C id 6 = q at *
  go_enter Tryz.func16, Tryz.ntmps16
  go_wp2_with fail
  refine HW.out.mono ?_
  rintro e w1 ⟨rfl, rfl⟩
  go_wp2_with fail
  go_ret
  exact ⟨rfl, rfl⟩
theorem closed_any (p b m n : Nat) (O P : List Bool) (C : List Int) (w : World) (h : Fa w b m p O P n C) (hn : C.length < 1000) :
    Calls Tryz.prog 14 #[ptr p] w fun e w' => e = .returned (.int .u64 C.length) ∧ w = w' := by
  have d3 := h.map
  have HO := Lib.hid h.own
  have HS : Hid (Maps.size (Mp.setD .u64 C) = C.length) := Lib.hid (Wl.setD_size C h.nd)
  clear h
  have hcl : ((C.length : Int)) ≤ 1000 := by omega
  go_enter Tryz.func14, Tryz.ntmps14
  go_wp2_with (at_len; refine wpList_len_own _ rfl _ 102 rfl 22 4 Tryz.underlying102 _ m C.length (Mp.setD .u64 C) rfl HO.out ?_; rw [show Maps.size (Mp.setD .u64 C) = C.length from HS.out])
  go_ret
  exact ⟨rfl, rfl⟩
end Go.Proofs.YthmdiaingolfnaaGreatDoor.Fc
namespace Go.Proofs.YthmdiaingolfnaaGreatDoor.Fc
open Go.ChangeShapes Go.WideShapes Go.ChangeAt Go.RowKit Go.Maps Rw
set_option linter.unusedVariables false
def ids (C : List Int) : Nat → List Int
  | 0 => []
  | k + 1 => if ((k : Int) + 1) ∈ C then ids C k else ids C k ++ [(k : Int) + 1]
theorem info_u64 : (Tryz.prog.info? 22).map (fun i => (i.zero, i.size, i.bytes)) = some (some (.int .u64 0), 1, 8) := by kernel_rfl
theorem one_u64 (y : Int) : (Value.int .u64 y).oneCell' = true := rfl
theorem own_scr {w w' : World} {b m : Nat} {A : Option Addr} {k c : Nat} {O : List Bool} (h : w.ownsRow b 4 1 (.slice A k c) k (O.map Value.bool)) (hb : Below w.heap.size w w') (hm : w.heap.size ≤ m) : Scr w' b m A k c O := by
  have h1 := Scr.of_own (m := w.heap.size) h (Nat.le_refl _)
  have h2 := h1.same (w' := w') fun g _ hg => hb.block g hg
  exact ⟨h2.rd.more hm, h2.lo⟩
theorem new_any (A : Option Addr) (k c B : Nat) (O : List Bool) (A' : Option Addr) (k' c' B' : Nat) (P : List Bool) (w : World) (h : Rd Value.bool w B A k c O) (h' : Rd Value.bool w B' A' k' c' P) (hB : B ≤ w.heap.size) (hB' : B' ≤ w.heap.size) (hk : k ≤ 1000) (hk' : k' ≤ 1000) :
    Calls Tryz.prog 37 #[.slice A k c, .slice A' k' c'] w fun e w' => ∃ m p, e = .returned (ptr p) ∧ Fa w' w.heap.size m p O P 0 [] ∧ Below w.heap.size w w' := by
  have hmm := @run_makeMap Tryz.prog
  have HR := Lib.hid h
  have HR' := Lib.hid h'
  clear h h'
  go_enter Tryz.func37, Tryz.ntmps37
  go_wp2_with fail
  refine (bclone_any A k c O B _ HR.out hB (by omega)).mono ?_
  rintro e w1 ⟨A1, c1, rfl, ho1, hb1⟩
  have hr' : Rd Value.bool w1 B' A' k' c' P := HR'.out.keep fun p hp => hb1.cell (by omega)
  have HR1 := Lib.hid hr'
  have HO1 := Lib.hid ho1
  have HB1 := Lib.hid hb1
  clear ho1 hb1 hr'
  go_wp2_with fail
  refine (bclone_any A' k' c' P B' _ HR1.out (by have := HB1.out.size; omega) (by omega)).mono ?_
  rintro e w2 ⟨A2, c2, rfl, ho2, hb2⟩
  have HO2 := Lib.hid (own_mono ho2 HB1.out.size)
  have HB2 := Lib.hid hb2
  clear ho2 hb2
  go_wp2_with fail
  go_ret
  have b12 := HB1.out.trans (HB2.out.mono HB1.out.size)
  have hs := b12.size
  refine ⟨w2.heap.size, w2.heap.size + 1, rfl, ⟨⟨A1, k, c1, by go_simp, own_scr HO1.out (HB2.out.trans ((((Below.refl w2.heap.size w2).alloc (Nat.le_refl _) _).alloc (by simp) _).mono HB2.out.size)) HB2.out.size⟩, ⟨A2, k', c2, by go_simp, own_scr HO2.out (((Below.refl w2.heap.size w2).alloc (Nat.le_refl _) _).alloc (by simp) _) (Nat.le_refl _)⟩, by go_simp, by go_simp, (World.ownsMap_made w2 _ _ _).alloc _, ?_, hs, by omega, List.nodup_nil, fun x hx => by cases hx⟩, b12.trans ((((Below.refl w2.heap.size w2).alloc (Nat.le_refl _) _).alloc (by simp) _).mono hs)⟩
  intro o
  simp
set_option maxHeartbeats 1000000 in
set_option maxRecDepth 100000 in
theorem awake10_any (w : World) (hT : Tx.Tab w) :
    Calls Tryz.prog 234 #[] w fun e w' => e = .returned (.bool true) ∧ Below w.heap.size w w' := by
  have HT := Lib.hid hT
  clear hT
  go_enter Tryz.func234, Tryz.ntmps234
  go_wp2_with fail
  refine (new_any _ 1 1 _ [false] none 0 0 0 [] _ (rd_one w false _) Rd.nil_ (by simp) (by omega) (by omega) (by omega)).mono ?_
  rintro e w1 ⟨m, p, rfl, h1, hb1⟩
  have b1 : Below w.heap.size w w1 := ((Below.refl _ _).alloc (Nat.le_refl _) _).trans (hb1.mono (by simp))
  have hlo := h1.lo
  have hlt := h1.lt
  simp at hlo
  clear hb1
  go_wp2_with fail
  refine (open_any p _ m 0 [false] [] [] _ h1 (by omega)).mono ?_
  rintro e w2 ⟨rfl, h2, hf2⟩
  have b2 : Below w.heap.size w w2 := b1.trans (hf2.below b1.size (fun k hk => by injection hk; omega) (fun k hk => by injection hk; omega))
  clear h1 b1 hf2
  simp only [nx] at h2
  simp only [nx]
  go_wp2_with fail
  refine (open_any p _ m 0 [] [] [] _ h2 (by omega)).mono ?_
  rintro e w3 ⟨rfl, h3, hf3⟩
  have b3 : Below w.heap.size w w3 := b2.trans (hf3.below b2.size (fun k hk => by injection hk; omega) (fun k hk => by injection hk; omega))
  have HB3 := Lib.hid b3
  clear h2 h3 b2 b3 hf3
  simp only [nx]
  go_wp2_with fail
  refine (Hi.Awake9_any _ (HT.out.below HB3.out)).mono ?_
  rintro e w4 ⟨rfl, hb4⟩
  go_wp2_with fail
  go_ret
  exact ⟨rfl, HB3.out.trans (hb4.mono HB3.out.size)⟩
end Go.Proofs.YthmdiaingolfnaaGreatDoor.Fc
