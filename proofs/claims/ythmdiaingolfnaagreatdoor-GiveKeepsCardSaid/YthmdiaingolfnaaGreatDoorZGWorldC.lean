/- A part of the claim: the texts WorldC WorldD Bounds. -/
import Derived.Test.YthmdiaingolfnaaGreatDoorZGWorld
import Derived.Test.YthmdiaingolfnaaGreatDoorZGLease
import Derived.Test.YthmdiaingolfnaaGreatDoorZGSlots
import Derived.Test.YthmdiaingolfnaaGreatDoorZGLocal
namespace Go.Proofs.YthmdiaingolfnaaGreatDoor.Wo
open Go Go.ChangeShapes Go.WideShapes Go.ChangeAt Go.RowKit Go.Maps Rw Hi Mt Ba
open Cn (Cf cfE)
set_option linter.unusedVariables false
def entD (D : List (Int × Ex)) (id st now : Int) : List (Int × Ex) := if eE D id st = 0 then ins D id ⟨Wd.wOf st 0, now, now, now⟩ else D
def pubS (D : List (Int × Ex)) (S : List Int) (id : Int) : List Int := if (fnd D id).isSome then Sn.sWith S id else S
def unlS (D : List (Int × Ex)) (S : List Int) (id : Int) : List Int := if (fnd D id).isSome then Sn.sWithout S id else S
def opnN (O : List Bool) (n : Nat) : Nat := if (Fc.nx O).1 then n + 1 else n
def opnI (O : List Bool) (n : Nat) : Int := if (Fc.nx O).1 then (n : Int) + 1 else 0
def clsC (n : Nat) (C : List Int) (id : Int) : List Int := if Fc.kn n C id 10 = 0 then C ++ [id] else C
def mrkN (L : List (Int × Le.Ls)) (N : List Int) (id th : Int) : List Int := if Le.holds L id th = true then N.filter (· != id) ++ [id] else N
def grwV (live max : Int) : Int := if live < max then live + 1 else live
def shrV (live : Int) : Int := if 0 < live then live - 1 else live
theorem Wc.to {w : World} {x x' : Wp} {s s' : Ws} (h : Wc w x s) (e1 : x'.pw = x.pw) (e2 : x'.pb = x.pb) (e3 : x'.pl = x.pl) (e4 : x'.ps = x.ps) (e5 : x'.bk = x.bk) (e6 : x'.pF = x.pF) (e7 : x'.ph = x.ph) (f1 : s'.conf = s.conf) (f2 : s'.now = s.now) (f3 : s'.live = s.live) (f4 : s'.closed = s.closed) : Wc w x' s' := by
  obtain ⟨c0, c1, c2, c3, c4, c5, c6, c7, c8, c9, c10, c11, c12, c13, c14, c15, cf⟩ := h
  refine ⟨?_, ?_, ?_, ?_, ?_, ?_, ?_, ?_, ?_, ?_, ?_, ?_, ?_, ?_, ?_, ?_, ?_⟩ <;> simp only [e1, e2, e3, e4, e5, e6, e7, f1, f2, f3, f4] <;> assumption
theorem Wo.recol {base : Nat} {col col' : Nat → Nat} {w : World} {x : Wp} {s : Ws} (h : Wo base col w x s) (he : ∀ g, g < w.heap.size → col' g = col g) (hl : ∀ g, col' g ≠ 0 → base ≤ g) : Wo base col' w x s := by
  obtain ⟨k1, k2, k3, k4, k5⟩ := h.kb
  obtain ⟨l1, l2, l3, l4, l5⟩ := h.book.lt
  refine ⟨h.cells, h.bag.mono (fun g hg hc => (he g hg).trans hc) (fun g hg hc => (he g hg).trans hc) (fun g h1 h2 => by omega), h.loc.shun (fun g hg => ?_), h.slots, h.book, h.fact, h.hist, (he _ h.loc.lt).trans h.kl,
    ⟨(he _ h.slots.lt).trans h.ks.1, fun g hg => (he _ (h.slots.rowlt g hg).2).trans (h.ks.2 g hg)⟩, ⟨(he _ l1).trans k1, (he _ l2).trans k2, (he _ l3).trans k3, (he _ l4).trans k4, (he _ l5).trans k5⟩,
    fun g h1 h2 => (he _ (by have := h.fact.in_; omega)).trans (h.kf g h1 h2), ⟨(he _ h.hist.lt).trans h.kh.1, fun g hg => (he _ (h.hist.row g hg).2).trans (h.kh.2 g hg)⟩, (he _ h.cells.lt).trans h.kw, hl⟩
  by_cases hs : g < w.heap.size
  · rw [he g hs] at hg; exact .inl hg
  · exact .inr (by omega)
def Wv (base : Nat) (col : Nat → Nat) (w : World) (x : Wp) (s : Ws) : Prop := ∃ r q, Wo base col w { x with rs := r, rh := q } s ∧ ∀ g, col g ≠ 0 → g < w.heap.size
def El (w : World) (col col' : Nat → Nat) : Prop := ∀ g, g < w.heap.size → col' g = col g
def more (w w' : World) (col : Nat → Nat) (i g : Nat) : Nat := if g < w.heap.size then col g else if g < w'.heap.size then i else 0
abbrev Fw (col : Nat → Nat) (w w' : World) : Prop := Fz (fun g => col g ≠ 0 ∧ col g ≠ 8) w w'
section
variable {base : Nat} {col : Nat → Nat} {w w' : World} {x : Wp} {s : Ws} {i : Nat}
theorem El.refl (w : World) (col : Nat → Nat) : El w col col := fun _ _ => rfl
theorem El.trans {c1 c2 c3 : Nat → Nat} (h : El w c1 c2) (h' : El w' c2 c3) (hs : w.heap.size ≤ w'.heap.size) : El w c1 c3 := fun g hg => (h' g (by omega)).trans (h g hg)
theorem more_el : El w col (more w w' col i) := fun g hg => if_pos hg
theorem more_new {g : Nat} (h1 : w.heap.size ≤ g) (h2 : g < w'.heap.size) : more w w' col i g = i := by unfold more; rw [if_neg (by omega), if_pos h2]
theorem more_lt {g : Nat} (hs : w.heap.size ≤ w'.heap.size) (h : more w w' col i g ≠ 0) : g < w'.heap.size := by
  unfold more at h
  split at h
  · omega
  · split at h
    · assumption
    · exact absurd rfl h
theorem more_lo {g : Nat} (hb : base ≤ w.heap.size) (hl : ∀ g, col g ≠ 0 → base ≤ g) (h : more w w' col i g ≠ 0) : base ≤ g := by
  unfold more at h
  split at h
  · exact hl g h
  · omega
theorem fw_of (h0 : i ≠ 0 ∧ i ≠ 8) (hz : Fz (fun g => col g = i) w w') : Fw col w w' := hz.mono fun g _ hg => by omega
theorem fz_fr {p : Nat} {r : Option Nat} (hf : Fr (some p) r w w') (hp : col p = i) (hr : ∀ g, r = some g → col g = i) : Fz (fun g => col g = i) w w' :=
  ⟨hf.os, hf.tape, hf.output, hf.size, fun k hk hc => hf.block k hk (fun e => by injection e with e; subst e; exact hc hp) (fun e => hc (hr k e.symm))⟩
theorem Wo.base_le (h : Wo base col w x s) : base ≤ w.heap.size := by
  have h1 := h.lo x.pw (by have := h.kw; omega)
  have := h.cells.lt
  omega
theorem Wv.base_le (h : Wv base col w x s) : base ≤ w.heap.size := by obtain ⟨r, q, h, _⟩ := h; exact h.base_le
theorem Wv.hi (h : Wv base col w x s) : ∀ g, col g ≠ 0 → g < w.heap.size := by obtain ⟨r, q, _, h⟩ := h; exact h
theorem Wv.lo (h : Wv base col w x s) : ∀ g, col g ≠ 0 → base ≤ g := by obtain ⟨r, q, h, _⟩ := h; exact h.lo
theorem Wv.cells (h : Wv base col w x s) : Wc w x s := by obtain ⟨r, q, h, _⟩ := h; exact ⟨h.cells.c0, h.cells.c1, h.cells.c2, h.cells.c3, h.cells.c4, h.cells.c5, h.cells.c6, h.cells.c7, h.cells.c8, h.cells.c9, h.cells.c10, h.cells.c11, h.cells.c12, h.cells.c13, h.cells.c14, h.cells.c15, h.cells.fz⟩
theorem Wv.bag (h : Wv base col w x s) : Bx (fun g => col g = 1) (fun g => col g = 0) w x.pb x.ab s.D s.S := by obtain ⟨r, q, h, _⟩ := h; exact h.bag
theorem Wv.book (h : Wv base col w x s) : Le.Bk w x.bk s.leak s.L s.M s.T := by obtain ⟨r, q, h, _⟩ := h; exact h.book
theorem Wv.fact (h : Wv base col w x s) : Fc.Fa w x.bF x.mF x.pF s.O s.P s.n s.C := by obtain ⟨r, q, h, _⟩ := h; exact h.fact
theorem Wv.loc (h : Wv base col w x s) : Lc.Lo (fun g => col g ≠ 0 ∧ col g ≠ 2) w base x.pl s.loc := by obtain ⟨r, q, h, _⟩ := h; exact h.loc
theorem Wv.slots (h : Wv base col w x s) : ∃ r, St.Ss w base x.ps r s.sl := by obtain ⟨r, q, h, _⟩ := h; exact ⟨r, h.slots⟩
theorem Wv.hist (h : Wv base col w x s) : ∃ r, Hi.Hs w base x.ph r s.step s.ev := by obtain ⟨r, q, h, _⟩ := h; exact ⟨q, h.hist⟩
theorem Wv.kw (h : Wv base col w x s) : col x.pw = 7 := by obtain ⟨r, q, h, _⟩ := h; exact h.kw
theorem Wv.later (h : Wv base col w x s) (hb : Below w.heap.size w w') : Wv base col w' x s := by
  obtain ⟨r, q, h, hi⟩ := h
  exact ⟨r, q, h.later hb, fun g hg => Nat.lt_of_lt_of_le (hi g hg) hb.size⟩
theorem Wv.aside {E : Nat → Prop} (h : Wv base col w x s) (hz : Fz E w w') (hE : ∀ g, g < w.heap.size → E g → col g = 8) : Wv base col w' x s := by
  obtain ⟨r, q, h, hi⟩ := h
  have hz' : Fz (fun g => col g = 8) w w' := hz.mono hE
  exact ⟨r, q, ⟨h.cells_aside hz' (by decide), h.bag_aside hz' (by decide) (by decide), h.loc_aside hz' (by decide) (by decide), h.slots_aside hz' (by decide), h.book_aside hz' (by decide), h.fact_aside hz' (by decide), h.hist_aside hz' (by decide), h.kl, h.ks, h.kb, h.kf, h.kh, h.kw, h.lo⟩, fun g hg => Nat.lt_of_lt_of_le (hi g hg) hz.size⟩
theorem Wv.bagT {C' R' : Nat → Prop} {D' : List (Int × Ex)} {S' : List Int} (h : Wv base col w x s) (hb : Bx C' R' w' x.pb x.ab D' S') (hz : Fz (fun g => col g = 1) w w') (hc : ∀ g, g < w.heap.size → C' g → col g = 1) (hr : ∀ g, g < w.heap.size → R' g → col g = 0) :
    ∃ col', Wv base col' w' x { s with D := D', S := S' } ∧ Fw col w w' ∧ El w col col' := by
  obtain ⟨r, q, h, hi⟩ := h
  classical
  have hs := hz.size
  have hbs := h.base_le
  let col' : Nat → Nat := fun g => if g < w.heap.size then col g else if g < w'.heap.size ∧ C' g then 1 else 0
  have hel : ∀ g, g < w.heap.size → col' g = col g := fun g hg => if_pos hg
  have hlo : ∀ g, col' g ≠ 0 → base ≤ g := fun g hg => by
    simp only [col'] at hg
    split at hg
    · exact h.lo g hg
    · omega
  have h2 := h.recol hel hlo
  have hz2 : Fz (fun g => col' g = 1) w w' := hz.mono fun g hg e => (hel g hg).trans e
  have hn : Bx (fun g => col' g = 1) (fun g => col' g = 0) w' x.pb x.ab D' S' := hb.mono (fun g hg hC => by
      simp only [col']
      split
      · next h3 => exact hc g h3 hC
      · rw [if_pos ⟨hg, hC⟩]) (fun g hg hR => by
      simp only [col']
      split
      · next h3 => exact hr g h3 hR
      · rw [if_neg (fun e => hb.cr g e.2 hR)]) (fun g h3 h4 => by omega)
  exact ⟨col', ⟨r, q, ⟨(h2.cells_aside hz2 (by decide)).to rfl rfl rfl rfl rfl rfl rfl rfl rfl rfl rfl, hn, h2.loc_aside hz2 (by decide) (by decide), h2.slots_aside hz2 (by decide), h2.book_aside hz2 (by decide), h2.fact_aside hz2 (by decide), h2.hist_aside hz2 (by decide), h2.kl, h2.ks, h2.kb, h2.kf, h2.kh, h2.kw, h2.lo⟩, fun g hg => by
      simp only [col'] at hg
      split at hg
      · omega
      · split at hg
        · next h3 => exact h3.1
        · exact absurd rfl hg⟩, fw_of (by decide) hz, hel⟩
theorem Wv.bookT {L' : List (Int × Le.Ls)} {M' : List (Int × Bool)} {T' : List (Int × Int)} {f g : Option Nat} (h : Wv base col w x s) (hb : Le.Bk w' x.bk s.leak L' M' T') (hf : Fr f g w w') (hfg : (f = some x.bk.a ∧ g = some x.bk.m) ∨ (f = some x.bk.b ∧ g = none)) : Wv base col w' x { s with L := L', M := M', T := T' } ∧ Fw col w w' := by
  obtain ⟨r, q, h, hi⟩ := h
  obtain ⟨k1, k2, k3, k4, k5⟩ := h.kb
  have hz : Fz (fun g => col g = 4) w w' := ⟨hf.os, hf.tape, hf.output, hf.size, fun k hk hc => hf.block k hk (fun e => by
      rcases hfg with ⟨rfl, _⟩ | ⟨rfl, _⟩ <;> injection e with e <;> subst e <;> exact hc (by assumption)) (fun e => by
      rcases hfg with ⟨_, rfl⟩ | ⟨_, rfl⟩
      · injection e with e; subst e; exact hc k5
      · cases e)⟩
  exact ⟨⟨r, q, ⟨(h.cells_aside hz (by decide)).to rfl rfl rfl rfl rfl rfl rfl rfl rfl rfl rfl, h.bag_aside hz (by decide) (by decide), h.loc_aside hz (by decide) (by decide), h.slots_aside hz (by decide), hb, h.fact_aside hz (by decide), h.hist_aside hz (by decide), h.kl, h.ks, h.kb, h.kf, h.kh, h.kw, h.lo⟩, fun g hg => Nat.lt_of_lt_of_le (hi g hg) hz.size⟩, fw_of (by decide) hz⟩
theorem Wv.factT {O' P' : List Bool} {n' : Nat} {C' : List Int} (h : Wv base col w x s) (hb : Fc.Fa w' x.bF x.mF x.pF O' P' n' C') (hf : Fr (some x.pF) (some x.mF) w w') : Wv base col w' x { s with O := O', P := P', n := n', C := C' } ∧ Fw col w w' := by
  obtain ⟨r, q, h, hi⟩ := h
  have hl := h.fact.lo
  have hl2 := h.fact.lt
  have hz : Fz (fun g => col g = 5) w w' := fz_fr hf (h.kf _ (by have hl : x.bF ≤ x.mF := hl; have hl2 : x.mF < x.pF := hl2; show x.bF ≤ x.pF; omega) (Nat.le_refl _)) (fun g e => by injection e with e; subst e; exact h.kf _ hl (Nat.le_of_lt hl2))
  exact ⟨⟨r, q, ⟨(h.cells_aside hz (by decide)).to rfl rfl rfl rfl rfl rfl rfl rfl rfl rfl rfl, h.bag_aside hz (by decide) (by decide), h.loc_aside hz (by decide) (by decide), h.slots_aside hz (by decide), h.book_aside hz (by decide), hb, h.hist_aside hz (by decide), h.kl, h.ks, h.kb, h.kf, h.kh, h.kw, h.lo⟩, fun g hg => Nat.lt_of_lt_of_le (hi g hg) hz.size⟩, fw_of (by decide) hz⟩
theorem Wv.locT {L' : Nat → List Int} (h : Wv base col w x s) (hb : Lc.Lo (fun g => col g ≠ 0 ∧ col g ≠ 2) w' base x.pl L') (hf : Fr (some x.pl) none w w') : Wv base col w' x { s with loc := L' } ∧ Fw col w w' := by
  obtain ⟨r, q, h, hi⟩ := h
  have hz : Fz (fun g => col g = 2) w w' := fz_fr hf h.kl (fun g e => by cases e)
  exact ⟨⟨r, q, ⟨(h.cells_aside hz (by decide)).to rfl rfl rfl rfl rfl rfl rfl rfl rfl rfl rfl, h.bag_aside hz (by decide) (by decide), hb, h.slots_aside hz (by decide), h.book_aside hz (by decide), h.fact_aside hz (by decide), h.hist_aside hz (by decide), h.kl, h.ks, h.kb, h.kf, h.kh, h.kw, h.lo⟩, fun g hg => Nat.lt_of_lt_of_le (hi g hg) hz.size⟩, fw_of (by decide) hz⟩
theorem Wo.slotsT {r' : Option Nat} {l' : List St.Sx} (h : Wo base col w x s) (hi : ∀ g, col g ≠ 0 → g < w.heap.size) (hb : St.Ss w' base x.ps r' l') (hf : Fr (some x.ps) x.rs w w') (hr : ∀ g, r' = some g → x.rs = some g ∨ w.heap.size ≤ g) :
    ∃ col', Wv base col' w' x { s with sl := l' } ∧ Fw col w w' ∧ El w col col' := by
  have hz : Fz (fun g => col g = 3) w w' := fz_fr hf h.ks.1 h.ks.2
  have hs := hz.size
  have hbs := h.base_le
  have h2 := h.recol (col' := more w w' col 3) more_el (fun g hg => more_lo hbs h.lo hg)
  have hz2 : Fz (fun g => more w w' col 3 g = 3) w w' := hz.mono fun g hg e => (more_el g hg).trans e
  refine ⟨more w w' col 3, ⟨r', x.rh, ⟨(h2.cells_aside hz2 (by decide)).to rfl rfl rfl rfl rfl rfl rfl rfl rfl rfl rfl, h2.bag_aside hz2 (by decide) (by decide), h2.loc_aside hz2 (by decide) (by decide), hb, h2.book_aside hz2 (by decide), h2.fact_aside hz2 (by decide), h2.hist_aside hz2 (by decide), h2.kl, ⟨h2.ks.1, fun g hg => ?_⟩, h2.kb, h2.kf, h2.kh, h2.kw, h2.lo⟩, fun g hg => more_lt hs hg⟩, fw_of (by decide) hz, more_el⟩
  rcases hr g hg with e | e
  · exact h2.ks.2 g e
  · exact more_new e (hb.rowlt g hg).2
theorem Wo.histT {r' : Option Nat} {st : Int} {l' : List Tx.Ev} (h : Wo base col w x s) (hi : ∀ g, col g ≠ 0 → g < w.heap.size) (hb : Hi.Hs w' base x.ph r' st l') (hf : Fr (some x.ph) x.rh w w') (hr : r' = x.rh ∨ ∃ g, r' = some g ∧ w.heap.size ≤ g) :
    ∃ col', Wv base col' w' x { s with step := st, ev := l' } ∧ Fw col w w' ∧ El w col col' := by
  have hz : Fz (fun g => col g = 6) w w' := fz_fr hf h.kh.1 h.kh.2
  have hs := hz.size
  have hbs := h.base_le
  have h2 := h.recol (col' := more w w' col 6) more_el (fun g hg => more_lo hbs h.lo hg)
  have hz2 : Fz (fun g => more w w' col 6 g = 6) w w' := hz.mono fun g hg e => (more_el g hg).trans e
  refine ⟨more w w' col 6, ⟨x.rs, r', ⟨(h2.cells_aside hz2 (by decide)).to rfl rfl rfl rfl rfl rfl rfl rfl rfl rfl rfl, h2.bag_aside hz2 (by decide) (by decide), h2.loc_aside hz2 (by decide) (by decide), h2.slots_aside hz2 (by decide), h2.book_aside hz2 (by decide), h2.fact_aside hz2 (by decide), hb, h2.kl, h2.ks, h2.kb, h2.kf, ⟨h2.kh.1, fun g hg => ?_⟩, h2.kw, h2.lo⟩, fun g hg => more_lt hs hg⟩, fw_of (by decide) hz, more_el⟩
  rcases hr with e | ⟨g', e, hg'⟩
  · exact h2.kh.2 g (e ▸ hg)
  · have e2 : g' = g := by rw [e] at hg; injection hg
    subst e2
    exact more_new hg' (hb.row g' e).2
theorem Wv.ownT (h : Wv base col w x s) (cf : Cf) (nw lv : Int) (cl : Bool) (hc : Wc w' x { s with conf := cf, now := nw, live := lv, closed := cl }) (hz : Fz (fun g => col g = 7) w w') : Wv base col w' x { s with conf := cf, now := nw, live := lv, closed := cl } ∧ Fw col w w' := by
  obtain ⟨r, q, h, hi⟩ := h
  refine ⟨⟨r, q, h.own_ cf nw lv cl ?_ hz, fun g hg => Nat.lt_of_lt_of_le (hi g hg) hz.size⟩, fw_of (by decide) hz⟩
  exact ⟨hc.c0, hc.c1, hc.c2, hc.c3, hc.c4, hc.c5, hc.c6, hc.c7, hc.c8, hc.c9, hc.c10, hc.c11, hc.c12, hc.c13, hc.c14, hc.c15, hc.fz⟩
end
theorem Wv.var {base : Nat} {col : Nat → Nat} {w w' : World} {x : Wp} {s : Ws} (h : Wv base col w x s) (hb : Below w.heap.size w w') (r : Nat) (h1 : w.heap.size ≤ r) (h2 : r < w'.heap.size) : ∃ col', Wv base col' w' x s ∧ El w col col' ∧ col' r = 8 ∧ ∀ g, w.heap.size ≤ g → g ≠ r → col' g = 0 := by
  have hbs := h.base_le
  obtain ⟨col', hcol⟩ : ∃ col' : Nat → Nat, col' = fun g => if g < w.heap.size then col g else if g = r then 8 else 0 := ⟨_, rfl⟩
  have e1 : ∀ g, g < w.heap.size → col' g = col g := fun g hg => by rw [hcol]; exact if_pos hg
  have e2 : col' r = 8 := by rw [hcol]; show (if r < w.heap.size then col r else if r = r then 8 else 0) = 8; rw [if_neg (by omega), if_pos rfl]
  have e3 : ∀ g, w.heap.size ≤ g → g ≠ r → col' g = 0 := fun g h3 h4 => by rw [hcol]; show (if g < w.heap.size then col g else if g = r then 8 else 0) = 0; rw [if_neg (by omega), if_neg h4]
  have hlo := h.lo
  obtain ⟨p, q, h0, hi⟩ := h
  have hs := hb.size
  refine ⟨col', ⟨p, q, (h0.recol e1 (fun g hg => ?_)).later hb, fun g hg => ?_⟩, e1, e2, e3⟩
  · by_cases h3 : g < w.heap.size
    · exact hlo g (by rw [← e1 g h3]; exact hg)
    · omega
  · by_cases h3 : g < w.heap.size
    · omega
    · by_cases h4 : g = r
      · omega
      · exact absurd (e3 g (by omega) h4) hg
section
variable (w : World) {base : Nat} {col : Nat → Nat} {x : Wp} {s : Ws}
theorem wswap (h : Wv base col w x s) (id old st now : Int) (hid : U64 id) (ho : U64 old) (hnow : U64 now) : Calls Tryz.prog 56 #[ptr x.pb, .int .u64 id, .int .u64 old, .int .i64 st, .int .u64 now] w fun e w' => e = .returned (.tuple #[.int .u64 (bV s.D id old st), .bool (bK s.D id old st)]) ∧
    ∃ col', Wv base col' w' x { s with D := up s.D id (exS old st now) } ∧ Fw col w w' ∧ El w col col' :=
  (swap_any w x.pb x.ab s.D s.S id h.bag hid old st now ho hnow).mono fun e w' ⟨h1, h2, h3⟩ => ⟨h1, h.bagT h2 h3 (fun g hg hc => hc) (fun g hg hc => hc)⟩
theorem wenter (h : Wv base col w x s) (id st now : Int) (hid : U64 id) (hnow : U64 now) (hl : s.D.length < 1000000) : Calls Tryz.prog 9 #[ptr x.pb, .int .u64 id, .int .i64 st, .int .u64 now] w fun e w' => e = .returned (.int .i64 (eE s.D id st)) ∧
    ∃ col', Wv base col' w' x { s with D := entD s.D id st now } ∧ Fw col w w' ∧ El w col col' :=
  (enter_any w x.pb x.ab s.D s.S id h.bag hid st now hnow hl).mono fun e w' ⟨h1, h2, h3⟩ => ⟨h1, h.bagT h2 h3 (fun g hg hc => hc.elim And.right (fun h9 => by omega)) (fun g hg hc => hc.2)⟩
theorem wpublish (h : Wv base col w x s) (id : Int) (hid : U64 id) (hl : s.S.length ≤ 1000000) : Calls Tryz.prog 57 #[ptr x.pb, .int .u64 id] w fun e w' => e = .returned (.int .i64 (kn s.D id)) ∧
    ∃ col', Wv base col' w' x { s with S := pubS s.D s.S id } ∧ Fw col w w' ∧ El w col col' :=
  (publish_any w x.pb x.ab s.D s.S id h.bag hid hl).mono fun e w' ⟨h1, h2, h3⟩ => ⟨h1, h.bagT h2 h3 (fun g hg hc => hc.2) (fun g hg hc => hc.elim And.right (fun h9 => by omega))⟩
theorem wunlist (h : Wv base col w x s) (id : Int) (hid : U64 id) (hl : s.S.length ≤ 1000000) : Calls Tryz.prog 136 #[ptr x.pb, .int .u64 id] w fun e w' => e = .returned (.int .i64 (kn s.D id)) ∧
    ∃ col', Wv base col' w' x { s with S := unlS s.D s.S id } ∧ Fw col w w' ∧ El w col col' :=
  (unlist_any w x.pb x.ab s.D s.S id h.bag hid hl).mono fun e w' ⟨h1, h2, h3⟩ => ⟨h1, h.bagT h2 h3 (fun g hg hc => hc.2) (fun g hg hc => hc.elim And.right (fun h9 => by omega))⟩
theorem wopen (h : Wv base col w x s) (hn : s.n < 18446744073709551615) : Calls Tryz.prog 8 #[ptr x.pF] w fun e w' => e = .returned (.tuple #[.int .u64 (opnI s.O s.n), .bool (Fc.nx s.O).1]) ∧
    Wv base col w' x { s with O := (Fc.nx s.O).2, n := opnN s.O s.n } ∧ Fw col w w' :=
  (Fc.open_any x.pF x.bF x.mF s.n s.O s.P s.C w h.fact hn).mono fun e w' ⟨h1, h2, h3⟩ => ⟨h1, h.factT h2 h3⟩
theorem wclose (h : Wv base col w x s) (id : Int) (hid : U64 id) (hn : s.C.length < 1000) : Calls Tryz.prog 59 #[ptr x.pF, .int .u64 id] w fun e w' => e = .returned (.int .i64 (Fc.kn s.n s.C id 10)) ∧
    Wv base col w' x { s with C := clsC s.n s.C id } ∧ Fw col w w' :=
  (Fc.close_any x.pF x.bF x.mF s.n s.O s.P s.C id w h.fact hid hn).mono fun e w' ⟨h1, h2, h3⟩ => ⟨h1, h.factT h2 h3⟩
theorem wadd (h : Wv base col w x s) (th ki op id er : Int) (hl : s.ev.length ≤ 1000) : Calls Tryz.prog 61 #[ptr x.ph, .int .i64 th, .int .i64 ki, .int .i64 op, .int .u64 id, .int .i64 er] w fun e w' => e = .returned (.tuple #[]) ∧
    ∃ col', Wv base col' w' x { s with ev := s.ev ++ [⟨s.step, th, ki, op, id, er⟩] } ∧ Fw col w w' ∧ El w col col' := by
  obtain ⟨r, q, h, hi⟩ := h
  exact (Hi.add_any w base x.ph q s.step s.ev th ki op id er h.hist hl).mono fun e w' ⟨h1, r', h2, h3, h4⟩ => ⟨h1, h.histT hi h2 h3 h4⟩
theorem wpark (h : Wv base col w x s) (t d : Int) (hl : s.sl.length ≤ 1000) : Calls Tryz.prog 67 #[ptr x.ps, .int .i64 t, .int .u64 d] w fun e w' => e = .returned (.int .i64 (St.parkE s.sl t)) ∧
    ∃ col', Wv base col' w' x { s with sl := St.parkL s.sl t d } ∧ Fw col w w' ∧ El w col col' := by
  obtain ⟨r, q, h, hi⟩ := h
  exact (St.parkU w base x.ps r s.sl t d h.slots hl).mono fun e w' ⟨h1, r', h2, h3, h4⟩ => ⟨h1, h.slotsT hi h2 h3 h4⟩
theorem wfill (h : Wv base col w x s) (id : Int) : Calls Tryz.prog 132 #[ptr x.ps, .int .u64 id] w fun e w' => e = .returned (.tuple #[.int .i64 (St.fillR s.sl id).2.1, .bool (St.fillR s.sl id).2.2]) ∧
    ∃ col', Wv base col' w' x { s with sl := (St.fillR s.sl id).1 } ∧ Fw col w w' ∧ El w col col' := by
  obtain ⟨r, q, h, hi⟩ := h
  exact (St.fillU w base x.ps r s.sl id h.slots).mono fun e w' ⟨h1, h2, h3⟩ => ⟨h1, h.slotsT hi h2 h3 (fun g hg => .inl hg)⟩
theorem wlput (h : Wv base col w x s) (t : Int) (A : Option Addr) (n c : Nat) (ids : List Int) (hr : Rd (Value.int .u64) w w.heap.size A n c ids) (hn : n ≤ 1000) : Calls Tryz.prog 134 #[ptr x.pl, .int .i64 t, .slice A n c] w fun e w' => e = .returned (.int .i64 (Lc.putE t)) ∧
    Wv base col w' x { s with loc := Lc.putR s.loc t ids } ∧ Fw col w w' := by
  unfold Lc.putE Lc.putR
  cases hi : Lc.inR t with
  | false =>
    refine (Lc.put_out x.pl t A n c w (Lc.inR_no hi)).mono ?_
    rintro e w' ⟨rfl, rfl⟩
    exact ⟨rfl, h, Fz.refl _ _⟩
  | true =>
    obtain ⟨i, rfl, hi8⟩ := Lc.inR_yes hi
    simp only [if_true, Int.toNat_natCast]
    refine (Lc.put_in _ w base x.pl i s.loc A n c ids (fun g hg => h.hi g hg.1) h.loc hi8 hr hn).mono ?_
    rintro e w' ⟨rfl, h2, h3⟩
    exact ⟨rfl, h.locT h2 h3⟩
variable (N : List Int)
theorem wbegin (h : Wv base col w x s) (hM : s.M = Le.mk N) (id th now : Int) (hid : U64 id) (hnow : U64 now) (hlk : U64 s.leak) (hl : s.L.length ≤ 1000) (hT : s.T.length ≤ 1000) : Calls Tryz.prog 87 #[ptr x.bk.p, .int .u64 id, .int .i64 th, .int .u64 now] w fun e w' => e = .returned (.int .i64 (Le.bE s.L id th)) ∧
    Wv base col w' x { s with L := Le.bL s.L id th now, T := Le.bT s.leak s.L s.T id th now } ∧ Fw col w w' := by
  have hb := h.book
  rw [hM] at hb
  refine (Le.beginU w x.bk s.leak s.L N s.T id th now hb hid hnow hlk hl hT).mono fun e w' ⟨h1, h2, h3⟩ => ⟨h1, ?_⟩
  have := h.bookT h2 h3 (.inl ⟨rfl, rfl⟩)
  rw [← hM] at this
  exact this
theorem wmark (h : Wv base col w x s) (hM : s.M = Le.mk N) (id th : Int) (hid : U64 id) (hN : N.length ≤ 1000) : Calls Tryz.prog 69 #[ptr x.bk.p, .int .u64 id, .int .i64 th] w fun e w' => e = .returned (.int .i64 (Le.wr s.L id th)) ∧
    Wv base col w' x { s with M := Le.mk (mrkN s.L N id th) } ∧ Fw col w w' := by
  have hb := h.book
  rw [hM] at hb
  exact (Le.markU w x.bk s.leak s.L N s.T id th hb hid hN).mono fun e w' ⟨h1, h2, h3⟩ => ⟨h1, h.bookT h2 h3 (.inr ⟨rfl, rfl⟩)⟩
theorem wforget (h : Wv base col w x s) (hM : s.M = Le.mk N) (id : Int) (hid : U64 id) : Calls Tryz.prog 60 #[ptr x.bk.p, .int .u64 id] w fun e w' => e = .returned (.tuple #[]) ∧
    Wv base col w' x { s with M := Le.mk (N.filter (· != id)) } ∧ Fw col w w' := by
  have hb := h.book
  rw [hM] at hb
  exact (Le.forgetU w x.bk s.leak s.L N s.T id hb hid).mono fun e w' ⟨h1, h2, h3⟩ => ⟨h1, h.bookT h2 h3 (.inr ⟨rfl, rfl⟩)⟩
end
end Go.Proofs.YthmdiaingolfnaaGreatDoor.Wo
namespace Go.Proofs.YthmdiaingolfnaaGreatDoor.Wo
open Go Go.ChangeShapes Go.WideShapes Go.ChangeAt Go.RowKit Go.Maps Rw Hi Mt Ba
open Cn (Cf cfE)
set_option linter.unusedVariables false
section
variable (w : World) {base : Nat} {col : Nat → Nat} {x : Wp} {s : Ws}
set_option maxRecDepth 100000 in
theorem wnow_any (h : Wc w x s) : Calls Tryz.prog 10 #[ptr x.pw] w fun e w' => e = .returned (.int .u64 s.now) ∧ Below w.heap.size w w' := by
  have c7 := h.c7
  clear h
  go_enter Tryz.func10, Tryz.ntmps10
  go_wp2_with fail
  refine (Ck.now_any s.now _).mono ?_
  rintro e w1 ⟨rfl, rfl⟩
  go_wp2_with fail
  go_ret
  exact ⟨rfl, (Below.refl _ _).alloc (Nat.le_refl _) _⟩
theorem Wc.at15 (h : Wc w x s) (b : Bool) : Wc (w.setCell ⟨x.pw, 15, none⟩ (.bool b)) x { s with closed := b } := by
  have k : ∀ o u, o ≠ 15 → w.cell? ⟨x.pw, o, none⟩ = some u → (w.setCell ⟨x.pw, 15, none⟩ (.bool b)).cell? ⟨x.pw, o, none⟩ = some u := fun o u ho hu => (World.cell?_setCell_other _ _ _ _ (fun e => by injection e with _ e _; omega)).trans hu
  exact ⟨k 0 _ (by decide) h.c0, k 1 _ (by decide) h.c1, k 2 _ (by decide) h.c2, k 3 _ (by decide) h.c3, k 4 _ (by decide) h.c4, k 5 _ (by decide) h.c5, k 6 _ (by decide) h.c6, k 7 _ (by decide) h.c7, k 8 _ (by decide) h.c8, k 9 _ (by decide) h.c9, k 10 _ (by decide) h.c10, k 11 _ (by decide) h.c11, k 12 _ (by decide) h.c12, k 13 _ (by decide) h.c13, k 14 _ (by decide) h.c14, World.cell?_setCell_same _ _ _ h.c15, fun o => by simpa using h.fz o⟩
theorem wset14 (h : Wv base col w x s) (lv : Int) : Wv base col (w.setCell ⟨x.pw, 14, none⟩ (.int .i64 lv)) x { s with live := lv } ∧ Fw col w (w.setCell ⟨x.pw, 14, none⟩ (.int .i64 lv)) :=
  h.ownT s.conf s.now lv s.closed (h.cells.live w lv) (Fz.of_set _ h.kw)
theorem wset15 (h : Wv base col w x s) (b : Bool) : Wv base col (w.setCell ⟨x.pw, 15, none⟩ (.bool b)) x { s with closed := b } ∧ Fw col w (w.setCell ⟨x.pw, 15, none⟩ (.bool b)) :=
  h.ownT s.conf s.now s.live b (h.cells.at15 w b) (Fz.of_set _ h.kw)
set_option maxRecDepth 100000 in
theorem wshrink_any (h : Wv base col w x s) (h0 : 0 ≤ s.live) (hm : s.live ≤ 1000000) : Calls Tryz.prog 47 #[ptr x.pw] w fun e w' => e = .returned (.tuple #[]) ∧
    Wv base col w' x { s with live := shrV s.live } ∧ Fw col w w' := by
  have c14 := h.cells.c14
  have hc14 : ∀ y : After w, y.1.cell? ⟨x.pw, 14, none⟩ = some (.int .i64 s.live) := fun y => y.cell c14
  have HK := Lib.hid h
  by_cases hl : 0 < s.live
  · have q1 : decide (0 < s.live) = true := decide_eq_true hl
    have hwr : IntKind.i64.wrap (s.live - 1) = s.live - 1 := by rw [IntKind.wrap_i64]; omega
    rw [show shrV s.live = s.live - 1 from if_pos hl]
    clear h hl h0 hm
    go_enter Tryz.func47, Tryz.ntmps47
    have f14 := HK.out.cells.fz 14
    clear hc14
    go_wp2_with fail
    have h2 := wset14 w HK.out (s.live - 1)
    exact bodyPost_end (v := .tuple #[]) (by simp [results, Tryz.results47]) rfl ⟨rfl, h2.1, h2.2⟩
  · have q1 : decide (0 < s.live) = false := decide_eq_false hl
    rw [show shrV s.live = s.live from if_neg hl]
    clear h hl h0 hm
    go_enter Tryz.func47, Tryz.ntmps47
    go_wp2_with fail
    exact bodyPost_end (v := .tuple #[]) (by simp [results, Tryz.results47]) rfl ⟨rfl, HK.out, Fz.refl _ _⟩
theorem wgrow_any (h : Wv base col w x s) (h0 : 0 ≤ s.live) (hm : s.conf.max ≤ 1000000) : Calls Tryz.prog 29 #[ptr x.pw] w fun e w' => e = .returned (.bool (decide (s.live < s.conf.max))) ∧
    Wv base col w' x { s with live := grwV s.live s.conf.max } ∧ Fw col w w' := by
  obtain ⟨r, q, h, hi⟩ := h
  exact (grow_any w h h0 hm).mono fun e w' ⟨h1, h2, h3⟩ => ⟨h1, ⟨r, q, h2, fun g hg => Nat.lt_of_lt_of_le (hi g hg) h3.size⟩, fw_of ⟨by decide, by decide⟩ h3⟩
variable (N : List Int)
set_option maxRecDepth 100000 in
theorem wlease_any (h : Wv base col w x s) (hM : s.M = Le.mk N) (id th : Int) (hid : U64 id) (hnow : U64 s.now) (hlk : U64 s.leak) (hl : s.L.length ≤ 1000) (hT : s.T.length ≤ 1000) : Calls Tryz.prog 53 #[ptr x.pw, .int .u64 id, .int .i64 th] w fun e w' => e = .returned (.int .i64 (Le.bE s.L id th)) ∧
    Wv base col w' x { s with L := Le.bL s.L id th s.now, T := Le.bT s.leak s.L s.T id th s.now } ∧ Fw col w w' := by
  have HW := Lib.hid h
  have HMM := Lib.hid hM
  have HID := Lib.hid hid
  have HNW := Lib.hid hnow
  have HLK := Lib.hid hlk
  clear h hM hid hnow hlk
  go_enter Tryz.func53, Tryz.ntmps53
  go_wp2_with fail
  have HS : Hid (Wc w.drew x s ∧ Fw col w w.drew) := Lib.hid ⟨HW.out.cells.blk rfl, Fz.of_below (Below.refl _ _).drew⟩
  have HW0 : Hid (Wv base col w.drew x s) := Lib.hid (HW.out.later (Below.refl _ _).drew)
  refine reg_start 10 (fun w' => Wc w' x s ∧ Fw col w w') (by kernel_rfl) (by kernel_rfl) ?_
  intro hTT
  have HTT := Lib.hid hTT
  clear hTT
  refine reg_load 0 HTT.out rfl (by kernel_rfl) (by decide) (fun _ _ _ _ h => h) HS.out rfl ?_
  apply Exists.intro
  refine ⟨fun w' hw => by (go_simp; exact rfl), ?_⟩
  refine reg_load 1 HTT.out rfl (by kernel_rfl) (by decide) (fun _ _ _ _ h => h) HS.out rfl ?_
  apply Exists.intro
  refine ⟨fun w' hw => by (go_simp; exact rfl), ?_⟩
  refine reg_load 2 HTT.out rfl (by kernel_rfl) (by decide) (fun _ _ _ _ h => h) HS.out rfl ?_
  apply Exists.intro
  refine ⟨fun w' hw => by (go_simp; exact rfl), ?_⟩
  refine reg_load 3 HTT.out rfl (by kernel_rfl) (by decide) (fun _ _ _ _ h => h) HS.out rfl ?_
  apply Exists.intro
  refine ⟨fun w' hw => by (have k11 := hw.1.c11; go_simp; exact rfl), ?_⟩
  refine reg_load 4 HTT.out rfl (by kernel_rfl) (by decide) (fun _ _ _ _ h => h) HS.out rfl ?_
  apply Exists.intro
  refine ⟨fun w' hw => by (go_simp; exact rfl), ?_⟩
  refine reg_load 5 HTT.out rfl (by kernel_rfl) (by decide) (fun _ _ _ _ h => h) HS.out rfl ?_
  apply Exists.intro
  refine ⟨fun w' hw => by (go_simp; exact rfl), ?_⟩
  refine reg_load 6 HTT.out rfl (by kernel_rfl) (by decide) (fun _ _ _ _ h => h) HS.out rfl ?_
  apply Exists.intro
  refine ⟨fun w' hw => by (go_simp; exact rfl), ?_⟩
  refine reg_only 7 rfl (by kernel_rfl) rfl ?_
  unfold Oper.wp
  go_simp
  refine (wnow_any _ HS.out.1).mono ?_
  rintro e w2 ⟨rfl, b2⟩
  have hS : Wc w2 x s ∧ Fw col w w2 := ⟨HS.out.1.blk (b2.block _ HS.out.1.lt), HS.out.2.trans (Fz.of_below b2)⟩
  refine ⟨hS, ?_⟩
  have HW2 := Lib.hid (HW0.out.later b2)
  clear HS b2
  have HS := Lib.hid hS
  clear hS
  refine reg_only 8 rfl (by kernel_rfl) rfl ?_
  unfold Oper.wp
  go_simp
  refine (wbegin w2 N HW2.out HMM.out id th s.now HID.out HNW.out HLK.out hl hT).mono ?_
  rintro e w3 ⟨rfl, h3, z3⟩
  have hS : Wc w3 x s ∧ Fw col w w3 := ⟨h3.cells.to rfl rfl rfl rfl rfl rfl rfl rfl rfl rfl rfl, HS.out.2.trans z3⟩
  refine ⟨hS, ?_⟩
  have HW3 := Lib.hid h3
  clear HS h3 z3
  have HS := Lib.hid hS
  clear hS
  refine reg_load 9 HTT.out rfl (by kernel_rfl) (by decide) (fun _ _ _ _ h => h) HS.out rfl ?_
  apply Exists.intro
  refine ⟨fun w' hw => by (go_simp; exact rfl), ?_⟩
  refine reg_done (by kernel_rfl) ?_
  go_wp2_with fail
  go_ret
  exact ⟨rfl, HW3.out, HS.out.2⟩
def remS (s : Ws) (N : List Int) (id old th op : Int) : Ws := { s with D := up s.D id (exS old 3 s.now), C := clsC s.n s.C id, M := Le.mk (N.filter (· != id)), ev := s.ev ++ [⟨s.step, th, 3, op, id, 0⟩] }
theorem up_fail {D : List (Int × Ex)} (hn : Nd D) {id old st : Int} (hk : bK D id old st = false) (now : Int) : up D id (exS old st now) = D := by
  refine up_same (fun x hx => ?_) hn
  unfold bK at hk
  rw [hx] at hk
  have hk : Wd.wSwapOk x.word old st = false := hk
  have h2 : Wd.wSwap x.word old st = x.word := by
    unfold Wd.wSwap
    unfold Wd.wSwapOk at hk
    split
    · next h => exact absurd h (by simpa using hk)
    · rfl
  unfold exS
  rw [hk, h2]
  simp
theorem fw_two {col col' : Nat → Nat} {w w' w'' : World} (h : Fw col w w') (hl : El w col col') (h' : Fw col' w' w'') : Fw col w w'' :=
  ⟨h'.os.trans h.os, h'.tape.trans h.tape, h'.output.trans h.output, Nat.le_trans h.size h'.size, fun k hk hc => (h'.block k (Nat.lt_of_lt_of_le hk h.size) (fun e => hc (by rw [hl k hk] at e; exact e))).trans (h.block k hk hc)⟩
set_option maxRecDepth 100000 in
theorem wrem_no (h : Wv base col w x s) (hM : s.M = Le.mk N) (id old th op : Int) (hid : U64 id) (hnow : U64 s.now) (ho : U64 old) (hk : bK s.D id old 3 = false) : Calls Tryz.prog 15 #[ptr x.pw, .int .u64 id, .int .u64 old, .int .i64 th, .int .i64 op] w fun e w' => e = .returned (.bool false) ∧
    ∃ col', Wv base col' w' x s ∧ Fw col w w' ∧ El w col col' := by
  have HUF := Lib.hid (up_fail h.bag.ri.nd hk s.now)
  have HW := Lib.hid h
  have HMM := Lib.hid hM
  have HID := Lib.hid hid
  have HNW := Lib.hid hnow
  have HO := Lib.hid ho
  have HKB := Lib.hid hk
  clear h hM hid hnow ho hk
  go_enter Tryz.func15, Tryz.ntmps15
  go_wp2_with fail
  have HS : Hid (Wc w.drew x s ∧ Fw col w w.drew) := Lib.hid ⟨HW.out.cells.blk rfl, Fz.of_below (Below.refl _ _).drew⟩
  have HW0 : Hid (Wv base col w.drew x s) := Lib.hid (HW.out.later (Below.refl _ _).drew)
  refine reg_start 14 (fun w' => Wc w' x s ∧ Fw col w w') (by kernel_rfl) (by kernel_rfl) ?_
  intro hTT
  have HTT := Lib.hid hTT
  clear hTT
  refine reg_load 0 HTT.out rfl (by kernel_rfl) (by decide) (fun _ _ _ _ h => h) HS.out rfl ?_
  apply Exists.intro
  refine ⟨fun w' hw => by (go_simp; exact rfl), ?_⟩
  refine reg_load 1 HTT.out rfl (by kernel_rfl) (by decide) (fun _ _ _ _ h => h) HS.out rfl ?_
  apply Exists.intro
  refine ⟨fun w' hw => by (go_simp; exact rfl), ?_⟩
  refine reg_load 2 HTT.out rfl (by kernel_rfl) (by decide) (fun _ _ _ _ h => h) HS.out rfl ?_
  apply Exists.intro
  refine ⟨fun w' hw => by (go_simp; exact rfl), ?_⟩
  refine reg_load 3 HTT.out rfl (by kernel_rfl) (by decide) (fun _ _ _ _ h => h) HS.out rfl ?_
  apply Exists.intro
  refine ⟨fun w' hw => by (have k8 := hw.1.c8; go_simp; exact rfl), ?_⟩
  refine reg_load 4 HTT.out rfl (by kernel_rfl) (by decide) (fun _ _ _ _ h => h) HS.out rfl ?_
  apply Exists.intro
  refine ⟨fun w' hw => by (go_simp; exact rfl), ?_⟩
  refine reg_load 5 HTT.out rfl (by kernel_rfl) (by decide) (fun _ _ _ _ h => h) HS.out rfl ?_
  apply Exists.intro
  refine ⟨fun w' hw => by (go_simp; exact rfl), ?_⟩
  refine reg_load 6 HTT.out rfl (by kernel_rfl) (by decide) (fun _ _ _ _ h => h) HS.out rfl ?_
  apply Exists.intro
  refine ⟨fun w' hw => by (go_simp; exact rfl), ?_⟩
  refine reg_only 7 rfl (by kernel_rfl) rfl ?_
  unfold Oper.wp
  go_simp
  refine (wnow_any _ HS.out.1).mono ?_
  rintro e w2 ⟨rfl, b2⟩
  have hS : Wc w2 x s ∧ Fw col w w2 := ⟨HS.out.1.blk (b2.block _ HS.out.1.lt), HS.out.2.trans (Fz.of_below b2)⟩
  refine ⟨hS, ?_⟩
  have HW2 := Lib.hid (HW0.out.later b2)
  have b23 := HS.out.2.size
  have b24 := b2.size
  clear HS b2
  have HS := Lib.hid hS
  clear hS
  refine reg_only 8 rfl (by kernel_rfl) rfl ?_
  unfold Oper.wp
  go_simp
  refine (wswap w2 HW2.out id old 3 s.now HID.out HO.out HNW.out).mono ?_
  rintro e w3 ⟨rfl, col3, h3, z3, l3⟩
  rw [HKB.out]
  have hS : Wc w3 x s ∧ Fw col w w3 := ⟨h3.cells.to rfl rfl rfl rfl rfl rfl rfl rfl rfl rfl rfl, HS.out.2.trans z3⟩
  refine ⟨hS, ?_⟩
  have HW3 := Lib.hid h3
  have HL3 := Lib.hid l3
  have HB3 := Lib.hid b23
  clear HS h3 z3 l3 b23
  have HS := Lib.hid hS
  clear hS
  obtain ⟨Y, hY⟩ : ∃ Y, bV s.D id old 3 = Y := ⟨_, rfl⟩
  rw [hY]
  clear hY
  refine reg_load 9 HTT.out rfl (by kernel_rfl) (by decide) (fun _ _ _ _ h => h) HS.out rfl ?_
  apply Exists.intro
  refine ⟨fun w' hw => by (go_simp; exact rfl), ?_⟩
  refine reg_load 10 HTT.out rfl (by kernel_rfl) (by decide) (fun _ _ _ _ h => h) HS.out rfl ?_
  apply Exists.intro
  refine ⟨fun w' hw => by (go_simp; exact rfl), ?_⟩
  refine reg_load 11 HTT.out rfl (by kernel_rfl) (by decide) (fun _ _ _ _ h => h) HS.out rfl ?_
  apply Exists.intro
  refine ⟨fun w' hw => by (go_simp; exact rfl), ?_⟩
  refine reg_load 12 HTT.out rfl (by kernel_rfl) (by decide) (fun _ _ _ _ h => h) HS.out rfl ?_
  apply Exists.intro
  refine ⟨fun w' hw => by (go_simp; exact rfl), ?_⟩
  refine reg_load 13 HTT.out rfl (by kernel_rfl) (by decide) (fun _ _ _ _ h => h) HS.out rfl ?_
  apply Exists.intro
  refine ⟨fun w' hw => by (go_simp; exact rfl), ?_⟩
  refine reg_done (by kernel_rfl) ?_
  go_wp2_with fail
  go_ret
  have h3 := HW3.out
  rw [HUF.out] at h3
  exact ⟨rfl, col3, h3, HS.out.2, fun g hg => HL3.out g (by have := HB3.out; omega)⟩
set_option maxRecDepth 100000 in
theorem wrem_yes (h : Wv base col w x s) (hM : s.M = Le.mk N) (id old th op : Int) (hid : U64 id) (hnow : U64 s.now) (ho : U64 old) (hk : bK s.D id old 3 = true) (hn : s.C.length < 1000) (hl : s.ev.length ≤ 1000) : Calls Tryz.prog 15 #[ptr x.pw, .int .u64 id, .int .u64 old, .int .i64 th, .int .i64 op] w fun e w' => e = .returned (.bool true) ∧
    ∃ col', Wv base col' w' x (remS s N id old th op) ∧ Fw col w w' ∧ El w col col' := by
  have HW := Lib.hid h
  have HMM := Lib.hid hM
  have HID := Lib.hid hid
  have HNW := Lib.hid hnow
  have HO := Lib.hid ho
  have HKB := Lib.hid hk
  clear h hM hid hnow ho hk
  go_enter Tryz.func15, Tryz.ntmps15
  go_wp2_with fail
  have HS : Hid (Wc w.drew x s ∧ Fw col w w.drew) := Lib.hid ⟨HW.out.cells.blk rfl, Fz.of_below (Below.refl _ _).drew⟩
  have HW0 : Hid (Wv base col w.drew x s) := Lib.hid (HW.out.later (Below.refl _ _).drew)
  refine reg_start 14 (fun w' => Wc w' x s ∧ Fw col w w') (by kernel_rfl) (by kernel_rfl) ?_
  intro hTT
  have HTT := Lib.hid hTT
  clear hTT
  refine reg_load 0 HTT.out rfl (by kernel_rfl) (by decide) (fun _ _ _ _ h => h) HS.out rfl ?_
  apply Exists.intro
  refine ⟨fun w' hw => by (go_simp; exact rfl), ?_⟩
  refine reg_load 1 HTT.out rfl (by kernel_rfl) (by decide) (fun _ _ _ _ h => h) HS.out rfl ?_
  apply Exists.intro
  refine ⟨fun w' hw => by (go_simp; exact rfl), ?_⟩
  refine reg_load 2 HTT.out rfl (by kernel_rfl) (by decide) (fun _ _ _ _ h => h) HS.out rfl ?_
  apply Exists.intro
  refine ⟨fun w' hw => by (go_simp; exact rfl), ?_⟩
  refine reg_load 3 HTT.out rfl (by kernel_rfl) (by decide) (fun _ _ _ _ h => h) HS.out rfl ?_
  apply Exists.intro
  refine ⟨fun w' hw => by (have k8 := hw.1.c8; go_simp; exact rfl), ?_⟩
  refine reg_load 4 HTT.out rfl (by kernel_rfl) (by decide) (fun _ _ _ _ h => h) HS.out rfl ?_
  apply Exists.intro
  refine ⟨fun w' hw => by (go_simp; exact rfl), ?_⟩
  refine reg_load 5 HTT.out rfl (by kernel_rfl) (by decide) (fun _ _ _ _ h => h) HS.out rfl ?_
  apply Exists.intro
  refine ⟨fun w' hw => by (go_simp; exact rfl), ?_⟩
  refine reg_load 6 HTT.out rfl (by kernel_rfl) (by decide) (fun _ _ _ _ h => h) HS.out rfl ?_
  apply Exists.intro
  refine ⟨fun w' hw => by (go_simp; exact rfl), ?_⟩
  refine reg_only 7 rfl (by kernel_rfl) rfl ?_
  unfold Oper.wp
  go_simp
  refine (wnow_any _ HS.out.1).mono ?_
  rintro e w2 ⟨rfl, b2⟩
  have hS : Wc w2 x s ∧ Fw col w w2 := ⟨HS.out.1.blk (b2.block _ HS.out.1.lt), HS.out.2.trans (Fz.of_below b2)⟩
  refine ⟨hS, ?_⟩
  have HW2 := Lib.hid (HW0.out.later b2)
  have b23 := HS.out.2.size
  have b24 := b2.size
  clear HS b2
  have HS := Lib.hid hS
  clear hS
  refine reg_only 8 rfl (by kernel_rfl) rfl ?_
  unfold Oper.wp
  go_simp
  refine (wswap w2 HW2.out id old 3 s.now HID.out HO.out HNW.out).mono ?_
  rintro e w3 ⟨rfl, col3, h3, z3, l3⟩
  rw [HKB.out]
  have hS : Wc w3 x s ∧ Fw col w w3 := ⟨h3.cells.to rfl rfl rfl rfl rfl rfl rfl rfl rfl rfl rfl, HS.out.2.trans z3⟩
  refine ⟨hS, ?_⟩
  have HW3 := Lib.hid h3
  have HL3 := Lib.hid l3
  have HB3 := Lib.hid b23
  clear HS h3 z3 l3 b23
  have HS := Lib.hid hS
  clear hS
  obtain ⟨Y, hY⟩ : ∃ Y, bV s.D id old 3 = Y := ⟨_, rfl⟩
  rw [hY]
  clear hY
  refine reg_load 9 HTT.out rfl (by kernel_rfl) (by decide) (fun _ _ _ _ h => h) HS.out rfl ?_
  apply Exists.intro
  refine ⟨fun w' hw => by (go_simp; exact rfl), ?_⟩
  refine reg_load 10 HTT.out rfl (by kernel_rfl) (by decide) (fun _ _ _ _ h => h) HS.out rfl ?_
  apply Exists.intro
  refine ⟨fun w' hw => by (go_simp; exact rfl), ?_⟩
  refine reg_load 11 HTT.out rfl (by kernel_rfl) (by decide) (fun _ _ _ _ h => h) HS.out rfl ?_
  apply Exists.intro
  refine ⟨fun w' hw => by (go_simp; exact rfl), ?_⟩
  refine reg_load 12 HTT.out rfl (by kernel_rfl) (by decide) (fun _ _ _ _ h => h) HS.out rfl ?_
  apply Exists.intro
  refine ⟨fun w' hw => by (go_simp; exact rfl), ?_⟩
  refine reg_load 13 HTT.out rfl (by kernel_rfl) (by decide) (fun _ _ _ _ h => h) HS.out rfl ?_
  apply Exists.intro
  refine ⟨fun w' hw => by (go_simp; exact rfl), ?_⟩
  refine reg_done (by kernel_rfl) ?_
  have c12 := HW3.out.cells.c12
  go_wp2_with fail
  refine (wclose _ HW3.out id HID.out hn).mono ?_
  rintro e w4 ⟨rfl, h4, z4⟩
  have HW4 := Lib.hid h4
  have HS4 : Hid (Fw col w w4) := Lib.hid (fw_two HS.out.2 (fun g hg => HL3.out g (by have := HB3.out; omega)) z4)
  have c11 := HW4.out.cells.c11
  clear h4 z4 c12
  go_wp2_with fail
  refine (wforget _ N HW4.out HMM.out id HID.out).mono ?_
  rintro e w5 ⟨rfl, h5, z5⟩
  have HW5 := Lib.hid h5
  have HS5 : Hid (Fw col w w5) := Lib.hid (fw_two HS4.out (fun g hg => HL3.out g (by have := HB3.out; omega)) z5)
  have c13 := HW5.out.cells.c13
  clear h5 z5 c11
  go_wp2_with fail
  refine (wadd _ HW5.out th 3 op id 0 hl).mono ?_
  rintro e w6 ⟨rfl, col6, h6, z6, l6⟩
  have HX : Hid (Wv base col6 w6 x (remS s N id old th op)) := Lib.hid h6
  have HS6 : Hid (Fw col w w6) := Lib.hid (fw_two HS5.out (fun g hg => HL3.out g (by have := HB3.out; omega)) z6)
  have HL6 : Hid (El w col col6) := Lib.hid (fun g hg => (l6 g (Nat.lt_of_lt_of_le hg HS5.out.size)).trans (HL3.out g (by have := HB3.out; omega)))
  clear h6 z6 l6 c13
  go_wp2_with fail
  go_ret
  exact ⟨rfl, col6, HX.out, HS6.out, HL6.out⟩
set_option maxRecDepth 100000 in
theorem wpub_open (h : Wv base col w x s) (id : Int) (hid : U64 id) (hl : s.S.length ≤ 1000000) (hc : s.closed = false) : Calls Tryz.prog 12 #[ptr x.pw, .int .u64 id] w fun e w' => e = .returned (.bool (kn s.D id == 0)) ∧
    ∃ col', Wv base col' w' x { s with S := pubS s.D s.S id } ∧ Fw col w w' ∧ El w col col' := by
  have c15 := h.cells.c15
  have c8 := h.cells.c8
  rw [hc] at c15
  obtain ⟨Z, hZ⟩ : ∃ Z, kn s.D id = Z := ⟨_, rfl⟩
  have HC := wpublish w h id hid hl
  rw [hZ] at HC
  rw [hZ]
  have HC := Lib.hid HC
  clear h hc hZ
  go_enter Tryz.func12, Tryz.ntmps12
  go_wp2_with fail
  refine HC.out.mono ?_
  rintro e w2 ⟨rfl, hx⟩
  have HX := Lib.hid hx
  clear hx HC
  go_wp2_with fail
  go_ret
  exact ⟨rfl, HX.out⟩
set_option maxRecDepth 100000 in
theorem wwant_closed (h : Wv base col w x s) (hc : s.closed = true) : Calls Tryz.prog 135 #[ptr x.pw] w fun e w' => e = .returned (.bool true) ∧ w = w' := by
  have c15 := h.cells.c15
  rw [hc] at c15
  clear h hc
  go_enter Tryz.func135, Tryz.ntmps135
  go_wp2_with fail
  go_ret
  exact ⟨rfl, rfl⟩
set_option maxRecDepth 100000 in
theorem wwant_open (h : Wv base col w x s) (hl : s.sl.length ≤ 1000) (hc : s.closed = false) : Calls Tryz.prog 135 #[ptr x.pw] w fun e w' => e = .returned (.bool (decide (0 < St.waitN s.sl))) ∧ Below w.heap.size w w' := by
  have c15 := h.cells.c15
  have c10 := h.cells.c10
  rw [hc] at c15
  obtain ⟨r, hs⟩ := h.slots
  have HS := Lib.hid hs
  obtain ⟨m, hm⟩ : ∃ m, St.waitN s.sl = m := ⟨_, rfl⟩
  have HC := St.waiting_any w base x.ps r s.sl hs hl
  rw [hm] at HC
  rw [hm]
  have HC := Lib.hid HC
  clear h hc hs hm
  go_enter Tryz.func135, Tryz.ntmps135
  go_wp2_with fail
  refine HC.out.mono ?_
  rintro e w2 ⟨rfl, b2⟩
  have B2 := Lib.hid b2
  clear b2 HC
  go_wp2_with fail
  go_ret
  exact ⟨by simp, B2.out⟩
end
end Go.Proofs.YthmdiaingolfnaaGreatDoor.Wo
namespace Go.Proofs.YthmdiaingolfnaaGreatDoor.Wo
open Go Go.ChangeShapes Go.WideShapes Go.ChangeAt Go.RowKit Go.Maps Rw Hi Mt Ba
open Cn (Cf cfE)
set_option linter.unusedVariables false
theorem cAdd_u64 {a b : Int} (ha : U64 a) (hb : U64 b) : U64 (Ck.cAdd a b) := by
  exact ⟨Ck.cAdd_lo a b ha.1 hb.1, Ck.cAdd_u a b⟩
section
variable {s : Ws} {N : List Int} {k : Nat}
end
end Go.Proofs.YthmdiaingolfnaaGreatDoor.Wo
