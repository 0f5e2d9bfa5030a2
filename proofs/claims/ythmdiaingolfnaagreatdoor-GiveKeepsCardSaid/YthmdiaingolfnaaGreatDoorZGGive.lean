/- A part of the claim: the texts GiveMath Give GiveRun. -/
import Derived.Test.YthmdiaingolfnaaGreatDoorZGTwo
import Derived.Test.YthmdiaingolfnaaGreatDoorZBase1
import Derived.Deep.MidRow
import Derived.Maps.Own
import Derived.Maps.OwnSet
namespace Go.Proofs.YthmdiaingolfnaaGreatDoor.Wo
open Go Go.ChangeShapes Go.WideShapes Go.ChangeAt Go.RowKit Go.Maps Rw Hi Mt Ba
open Cn (Cf cfE)
set_option linter.unusedVariables false
abbrev sOffer : ByteArray := ⟨#[111, 102, 102, 101, 114]⟩
abbrev sFree : ByteArray := ⟨#[102, 114, 101, 101]⟩
abbrev sStash : ByteArray := ⟨#[115, 116, 97, 115, 104]⟩
abbrev sAgain : ByteArray := ⟨#[97, 103, 97, 105, 110]⟩
abbrev sBack : ByteArray := ⟨#[98, 97, 99, 107]⟩
abbrev sClose : ByteArray := ⟨#[99, 108, 111, 115, 101]⟩
abbrev sUnlist : ByteArray := ⟨#[117, 110, 108, 105, 115, 116]⟩
abbrev sShrink : ByteArray := ⟨#[115, 104, 114, 105, 110, 107]⟩
abbrev sDone : ByteArray := ⟨#[100, 111, 110, 101]⟩
structure Gv where
  th : Int
  op : Int
  id : Int
  word : Int
  st : ByteArray
abbrev Gv.val (g : Gv) : Value := .agg #[.int .i64 g.th, .int .i64 g.op, .int .u64 g.id, .int .u64 g.word, .string g.st]
structure Gv.ok (g : Gv) : Prop where
  i : U64 g.id
  w : U64 g.word
structure Gw where
  g : Gv
  s : Ws
  N : List Int
def swapG (q : Gw) (st : Int) (then_ : ByteArray) : Gw :=
  ⟨if bK q.s.D q.g.id q.g.word st = true then { q.g with word := bV q.s.D q.g.id q.g.word st, st := then_ } else { q.g with st := sDone }, { q.s with D := up q.s.D q.g.id (exS q.g.word st q.s.now) }, q.N⟩
def offerG (q : Gw) : Gw :=
  if q.s.closed = true ∨ q.g.id ∈ q.N then ⟨{ q.g with st := sClose }, q.s, q.N⟩
  else if (St.fillR q.s.sl q.g.id).2.2 = true then ⟨{ q.g with st := sDone }, { q.s with sl := (St.fillR q.s.sl q.g.id).1 }, q.N⟩
  else ⟨{ q.g with st := sFree }, { q.s with sl := (St.fillR q.s.sl q.g.id).1 }, q.N⟩
def stashG (q : Gw) : Gw := ⟨{ q.g with st := sAgain }, { q.s with loc := Lc.putR q.s.loc q.g.th [q.g.id] }, q.N⟩
def againG (q : Gw) : Gw := ⟨{ q.g with st := if q.s.closed = true ∨ 0 < St.waitN q.s.sl then sBack else sDone }, q.s, q.N⟩
def closeG (q : Gw) : Gw :=
  if bK q.s.D q.g.id q.g.word 3 = true then ⟨{ q.g with st := sUnlist }, remS q.s q.N q.g.id q.g.word q.g.th q.g.op, q.N.filter (· != q.g.id)⟩ else ⟨{ q.g with st := sUnlist }, q.s, q.N⟩
def unlistG (q : Gw) : Gw := ⟨{ q.g with st := sShrink }, { q.s with S := unlS q.s.D q.s.S q.g.id }, q.N⟩
def shrinkG (q : Gw) : Gw := ⟨{ q.g with st := sDone }, { q.s with live := shrV q.s.live }, q.N⟩
def stepG (q : Gw) : Gw :=
  if q.g.st = sOffer then offerG q
  else if q.g.st = sFree then swapG q 0 sStash
  else if q.g.st = sStash then stashG q
  else if q.g.st = sAgain then againG q
  else if q.g.st = sBack then swapG q 1 sOffer
  else if q.g.st = sClose then closeG q
  else if q.g.st = sUnlist then unlistG q
  else if q.g.st = sShrink then shrinkG q
  else ⟨{ q.g with st := sDone }, q.s, q.N⟩
def itG : Nat → Gw → Gw
  | 0, q => q
  | n + 1, q => stepG (itG n q)
section
variable {q : Gw}
theorem stepG_offer (h : q.g.st = sOffer) : stepG q = offerG q := by unfold stepG; rw [if_pos h]
theorem stepG_free (h : q.g.st = sFree) : stepG q = swapG q 0 sStash := by unfold stepG; rw [h, if_neg (by decide), if_pos rfl]
theorem stepG_stash (h : q.g.st = sStash) : stepG q = stashG q := by unfold stepG; rw [h, if_neg (by decide), if_neg (by decide), if_pos rfl]
theorem stepG_again (h : q.g.st = sAgain) : stepG q = againG q := by unfold stepG; rw [h, if_neg (by decide), if_neg (by decide), if_neg (by decide), if_pos rfl]
theorem stepG_back (h : q.g.st = sBack) : stepG q = swapG q 1 sOffer := by unfold stepG; rw [h, if_neg (by decide), if_neg (by decide), if_neg (by decide), if_neg (by decide), if_pos rfl]
theorem stepG_close (h : q.g.st = sClose) : stepG q = closeG q := by unfold stepG; rw [h, if_neg (by decide), if_neg (by decide), if_neg (by decide), if_neg (by decide), if_neg (by decide), if_pos rfl]
theorem stepG_unlist (h : q.g.st = sUnlist) : stepG q = unlistG q := by unfold stepG; rw [h, if_neg (by decide), if_neg (by decide), if_neg (by decide), if_neg (by decide), if_neg (by decide), if_neg (by decide), if_pos rfl]
theorem stepG_shrink (h : q.g.st = sShrink) : stepG q = shrinkG q := by unfold stepG; rw [h, if_neg (by decide), if_neg (by decide), if_neg (by decide), if_neg (by decide), if_neg (by decide), if_neg (by decide), if_neg (by decide), if_pos rfl]
theorem stepG_done (h : q.g.st = sDone) : stepG q = q := by
  unfold stepG
  rw [h, if_neg (by decide), if_neg (by decide), if_neg (by decide), if_neg (by decide), if_neg (by decide), if_neg (by decide), if_neg (by decide), if_neg (by decide)]
  obtain ⟨⟨th, op, id, word, st⟩, s, N⟩ := q
  cases h
  rfl
theorem itG_done {k : Nat} (h : (itG k q).g.st = sDone) : ∀ n, itG (k + n) q = itG k q
  | 0 => rfl
  | n + 1 => by
    show stepG (itG (k + n) q) = itG k q
    rw [itG_done h n]
    exact stepG_done h
end
structure Gd (s : Ws) (n : Nat) : Prop where
  D : s.D = (List.range n).map fun j : Nat => ((j : Int) + 1, (⟨Wd.wOf 1 0, 0, 0, 0⟩ : Ex))
  S : s.S = (List.range n).map fun j : Nat => (j : Int) + 1
  live : s.live = n
  n_ : s.n = n
  C : s.C = []
  now : s.now = 0
  O : s.O = []
  mx : s.conf.max = 8
  el : s.ev = []
section
variable {s : Ws} {n : Nat}
theorem Gd.keys (h : Gd s n) : s.D.map Prod.fst = (List.range n).map fun j : Nat => (j : Int) + 1 := by
  rw [h.D, List.map_map]; rfl
theorem Gd.ris (h : Gd s n) : Ris s.D := by
  rw [h.D]
  show List.Pairwise _ _
  rw [List.pairwise_map]
  exact List.pairwise_lt_range.imp (fun hab => by show (_ : Int) < _; simp only; omega)
theorem Gd.fnd_ (h : Gd s n) {id : Int} (h1 : 1 ≤ id) (h2 : id ≤ n) : fnd s.D id = some ⟨Wd.wOf 1 0, 0, 0, 0⟩ := by
  refine fnd_mem h.ris.nd ?_
  rw [h.D]
  exact List.mem_map.2 ⟨(id - 1).toNat, List.mem_range.2 (by omega), by rw [show (((id - 1).toNat : Nat) : Int) + 1 = id by omega]⟩
theorem Gd.no (h : Gd s n) : ((n : Int) + 1) ∉ s.D.map Prod.fst := by
  rw [h.keys]
  intro hm
  obtain ⟨j, hj, e⟩ := List.mem_map.1 hm
  have := List.mem_range.1 hj
  omega
theorem Gd.mem (h : Gd s n) {id : Int} (h1 : 1 ≤ id) (h2 : id ≤ n) : id ∈ s.S := by
  rw [h.S]
  exact List.mem_map.2 ⟨(id - 1).toNat, List.mem_range.2 (by omega), by omega⟩
def oneMore (s : Ws) (st : Int) (i : Nat) : Ws := playS (playS (playS s ⟨1, 0, 0, 0, 0⟩) ⟨3, 0, 0, 0, st⟩) ⟨4, (i : Int) + 1, 0, 0, 0⟩
theorem Gd.more (h : Gd s n) (hc : s.closed = false) (hn : n < 8) : Gd (oneMore s 1 n) (n + 1) := by
  have e1 : playS s ⟨1, 0, 0, 0, 0⟩ = { s with live := (n : Int) + 1 } := by
    unfold playS
    rw [if_neg (by decide), if_pos (by decide)]
    unfold grwV
    rw [h.mx, h.live, if_pos (by omega)]
  have hE : entD s.D ((n : Int) + 1) 1 s.now = (List.range (n + 1)).map fun j : Nat => ((j : Int) + 1, (⟨Wd.wOf 1 0, 0, 0, 0⟩ : Ex)) := by
    have e : eE s.D ((n : Int) + 1) 1 = 0 := by
      unfold eE
      rw [if_neg (by omega), fnd_none h.no]
      rfl
    unfold entD
    rw [if_pos e, h.now, List.range_succ, List.map_append, ← h.D]
    refine ris_perm (h.ris.ins _) ?_ (((ins_perm h.ris h.no _).symm).trans ?_)
    · rw [h.D, ← List.map_append, ← List.range_succ]
      show List.Pairwise _ _
      rw [List.pairwise_map]
      exact List.pairwise_lt_range.imp (fun hab => by show (_ : Int) < _; simp only; omega)
    · exact (List.perm_append_singleton _ _).symm
  have e2 : playS { s with live := (n : Int) + 1 } ⟨3, 0, 0, 0, 1⟩ = { s with live := (n : Int) + 1, n := n + 1, D := entD s.D ((n : Int) + 1) 1 s.now } := by
    unfold playS
    rw [if_neg (by decide), if_neg (by decide), if_neg (by decide), if_pos (by decide)]
    have eo : Fc.nx s.O = (true, []) := by rw [h.O]; rfl
    have ei : opnI s.O s.n = (n : Int) + 1 := by unfold opnI; rw [eo, h.n_]; rfl
    have en : opnN s.O s.n = n + 1 := by unfold opnN; rw [eo, h.n_]; rfl
    simp only [ei, en, eo]
    rw [← h.O]
  have e3 : pubS (entD s.D ((n : Int) + 1) 1 s.now) s.S ((n : Int) + 1) = (List.range (n + 1)).map fun j : Nat => (j : Int) + 1 := by
    unfold pubS
    rw [if_pos]
    · unfold Sn.sWith
      rw [if_neg]
      · rw [h.S, List.range_succ, List.map_append]; rfl
      · rw [h.S]
        intro hm
        obtain ⟨j, hj, e⟩ := List.mem_map.1 hm
        have := List.mem_range.1 hj
        omega
    · rw [hE, fnd_is]
      refine decide_eq_true ?_
      rw [List.map_map]
      exact List.mem_map.2 ⟨n, List.mem_range.2 (by omega), rfl⟩
  unfold oneMore
  rw [e1, e2]
  unfold playS
  have e4 : (⟨4, (n : Int) + 1, 0, 0, 0⟩ : Ay).do_ % 8 = 4 := show (4 : Int) % 8 = 4 by decide
  rw [e4, if_neg (by decide), if_neg (by decide), if_neg (by decide), if_neg (by decide), if_pos rfl, if_neg (by show ¬ s.closed = true; rw [hc]; decide)]
  exact ⟨hE, e3, by show (n : Int) + 1 = ((n + 1 : Nat) : Int); omega, rfl, h.C, h.now, h.O, h.mx, h.el⟩
end
theorem fillR_no {L : List St.Sx} {i : Int} (h : (St.fillR L i).2.2 = false) : (St.fillR L i).1 = L := by
  unfold St.fillR at h ⊢
  split
  · rfl
  · next h0 =>
    rw [if_neg h0] at h
    cases hf : L.findIdx? St.free with
    | none => rfl
    | some k =>
      rw [hf] at h
      cases hx : L[k]? with
      | none => simp only [hx]
      | some x => simp only [hx] at h; cases h
theorem fillR_is (L : List St.Sx) {i : Int} (hi : i ≠ 0) : ((St.fillR L i).2.2 = true ↔ 0 < St.waitN L) ∧ (0 < St.waitN L → St.waitN (St.fillR L i).1 = St.waitN L - 1) := by
  unfold St.fillR
  rw [if_neg hi]
  cases hf : L.findIdx? St.free with
  | none =>
    have h0 : St.waitN L = 0 := by
      unfold St.waitN
      rw [List.countP_eq_zero]
      intro a ha
      have := List.findIdx?_eq_none_iff.1 hf a ha
      rw [this]; decide
    simp only
    exact ⟨⟨fun e => absurd e (by decide), fun e => by omega⟩, fun e => by omega⟩
  | some k =>
    obtain ⟨hk, hp, _⟩ := List.findIdx?_eq_some_iff_getElem.1 hf
    have hx : L[k]? = some L[k] := List.getElem?_eq_getElem hk
    simp only [hx]
    have hpos : 0 < St.waitN L := by
      unfold St.waitN
      exact List.countP_pos_iff.2 ⟨L[k], List.getElem_mem hk, hp⟩
    refine ⟨⟨fun _ => hpos, fun _ => by trivial⟩, fun _ => ?_⟩
    show St.waitN (St.fillAt L k L[k] i) = St.waitN L - 1
    unfold St.fillAt St.waitN
    rw [List.countP_set hk]
    have hn : St.free (L[k].1, L[k].2.1, i) = false := by
      show (i == 0) = false
      simpa using hi
    rw [hn, hp]
    simp
section
variable {s : Ws} {n : Nat} {N : List Int} {id : Int}
abbrev g0 (id : Int) : Gv := ⟨0, 1, id, Wd.wOf 1 0, sOffer⟩
theorem Gd.bK3 (h : Gd s n) (h1 : 1 ≤ id) (h2 : id ≤ n) : bK s.D id (Wd.wOf 1 0) 3 = true := by
  unfold bK; rw [h.fnd_ h1 h2]; decide
theorem Gd.bK0 (h : Gd s n) (h1 : 1 ≤ id) (h2 : id ≤ n) : bK s.D id (Wd.wOf 1 0) 0 = true := by
  unfold bK; rw [h.fnd_ h1 h2]; decide
abbrev shutS (s : Ws) (N : List Int) (id : Int) : Ws := { remS s N id (Wd.wOf 1 0) 0 1 with S := unlS (up s.D id (exS (Wd.wOf 1 0) 3 s.now)) s.S id, live := shrV s.live }
theorem keeps_shut (h : Gd s n) (h1 : 1 ≤ id) (h2 : id ≤ n) (hc : s.closed = true ∨ id ∈ N) :
    itG 9 ⟨g0 id, s, N⟩ = ⟨{ g0 id with st := sDone }, shutS s N id, N.filter (· != id)⟩ := by
  have a1 : itG 1 ⟨g0 id, s, N⟩ = ⟨{ g0 id with st := sClose }, s, N⟩ := by
    show stepG ⟨g0 id, s, N⟩ = _
    rw [stepG_offer rfl]; unfold offerG; rw [if_pos hc]
  have a2 : itG 2 ⟨g0 id, s, N⟩ = ⟨{ g0 id with st := sUnlist }, remS s N id (Wd.wOf 1 0) 0 1, N.filter (· != id)⟩ := by
    show stepG (itG 1 _) = _
    rw [a1, stepG_close rfl]; unfold closeG; rw [if_pos (h.bK3 h1 h2)]
  have a3 : itG 3 ⟨g0 id, s, N⟩ = ⟨{ g0 id with st := sShrink }, { remS s N id (Wd.wOf 1 0) 0 1 with S := unlS (up s.D id (exS (Wd.wOf 1 0) 3 s.now)) s.S id }, N.filter (· != id)⟩ := by
    show stepG (itG 2 _) = _
    rw [a2, stepG_unlist rfl]; rfl
  have a4 : itG 4 ⟨g0 id, s, N⟩ = ⟨{ g0 id with st := sDone }, shutS s N id, N.filter (· != id)⟩ := by
    show stepG (itG 3 _) = _
    rw [a3, stepG_shrink rfl]; rfl
  have := itG_done (k := 4) (q := ⟨g0 id, s, N⟩) (by rw [a4]) 5
  rw [a4] at this
  exact this
theorem keeps_fill (hc : s.closed = false) (hN : id ∉ N) (hf : (St.fillR s.sl id).2.2 = true) :
    itG 9 ⟨g0 id, s, N⟩ = ⟨{ g0 id with st := sDone }, { s with sl := (St.fillR s.sl id).1 }, N⟩ := by
  have a1 : itG 1 ⟨g0 id, s, N⟩ = ⟨{ g0 id with st := sDone }, { s with sl := (St.fillR s.sl id).1 }, N⟩ := by
    show stepG ⟨g0 id, s, N⟩ = _
    rw [stepG_offer rfl]; unfold offerG; rw [if_neg (by rw [hc]; simpa using hN), if_pos hf]
  have := itG_done (k := 1) (q := ⟨g0 id, s, N⟩) (by rw [a1]) 8
  rw [a1] at this
  exact this
abbrev freeS (s : Ws) (id : Int) : Ws := { s with D := up s.D id (exS (Wd.wOf 1 0) 0 s.now), loc := Lc.putR s.loc 0 [id] }
theorem keeps_free (h : Gd s n) (h1 : 1 ≤ id) (h2 : id ≤ n) (hc : s.closed = false) (hN : id ∉ N) (hf : (St.fillR s.sl id).2.2 = false) :
    itG 9 ⟨g0 id, s, N⟩ = ⟨{ g0 id with word := bV s.D id (Wd.wOf 1 0) 0, st := sDone }, freeS s id, N⟩ := by
  have hw : ¬ 0 < St.waitN s.sl := fun e => by
    have := ((fillR_is s.sl (i := id) (by omega)).1).2 e
    rw [hf] at this; cases this
  have a1 : itG 1 ⟨g0 id, s, N⟩ = ⟨{ g0 id with st := sFree }, s, N⟩ := by
    show stepG ⟨g0 id, s, N⟩ = _
    rw [stepG_offer rfl]; unfold offerG; rw [if_neg (by rw [hc]; simpa using hN), if_neg (by rw [hf]; decide)]
    show (⟨_, { s with sl := (St.fillR s.sl id).1 }, N⟩ : Gw) = _
    rw [fillR_no hf]
  have a2 : itG 2 ⟨g0 id, s, N⟩ = ⟨{ g0 id with word := bV s.D id (Wd.wOf 1 0) 0, st := sStash }, { s with D := up s.D id (exS (Wd.wOf 1 0) 0 s.now) }, N⟩ := by
    show stepG (itG 1 _) = _
    rw [a1, stepG_free rfl]; unfold swapG; rw [if_pos (h.bK0 h1 h2)]
  have a3 : itG 3 ⟨g0 id, s, N⟩ = ⟨{ g0 id with word := bV s.D id (Wd.wOf 1 0) 0, st := sAgain }, freeS s id, N⟩ := by
    show stepG (itG 2 _) = _
    rw [a2, stepG_stash rfl]; rfl
  have a4 : itG 4 ⟨g0 id, s, N⟩ = ⟨{ g0 id with word := bV s.D id (Wd.wOf 1 0) 0, st := sDone }, freeS s id, N⟩ := by
    show stepG (itG 3 _) = _
    rw [a3, stepG_again rfl]; unfold againG
    rw [if_neg (by show ¬ (s.closed = true ∨ 0 < St.waitN s.sl); rw [hc]; simpa using hw)]
  have := itG_done (k := 4) (q := ⟨g0 id, s, N⟩) (by rw [a4]) 5
  rw [a4] at this
  exact this
theorem Gd.bW_ (h : Gd s n) (h1 : 1 ≤ id) (h2 : id ≤ n) : bW s.D id = Wd.wOf 1 0 := by unfold bW; rw [h.fnd_ h1 h2]; rfl
theorem Gd.bW_up (h : Gd s n) (h1 : 1 ≤ id) (h2 : id ≤ n) (st : Int) (now : Int) : bW (up s.D id (exS (Wd.wOf 1 0) st now)) id = Wd.wSwap (Wd.wOf 1 0) (Wd.wOf 1 0) st := by
  unfold bW
  rw [fnd_up_same (h.fnd_ h1 h2)]
  rfl
end
end Go.Proofs.YthmdiaingolfnaaGreatDoor.Wo
namespace Go.Proofs.YthmdiaingolfnaaGreatDoor.Wo
open Go Go.ChangeShapes Go.WideShapes Go.ChangeAt Go.RowKit Go.Deep Go.Maps Rw Hi Mt Ba
open Cn (Cf cfE)
set_option linter.unusedVariables false
def Gv.cells (g : Gv) : List Value := [.int .i64 g.th, .int .i64 g.op, .int .u64 g.id, .int .u64 g.word, .string g.st]
theorem gcells_one (g : Gv) : g.cells.toArray.all (·.oneCell') = true := by kernel_rfl
structure Vg (w : World) (b : Nat) (g : Gv) : Prop where
  at_ : w.rangeAt b 0 g.cells
  th : w.there b 0 5
theorem under_g : Tryz.prog.underlying 84 = some (Tryz.prog.underlying 84).get! := by kernel_rfl
theorem row_g : ((Tryz.prog.underlying 84).get!).isRow = true := by kernel_rfl
theorem info_g : (Tryz.prog.info? 84).map (·.size) = some 5 := by kernel_rfl
section
variable {w w' : World} {b : Nat} {g : Gv}
theorem Vg.cell (h : Vg w b g) (j : Nat) (u : Value) (hj : g.cells[j]? = some u) : w.cell? ⟨b, j, none⟩ = some u := by
  have := h.at_ j u hj
  rwa [Nat.zero_add] at this
theorem th5_free (h : w.there b 0 5) (j : Nat) (hj : j < 5) : w.frozen? ⟨b, j, none⟩ = false := by
  have := (h j hj).2
  rwa [Nat.zero_add] at this
theorem th5_blk (h : w.there b 0 5) (hb : w'.heap[b]? = w.heap[b]?) : w'.there b 0 5 := fun j hj => ⟨by rw [World.cell?_of_block hb]; exact (h j hj).1, by rw [World.frozen?_of_block hb]; exact (h j hj).2⟩
theorem th5_lt (h : w.there b 0 5) : b < w.heap.size := by
  obtain ⟨u, hu⟩ := Option.isSome_iff_exists.1 (h 0 (by decide)).1
  exact Lw.lt_heap hu
theorem Vg.blk (h : Vg w b g) (hb : w'.heap[b]? = w.heap[b]?) : Vg w' b g := ⟨fun j u hj => (World.cell?_of_block hb).trans (h.at_ j u hj), th5_blk h.th hb⟩
theorem Vg.lt (h : Vg w b g) : b < w.heap.size := th5_lt h.th
theorem Vg.later (h : Vg w b g) (hb : Below w.heap.size w w') : Vg w' b g := h.blk (hb.block _ h.lt)
theorem th5_later (h : w.there b 0 5) (hb : Below w.heap.size w w') : w'.there b 0 5 := th5_blk h (hb.block _ (th5_lt h))
end
theorem box_g (g : Gv) (w : World) : ∃ W, w.alloc (.cells g.cells.toArray 84) = W ∧ Vg W w.heap.size g ∧ Below w.heap.size w W ∧ W.heap.size = w.heap.size + 1 := by
  have h1 : (w.alloc (.cells g.cells.toArray 84)).heap[w.heap.size]? = some (.cells g.cells.toArray 84) := heap_alloc_last _ _
  refine ⟨_, rfl, ⟨fun j u hj => ?_, fun j hj => ⟨?_, ?_⟩⟩, (Below.refl _ _).alloc (Nat.le_refl _) _, by simp⟩
  · rw [cell_of_row _ _ _ _ _ _ h1]; simpa using hj
  · rw [cell_of_row _ _ _ _ _ _ h1]; simp [Gv.cells]; omega
  · unfold World.frozen?; simp only [h1]; rfl
abbrev zg : Gv := ⟨0, 0, 0, 0, ⟨#[]⟩⟩
theorem boxes_g (g : Gv) (w : World) : ∃ W, (w.alloc (.cells #[.int .i64 g.th, .int .i64 g.op, .int .u64 g.id, .int .u64 g.word, .string g.st] 84)).alloc (.cells #[.int .i64 0, .int .i64 0, .int .u64 0, .int .u64 0, .string ⟨#[]⟩] 84) = W ∧
    Vg W w.heap.size g ∧ W.there (w.heap.size + 1) 0 5 ∧ Below w.heap.size w W ∧ W.heap.size = w.heap.size + 2 := by
  obtain ⟨W1, e1, h1, b1, s1⟩ := box_g g w
  have e1 : w.alloc (.cells #[.int .i64 g.th, .int .i64 g.op, .int .u64 g.id, .int .u64 g.word, .string g.st] 84) = W1 := e1
  rw [e1]
  obtain ⟨W2, e2, h2, b2, s2⟩ := box_g zg W1
  rw [s1] at h2
  exact ⟨W2, e2, h1.later b2, h2.th, b1.trans (b2.mono b1.size), by omega⟩
theorem res_g {fn : Func} {p : Tmp} (tmps : Array Value) (w : World) (b : Nat) (g : Gv) (h : fn.results = #[.cell p 84]) (hp : tmps.getD p undef = .pointer (some ⟨b, 0, none⟩)) (hv : Vg w b g) : (results fn tmps).run Tryz.prog w = .ok g.val w := by
  have hr := run_loadVar_mid (P := Tryz.prog) w b 0 84 _ _ hv.at_ under_g row_g info_g
  have hp' : tmps[p]?.getD undef = .pointer (some ⟨b, 0, none⟩) := by simpa using hp
  simp [results, h, hp', asAddr, hr]
  rfl
section
variable {ops : Array Oper} {rest : List Oper} {op : Oper} {a : Act} {w : World} {Q : Exit → Act → World → Prop}
theorem load_g (hgd : op.guard = none) (x : Operand) (ho : op.op = .load 84 x) (b : Nat) (hx : a.eval x = .pointer (some ⟨b, 0, none⟩)) (g : Gv) (hv : Vg w b g)
    (h : wpList Tryz.prog ops Q rest (a.put op.dst g.val) w) : wpList Tryz.prog ops Q (op :: rest) a w :=
  wpList_load_mid hgd 84 x ho b 0 hx _ _ hv.at_ under_g row_g info_g h
theorem store_g (hgd : op.guard = none) (x y : Operand) (ho : op.op = .store 84 x y) (b : Nat) (hx : a.eval x = .pointer (some ⟨b, 0, none⟩)) (g : Gv) (hy : a.eval y = g.val) (ht : w.there b 0 5)
    (h : ∀ w', Vg w' b g → Fz (fun k => k = b) w w' → wpList Tryz.prog ops Q rest (a.put op.dst undef) w') : wpList Tryz.prog ops Q (op :: rest) a w :=
  wpList_store_mid hgd 84 x y ho b 0 g.cells.toArray hx hy ht info_g (gcells_one g) (h _ ⟨World.rangeAt_setCells_same w b 0 _ ht, World.there_setCells ht b 0 _⟩ (fz_setCells _ _ _ _))
end
theorem Vg.set4 {w : World} {b : Nat} {g : Gv} (h : Vg w b g) (t : ByteArray) : Vg (w.setCell ⟨b, 4, none⟩ (.string t)) b { g with st := t } := by
  have k : ∀ o u, o ≠ 4 → w.cell? ⟨b, o, none⟩ = some u → (w.setCell ⟨b, 4, none⟩ (.string t)).cell? ⟨b, o, none⟩ = some u := fun o u ho hu => (World.cell?_setCell_other _ _ _ _ (fun e => by injection e with _ e _; omega)).trans hu
  refine ⟨fun j u hj => ?_, fun j hj => ⟨?_, by simpa using (h.th j hj).2⟩⟩
  · rw [Nat.zero_add]
    match j, hj with
    | 0, hj => exact k 0 u (by decide) (h.cell 0 u hj)
    | 1, hj => exact k 1 u (by decide) (h.cell 1 u hj)
    | 2, hj => exact k 2 u (by decide) (h.cell 2 u hj)
    | 3, hj => exact k 3 u (by decide) (h.cell 3 u hj)
    | 4, hj => injection hj with hj; subst hj; exact World.cell?_setCell_same _ _ _ (h.cell 4 _ rfl)
  · rw [Nat.zero_add]
    by_cases e : j = 4
    · subst e; rw [World.cell?_setCell_same _ _ _ (h.cell 4 _ rfl)]; rfl
    · have := (h.th j hj).1
      rw [Nat.zero_add] at this
      rw [World.cell?_setCell_other _ _ _ _ (fun e2 => by injection e2 with _ e2 _; omega)]; exact this
theorem Vg.set3 {w : World} {b : Nat} {g : Gv} (h : Vg w b g) (t : Int) : Vg (w.setCell ⟨b, 3, none⟩ (.int .u64 t)) b { g with word := t } := by
  have k : ∀ o u, o ≠ 3 → w.cell? ⟨b, o, none⟩ = some u → (w.setCell ⟨b, 3, none⟩ (.int .u64 t)).cell? ⟨b, o, none⟩ = some u := fun o u ho hu => (World.cell?_setCell_other _ _ _ _ (fun e => by injection e with _ e _; omega)).trans hu
  refine ⟨fun j u hj => ?_, fun j hj => ⟨?_, by simpa using (h.th j hj).2⟩⟩
  · rw [Nat.zero_add]
    match j, hj with
    | 0, hj => exact k 0 u (by decide) (h.cell 0 u hj)
    | 1, hj => exact k 1 u (by decide) (h.cell 1 u hj)
    | 2, hj => exact k 2 u (by decide) (h.cell 2 u hj)
    | 3, hj => injection hj with hj; subst hj; exact World.cell?_setCell_same _ _ _ (h.cell 3 _ rfl)
    | 4, hj => exact k 4 u (by decide) (h.cell 4 u hj)
  · rw [Nat.zero_add]
    by_cases e : j = 3
    · subst e; rw [World.cell?_setCell_same _ _ _ (h.cell 3 _ rfl)]; rfl
    · have := (h.th j hj).1
      rw [Nat.zero_add] at this
      rw [World.cell?_setCell_other _ _ _ _ (fun e2 => by injection e2 with _ e2 _; omega)]; exact this
set_option maxRecDepth 100000 in
theorem to_any (g : Gv) (t : ByteArray) (w : World) : Calls Tryz.prog 73 #[g.val, .string t] w fun e w' => e = .returned ({ g with st := t } : Gv).val ∧ Below w.heap.size w w' := by
  obtain ⟨W1, hW1, V1, T1, B1, S1⟩ := boxes_g g w
  have HV1 := Lib.hid V1
  have HT1 := Lib.hid T1
  have HB1 := Lib.hid B1
  have z4 := V1.cell 4 _ rfl
  have f4 := th5_free V1.th 4 (by decide)
  clear V1 T1 B1
  go_enter Tryz.func73, Tryz.ntmps73
  go_upto_region 1 with (fail)
  clear hW1
  go_upto_region 2 with (fail)
  have HV2 := Lib.hid (HV1.out.set4 t)
  have HT2 : Hid ((W1.setCell ⟨w.heap.size, 4, none⟩ (.string t)).there (w.heap.size + 1) 0 5) := Lib.hid (th5_blk HT1.out (heap_setCell_other _ _ (w.heap.size + 1) _ (by simp)))
  have HB2 := Lib.hid (HB1.out.setCell (p := ⟨w.heap.size, 4, none⟩) (Nat.le_refl _) (.string t))
  generalize (W1.setCell ⟨w.heap.size, 4, none⟩ (.string t)) = W2 at *
  clear z4 f4 HV1 HT1 HB1 S1
  go_wp2_with (first
    | (refine load_g rfl _ rfl w.heap.size rfl { g with st := t } HV2.out ?_)
    | (refine store_g rfl _ _ rfl (w.heap.size + 1) rfl { g with st := t } rfl HT2.out ?_; intro w9 hv9 hz9; have HV9 := Lib.hid hv9; have HZ9 := Lib.hid hz9; clear hv9 hz9))
  exact bodyPost_ret (v := Gv.val { g with st := t }) (res_g _ _ (w.heap.size + 1) _ Tryz.results73 rfl HV9.out) rfl ⟨rfl, HB2.out.trans (HZ9.out.below HB2.out.size (fun k hk => by omega))⟩
set_option maxRecDepth 100000 in
theorem gdone_any (g : Gv) (w : World) : Calls Tryz.prog 24 #[g.val] w fun e w' => e = .returned (.bool (g.st.toList == [100, 111, 110, 101])) ∧ Below w.heap.size w w' := by
  obtain ⟨W1, hW1, V1, B1, S1⟩ := box_g g w
  have hW1 : w.alloc (.cells #[.int .i64 g.th, .int .i64 g.op, .int .u64 g.id, .int .u64 g.word, .string g.st] 84) = W1 := hW1
  have HB1 := Lib.hid B1
  have z4 := V1.cell 4 _ rfl
  clear V1 B1
  go_enter Tryz.func24, Tryz.ntmps24
  go_upto_region 1 with (fail)
  clear hW1
  go_wp2_with fail
  go_ret
  exact ⟨rfl, HB1.out⟩
set_option maxRecDepth 100000 in
theorem goffer_any (th op id word : Int) (w : World) : Calls Tryz.prog 22 #[.int .i64 th, .int .i64 op, .int .u64 id, .int .u64 word] w fun e w' => e = .returned (⟨th, op, id, word, sOffer⟩ : Gv).val ∧ Below w.heap.size w w' := by
  obtain ⟨W1, hW1, V1, B1, S1⟩ := box_g zg w
  have hW1 : w.alloc (.cells #[.int .i64 0, .int .i64 0, .int .u64 0, .int .u64 0, .string ⟨#[]⟩] 84) = W1 := hW1
  have HT1 := Lib.hid V1.th
  have HB1 := Lib.hid B1
  clear V1 B1
  go_enter Tryz.func22, Tryz.ntmps22
  go_upto_region 1 with (fail)
  clear hW1
  go_wp2_with (first
    | (refine store_g rfl _ _ rfl w.heap.size rfl ⟨th, op, id, word, sOffer⟩ rfl HT1.out ?_; intro w9 hv9 hz9; have HV9 := Lib.hid hv9; have HZ9 := Lib.hid hz9; clear hv9 hz9))
  exact bodyPost_ret (v := Gv.val ⟨th, op, id, word, sOffer⟩) (res_g _ _ w.heap.size _ Tryz.results22 rfl HV9.out) rfl ⟨rfl, HB1.out.trans (HZ9.out.below HB1.out.size (fun k hk => by omega))⟩
theorem Wv.var2 {base : Nat} {col : Nat → Nat} {w w' : World} {x : Wp} {s : Ws} (h : Wv base col w x s) (hb : Below w.heap.size w w') : ∃ col', Wv base col' w' x s ∧ El w col col' ∧ ∀ g, w.heap.size ≤ g → g < w'.heap.size → col' g = 8 := by
  have hbs := h.base_le
  obtain ⟨col', hcol⟩ : ∃ col' : Nat → Nat, col' = fun g => if g < w.heap.size then col g else if g < w'.heap.size then 8 else 0 := ⟨_, rfl⟩
  have e1 : ∀ g, g < w.heap.size → col' g = col g := fun g hg => by rw [hcol]; exact if_pos hg
  have e2 : ∀ g, w.heap.size ≤ g → g < w'.heap.size → col' g = 8 := fun g h1 h2 => by rw [hcol]; show (if g < w.heap.size then col g else if g < w'.heap.size then 8 else 0) = 8; rw [if_neg (by omega), if_pos h2]
  have e3 : ∀ g, w.heap.size ≤ g → w'.heap.size ≤ g → col' g = 0 := fun g h3 h4 => by rw [hcol]; show (if g < w.heap.size then col g else if g < w'.heap.size then 8 else 0) = 0; rw [if_neg (by omega), if_neg (by omega)]
  have hlo := h.lo
  obtain ⟨p, q, h0, hi⟩ := h
  have hs := hb.size
  refine ⟨col', ⟨p, q, (h0.recol e1 (fun g hg => ?_)).later hb, fun g hg => ?_⟩, e1, e2⟩
  · by_cases h3 : g < w.heap.size
    · exact hlo g (by rw [← e1 g h3]; exact hg)
    · omega
  · by_cases h3 : g < w'.heap.size
    · exact h3
    · exact absurd (e3 g (by omega) (by omega)) hg
theorem fw_own {col : Nat → Nat} {w w8 w9 : World} {R : Nat} (h : Fw col w w8) (hz : Fz (fun k => k = R) w8 w9) (hR : w.heap.size ≤ R) : Fw col w w9 :=
  ⟨hz.os.trans h.os, hz.tape.trans h.tape, hz.output.trans h.output, Nat.le_trans h.size hz.size, fun k hk hc => (hz.block k (Nat.lt_of_lt_of_le hk h.size) (fun e => by omega)).trans (h.block k hk hc)⟩
theorem give_end {base : Nat} {col col1 coln : Nat → Nat} {x : Wp} {s : Ws} {w W1 wn w8 w9 : World} (hl1 : El w col col1) (hb1 : Below w.heap.size w W1) (hs1 : W1.heap.size = w.heap.size + 2) (h8 : ∀ g, w.heap.size ≤ g → g < W1.heap.size → col1 g = 8)
    (hw : Wv base coln wn x s) (hf : Fw col1 W1 wn) (hl : El W1 col1 coln) (hb8 : Below wn.heap.size wn w8) (hz9 : Fz (fun k => k = w.heap.size + 1) w8 w9) : ∃ col', Wv base col' w9 x s ∧ Fw col w w9 ∧ El w col col' := by
  have e8 : coln (w.heap.size + 1) = 8 := (hl _ (by omega)).trans (h8 _ (by omega) (by omega))
  refine ⟨coln, (hw.later hb8).aside hz9 (fun g _ e => by subst e; exact e8), fw_own ((fw_two (Fz.of_below hb1) hl1 hf).trans (Fz.of_below hb8)) hz9 (by omega), fun g hg => (hl g (by omega)).trans (hl1 g hg)⟩
theorem give_end3 {base : Nat} {col col1 coln : Nat → Nat} {x : Wp} {s : Ws} {w W1 wn w8 w9 : World} (hl1 : El w col col1) (hb1 : Below w.heap.size w W1) (hs1 : W1.heap.size = w.heap.size + 2) (h8 : ∀ g, w.heap.size ≤ g → g < W1.heap.size → col1 g = 8)
    (hw : Wv base coln wn x s) (hf : Fz (fun k => (col1 k ≠ 0 ∧ col1 k ≠ 8) ∨ k = w.heap.size) W1 wn) (hl : El W1 col1 coln) (hb8 : Below wn.heap.size wn w8) (hz9 : Fz (fun k => k = w.heap.size + 1) w8 w9) : ∃ col', Wv base col' w9 x s ∧ Fw col w w9 ∧ El w col col' := by
  have e8 : coln (w.heap.size + 1) = 8 := (hl _ (by omega)).trans (h8 _ (by omega) (by omega))
  have hf' : Fw col w wn := ⟨hf.os.trans hb1.os, hf.tape.trans hb1.tape, hf.output.trans hb1.output, Nat.le_trans hb1.size hf.size, fun k hk hc => (hf.block k (by omega) (fun e => by
    rcases e with e | e
    · rw [hl1 k hk] at e; exact hc e
    · omega)).trans (hb1.block k hk)⟩
  refine ⟨coln, (hw.later hb8).aside hz9 (fun g _ e => by subst e; exact e8), fw_own (hf'.trans (Fz.of_below hb8)) hz9 (by omega), fun g hg => (hl g (by omega)).trans (hl1 g hg)⟩
theorem Vg.fw {w w' : World} {b : Nat} {g : Gv} {col : Nat → Nat} (h : Vg w b g) (hc : col b = 8) (hz : Fw col w w') : Vg w' b g := h.blk (hz.block b h.lt (fun e => e.2 hc))
theorem th5_fw {w w' : World} {b : Nat} {col : Nat → Nat} (h : w.there b 0 5) (hc : col b = 8) (hz : Fw col w w') : w'.there b 0 5 := th5_blk h (hz.block b (th5_lt h) (fun e => e.2 hc))
abbrev Does (f : FuncId) (w : World) (base : Nat) (col : Nat → Nat) (x : Wp) (q r : Gw) : Prop :=
  Calls Tryz.prog f #[q.g.val, ptr x.pw] w fun e w' => e = .returned r.g.val ∧ ∃ col', Wv base col' w' x r.s ∧ Fw col w w' ∧ El w col col'
section
variable (w : World) {base : Nat} {col : Nat → Nat} {x : Wp} {q : Gw} {k : Nat}
set_option maxRecDepth 100000 in
theorem give_shrink (h : Wv base col w x q.s) (h0 : 0 ≤ q.s.live) (hm : q.s.live ≤ 1000000) : Does 109 w base col x q (shrinkG q) := by
  obtain ⟨g, s, N⟩ := q
  obtain ⟨W1, hW1, V1, T1, B1, S1⟩ := boxes_g g w
  obtain ⟨col1, hw1, hl1, h81⟩ := h.var2 B1
  have HW1 := Lib.hid hw1
  have HV1 := Lib.hid V1
  have HT1 := Lib.hid T1
  have HB1 := Lib.hid B1
  have HS1 := Lib.hid S1
  have HL1 := Lib.hid hl1
  have H81 := Lib.hid h81
  have hc0 : col1 w.heap.size = 8 := h81 _ (Nat.le_refl _) (by omega)
  have hc1 : col1 (w.heap.size + 1) = 8 := h81 _ (by omega) (by omega)
  have HC0 := Lib.hid hc0
  have HC1 := Lib.hid hc1
  clear V1 T1 B1 S1 hw1 hl1 h81 hc0 hc1 h
  go_enter Tryz.func109, Tryz.ntmps109
  go_upto_region 1 with (fail)
  clear hW1
  go_wp2_with fail
  refine (wshrink_any W1 HW1.out h0 hm).mono ?_
  rintro e w2 ⟨rfl, h2, z2⟩
  have l2 : El W1 col1 col1 := El.refl _ _
  have HW2 := Lib.hid h2
  have HF2 := Lib.hid z2
  have HL2 := Lib.hid l2
  have HV2 := Lib.hid (HV1.out.fw HC0.out z2)
  have HT2 := Lib.hid (th5_fw HT1.out HC1.out z2)
  clear h2 z2 l2
  go_wp2_with (first
    | (refine load_g rfl _ rfl w.heap.size rfl g HV2.out ?_))
  refine (to_any g sDone _).mono ?_
  rintro e w8 ⟨rfl, b8⟩
  have HB8 := Lib.hid b8
  have HT8 := Lib.hid (th5_later HT2.out b8)
  clear b8
  go_wp2_with (first
    | (refine store_g rfl _ _ rfl (w.heap.size + 1) rfl { g with st := sDone } rfl HT8.out ?_; intro w9 hv9 hz9; have HV9 := Lib.hid hv9; have HZ9 := Lib.hid hz9; clear hv9 hz9))
  exact bodyPost_ret (v := Gv.val { g with st := sDone }) (res_g _ _ (w.heap.size + 1) _ Tryz.results109 rfl HV9.out) rfl ⟨rfl, give_end HL1.out HB1.out HS1.out H81.out HW2.out HF2.out HL2.out HB8.out HZ9.out⟩
set_option maxRecDepth 100000 in
theorem give_again (h : Wv base col w x q.s) (hl : q.s.sl.length ≤ 1000) : Does 105 w base col x q (againG q) := by
  obtain ⟨t, ht⟩ : ∃ t, (if q.s.closed = true ∨ 0 < St.waitN q.s.sl then sBack else sDone) = t := ⟨_, rfl⟩
  have hr : againG q = ⟨{ q.g with st := t }, q.s, q.N⟩ := by unfold againG; rw [ht]
  rw [hr]
  clear hr
  cases hcl : q.s.closed with
  | true =>
    rw [hcl, if_pos (.inl rfl)] at ht
    subst ht
    obtain ⟨g, s, N⟩ := q
    obtain ⟨W1, hW1, V1, T1, B1, S1⟩ := boxes_g g w
    obtain ⟨col1, hw1, hl1, h81⟩ := h.var2 B1
    have HW1 := Lib.hid hw1
    have HV1 := Lib.hid V1
    have HT1 := Lib.hid T1
    have HB1 := Lib.hid B1
    have HS1 := Lib.hid S1
    have HL1 := Lib.hid hl1
    have H81 := Lib.hid h81
    have hc0 : col1 w.heap.size = 8 := h81 _ (Nat.le_refl _) (by omega)
    have hc1 : col1 (w.heap.size + 1) = 8 := h81 _ (by omega) (by omega)
    have HC0 := Lib.hid hc0
    have HC1 := Lib.hid hc1
    clear V1 T1 B1 S1 hw1 hl1 h81 hc0 hc1 h
    go_enter Tryz.func105, Tryz.ntmps105
    go_upto_region 1 with (fail)
    clear hW1
    go_wp2_with fail
    refine (wwant_closed W1 HW1.out hcl).mono ?_
    rintro e w2 ⟨rfl, hb2⟩
    have hb2 : Below W1.heap.size W1 w2 := hb2 ▸ Below.refl _ _
    have h2 := HW1.out.later hb2
    have z2 : Fw col1 W1 w2 := Fz.of_below hb2
    have l2 : El W1 col1 col1 := El.refl _ _
    clear hb2
    have HW2 := Lib.hid h2
    have HF2 := Lib.hid z2
    have HL2 := Lib.hid l2
    have HV2 := Lib.hid (HV1.out.fw HC0.out z2)
    have HT2 := Lib.hid (th5_fw HT1.out HC1.out z2)
    clear h2 z2 l2
    go_wp2_with (first
      | (refine load_g rfl _ rfl w.heap.size rfl g HV2.out ?_))
    refine (to_any g sBack _).mono ?_
    rintro e w8 ⟨rfl, b8⟩
    have HB8 := Lib.hid b8
    have HT8 := Lib.hid (th5_later HT2.out b8)
    clear b8
    go_wp2_with (first
      | (refine store_g rfl _ _ rfl (w.heap.size + 1) rfl { g with st := sBack } rfl HT8.out ?_; intro w9 hv9 hz9; have HV9 := Lib.hid hv9; have HZ9 := Lib.hid hz9; clear hv9 hz9))
    exact bodyPost_ret (v := Gv.val { g with st := sBack }) (res_g _ _ (w.heap.size + 1) _ Tryz.results105 rfl HV9.out) rfl ⟨rfl, give_end HL1.out HB1.out HS1.out H81.out HW2.out HF2.out HL2.out HB8.out HZ9.out⟩
  | false =>
    by_cases hwt : 0 < St.waitN q.s.sl
    · rw [if_pos (.inr hwt)] at ht
      subst ht
      obtain ⟨g, s, N⟩ := q
      obtain ⟨W1, hW1, V1, T1, B1, S1⟩ := boxes_g g w
      obtain ⟨col1, hw1, hl1, h81⟩ := h.var2 B1
      have HW1 := Lib.hid hw1
      have HV1 := Lib.hid V1
      have HT1 := Lib.hid T1
      have HB1 := Lib.hid B1
      have HS1 := Lib.hid S1
      have HL1 := Lib.hid hl1
      have H81 := Lib.hid h81
      have hc0 : col1 w.heap.size = 8 := h81 _ (Nat.le_refl _) (by omega)
      have hc1 : col1 (w.heap.size + 1) = 8 := h81 _ (by omega) (by omega)
      have HC0 := Lib.hid hc0
      have HC1 := Lib.hid hc1
      clear V1 T1 B1 S1 hw1 hl1 h81 hc0 hc1 h
      go_enter Tryz.func105, Tryz.ntmps105
      go_upto_region 1 with (fail)
      clear hW1
      have q1 : decide (0 < St.waitN s.sl) = true := decide_eq_true hwt
      have HCW : Hid (Calls Tryz.prog 135 #[ptr x.pw] W1 fun e w' => e = .returned (.bool true) ∧ Below W1.heap.size W1 w') := Lib.hid (by have := wwant_open W1 HW1.out hl hcl; rw [q1] at this; exact this)
      clear hcl hwt q1
      go_wp2_with fail
      refine (HCW.out).mono ?_
      rintro e w2 ⟨rfl, hb2⟩
      have hb2 : Below W1.heap.size W1 w2 := hb2
      have h2 := HW1.out.later hb2
      have z2 : Fw col1 W1 w2 := Fz.of_below hb2
      have l2 : El W1 col1 col1 := El.refl _ _
      clear hb2
      have HW2 := Lib.hid h2
      have HF2 := Lib.hid z2
      have HL2 := Lib.hid l2
      have HV2 := Lib.hid (HV1.out.fw HC0.out z2)
      have HT2 := Lib.hid (th5_fw HT1.out HC1.out z2)
      clear h2 z2 l2
      go_wp2_with (first
        | (refine load_g rfl _ rfl w.heap.size rfl g HV2.out ?_))
      refine (to_any g sBack _).mono ?_
      rintro e w8 ⟨rfl, b8⟩
      have HB8 := Lib.hid b8
      have HT8 := Lib.hid (th5_later HT2.out b8)
      clear b8
      go_wp2_with (first
        | (refine store_g rfl _ _ rfl (w.heap.size + 1) rfl { g with st := sBack } rfl HT8.out ?_; intro w9 hv9 hz9; have HV9 := Lib.hid hv9; have HZ9 := Lib.hid hz9; clear hv9 hz9))
      exact bodyPost_ret (v := Gv.val { g with st := sBack }) (res_g _ _ (w.heap.size + 1) _ Tryz.results105 rfl HV9.out) rfl ⟨rfl, give_end HL1.out HB1.out HS1.out H81.out HW2.out HF2.out HL2.out HB8.out HZ9.out⟩
    · rw [hcl, if_neg (by intro e; rcases e with e | e; cases e; exact hwt e)] at ht
      subst ht
      obtain ⟨g, s, N⟩ := q
      obtain ⟨W1, hW1, V1, T1, B1, S1⟩ := boxes_g g w
      obtain ⟨col1, hw1, hl1, h81⟩ := h.var2 B1
      have HW1 := Lib.hid hw1
      have HV1 := Lib.hid V1
      have HT1 := Lib.hid T1
      have HB1 := Lib.hid B1
      have HS1 := Lib.hid S1
      have HL1 := Lib.hid hl1
      have H81 := Lib.hid h81
      have hc0 : col1 w.heap.size = 8 := h81 _ (Nat.le_refl _) (by omega)
      have hc1 : col1 (w.heap.size + 1) = 8 := h81 _ (by omega) (by omega)
      have HC0 := Lib.hid hc0
      have HC1 := Lib.hid hc1
      clear V1 T1 B1 S1 hw1 hl1 h81 hc0 hc1 h
      go_enter Tryz.func105, Tryz.ntmps105
      go_upto_region 1 with (fail)
      clear hW1
      have q1 : decide (0 < St.waitN s.sl) = false := decide_eq_false hwt
      have HCW : Hid (Calls Tryz.prog 135 #[ptr x.pw] W1 fun e w' => e = .returned (.bool false) ∧ Below W1.heap.size W1 w') := Lib.hid (by have := wwant_open W1 HW1.out hl hcl; rw [q1] at this; exact this)
      clear hcl hwt q1
      go_wp2_with fail
      refine (HCW.out).mono ?_
      rintro e w2 ⟨rfl, hb2⟩
      have hb2 : Below W1.heap.size W1 w2 := hb2
      have h2 := HW1.out.later hb2
      have z2 : Fw col1 W1 w2 := Fz.of_below hb2
      have l2 : El W1 col1 col1 := El.refl _ _
      clear hb2
      have HW2 := Lib.hid h2
      have HF2 := Lib.hid z2
      have HL2 := Lib.hid l2
      have HV2 := Lib.hid (HV1.out.fw HC0.out z2)
      have HT2 := Lib.hid (th5_fw HT1.out HC1.out z2)
      clear h2 z2 l2
      go_wp2_with (first
        | (refine load_g rfl _ rfl w.heap.size rfl g HV2.out ?_))
      refine (to_any g sDone _).mono ?_
      rintro e w8 ⟨rfl, b8⟩
      have HB8 := Lib.hid b8
      have HT8 := Lib.hid (th5_later HT2.out b8)
      clear b8
      go_wp2_with (first
        | (refine store_g rfl _ _ rfl (w.heap.size + 1) rfl { g with st := sDone } rfl HT8.out ?_; intro w9 hv9 hz9; have HV9 := Lib.hid hv9; have HZ9 := Lib.hid hz9; clear hv9 hz9))
      exact bodyPost_ret (v := Gv.val { g with st := sDone }) (res_g _ _ (w.heap.size + 1) _ Tryz.results105 rfl HV9.out) rfl ⟨rfl, give_end HL1.out HB1.out HS1.out H81.out HW2.out HF2.out HL2.out HB8.out HZ9.out⟩
set_option maxRecDepth 100000 in
theorem give_shut (h : Wv base col w x q.s) (hM : q.s.M = Le.mk q.N) (hok : q.g.ok) (hnow : U64 q.s.now) (hn : q.s.C.length < 1000) (hl : q.s.ev.length ≤ 1000) : Does 107 w base col x q (closeG q) := by
  by_cases hk : bK q.s.D q.g.id q.g.word 3 = true
  · rw [show closeG q = ⟨{ q.g with st := sUnlist }, remS q.s q.N q.g.id q.g.word q.g.th q.g.op, q.N.filter (· != q.g.id)⟩ from if_pos hk]
    obtain ⟨g, s, N⟩ := q
    obtain ⟨W1, hW1, V1, T1, B1, S1⟩ := boxes_g g w
    obtain ⟨col1, hw1, hl1, h81⟩ := h.var2 B1
    have HW1 := Lib.hid hw1
    have HV1 := Lib.hid V1
    have HT1 := Lib.hid T1
    have HB1 := Lib.hid B1
    have HS1 := Lib.hid S1
    have HL1 := Lib.hid hl1
    have H81 := Lib.hid h81
    have hc0 : col1 w.heap.size = 8 := h81 _ (Nat.le_refl _) (by omega)
    have hc1 : col1 (w.heap.size + 1) = 8 := h81 _ (by omega) (by omega)
    have HC0 := Lib.hid hc0
    have HC1 := Lib.hid hc1
    have z0 := V1.cell 0 _ rfl
    have z1 := V1.cell 1 _ rfl
    have z2 := V1.cell 2 _ rfl
    have z3 := V1.cell 3 _ rfl
    clear V1 T1 B1 S1 hw1 hl1 h81 hc0 hc1 h
    go_enter Tryz.func107, Tryz.ntmps107
    go_upto_region 1 with (fail)
    clear hW1
    have HRM := Lib.hid (wrem_yes W1 N HW1.out hM g.id g.word g.th g.op hok.i hnow hok.w hk hn hl)
    clear hk hM hok hnow hn hl
    go_wp2_with fail
    refine HRM.out.mono ?_
    rintro e w2 ⟨rfl, col2, h2, z2, l2⟩
    clear HRM
    have HW2 := Lib.hid h2
    have HF2 := Lib.hid z2
    have HL2 := Lib.hid l2
    have HV2 := Lib.hid (HV1.out.fw HC0.out z2)
    have HT2 := Lib.hid (th5_fw HT1.out HC1.out z2)
    clear h2 z2 l2
    go_wp2_with (first
      | (refine load_g rfl _ rfl w.heap.size rfl g HV2.out ?_))
    refine (to_any g sUnlist _).mono ?_
    rintro e w8 ⟨rfl, b8⟩
    have HB8 := Lib.hid b8
    have HT8 := Lib.hid (th5_later HT2.out b8)
    clear b8
    go_wp2_with (first
      | (refine store_g rfl _ _ rfl (w.heap.size + 1) rfl { g with st := sUnlist } rfl HT8.out ?_; intro w9 hv9 hz9; have HV9 := Lib.hid hv9; have HZ9 := Lib.hid hz9; clear hv9 hz9))
    exact bodyPost_ret (v := Gv.val { g with st := sUnlist }) (res_g _ _ (w.heap.size + 1) _ Tryz.results107 rfl HV9.out) rfl ⟨rfl, give_end HL1.out HB1.out HS1.out H81.out HW2.out HF2.out HL2.out HB8.out HZ9.out⟩
  · have hk : bK q.s.D q.g.id q.g.word 3 = false := by simpa using hk
    rw [show closeG q = ⟨{ q.g with st := sUnlist }, q.s, q.N⟩ from if_neg (by rw [hk]; decide)]
    obtain ⟨g, s, N⟩ := q
    obtain ⟨W1, hW1, V1, T1, B1, S1⟩ := boxes_g g w
    obtain ⟨col1, hw1, hl1, h81⟩ := h.var2 B1
    have HW1 := Lib.hid hw1
    have HV1 := Lib.hid V1
    have HT1 := Lib.hid T1
    have HB1 := Lib.hid B1
    have HS1 := Lib.hid S1
    have HL1 := Lib.hid hl1
    have H81 := Lib.hid h81
    have hc0 : col1 w.heap.size = 8 := h81 _ (Nat.le_refl _) (by omega)
    have hc1 : col1 (w.heap.size + 1) = 8 := h81 _ (by omega) (by omega)
    have HC0 := Lib.hid hc0
    have HC1 := Lib.hid hc1
    have z0 := V1.cell 0 _ rfl
    have z1 := V1.cell 1 _ rfl
    have z2 := V1.cell 2 _ rfl
    have z3 := V1.cell 3 _ rfl
    clear V1 T1 B1 S1 hw1 hl1 h81 hc0 hc1 h
    go_enter Tryz.func107, Tryz.ntmps107
    go_upto_region 1 with (fail)
    clear hW1
    have HRM := Lib.hid (wrem_no W1 N HW1.out hM g.id g.word g.th g.op hok.i hnow hok.w hk)
    clear hk hM hok hnow hn hl
    go_wp2_with fail
    refine HRM.out.mono ?_
    rintro e w2 ⟨rfl, col2, h2, z2, l2⟩
    clear HRM
    have HW2 := Lib.hid h2
    have HF2 := Lib.hid z2
    have HL2 := Lib.hid l2
    have HV2 := Lib.hid (HV1.out.fw HC0.out z2)
    have HT2 := Lib.hid (th5_fw HT1.out HC1.out z2)
    clear h2 z2 l2
    go_wp2_with (first
      | (refine load_g rfl _ rfl w.heap.size rfl g HV2.out ?_))
    refine (to_any g sUnlist _).mono ?_
    rintro e w8 ⟨rfl, b8⟩
    have HB8 := Lib.hid b8
    have HT8 := Lib.hid (th5_later HT2.out b8)
    clear b8
    go_wp2_with (first
      | (refine store_g rfl _ _ rfl (w.heap.size + 1) rfl { g with st := sUnlist } rfl HT8.out ?_; intro w9 hv9 hz9; have HV9 := Lib.hid hv9; have HZ9 := Lib.hid hz9; clear hv9 hz9))
    exact bodyPost_ret (v := Gv.val { g with st := sUnlist }) (res_g _ _ (w.heap.size + 1) _ Tryz.results107 rfl HV9.out) rfl ⟨rfl, give_end HL1.out HB1.out HS1.out H81.out HW2.out HF2.out HL2.out HB8.out HZ9.out⟩
set_option maxRecDepth 100000 in
theorem give_unlist (h : Wv base col w x q.s) (hok : q.g.ok) (hl : q.s.S.length ≤ 1000000) : Does 108 w base col x q (unlistG q) := by
  unfold unlistG
  obtain ⟨g, s, N⟩ := q
  obtain ⟨W1, hW1, V1, T1, B1, S1⟩ := boxes_g g w
  obtain ⟨col1, hw1, hl1, h81⟩ := h.var2 B1
  have HW1 := Lib.hid hw1
  have HV1 := Lib.hid V1
  have HT1 := Lib.hid T1
  have HB1 := Lib.hid B1
  have HS1 := Lib.hid S1
  have HL1 := Lib.hid hl1
  have H81 := Lib.hid h81
  have hc0 : col1 w.heap.size = 8 := h81 _ (Nat.le_refl _) (by omega)
  have hc1 : col1 (w.heap.size + 1) = 8 := h81 _ (by omega) (by omega)
  have HC0 := Lib.hid hc0
  have HC1 := Lib.hid hc1
  have HI := Lib.hid hok.i
  clear V1 T1 B1 S1 hw1 hl1 h81 hc0 hc1 h
  go_enter Tryz.func108, Tryz.ntmps108
  go_upto_region 1 with (fail)
  clear hW1
  clear hok
  go_wp2_with fail
  have HS : Hid (Wc W1.drew x s ∧ Vg W1.drew w.heap.size g) := Lib.hid ⟨HW1.out.cells.blk rfl, HV1.out.blk rfl⟩
  have HD1 := Lib.hid (HW1.out.later (Below.refl _ _).drew)
  refine reg_start 7 (fun w' => Wc w' x s ∧ Vg w' w.heap.size g) (by kernel_rfl) (by kernel_rfl) ?_
  intro hTT
  have HTT := Lib.hid hTT
  clear hTT
  refine reg_load 0 HTT.out rfl (by kernel_rfl) (by decide) (fun _ _ _ _ h => h) HS.out rfl ?_
  apply Exists.intro
  refine ⟨fun w' hw => by (go_simp; exact rfl), ?_⟩
  refine reg_load 1 HTT.out rfl (by kernel_rfl) (by decide) (fun _ _ _ _ h => h) HS.out rfl ?_
  apply Exists.intro
  refine ⟨fun w' hw => by (go_simp; exact rfl), ?_⟩
  refine reg_load 2 HTT.out rfl (by kernel_rfl) (by decide) (fun _ _ _ _ h => h) HS.out rfl ?_
  apply Exists.intro
  refine ⟨fun w' hw => by (go_simp; exact rfl), ?_⟩
  refine reg_load 3 HTT.out rfl (by kernel_rfl) (by decide) (fun _ _ _ _ h => h) HS.out rfl ?_
  apply Exists.intro
  refine ⟨fun w' hw => by (have kc := hw.1.c8; go_simp; exact rfl), ?_⟩
  refine reg_load 4 HTT.out rfl (by kernel_rfl) (by decide) (fun _ _ _ _ h => h) HS.out rfl ?_
  apply Exists.intro
  refine ⟨fun w' hw => by (go_simp; exact rfl), ?_⟩
  refine reg_load 5 HTT.out rfl (by kernel_rfl) (by decide) (fun _ _ _ _ h => h) HS.out rfl ?_
  apply Exists.intro
  refine ⟨fun w' hw => by (have kz := hw.2.cell 2 _ rfl; go_simp; exact rfl), ?_⟩
  refine reg_only 6 rfl (by kernel_rfl) rfl ?_
  unfold Oper.wp
  go_simp
  refine (wunlist _ HD1.out g.id HI.out hl).mono ?_
  rintro e w2 ⟨rfl, col2, h2, z2, l2⟩
  have z2 : Fw col1 W1 w2 := (Fz.of_below (Below.refl _ _).drew).trans z2
  have l2 : El W1 col1 col2 := l2
  have hS : Wc w2 x s ∧ Vg w2 w.heap.size g := ⟨h2.cells.to rfl rfl rfl rfl rfl rfl rfl rfl rfl rfl rfl, HV1.out.fw HC0.out z2⟩
  refine ⟨hS, ?_⟩
  clear HS
  have HS := Lib.hid hS
  clear hS
  have HW2 := Lib.hid h2
  have HF2 := Lib.hid z2
  have HL2 := Lib.hid l2
  have HV2 := Lib.hid (HV1.out.fw HC0.out z2)
  have HT2 := Lib.hid (th5_fw HT1.out HC1.out z2)
  clear h2 z2 l2
  refine reg_done (by kernel_rfl) ?_
  go_wp2_with (first
    | (refine load_g rfl _ rfl w.heap.size rfl g HV2.out ?_))
  refine (to_any g sShrink _).mono ?_
  rintro e w8 ⟨rfl, b8⟩
  have HB8 := Lib.hid b8
  have HT8 := Lib.hid (th5_later HT2.out b8)
  clear b8
  go_wp2_with (first
    | (refine store_g rfl _ _ rfl (w.heap.size + 1) rfl { g with st := sShrink } rfl HT8.out ?_; intro w9 hv9 hz9; have HV9 := Lib.hid hv9; have HZ9 := Lib.hid hz9; clear hv9 hz9))
  exact bodyPost_ret (v := Gv.val { g with st := sShrink }) (res_g _ _ (w.heap.size + 1) _ Tryz.results108 rfl HV9.out) rfl ⟨rfl, give_end HL1.out HB1.out HS1.out H81.out HW2.out HF2.out HL2.out HB8.out HZ9.out⟩
set_option maxRecDepth 100000 in
theorem give_swap (h : Wv base col w x q.s) (hok : q.g.ok) (hnow : U64 q.s.now) (st : Int) (tn : ByteArray) : Calls Tryz.prog 133 #[q.g.val, ptr x.pw, .int .i64 st, .string tn] w fun e w' => e = .returned (swapG q st tn).g.val ∧ ∃ col', Wv base col' w' x (swapG q st tn).s ∧ Fw col w w' ∧ El w col col' := by
  unfold swapG
  cases hk : bK q.s.D q.g.id q.g.word st with
  | false =>
    obtain ⟨vb, hvb⟩ : ∃ vb, bV q.s.D q.g.id q.g.word st = vb := ⟨_, rfl⟩
    simp only [Bool.false_eq_true, if_false]
    have HKB := Lib.hid hk
    have HVB := Lib.hid hvb
    clear hk hvb
    obtain ⟨g, s, N⟩ := q
    obtain ⟨W1, hW1, V1, T1, B1, S1⟩ := boxes_g g w
    obtain ⟨col1, hw1, hl1, h81⟩ := h.var2 B1
    have HW1 := Lib.hid hw1
    have HV1 := Lib.hid V1
    have HT1 := Lib.hid T1
    have HB1 := Lib.hid B1
    have HS1 := Lib.hid S1
    have HL1 := Lib.hid hl1
    have H81 := Lib.hid h81
    have hc0 : col1 w.heap.size = 8 := h81 _ (Nat.le_refl _) (by omega)
    have hc1 : col1 (w.heap.size + 1) = 8 := h81 _ (by omega) (by omega)
    have HC0 := Lib.hid hc0
    have HC1 := Lib.hid hc1
    have HI := Lib.hid hok.i
    have HWO := Lib.hid hok.w
    have HNW := Lib.hid hnow
    clear V1 T1 B1 S1 hw1 hl1 h81 hc0 hc1 h
    go_enter Tryz.func133, Tryz.ntmps133
    go_upto_region 1 with (fail)
    clear hW1
    clear hok hnow
    go_wp2_with fail
    have HS : Hid (Wc W1.drew x s ∧ Vg W1.drew w.heap.size g) := Lib.hid ⟨HW1.out.cells.blk rfl, HV1.out.blk rfl⟩
    have HD1 := Lib.hid (HW1.out.later (Below.refl _ _).drew)
    refine reg_start 17 (fun w' => Wc w' x s ∧ Vg w' w.heap.size g) (by kernel_rfl) (by kernel_rfl) ?_
    intro hTT
    have HTT := Lib.hid hTT
    clear hTT
    refine reg_load 0 HTT.out rfl (by kernel_rfl) (by decide) (fun _ _ _ _ h => h) HS.out rfl ?_
    apply Exists.intro
    refine ⟨fun w' hw => by (go_simp; exact rfl), ?_⟩
    refine reg_load 1 HTT.out rfl (by kernel_rfl) (by decide) (fun _ _ _ _ h => h) HS.out rfl ?_
    apply Exists.intro
    refine ⟨fun w' hw => by (go_simp; exact rfl), ?_⟩
    refine reg_load 2 HTT.out rfl (by kernel_rfl) (by decide) (fun _ _ _ _ h => h) HS.out rfl ?_
    apply Exists.intro
    refine ⟨fun w' hw => by (go_simp; exact rfl), ?_⟩
    refine reg_load 3 HTT.out rfl (by kernel_rfl) (by decide) (fun _ _ _ _ h => h) HS.out rfl ?_
    apply Exists.intro
    refine ⟨fun w' hw => by (have kc := hw.1.c8; go_simp; exact rfl), ?_⟩
    refine reg_load 4 HTT.out rfl (by kernel_rfl) (by decide) (fun _ _ _ _ h => h) HS.out rfl ?_
    apply Exists.intro
    refine ⟨fun w' hw => by (go_simp; exact rfl), ?_⟩
    refine reg_load 5 HTT.out rfl (by kernel_rfl) (by decide) (fun _ _ _ _ h => h) HS.out rfl ?_
    apply Exists.intro
    refine ⟨fun w' hw => by (have kz := hw.2.cell 2 _ rfl; go_simp; exact rfl), ?_⟩
    refine reg_load 6 HTT.out rfl (by kernel_rfl) (by decide) (fun _ _ _ _ h => h) HS.out rfl ?_
    apply Exists.intro
    refine ⟨fun w' hw => by (go_simp; exact rfl), ?_⟩
    refine reg_load 7 HTT.out rfl (by kernel_rfl) (by decide) (fun _ _ _ _ h => h) HS.out rfl ?_
    apply Exists.intro
    refine ⟨fun w' hw => by (have kz := hw.2.cell 3 _ rfl; go_simp; exact rfl), ?_⟩
    refine reg_load 8 HTT.out rfl (by kernel_rfl) (by decide) (fun _ _ _ _ h => h) HS.out rfl ?_
    apply Exists.intro
    refine ⟨fun w' hw => by (go_simp; exact rfl), ?_⟩
    refine reg_load 9 HTT.out rfl (by kernel_rfl) (by decide) (fun _ _ _ _ h => h) HS.out rfl ?_
    apply Exists.intro
    refine ⟨fun w' hw => by (go_simp; exact rfl), ?_⟩
    refine reg_only 10 rfl (by kernel_rfl) rfl ?_
    unfold Oper.wp
    go_simp
    refine (wnow_any _ HS.out.1).mono ?_
    rintro e w4 ⟨rfl, b4⟩
    have hd4 := HD1.out.later b4
    have hv4 : Vg w4 w.heap.size g := HV1.out.later ((Below.refl _ _).drew.trans b4)
    have hS : Wc w4 x s ∧ Vg w4 w.heap.size g := ⟨hd4.cells, hv4⟩
    refine ⟨hS, ?_⟩
    clear HS HD1
    have HS := Lib.hid hS
    have HD4 := Lib.hid hd4
    have HB4 : Hid (Below W1.heap.size W1 w4) := Lib.hid ((Below.refl _ _).drew.trans b4)
    clear hS hd4 hv4 b4
    refine reg_only 11 rfl (by kernel_rfl) rfl ?_
    unfold Oper.wp
    go_simp
    refine (wswap _ HD4.out g.id g.word st s.now HI.out HWO.out HNW.out).mono ?_
    rintro e w2 ⟨rfl, col2, h2, z2, l2⟩
    rw [HKB.out, HVB.out]
    have z2 : Fw col1 W1 w2 := (Fz.of_below HB4.out).trans z2
    have l2 : El W1 col1 col2 := fun k hk => l2 k (by have := HB4.out.size; omega)
    have hS : Wc w2 x s ∧ Vg w2 w.heap.size g := ⟨h2.cells.to rfl rfl rfl rfl rfl rfl rfl rfl rfl rfl rfl, HV1.out.fw HC0.out z2⟩
    refine ⟨hS, ?_⟩
    clear HS
    have HS := Lib.hid hS
    clear hS
    have HW2 := Lib.hid h2
    have HF2 := Lib.hid z2
    have HL2 := Lib.hid l2
    have HV2 := Lib.hid (HV1.out.fw HC0.out z2)
    have HT2 := Lib.hid (th5_fw HT1.out HC1.out z2)
    clear h2 z2 l2
    refine reg_load 12 HTT.out rfl (by kernel_rfl) (by decide) (fun _ _ _ _ h => h) HS.out rfl ?_
    apply Exists.intro
    refine ⟨fun w' hw => by (go_simp; exact rfl), ?_⟩
    refine reg_load 13 HTT.out rfl (by kernel_rfl) (by decide) (fun _ _ _ _ h => h) HS.out rfl ?_
    apply Exists.intro
    refine ⟨fun w' hw => by (go_simp; exact rfl), ?_⟩
    refine reg_load 14 HTT.out rfl (by kernel_rfl) (by decide) (fun _ _ _ _ h => h) HS.out rfl ?_
    apply Exists.intro
    refine ⟨fun w' hw => by (go_simp; exact rfl), ?_⟩
    refine reg_load 15 HTT.out rfl (by kernel_rfl) (by decide) (fun _ _ _ _ h => h) HS.out rfl ?_
    apply Exists.intro
    refine ⟨fun w' hw => by (go_simp; exact rfl), ?_⟩
    refine reg_load 16 HTT.out rfl (by kernel_rfl) (by decide) (fun _ _ _ _ h => h) HS.out rfl ?_
    apply Exists.intro
    refine ⟨fun w' hw => by (go_simp; exact rfl), ?_⟩
    refine reg_done (by kernel_rfl) ?_
    go_wp2_with (first
      | (refine load_g rfl _ rfl w.heap.size rfl g HV2.out ?_))
    refine (to_any g sDone _).mono ?_
    rintro e w8 ⟨rfl, b8⟩
    have HB8 := Lib.hid b8
    have HT8 := Lib.hid (th5_later HT2.out b8)
    clear b8
    go_wp2_with (first
      | (refine store_g rfl _ _ rfl (w.heap.size + 1) rfl { g with st := sDone } rfl HT8.out ?_; intro w9 hv9 hz9; have HV9 := Lib.hid hv9; have HZ9 := Lib.hid hz9; clear hv9 hz9))
    exact bodyPost_ret (v := Gv.val { g with st := sDone }) (res_g _ _ (w.heap.size + 1) _ Tryz.results133 rfl HV9.out) rfl ⟨rfl, give_end HL1.out HB1.out HS1.out H81.out HW2.out HF2.out HL2.out HB8.out HZ9.out⟩
  | true =>
    obtain ⟨vb, hvb⟩ : ∃ vb, bV q.s.D q.g.id q.g.word st = vb := ⟨_, rfl⟩
    simp only [if_true, hvb]
    have HKB := Lib.hid hk
    have HVB := Lib.hid hvb
    clear hk hvb
    obtain ⟨g, s, N⟩ := q
    obtain ⟨W1, hW1, V1, T1, B1, S1⟩ := boxes_g g w
    obtain ⟨col1, hw1, hl1, h81⟩ := h.var2 B1
    have HW1 := Lib.hid hw1
    have HV1 := Lib.hid V1
    have HT1 := Lib.hid T1
    have HB1 := Lib.hid B1
    have HS1 := Lib.hid S1
    have HL1 := Lib.hid hl1
    have H81 := Lib.hid h81
    have hc0 : col1 w.heap.size = 8 := h81 _ (Nat.le_refl _) (by omega)
    have hc1 : col1 (w.heap.size + 1) = 8 := h81 _ (by omega) (by omega)
    have HC0 := Lib.hid hc0
    have HC1 := Lib.hid hc1
    have HI := Lib.hid hok.i
    have HWO := Lib.hid hok.w
    have HNW := Lib.hid hnow
    clear V1 T1 B1 S1 hw1 hl1 h81 hc0 hc1 h
    go_enter Tryz.func133, Tryz.ntmps133
    go_upto_region 1 with (fail)
    clear hW1
    clear hok hnow
    go_wp2_with fail
    have HS : Hid (Wc W1.drew x s ∧ Vg W1.drew w.heap.size g) := Lib.hid ⟨HW1.out.cells.blk rfl, HV1.out.blk rfl⟩
    have HD1 := Lib.hid (HW1.out.later (Below.refl _ _).drew)
    refine reg_start 17 (fun w' => Wc w' x s ∧ Vg w' w.heap.size g) (by kernel_rfl) (by kernel_rfl) ?_
    intro hTT
    have HTT := Lib.hid hTT
    clear hTT
    refine reg_load 0 HTT.out rfl (by kernel_rfl) (by decide) (fun _ _ _ _ h => h) HS.out rfl ?_
    apply Exists.intro
    refine ⟨fun w' hw => by (go_simp; exact rfl), ?_⟩
    refine reg_load 1 HTT.out rfl (by kernel_rfl) (by decide) (fun _ _ _ _ h => h) HS.out rfl ?_
    apply Exists.intro
    refine ⟨fun w' hw => by (go_simp; exact rfl), ?_⟩
    refine reg_load 2 HTT.out rfl (by kernel_rfl) (by decide) (fun _ _ _ _ h => h) HS.out rfl ?_
    apply Exists.intro
    refine ⟨fun w' hw => by (go_simp; exact rfl), ?_⟩
    refine reg_load 3 HTT.out rfl (by kernel_rfl) (by decide) (fun _ _ _ _ h => h) HS.out rfl ?_
    apply Exists.intro
    refine ⟨fun w' hw => by (have kc := hw.1.c8; go_simp; exact rfl), ?_⟩
    refine reg_load 4 HTT.out rfl (by kernel_rfl) (by decide) (fun _ _ _ _ h => h) HS.out rfl ?_
    apply Exists.intro
    refine ⟨fun w' hw => by (go_simp; exact rfl), ?_⟩
    refine reg_load 5 HTT.out rfl (by kernel_rfl) (by decide) (fun _ _ _ _ h => h) HS.out rfl ?_
    apply Exists.intro
    refine ⟨fun w' hw => by (have kz := hw.2.cell 2 _ rfl; go_simp; exact rfl), ?_⟩
    refine reg_load 6 HTT.out rfl (by kernel_rfl) (by decide) (fun _ _ _ _ h => h) HS.out rfl ?_
    apply Exists.intro
    refine ⟨fun w' hw => by (go_simp; exact rfl), ?_⟩
    refine reg_load 7 HTT.out rfl (by kernel_rfl) (by decide) (fun _ _ _ _ h => h) HS.out rfl ?_
    apply Exists.intro
    refine ⟨fun w' hw => by (have kz := hw.2.cell 3 _ rfl; go_simp; exact rfl), ?_⟩
    refine reg_load 8 HTT.out rfl (by kernel_rfl) (by decide) (fun _ _ _ _ h => h) HS.out rfl ?_
    apply Exists.intro
    refine ⟨fun w' hw => by (go_simp; exact rfl), ?_⟩
    refine reg_load 9 HTT.out rfl (by kernel_rfl) (by decide) (fun _ _ _ _ h => h) HS.out rfl ?_
    apply Exists.intro
    refine ⟨fun w' hw => by (go_simp; exact rfl), ?_⟩
    refine reg_only 10 rfl (by kernel_rfl) rfl ?_
    unfold Oper.wp
    go_simp
    refine (wnow_any _ HS.out.1).mono ?_
    rintro e w4 ⟨rfl, b4⟩
    have hd4 := HD1.out.later b4
    have hv4 : Vg w4 w.heap.size g := HV1.out.later ((Below.refl _ _).drew.trans b4)
    have hS : Wc w4 x s ∧ Vg w4 w.heap.size g := ⟨hd4.cells, hv4⟩
    refine ⟨hS, ?_⟩
    clear HS HD1
    have HS := Lib.hid hS
    have HD4 := Lib.hid hd4
    have HB4 : Hid (Below W1.heap.size W1 w4) := Lib.hid ((Below.refl _ _).drew.trans b4)
    clear hS hd4 hv4 b4
    refine reg_only 11 rfl (by kernel_rfl) rfl ?_
    unfold Oper.wp
    go_simp
    refine (wswap _ HD4.out g.id g.word st s.now HI.out HWO.out HNW.out).mono ?_
    rintro e w2 ⟨rfl, col2, h2, z2, l2⟩
    rw [HKB.out, HVB.out]
    have z2 : Fw col1 W1 w2 := (Fz.of_below HB4.out).trans z2
    have l2 : El W1 col1 col2 := fun k hk => l2 k (by have := HB4.out.size; omega)
    have hS : Wc w2 x s ∧ Vg w2 w.heap.size g := ⟨h2.cells.to rfl rfl rfl rfl rfl rfl rfl rfl rfl rfl rfl, HV1.out.fw HC0.out z2⟩
    refine ⟨hS, ?_⟩
    clear HS
    have HS := Lib.hid hS
    clear hS
    have HW2 := Lib.hid h2
    have HF2 := Lib.hid z2
    have HL2 := Lib.hid l2
    have HV2 := Lib.hid (HV1.out.fw HC0.out z2)
    have HT2 := Lib.hid (th5_fw HT1.out HC1.out z2)
    clear h2 z2 l2
    refine reg_load 12 HTT.out rfl (by kernel_rfl) (by decide) (fun _ _ _ _ h => h) HS.out rfl ?_
    apply Exists.intro
    refine ⟨fun w' hw => by (go_simp; exact rfl), ?_⟩
    refine reg_load 13 HTT.out rfl (by kernel_rfl) (by decide) (fun _ _ _ _ h => h) HS.out rfl ?_
    apply Exists.intro
    refine ⟨fun w' hw => by (go_simp; exact rfl), ?_⟩
    refine reg_load 14 HTT.out rfl (by kernel_rfl) (by decide) (fun _ _ _ _ h => h) HS.out rfl ?_
    apply Exists.intro
    refine ⟨fun w' hw => by (go_simp; exact rfl), ?_⟩
    refine reg_load 15 HTT.out rfl (by kernel_rfl) (by decide) (fun _ _ _ _ h => h) HS.out rfl ?_
    apply Exists.intro
    refine ⟨fun w' hw => by (go_simp; exact rfl), ?_⟩
    refine reg_load 16 HTT.out rfl (by kernel_rfl) (by decide) (fun _ _ _ _ h => h) HS.out rfl ?_
    apply Exists.intro
    refine ⟨fun w' hw => by (go_simp; exact rfl), ?_⟩
    refine reg_done (by kernel_rfl) ?_
    have y3 := HV2.out.cell 3 _ rfl
    have f3 := th5_free HV2.out.th 3 (by decide)
    go_upto_region 5 with (fail)
    have HV3 := Lib.hid (HV2.out.set3 vb)
    have HT3 : Hid ((w2.setCell ⟨w.heap.size, 3, none⟩ (.int .u64 vb)).there (w.heap.size + 1) 0 5) := Lib.hid (th5_blk HT2.out (heap_setCell_other _ _ (w.heap.size + 1) _ (by simp)))
    have HZ3 : Hid (Fz (fun k => k = w.heap.size) w2 (w2.setCell ⟨w.heap.size, 3, none⟩ (.int .u64 vb))) := Lib.hid (Fz.of_set (C := fun k => k = w.heap.size) (a := ⟨w.heap.size, 3, none⟩) _ rfl)
    have e0 : col2 w.heap.size = 8 := (HL2.out _ (by have := HS1.out; omega)).trans HC0.out
    have HW3 := Lib.hid (HW2.out.aside HZ3.out (fun k _ e => by subst e; exact e0))
    have HF3 : Hid (Fz (fun k => (col1 k ≠ 0 ∧ col1 k ≠ 8) ∨ k = w.heap.size) W1 (w2.setCell ⟨w.heap.size, 3, none⟩ (.int .u64 vb))) := Lib.hid ((HF2.out.mono (fun _ _ e => .inl e)).trans (HZ3.out.mono (fun _ _ e => .inr e)))
    generalize (w2.setCell ⟨w.heap.size, 3, none⟩ (.int .u64 vb)) = w3 at *
    clear y3 f3 HS HV2 HT2 HW2 HF2 e0
    go_wp2_with (first
      | (refine load_g rfl _ rfl w.heap.size rfl { g with word := vb } HV3.out ?_))
    refine (to_any { g with word := vb } tn _).mono ?_
    rintro e w8 ⟨rfl, b8⟩
    have HB8 := Lib.hid b8
    have HT8 := Lib.hid (th5_later HT3.out b8)
    clear b8
    go_wp2_with (first
      | (refine store_g rfl _ _ rfl (w.heap.size + 1) rfl { g with word := vb, st := tn } rfl HT8.out ?_; intro w9 hv9 hz9; have HV9 := Lib.hid hv9; have HZ9 := Lib.hid hz9; clear hv9 hz9))
    exact bodyPost_ret (v := Gv.val { g with word := vb, st := tn }) (res_g _ _ (w.heap.size + 1) _ Tryz.results133 rfl HV9.out) rfl ⟨rfl, give_end3 HL1.out HB1.out HS1.out H81.out HW3.out HF3.out HL2.out HB8.out HZ9.out⟩
set_option maxRecDepth 100000 in
theorem give_free (h : Wv base col w x q.s) (hok : q.g.ok) (hnow : U64 q.s.now) : Does 103 w base col x q (swapG q 0 sStash) := by
  have HSW := Lib.hid (fun (w : World) (col : Nat → Nat) (h : Wv base col w x q.s) => give_swap w (q := q) h hok hnow 0 sStash)
  obtain ⟨r, hr⟩ : ∃ r, swapG q 0 sStash = r := ⟨_, rfl⟩
  unfold Does
  simp only [hr] at HSW ⊢
  clear hr
  obtain ⟨g, s, N⟩ := q
  obtain ⟨W1, hW1, V1, T1, B1, S1⟩ := boxes_g g w
  obtain ⟨col1, hw1, hl1, h81⟩ := h.var2 B1
  have HW1 := Lib.hid hw1
  have HV1 := Lib.hid V1
  have HT1 := Lib.hid T1
  have HB1 := Lib.hid B1
  have HS1 := Lib.hid S1
  have HL1 := Lib.hid hl1
  have H81 := Lib.hid h81
  have hc0 : col1 w.heap.size = 8 := h81 _ (Nat.le_refl _) (by omega)
  have hc1 : col1 (w.heap.size + 1) = 8 := h81 _ (by omega) (by omega)
  have HC0 := Lib.hid hc0
  have HC1 := Lib.hid hc1
  clear V1 T1 B1 S1 hw1 hl1 h81 hc0 hc1 h
  go_enter Tryz.func103, Tryz.ntmps103
  go_upto_region 1 with (fail)
  clear hW1
  clear hok hnow
  go_wp2_with (first
    | (refine load_g rfl _ rfl w.heap.size rfl g HV1.out ?_))
  refine (HSW.out _ _ HW1.out).mono ?_
  rintro e w2 ⟨rfl, col2, h2, z2, l2⟩
  have HW2 := Lib.hid h2
  have HF2 := Lib.hid z2
  have HL2 := Lib.hid l2
  have HV2 := Lib.hid (HV1.out.fw HC0.out z2)
  have HT2 := Lib.hid (th5_fw HT1.out HC1.out z2)
  clear h2 z2 l2
  go_wp2_with (first
    | (refine store_g rfl _ _ rfl (w.heap.size + 1) rfl r.g rfl HT2.out ?_; intro w9 hv9 hz9; have HV9 := Lib.hid hv9; have HZ9 := Lib.hid hz9; clear hv9 hz9))
  exact bodyPost_ret (v := r.g.val) (res_g _ _ (w.heap.size + 1) _ Tryz.results103 rfl HV9.out) rfl ⟨rfl, give_end HL1.out HB1.out HS1.out H81.out HW2.out HF2.out HL2.out (Below.refl _ _) HZ9.out⟩
set_option maxRecDepth 100000 in
theorem give_back (h : Wv base col w x q.s) (hok : q.g.ok) (hnow : U64 q.s.now) : Does 106 w base col x q (swapG q 1 sOffer) := by
  have HSW := Lib.hid (fun (w : World) (col : Nat → Nat) (h : Wv base col w x q.s) => give_swap w (q := q) h hok hnow 1 sOffer)
  obtain ⟨r, hr⟩ : ∃ r, swapG q 1 sOffer = r := ⟨_, rfl⟩
  unfold Does
  simp only [hr] at HSW ⊢
  clear hr
  obtain ⟨g, s, N⟩ := q
  obtain ⟨W1, hW1, V1, T1, B1, S1⟩ := boxes_g g w
  obtain ⟨col1, hw1, hl1, h81⟩ := h.var2 B1
  have HW1 := Lib.hid hw1
  have HV1 := Lib.hid V1
  have HT1 := Lib.hid T1
  have HB1 := Lib.hid B1
  have HS1 := Lib.hid S1
  have HL1 := Lib.hid hl1
  have H81 := Lib.hid h81
  have hc0 : col1 w.heap.size = 8 := h81 _ (Nat.le_refl _) (by omega)
  have hc1 : col1 (w.heap.size + 1) = 8 := h81 _ (by omega) (by omega)
  have HC0 := Lib.hid hc0
  have HC1 := Lib.hid hc1
  clear V1 T1 B1 S1 hw1 hl1 h81 hc0 hc1 h
  go_enter Tryz.func106, Tryz.ntmps106
  go_upto_region 1 with (fail)
  clear hW1
  clear hok hnow
  go_wp2_with (first
    | (refine load_g rfl _ rfl w.heap.size rfl g HV1.out ?_))
  refine (HSW.out _ _ HW1.out).mono ?_
  rintro e w2 ⟨rfl, col2, h2, z2, l2⟩
  have HW2 := Lib.hid h2
  have HF2 := Lib.hid z2
  have HL2 := Lib.hid l2
  have HV2 := Lib.hid (HV1.out.fw HC0.out z2)
  have HT2 := Lib.hid (th5_fw HT1.out HC1.out z2)
  clear h2 z2 l2
  go_wp2_with (first
    | (refine store_g rfl _ _ rfl (w.heap.size + 1) rfl r.g rfl HT2.out ?_; intro w9 hv9 hz9; have HV9 := Lib.hid hv9; have HZ9 := Lib.hid hz9; clear hv9 hz9))
  exact bodyPost_ret (v := r.g.val) (res_g _ _ (w.heap.size + 1) _ Tryz.results106 rfl HV9.out) rfl ⟨rfl, give_end HL1.out HB1.out HS1.out H81.out HW2.out HF2.out HL2.out (Below.refl _ _) HZ9.out⟩
set_option maxRecDepth 100000 in
theorem give_stash (h : Wv base col w x q.s) : Does 104 w base col x q (stashG q) := by
  unfold stashG
  obtain ⟨g, s, N⟩ := q
  obtain ⟨W1, hW1, V1, T1, B1, S1⟩ := boxes_g g w
  obtain ⟨col1, hw1, hl1, h81⟩ := h.var2 B1
  have HW1 := Lib.hid hw1
  have HV1 := Lib.hid V1
  have HT1 := Lib.hid T1
  have HB1 := Lib.hid B1
  have HS1 := Lib.hid S1
  have HL1 := Lib.hid hl1
  have H81 := Lib.hid h81
  have hc0 : col1 w.heap.size = 8 := h81 _ (Nat.le_refl _) (by omega)
  have hc1 : col1 (w.heap.size + 1) = 8 := h81 _ (by omega) (by omega)
  have HC0 := Lib.hid hc0
  have HC1 := Lib.hid hc1
  clear V1 T1 B1 S1 hw1 hl1 h81 hc0 hc1 h
  go_enter Tryz.func104, Tryz.ntmps104
  go_upto_region 1 with (fail)
  clear hW1
  go_wp2_with fail
  have HS : Hid (Wc W1.drew x s ∧ Vg W1.drew w.heap.size g) := Lib.hid ⟨HW1.out.cells.blk rfl, HV1.out.blk rfl⟩
  have HD1 := Lib.hid (HW1.out.later (Below.refl _ _).drew)
  refine reg_start 10 (fun w' => Wc w' x s ∧ Vg w' w.heap.size g) (by kernel_rfl) (by kernel_rfl) ?_
  intro hTT
  have HTT := Lib.hid hTT
  clear hTT
  refine reg_load 0 HTT.out rfl (by kernel_rfl) (by decide) (fun _ _ _ _ h => h) HS.out rfl ?_
  apply Exists.intro
  refine ⟨fun w' hw => by (go_simp; exact rfl), ?_⟩
  refine reg_load 1 HTT.out rfl (by kernel_rfl) (by decide) (fun _ _ _ _ h => h) HS.out rfl ?_
  apply Exists.intro
  refine ⟨fun w' hw => by (go_simp; exact rfl), ?_⟩
  refine reg_load 2 HTT.out rfl (by kernel_rfl) (by decide) (fun _ _ _ _ h => h) HS.out rfl ?_
  apply Exists.intro
  refine ⟨fun w' hw => by (go_simp; exact rfl), ?_⟩
  refine reg_load 3 HTT.out rfl (by kernel_rfl) (by decide) (fun _ _ _ _ h => h) HS.out rfl ?_
  apply Exists.intro
  refine ⟨fun w' hw => by (have kc := hw.1.c9; go_simp; exact rfl), ?_⟩
  refine reg_load 4 HTT.out rfl (by kernel_rfl) (by decide) (fun _ _ _ _ h => h) HS.out rfl ?_
  apply Exists.intro
  refine ⟨fun w' hw => by (go_simp; exact rfl), ?_⟩
  refine reg_load 5 HTT.out rfl (by kernel_rfl) (by decide) (fun _ _ _ _ h => h) HS.out rfl ?_
  apply Exists.intro
  refine ⟨fun w' hw => by (have kz := hw.2.cell 0 _ rfl; go_simp; exact rfl), ?_⟩
  refine reg_load 6 HTT.out rfl (by kernel_rfl) (by decide) (fun _ _ _ _ h => h) HS.out rfl ?_
  apply Exists.intro
  refine ⟨fun w' hw => by (go_simp; exact rfl), ?_⟩
  refine reg_load 7 HTT.out rfl (by kernel_rfl) (by decide) (fun _ _ _ _ h => h) HS.out rfl ?_
  apply Exists.intro
  refine ⟨fun w' hw => by (have kz := hw.2.cell 2 _ rfl; go_simp; exact rfl), ?_⟩
  refine reg_only 8 rfl (by kernel_rfl) rfl ?_
  unfold Oper.wp
  go_simp
  have hr := (rd_one (enc := Value.int .u64) W1 g.id 22).drew
  have hb4 : Below W1.heap.size W1 (W1.alloc (.cells #[.int .u64 g.id] 22)).drew := ((Below.refl W1.heap.size W1).alloc (Nat.le_refl _) _).drew
  have hw4 := HW1.out.later hb4
  have hsz4 : (W1.alloc (.cells #[.int .u64 g.id] 22)).drew.heap.size = W1.heap.size + 1 := by simp
  have hS : Wc (W1.alloc (.cells #[.int .u64 g.id] 22)).drew x s ∧ Vg (W1.alloc (.cells #[.int .u64 g.id] 22)).drew w.heap.size g := ⟨hw4.cells, HV1.out.later hb4⟩
  refine ⟨hS, ?_⟩
  rw [← hsz4] at hr
  have HR := Lib.hid hr
  have HB4 := Lib.hid hb4
  have HW4 := Lib.hid hw4
  clear HS HD1 hr hb4 hw4 hsz4
  have HS := Lib.hid hS
  clear hS
  generalize ((W1.alloc (.cells #[.int .u64 g.id] 22)).drew) = w4 at *
  refine reg_only 9 rfl (by kernel_rfl) rfl ?_
  unfold Oper.wp
  go_simp
  refine (wlput w4 HW4.out g.th _ 1 1 [g.id] HR.out (by decide)).mono ?_
  rintro e w2 ⟨rfl, h2, z2⟩
  have z2 : Fw col1 W1 w2 := (Fz.of_below HB4.out).trans z2
  have l2 : El W1 col1 col1 := El.refl _ _
  have hS : Wc w2 x s ∧ Vg w2 w.heap.size g := ⟨h2.cells.to rfl rfl rfl rfl rfl rfl rfl rfl rfl rfl rfl, HV1.out.fw HC0.out z2⟩
  refine ⟨hS, ?_⟩
  clear HS
  have HS := Lib.hid hS
  clear hS
  have HW2 := Lib.hid h2
  have HF2 := Lib.hid z2
  have HL2 := Lib.hid l2
  have HV2 := Lib.hid (HV1.out.fw HC0.out z2)
  have HT2 := Lib.hid (th5_fw HT1.out HC1.out z2)
  clear h2 z2 l2
  refine reg_done (by kernel_rfl) ?_
  go_wp2_with (first
    | (refine load_g rfl _ rfl w.heap.size rfl g HV2.out ?_))
  refine (to_any g sAgain _).mono ?_
  rintro e w8 ⟨rfl, b8⟩
  have HB8 := Lib.hid b8
  have HT8 := Lib.hid (th5_later HT2.out b8)
  clear b8
  go_wp2_with (first
    | (refine store_g rfl _ _ rfl (w.heap.size + 1) rfl { g with st := sAgain } rfl HT8.out ?_; intro w9 hv9 hz9; have HV9 := Lib.hid hv9; have HZ9 := Lib.hid hz9; clear hv9 hz9))
  exact bodyPost_ret (v := Gv.val { g with st := sAgain }) (res_g _ _ (w.heap.size + 1) _ Tryz.results104 rfl HV9.out) rfl ⟨rfl, give_end HL1.out HB1.out HS1.out H81.out HW2.out HF2.out HL2.out HB8.out HZ9.out⟩
set_option maxRecDepth 100000 in
theorem give_offer (h : Wv base col w x q.s) (hM : q.s.M = Le.mk q.N) (hok : q.g.ok) : Does 102 w base col x q (offerG q) := by
  unfold offerG
  cases hcl : q.s.closed with
  | true =>
    rw [if_pos (.inl rfl)]
    obtain ⟨g, s, N⟩ := q
    obtain ⟨W1, hW1, V1, T1, B1, S1⟩ := boxes_g g w
    obtain ⟨col1, hw1, hl1, h81⟩ := h.var2 B1
    have HW1 := Lib.hid hw1
    have HV1 := Lib.hid V1
    have HT1 := Lib.hid T1
    have HB1 := Lib.hid B1
    have HS1 := Lib.hid S1
    have HL1 := Lib.hid hl1
    have H81 := Lib.hid h81
    have hc0 : col1 w.heap.size = 8 := h81 _ (Nat.le_refl _) (by omega)
    have hc1 : col1 (w.heap.size + 1) = 8 := h81 _ (by omega) (by omega)
    have HC0 := Lib.hid hc0
    have HC1 := Lib.hid hc1
    have HI := Lib.hid hok.i
    clear V1 T1 B1 S1 hw1 hl1 h81 hc0 hc1 h
    go_enter Tryz.func102, Tryz.ntmps102
    go_upto_region 1 with (fail)
    clear hW1
    clear hok hM
    have c15 := HW1.out.cells.c15
    rw [hcl] at c15
    have c11 := HW1.out.cells.c11
    have hc15 : ∀ y : After W1, y.1.cell? ⟨x.pw, 15, none⟩ = some (.bool true) := fun y => y.cell c15
    have hc11 : ∀ y : After W1, y.1.cell? ⟨x.pw, 11, none⟩ = some (ptr x.bk.p) := fun y => y.cell c11
    have hz2 : ∀ y : After W1, y.1.cell? ⟨w.heap.size, 2, none⟩ = some (.int .u64 g.id) := fun y => y.cell (HV1.out.cell 2 _ rfl)
    clear c15 c11
    go_wp2_with fail
    refine region_after (by kernel_rfl) (by kernel_rfl) ?_
    repeat (go_big_quiet_step (first
      | (go_at_call 21; exact After.same (HMK.out _))))
    refine wpQuiet_nil ?_
    rintro W2 ⟨⟨_, hb2⟩, rfl⟩
    have HW2 := Lib.hid (HW1.out.later hb2)
    have HF2 : Hid (Fw col1 W1 W2) := Lib.hid (Fz.of_below hb2)
    have HL2 : Hid (El W1 col1 col1) := Lib.hid (El.refl _ _)
    have HV2 := Lib.hid (HV1.out.later hb2)
    have HT2 := Lib.hid (th5_later HT1.out hb2)
    clear hb2 hc15 hc11 hz2
    clear hcl
    go_wp2_with (first
      | (refine load_g rfl _ rfl w.heap.size rfl g HV2.out ?_))
    refine (to_any g sClose _).mono ?_
    rintro e w8 ⟨rfl, b8⟩
    have HB8 := Lib.hid b8
    have HT8 := Lib.hid (th5_later HT2.out b8)
    clear b8
    go_wp2_with (first
      | (refine store_g rfl _ _ rfl (w.heap.size + 1) rfl { g with st := sClose } rfl HT8.out ?_; intro w9 hv9 hz9; have HV9 := Lib.hid hv9; have HZ9 := Lib.hid hz9; clear hv9 hz9))
    exact bodyPost_ret (v := Gv.val { g with st := sClose }) (res_g _ _ (w.heap.size + 1) _ Tryz.results102 rfl HV9.out) rfl ⟨rfl, give_end HL1.out HB1.out HS1.out H81.out HW2.out HF2.out HL2.out HB8.out HZ9.out⟩
  | false =>
    obtain ⟨mb, hmb⟩ : ∃ mb, decide (q.g.id ∈ q.N) = mb := ⟨_, rfl⟩
    cases mb with
    | true =>
      rw [if_pos (.inr (of_decide_eq_true hmb))]
      obtain ⟨g, s, N⟩ := q
      obtain ⟨W1, hW1, V1, T1, B1, S1⟩ := boxes_g g w
      obtain ⟨col1, hw1, hl1, h81⟩ := h.var2 B1
      have HW1 := Lib.hid hw1
      have HV1 := Lib.hid V1
      have HT1 := Lib.hid T1
      have HB1 := Lib.hid B1
      have HS1 := Lib.hid S1
      have HL1 := Lib.hid hl1
      have H81 := Lib.hid h81
      have hc0 : col1 w.heap.size = 8 := h81 _ (Nat.le_refl _) (by omega)
      have hc1 : col1 (w.heap.size + 1) = 8 := h81 _ (by omega) (by omega)
      have HC0 := Lib.hid hc0
      have HC1 := Lib.hid hc1
      have HI := Lib.hid hok.i
      have HMK : Hid (∀ y : After W1, Calls Tryz.prog 21 #[ptr x.bk.p, .int .u64 g.id] y.1 fun e w' => e = .returned (.bool true) ∧ y.1 = w') := Lib.hid (fun y => by
        have hb := (HW1.out.later y.2).book
        exact Le.marked_any y.1 x.bk s.leak s.L s.M s.T g.id hb hok.i true (by rw [show s.M = Le.mk N from hM, Le.mk_fnd]; exact hmb))
      clear V1 T1 B1 S1 hw1 hl1 h81 hc0 hc1 h
      go_enter Tryz.func102, Tryz.ntmps102
      go_upto_region 1 with (fail)
      clear hW1
      clear hok hM hmb
      have c15 := HW1.out.cells.c15
      rw [hcl] at c15
      have c11 := HW1.out.cells.c11
      have hc15 : ∀ y : After W1, y.1.cell? ⟨x.pw, 15, none⟩ = some (.bool false) := fun y => y.cell c15
      have hc11 : ∀ y : After W1, y.1.cell? ⟨x.pw, 11, none⟩ = some (ptr x.bk.p) := fun y => y.cell c11
      have hz2 : ∀ y : After W1, y.1.cell? ⟨w.heap.size, 2, none⟩ = some (.int .u64 g.id) := fun y => y.cell (HV1.out.cell 2 _ rfl)
      clear c15 c11
      go_wp2_with fail
      refine region_after (by kernel_rfl) (by kernel_rfl) ?_
      repeat (go_big_quiet_step (first
        | (go_at_call 21; exact After.same (HMK.out _))))
      refine wpQuiet_nil ?_
      rintro W2 ⟨⟨_, hb2⟩, rfl⟩
      have HW2 := Lib.hid (HW1.out.later hb2)
      have HF2 : Hid (Fw col1 W1 W2) := Lib.hid (Fz.of_below hb2)
      have HL2 : Hid (El W1 col1 col1) := Lib.hid (El.refl _ _)
      have HV2 := Lib.hid (HV1.out.later hb2)
      have HT2 := Lib.hid (th5_later HT1.out hb2)
      clear hb2 hc15 hc11 hz2
      clear hcl HMK
      go_wp2_with (first
        | (refine load_g rfl _ rfl w.heap.size rfl g HV2.out ?_))
      refine (to_any g sClose _).mono ?_
      rintro e w8 ⟨rfl, b8⟩
      have HB8 := Lib.hid b8
      have HT8 := Lib.hid (th5_later HT2.out b8)
      clear b8
      go_wp2_with (first
        | (refine store_g rfl _ _ rfl (w.heap.size + 1) rfl { g with st := sClose } rfl HT8.out ?_; intro w9 hv9 hz9; have HV9 := Lib.hid hv9; have HZ9 := Lib.hid hz9; clear hv9 hz9))
      exact bodyPost_ret (v := Gv.val { g with st := sClose }) (res_g _ _ (w.heap.size + 1) _ Tryz.results102 rfl HV9.out) rfl ⟨rfl, give_end HL1.out HB1.out HS1.out H81.out HW2.out HF2.out HL2.out HB8.out HZ9.out⟩
    | false =>
      rw [if_neg (by intro e; rcases e with e | e; cases e; exact of_decide_eq_false hmb e)]
      obtain ⟨ft, hft⟩ : ∃ ft, (St.fillR q.s.sl q.g.id).2.1 = ft := ⟨_, rfl⟩
      have HFT := Lib.hid hft
      clear hft
      cases hfb : (St.fillR q.s.sl q.g.id).2.2 with
      | true =>
        have HFB := Lib.hid hfb
        simp only [if_true]
        clear hfb
        obtain ⟨g, s, N⟩ := q
        obtain ⟨W1, hW1, V1, T1, B1, S1⟩ := boxes_g g w
        obtain ⟨col1, hw1, hl1, h81⟩ := h.var2 B1
        have HW1 := Lib.hid hw1
        have HV1 := Lib.hid V1
        have HT1 := Lib.hid T1
        have HB1 := Lib.hid B1
        have HS1 := Lib.hid S1
        have HL1 := Lib.hid hl1
        have H81 := Lib.hid h81
        have hc0 : col1 w.heap.size = 8 := h81 _ (Nat.le_refl _) (by omega)
        have hc1 : col1 (w.heap.size + 1) = 8 := h81 _ (by omega) (by omega)
        have HC0 := Lib.hid hc0
        have HC1 := Lib.hid hc1
        have HI := Lib.hid hok.i
        have HMK : Hid (∀ y : After W1, Calls Tryz.prog 21 #[ptr x.bk.p, .int .u64 g.id] y.1 fun e w' => e = .returned (.bool false) ∧ y.1 = w') := Lib.hid (fun y => by
          have hb := (HW1.out.later y.2).book
          exact Le.marked_any y.1 x.bk s.leak s.L s.M s.T g.id hb hok.i false (by rw [show s.M = Le.mk N from hM, Le.mk_fnd]; exact hmb))
        clear V1 T1 B1 S1 hw1 hl1 h81 hc0 hc1 h
        go_enter Tryz.func102, Tryz.ntmps102
        go_upto_region 1 with (fail)
        clear hW1
        clear hok hM hmb
        have c15 := HW1.out.cells.c15
        rw [hcl] at c15
        have c11 := HW1.out.cells.c11
        have hc15 : ∀ y : After W1, y.1.cell? ⟨x.pw, 15, none⟩ = some (.bool false) := fun y => y.cell c15
        have hc11 : ∀ y : After W1, y.1.cell? ⟨x.pw, 11, none⟩ = some (ptr x.bk.p) := fun y => y.cell c11
        have hz2 : ∀ y : After W1, y.1.cell? ⟨w.heap.size, 2, none⟩ = some (.int .u64 g.id) := fun y => y.cell (HV1.out.cell 2 _ rfl)
        clear c15 c11
        go_wp2_with fail
        refine region_after (by kernel_rfl) (by kernel_rfl) ?_
        repeat (go_big_quiet_step (first
          | (go_at_call 21; exact After.same (HMK.out _))))
        refine wpQuiet_nil ?_
        rintro W2 ⟨⟨_, hb2⟩, rfl⟩
        have HW2 := Lib.hid (HW1.out.later hb2)
        have HF2 : Hid (Fw col1 W1 W2) := Lib.hid (Fz.of_below hb2)
        have HL2 : Hid (El W1 col1 col1) := Lib.hid (El.refl _ _)
        have HV2 := Lib.hid (HV1.out.later hb2)
        have HT2 := Lib.hid (th5_later HT1.out hb2)
        clear hb2 hc15 hc11 hz2
        clear hcl HMK
        go_wp2_with fail
        have HS : Hid (Wc W2.drew x s ∧ Vg W2.drew w.heap.size g) := Lib.hid ⟨HW2.out.cells.blk rfl, HV2.out.blk rfl⟩
        have HD2 := Lib.hid (HW2.out.later (Below.refl _ _).drew)
        refine reg_start 12 (fun w' => Wc w' x s ∧ Vg w' w.heap.size g) (by kernel_rfl) (by kernel_rfl) ?_
        intro hTT
        have HTT := Lib.hid hTT
        clear hTT
        refine reg_load 0 HTT.out rfl (by kernel_rfl) (by decide) (fun _ _ _ _ h => h) HS.out rfl ?_
        apply Exists.intro
        refine ⟨fun w' hw => by (go_simp; exact rfl), ?_⟩
        refine reg_load 1 HTT.out rfl (by kernel_rfl) (by decide) (fun _ _ _ _ h => h) HS.out rfl ?_
        apply Exists.intro
        refine ⟨fun w' hw => by (go_simp; exact rfl), ?_⟩
        refine reg_load 2 HTT.out rfl (by kernel_rfl) (by decide) (fun _ _ _ _ h => h) HS.out rfl ?_
        apply Exists.intro
        refine ⟨fun w' hw => by (go_simp; exact rfl), ?_⟩
        refine reg_load 3 HTT.out rfl (by kernel_rfl) (by decide) (fun _ _ _ _ h => h) HS.out rfl ?_
        apply Exists.intro
        refine ⟨fun w' hw => by (have kc := hw.1.c10; go_simp; exact rfl), ?_⟩
        refine reg_load 4 HTT.out rfl (by kernel_rfl) (by decide) (fun _ _ _ _ h => h) HS.out rfl ?_
        apply Exists.intro
        refine ⟨fun w' hw => by (go_simp; exact rfl), ?_⟩
        refine reg_load 5 HTT.out rfl (by kernel_rfl) (by decide) (fun _ _ _ _ h => h) HS.out rfl ?_
        apply Exists.intro
        refine ⟨fun w' hw => by (have kz := hw.2.cell 2 _ rfl; go_simp; exact rfl), ?_⟩
        refine reg_only 6 rfl (by kernel_rfl) rfl ?_
        unfold Oper.wp
        go_simp
        refine (wfill _ HD2.out g.id).mono ?_
        rintro e w3 ⟨rfl, col3, h3, z3, l3⟩
        rw [HFB.out, HFT.out]
        have z3 : Fw col1 W1 w3 := HF2.out.trans ((Fz.of_below (Below.refl _ _).drew).trans z3)
        have l3 : El W1 col1 col3 := fun k hk => l3 k (by have := HF2.out.size; show k < W2.heap.size; omega)
        have hS : Wc w3 x s ∧ Vg w3 w.heap.size g := ⟨h3.cells.to rfl rfl rfl rfl rfl rfl rfl rfl rfl rfl rfl, HV1.out.fw HC0.out z3⟩
        refine ⟨hS, ?_⟩
        clear HS
        have HS := Lib.hid hS
        have HW3 := Lib.hid h3
        have HF3 := Lib.hid z3
        have HL3 := Lib.hid l3
        have HV3 := Lib.hid hS.2
        have HT3 := Lib.hid (th5_fw HT1.out HC1.out z3)
        clear hS h3 z3 l3
        refine reg_load 7 HTT.out rfl (by kernel_rfl) (by decide) (fun _ _ _ _ h => h) HS.out rfl ?_
        apply Exists.intro
        refine ⟨fun w' hw => by (go_simp; exact rfl), ?_⟩
        refine reg_load 8 HTT.out rfl (by kernel_rfl) (by decide) (fun _ _ _ _ h => h) HS.out rfl ?_
        apply Exists.intro
        refine ⟨fun w' hw => by (go_simp; exact rfl), ?_⟩
        refine reg_load 9 HTT.out rfl (by kernel_rfl) (by decide) (fun _ _ _ _ h => h) HS.out rfl ?_
        apply Exists.intro
        refine ⟨fun w' hw => by (go_simp; exact rfl), ?_⟩
        refine reg_load 10 HTT.out rfl (by kernel_rfl) (by decide) (fun _ _ _ _ h => h) HS.out rfl ?_
        apply Exists.intro
        refine ⟨fun w' hw => by (go_simp; exact rfl), ?_⟩
        refine reg_load 11 HTT.out rfl (by kernel_rfl) (by decide) (fun _ _ _ _ h => h) HS.out rfl ?_
        apply Exists.intro
        refine ⟨fun w' hw => by (go_simp; exact rfl), ?_⟩
        refine reg_done (by kernel_rfl) ?_
        go_wp2_with (first
          | (refine load_g rfl _ rfl w.heap.size rfl g HV3.out ?_))
        refine (to_any g sDone _).mono ?_
        rintro e w8 ⟨rfl, b8⟩
        have HB8 := Lib.hid b8
        have HT8 := Lib.hid (th5_later HT3.out b8)
        clear b8
        go_wp2_with (first
          | (refine store_g rfl _ _ rfl (w.heap.size + 1) rfl { g with st := sDone } rfl HT8.out ?_; intro w9 hv9 hz9; have HV9 := Lib.hid hv9; have HZ9 := Lib.hid hz9; clear hv9 hz9))
        exact bodyPost_ret (v := Gv.val { g with st := sDone }) (res_g _ _ (w.heap.size + 1) _ Tryz.results102 rfl HV9.out) rfl ⟨rfl, give_end HL1.out HB1.out HS1.out H81.out HW3.out HF3.out HL3.out HB8.out HZ9.out⟩
      | false =>
        have HFB := Lib.hid hfb
        simp only [Bool.false_eq_true, if_false]
        clear hfb
        obtain ⟨g, s, N⟩ := q
        obtain ⟨W1, hW1, V1, T1, B1, S1⟩ := boxes_g g w
        obtain ⟨col1, hw1, hl1, h81⟩ := h.var2 B1
        have HW1 := Lib.hid hw1
        have HV1 := Lib.hid V1
        have HT1 := Lib.hid T1
        have HB1 := Lib.hid B1
        have HS1 := Lib.hid S1
        have HL1 := Lib.hid hl1
        have H81 := Lib.hid h81
        have hc0 : col1 w.heap.size = 8 := h81 _ (Nat.le_refl _) (by omega)
        have hc1 : col1 (w.heap.size + 1) = 8 := h81 _ (by omega) (by omega)
        have HC0 := Lib.hid hc0
        have HC1 := Lib.hid hc1
        have HI := Lib.hid hok.i
        have HMK : Hid (∀ y : After W1, Calls Tryz.prog 21 #[ptr x.bk.p, .int .u64 g.id] y.1 fun e w' => e = .returned (.bool false) ∧ y.1 = w') := Lib.hid (fun y => by
          have hb := (HW1.out.later y.2).book
          exact Le.marked_any y.1 x.bk s.leak s.L s.M s.T g.id hb hok.i false (by rw [show s.M = Le.mk N from hM, Le.mk_fnd]; exact hmb))
        clear V1 T1 B1 S1 hw1 hl1 h81 hc0 hc1 h
        go_enter Tryz.func102, Tryz.ntmps102
        go_upto_region 1 with (fail)
        clear hW1
        clear hok hM hmb
        have c15 := HW1.out.cells.c15
        rw [hcl] at c15
        have c11 := HW1.out.cells.c11
        have hc15 : ∀ y : After W1, y.1.cell? ⟨x.pw, 15, none⟩ = some (.bool false) := fun y => y.cell c15
        have hc11 : ∀ y : After W1, y.1.cell? ⟨x.pw, 11, none⟩ = some (ptr x.bk.p) := fun y => y.cell c11
        have hz2 : ∀ y : After W1, y.1.cell? ⟨w.heap.size, 2, none⟩ = some (.int .u64 g.id) := fun y => y.cell (HV1.out.cell 2 _ rfl)
        clear c15 c11
        go_wp2_with fail
        refine region_after (by kernel_rfl) (by kernel_rfl) ?_
        repeat (go_big_quiet_step (first
          | (go_at_call 21; exact After.same (HMK.out _))))
        refine wpQuiet_nil ?_
        rintro W2 ⟨⟨_, hb2⟩, rfl⟩
        have HW2 := Lib.hid (HW1.out.later hb2)
        have HF2 : Hid (Fw col1 W1 W2) := Lib.hid (Fz.of_below hb2)
        have HL2 : Hid (El W1 col1 col1) := Lib.hid (El.refl _ _)
        have HV2 := Lib.hid (HV1.out.later hb2)
        have HT2 := Lib.hid (th5_later HT1.out hb2)
        clear hb2 hc15 hc11 hz2
        clear hcl HMK
        go_wp2_with fail
        have HS : Hid (Wc W2.drew x s ∧ Vg W2.drew w.heap.size g) := Lib.hid ⟨HW2.out.cells.blk rfl, HV2.out.blk rfl⟩
        have HD2 := Lib.hid (HW2.out.later (Below.refl _ _).drew)
        refine reg_start 12 (fun w' => Wc w' x s ∧ Vg w' w.heap.size g) (by kernel_rfl) (by kernel_rfl) ?_
        intro hTT
        have HTT := Lib.hid hTT
        clear hTT
        refine reg_load 0 HTT.out rfl (by kernel_rfl) (by decide) (fun _ _ _ _ h => h) HS.out rfl ?_
        apply Exists.intro
        refine ⟨fun w' hw => by (go_simp; exact rfl), ?_⟩
        refine reg_load 1 HTT.out rfl (by kernel_rfl) (by decide) (fun _ _ _ _ h => h) HS.out rfl ?_
        apply Exists.intro
        refine ⟨fun w' hw => by (go_simp; exact rfl), ?_⟩
        refine reg_load 2 HTT.out rfl (by kernel_rfl) (by decide) (fun _ _ _ _ h => h) HS.out rfl ?_
        apply Exists.intro
        refine ⟨fun w' hw => by (go_simp; exact rfl), ?_⟩
        refine reg_load 3 HTT.out rfl (by kernel_rfl) (by decide) (fun _ _ _ _ h => h) HS.out rfl ?_
        apply Exists.intro
        refine ⟨fun w' hw => by (have kc := hw.1.c10; go_simp; exact rfl), ?_⟩
        refine reg_load 4 HTT.out rfl (by kernel_rfl) (by decide) (fun _ _ _ _ h => h) HS.out rfl ?_
        apply Exists.intro
        refine ⟨fun w' hw => by (go_simp; exact rfl), ?_⟩
        refine reg_load 5 HTT.out rfl (by kernel_rfl) (by decide) (fun _ _ _ _ h => h) HS.out rfl ?_
        apply Exists.intro
        refine ⟨fun w' hw => by (have kz := hw.2.cell 2 _ rfl; go_simp; exact rfl), ?_⟩
        refine reg_only 6 rfl (by kernel_rfl) rfl ?_
        unfold Oper.wp
        go_simp
        refine (wfill _ HD2.out g.id).mono ?_
        rintro e w3 ⟨rfl, col3, h3, z3, l3⟩
        rw [HFB.out, HFT.out]
        have z3 : Fw col1 W1 w3 := HF2.out.trans ((Fz.of_below (Below.refl _ _).drew).trans z3)
        have l3 : El W1 col1 col3 := fun k hk => l3 k (by have := HF2.out.size; show k < W2.heap.size; omega)
        have hS : Wc w3 x s ∧ Vg w3 w.heap.size g := ⟨h3.cells.to rfl rfl rfl rfl rfl rfl rfl rfl rfl rfl rfl, HV1.out.fw HC0.out z3⟩
        refine ⟨hS, ?_⟩
        clear HS
        have HS := Lib.hid hS
        have HW3 := Lib.hid h3
        have HF3 := Lib.hid z3
        have HL3 := Lib.hid l3
        have HV3 := Lib.hid hS.2
        have HT3 := Lib.hid (th5_fw HT1.out HC1.out z3)
        clear hS h3 z3 l3
        refine reg_load 7 HTT.out rfl (by kernel_rfl) (by decide) (fun _ _ _ _ h => h) HS.out rfl ?_
        apply Exists.intro
        refine ⟨fun w' hw => by (go_simp; exact rfl), ?_⟩
        refine reg_load 8 HTT.out rfl (by kernel_rfl) (by decide) (fun _ _ _ _ h => h) HS.out rfl ?_
        apply Exists.intro
        refine ⟨fun w' hw => by (go_simp; exact rfl), ?_⟩
        refine reg_load 9 HTT.out rfl (by kernel_rfl) (by decide) (fun _ _ _ _ h => h) HS.out rfl ?_
        apply Exists.intro
        refine ⟨fun w' hw => by (go_simp; exact rfl), ?_⟩
        refine reg_load 10 HTT.out rfl (by kernel_rfl) (by decide) (fun _ _ _ _ h => h) HS.out rfl ?_
        apply Exists.intro
        refine ⟨fun w' hw => by (go_simp; exact rfl), ?_⟩
        refine reg_load 11 HTT.out rfl (by kernel_rfl) (by decide) (fun _ _ _ _ h => h) HS.out rfl ?_
        apply Exists.intro
        refine ⟨fun w' hw => by (go_simp; exact rfl), ?_⟩
        refine reg_done (by kernel_rfl) ?_
        go_wp2_with (first
          | (refine load_g rfl _ rfl w.heap.size rfl g HV3.out ?_))
        refine (to_any g sFree _).mono ?_
        rintro e w8 ⟨rfl, b8⟩
        have HB8 := Lib.hid b8
        have HT8 := Lib.hid (th5_later HT3.out b8)
        clear b8
        go_wp2_with (first
          | (refine store_g rfl _ _ rfl (w.heap.size + 1) rfl { g with st := sFree } rfl HT8.out ?_; intro w9 hv9 hz9; have HV9 := Lib.hid hv9; have HZ9 := Lib.hid hz9; clear hv9 hz9))
        exact bodyPost_ret (v := Gv.val { g with st := sFree }) (res_g _ _ (w.heap.size + 1) _ Tryz.results102 rfl HV9.out) rfl ⟨rfl, give_end HL1.out HB1.out HS1.out H81.out HW3.out HF3.out HL3.out HB8.out HZ9.out⟩
def fnR (v : Value) : Option (DataW Unit × List MemPlace) := match v with
  | .func (.func K) first cap => if first.size = 0 ∧ cap.size = 0 then some (.lit (.int .u64 ((K : Int) + 1)), []) else none
  | .nilFunc => some (.lit (.int .u64 0), [])
  | _ => none
theorem fnR_inv {v : Value} {n : Nat} {ps : List MemPlace} (h : fnR v = some (.lit (.int .u64 ((n : Int) + 1)), ps)) : v = .func (.func n) #[] #[] := by
  unfold fnR at h
  split at h
  · next K first cap =>
    split at h
    · next hs =>
      simp only [Option.some.injEq, Prod.mk.injEq, DataW.lit.injEq, Lit.int.injEq, true_and] at h
      have e : K = n := by
        have := congrArg (fun z : Int => z - 1) h.1
        simp at this
        exact Int.ofNat_inj.1 this
      subst e
      rw [Array.eq_empty_of_size_eq_zero hs.1, Array.eq_empty_of_size_eq_zero hs.2]
    · cases h
  · simp only [Option.some.injEq, Prod.mk.injEq, DataW.lit.injEq, Lit.int.injEq, true_and] at h
    exact absurd h.1 (Int.ne_of_lt (Int.lt_add_one_of_le (Int.natCast_nonneg n)))
  · cases h
theorem fnR_nil {v : Value} {ps : List MemPlace} (h : fnR v = some (.lit (.int .u64 0), ps)) : v = .nilFunc := by
  unfold fnR at h
  split at h
  · next K first cap =>
    split at h
    · simp only [Option.some.injEq, Prod.mk.injEq, DataW.lit.injEq, Lit.int.injEq, true_and] at h
      exact absurd h.1 (Int.ne_of_gt (Int.lt_add_one_of_le (Int.natCast_nonneg K)))
    · cases h
  · rfl
  · cases h
theorem insert_own {ops : Array Oper} {rest : List Oper} {o : Oper} {a : Act} {Q : Exit → Act → World → Prop} (w : World)
    (hg : o.guard = none) (m x v : Operand) (t : TypeId) (hop : o.op = Op.insert t m x v)
    (k e : TypeId) (K : Keyed Tryz.prog k) (ht : Tryz.prog.underlying t = some (.map k e)) (b n : Nat) (D : DataW Unit)
    (hm : a.eval m = .map (some b)) (hown : w.ownsMap Tryz.prog k fnR b n D) (hn : n < maxLen) (key val : Value) (kl : Lit) (hx : a.eval x = key) (hv : a.eval v = val) (hkey : keyOf Tryz.prog k key = some kl)
    (d : DataW Unit) (ps : List MemPlace) (hval : fnR val = some (d, ps))
    (hK : ∀ w', w'.ownsMap Tryz.prog k fnR b (n + 1) (D.put kl d) → w.grownBy w' (some b) → wpList Tryz.prog ops Q rest (a.put o.dst undef) w') :
    wpList Tryz.prog ops Q (o :: rest) a w := by
  refine wpList_plain hg fun K' hK' => ?_
  obtain ⟨w', hrun, r1, r2⟩ := hown.update K ht hn hkey hval
  unfold Oper.wp
  simp [execOp, hop, hm, hx, hv, hrun, Result.andThen]
  exact hK' _ _ (hK w' r1 r2)
def actD : DataW Unit := (DataW.put (DataW.put (DataW.put (DataW.put (DataW.put (DataW.put (DataW.put (DataW.put (.map [] : DataW Unit) (.string [111, 102, 102, 101, 114]) (.lit (.int .u64 ((102 : Nat) + 1 : Int)))) (.string [102, 114, 101, 101]) (.lit (.int .u64 ((103 : Nat) + 1 : Int)))) (.string [115, 116, 97, 115, 104]) (.lit (.int .u64 ((104 : Nat) + 1 : Int)))) (.string [97, 103, 97, 105, 110]) (.lit (.int .u64 ((105 : Nat) + 1 : Int)))) (.string [98, 97, 99, 107]) (.lit (.int .u64 ((106 : Nat) + 1 : Int)))) (.string [99, 108, 111, 115, 101]) (.lit (.int .u64 ((107 : Nat) + 1 : Int)))) (.string [117, 110, 108, 105, 115, 116]) (.lit (.int .u64 ((108 : Nat) + 1 : Int)))) (.string [115, 104, 114, 105, 110, 107]) (.lit (.int .u64 ((109 : Nat) + 1 : Int))))
theorem lawS : Keyed Tryz.prog 9 := string_keyed Tryz.underlying9
theorem grown_low {w w' w'' : World} {r : Nat} (h : Below w.heap.size w w') (hg : w'.grownBy w'' (some r)) (hr : w.heap.size ≤ r) : Below w.heap.size w w'' :=
  h.trans ⟨hg.os, hg.tape, hg.output, hg.size, fun k hk => hg.block k (Nat.lt_of_lt_of_le hk h.size) (fun e => by injection e with e; omega)⟩
set_option maxRecDepth 100000 in
theorem acts_any (w : World) : Calls Tryz.prog 72 #[] w fun e w' => ∃ m, e = .returned (.map (some m)) ∧ (∃ n, w'.ownsMap Tryz.prog 9 fnR m n actD) ∧ Below w.heap.size w w' := by
  have hmm := @run_makeMap Tryz.prog
  have hk : ∀ s : ByteArray, s.size ≤ maxLen → keyOf Tryz.prog 9 (.string s) = some (.string s.data.toList) := fun s hs => WideMaps.keyOf_string_mk Tryz.underlying9 hs
  go_enter Tryz.func72, Tryz.ntmps72
  have HB0 : Hid (Below w.heap.size w (w.alloc (.map #[] 0))) := Lib.hid ((Below.refl _ _).alloc (Nat.le_refl _) _)
  have HO0 : Hid ((w.alloc (.map #[] 0)).ownsMap Tryz.prog 9 fnR w.heap.size 0 (.map [] : DataW Unit)) := Lib.hid (World.ownsMap_made w _ _ _)
  go_wp2_with (first
    | (refine insert_own (w.alloc (.map #[] 0)) rfl _ _ _ _ rfl 9 151 lawS Tryz.underlying152 w.heap.size 0 _ rfl HO0.out (by decide) _ _ _ rfl rfl (hk _ (by decide)) (.lit (.int .u64 ((102 : Nat) + 1 : Int))) [] rfl ?_; intro v1 ho1 hg1; have HO1 := Lib.hid ho1; have HB1 := Lib.hid (grown_low HB0.out hg1 (Nat.le_refl _)); clear ho1 hg1 HO0 HB0)
    | (refine insert_own v1 rfl _ _ _ _ rfl 9 151 lawS Tryz.underlying152 w.heap.size 1 _ rfl HO1.out (by decide) _ _ _ rfl rfl (hk _ (by decide)) (.lit (.int .u64 ((103 : Nat) + 1 : Int))) [] rfl ?_; intro v2 ho2 hg2; have HO2 := Lib.hid ho2; have HB2 := Lib.hid (grown_low HB1.out hg2 (Nat.le_refl _)); clear ho2 hg2 HO1 HB1)
    | (refine insert_own v2 rfl _ _ _ _ rfl 9 151 lawS Tryz.underlying152 w.heap.size 2 _ rfl HO2.out (by decide) _ _ _ rfl rfl (hk _ (by decide)) (.lit (.int .u64 ((104 : Nat) + 1 : Int))) [] rfl ?_; intro v3 ho3 hg3; have HO3 := Lib.hid ho3; have HB3 := Lib.hid (grown_low HB2.out hg3 (Nat.le_refl _)); clear ho3 hg3 HO2 HB2)
    | (refine insert_own v3 rfl _ _ _ _ rfl 9 151 lawS Tryz.underlying152 w.heap.size 3 _ rfl HO3.out (by decide) _ _ _ rfl rfl (hk _ (by decide)) (.lit (.int .u64 ((105 : Nat) + 1 : Int))) [] rfl ?_; intro v4 ho4 hg4; have HO4 := Lib.hid ho4; have HB4 := Lib.hid (grown_low HB3.out hg4 (Nat.le_refl _)); clear ho4 hg4 HO3 HB3)
    | (refine insert_own v4 rfl _ _ _ _ rfl 9 151 lawS Tryz.underlying152 w.heap.size 4 _ rfl HO4.out (by decide) _ _ _ rfl rfl (hk _ (by decide)) (.lit (.int .u64 ((106 : Nat) + 1 : Int))) [] rfl ?_; intro v5 ho5 hg5; have HO5 := Lib.hid ho5; have HB5 := Lib.hid (grown_low HB4.out hg5 (Nat.le_refl _)); clear ho5 hg5 HO4 HB4)
    | (refine insert_own v5 rfl _ _ _ _ rfl 9 151 lawS Tryz.underlying152 w.heap.size 5 _ rfl HO5.out (by decide) _ _ _ rfl rfl (hk _ (by decide)) (.lit (.int .u64 ((107 : Nat) + 1 : Int))) [] rfl ?_; intro v6 ho6 hg6; have HO6 := Lib.hid ho6; have HB6 := Lib.hid (grown_low HB5.out hg6 (Nat.le_refl _)); clear ho6 hg6 HO5 HB5)
    | (refine insert_own v6 rfl _ _ _ _ rfl 9 151 lawS Tryz.underlying152 w.heap.size 6 _ rfl HO6.out (by decide) _ _ _ rfl rfl (hk _ (by decide)) (.lit (.int .u64 ((108 : Nat) + 1 : Int))) [] rfl ?_; intro v7 ho7 hg7; have HO7 := Lib.hid ho7; have HB7 := Lib.hid (grown_low HB6.out hg7 (Nat.le_refl _)); clear ho7 hg7 HO6 HB6)
    | (refine insert_own v7 rfl _ _ _ _ rfl 9 151 lawS Tryz.underlying152 w.heap.size 7 _ rfl HO7.out (by decide) _ _ _ rfl rfl (hk _ (by decide)) (.lit (.int .u64 ((109 : Nat) + 1 : Int))) [] rfl ?_; intro v8 ho8 hg8; have HO8 := Lib.hid ho8; have HB8 := Lib.hid (grown_low HB7.out hg8 (Nat.le_refl _)); clear ho8 hg8 HO7 HB7))
  go_wp2_with fail
  go_ret
  exact ⟨_, rfl, ⟨_, HO8.out⟩, HB8.out⟩
theorem eq_fn (w : World) (fnc : Fn) (first cap : Array Value) : (binOp .eql 151 (.func fnc first cap) .nilFunc).run Tryz.prog w = .ok (.bool false) w := by kernel_rfl
theorem eq_nil (w : World) : (binOp .eql 151 .nilFunc .nilFunc).run Tryz.prog w = .ok (.bool true) w := by kernel_rfl
theorem zero_fn (w : World) : (zeroValue 151).run Tryz.prog w = .ok .nilFunc w := by kernel_rfl
set_option maxRecDepth 100000 in
theorem give_act {r : Gw} (f : FuncId) (h : Wv base col w x q.s) (hat : actD.atKey (.string q.g.st.data.toList) (.lit (.int .u64 0)) = .lit (.int .u64 ((f : Nat) + 1 : Int))) (hsz : q.g.st.size ≤ maxLen)
    (hK : ∀ w, (callFunc f #[q.g.val, ptr x.pw]).run Tryz.prog w = .ok (.enter f #[q.g.val, ptr x.pw]) w)
    (hD : ∀ (W : World) (col : Nat → Nat), Wv base col W x q.s → Does f W base col x q r) : Does 23 w base col x q r := by
  have HDO := Lib.hid hD
  clear hD
  unfold Does at HDO ⊢
  have HST := Lib.hid hat
  have HZ := Lib.hid hsz
  obtain ⟨g, s, N⟩ := q
  obtain ⟨W1, hW1, V1, T1, B1, S1⟩ := boxes_g g w
  obtain ⟨col1, hw1, hl1, h81⟩ := h.var2 B1
  have HW1 := Lib.hid hw1
  have HV1 := Lib.hid V1
  have HT1 := Lib.hid T1
  have HB1 := Lib.hid B1
  have HS1 := Lib.hid S1
  have HL1 := Lib.hid hl1
  have H81 := Lib.hid h81
  have hc0 : col1 w.heap.size = 8 := h81 _ (Nat.le_refl _) (by omega)
  have hc1 : col1 (w.heap.size + 1) = 8 := h81 _ (by omega) (by omega)
  have HC0 := Lib.hid hc0
  have HC1 := Lib.hid hc1
  clear V1 T1 B1 S1 hw1 hl1 h81 hc0 hc1 h
  go_enter Tryz.func23, Tryz.ntmps23
  go_upto_region 1 with (fail)
  clear hW1
  clear hat hsz
  go_wp2_with fail
  have HS : Hid (Vg W1.drew w.heap.size g) := Lib.hid (HV1.out.blk rfl)
  refine reg_start 5 (fun w' => Vg w' w.heap.size g) (by kernel_rfl) (by kernel_rfl) ?_
  intro hTT
  have HTT := Lib.hid hTT
  clear hTT
  refine reg_load 1 HTT.out rfl (by kernel_rfl) (by decide) (fun _ _ _ _ h => h) HS.out rfl ?_
  apply Exists.intro
  refine ⟨fun w' hw => by (go_simp; exact rfl), ?_⟩
  refine reg_load 2 HTT.out rfl (by kernel_rfl) (by decide) (fun _ _ _ _ h => h) HS.out rfl ?_
  apply Exists.intro
  refine ⟨fun w' hw => by (have kz := hw.cell 4 _ rfl; go_simp; exact rfl), ?_⟩
  refine reg_only 0 rfl (by kernel_rfl) rfl ?_
  unfold Oper.wp
  go_simp
  refine (acts_any _).mono ?_
  rintro e w2 ⟨m, rfl, ⟨n, ho2⟩, b2⟩
  have hb2 : Below W1.heap.size W1 w2 := (Below.refl _ _).drew.trans b2
  have hS : Vg w2 w.heap.size g := HV1.out.later hb2
  refine ⟨hS, ?_⟩
  clear HS
  have HS := Lib.hid hS
  obtain ⟨fv, ps, hlk, hfv⟩ := ho2.lookup lawS Tryz.underlying152 (zero_fn w2) (show fnR .nilFunc = some (.lit (.int .u64 0), []) from rfl) (WideMaps.keyOf_string_mk Tryz.underlying9 HZ.out)
  rw [HST.out] at hfv
  obtain rfl := fnR_inv hfv
  have HB2 := Lib.hid hb2
  clear hS ho2 b2 hb2 hfv
  refine reg_only 3 rfl (by kernel_rfl) rfl ?_
  unfold Oper.wp
  go_simp
  refine ⟨HS.out, ?_⟩
  clear hlk
  refine reg_load 4 HTT.out rfl (by kernel_rfl) (by decide) (fun _ _ _ _ h => h) HS.out rfl ?_
  apply Exists.intro
  refine ⟨fun w' hw => by (go_simp; exact rfl), ?_⟩
  refine reg_done (by kernel_rfl) ?_
  have HW2 := Lib.hid (HW1.out.later HB2.out)
  have HV2 := Lib.hid HS.out
  have HT2 := Lib.hid (th5_later HT1.out HB2.out)
  have HF2 : Hid (Fw col1 W1 w2) := Lib.hid (Fz.of_below HB2.out)
  have HL2 : Hid (El W1 col1 col1) := Lib.hid (El.refl _ _)
  clear HS
  have he1 := eq_fn
  have he2 := eq_nil
  go_wp2_with (first
    | (refine load_g rfl _ rfl w.heap.size rfl g HV2.out ?_))
  refine (HDO.out _ _ HW2.out).mono ?_
  rintro e w3 ⟨rfl, col3, h3, z3, l3⟩
  have HW3 := Lib.hid h3
  have HF3 := Lib.hid (HF2.out.trans z3)
  have HL3 : Hid (El W1 col1 col3) := Lib.hid (fun k hk => l3 k (by have := HB2.out.size; omega))
  have HT3 := Lib.hid (th5_fw HT2.out HC1.out z3)
  clear h3 z3 l3
  go_wp2_with (first
    | (refine store_g rfl _ _ rfl (w.heap.size + 1) rfl r.g rfl HT3.out ?_; intro w9 hv9 hz9; have HV9 := Lib.hid hv9; have HZ9 := Lib.hid hz9; clear hv9 hz9))
  exact bodyPost_ret (v := r.g.val) (res_g _ _ (w.heap.size + 1) _ Tryz.results23 rfl HV9.out) rfl ⟨rfl, give_end HL1.out HB1.out HS1.out H81.out HW3.out HF3.out HL3.out (Below.refl _ _) HZ9.out⟩
set_option maxRecDepth 100000 in
theorem give_none (h : Wv base col w x q.s) (hat : actD.atKey (.string q.g.st.data.toList) (.lit (.int .u64 0)) = .lit (.int .u64 0)) (hsz : q.g.st.size ≤ maxLen) : Does 23 w base col x q ⟨{ q.g with st := sDone }, q.s, q.N⟩ := by
  have HST := Lib.hid hat
  have HZ := Lib.hid hsz
  obtain ⟨g, s, N⟩ := q
  obtain ⟨W1, hW1, V1, T1, B1, S1⟩ := boxes_g g w
  obtain ⟨col1, hw1, hl1, h81⟩ := h.var2 B1
  have HW1 := Lib.hid hw1
  have HV1 := Lib.hid V1
  have HT1 := Lib.hid T1
  have HB1 := Lib.hid B1
  have HS1 := Lib.hid S1
  have HL1 := Lib.hid hl1
  have H81 := Lib.hid h81
  have hc0 : col1 w.heap.size = 8 := h81 _ (Nat.le_refl _) (by omega)
  have hc1 : col1 (w.heap.size + 1) = 8 := h81 _ (by omega) (by omega)
  have HC0 := Lib.hid hc0
  have HC1 := Lib.hid hc1
  clear V1 T1 B1 S1 hw1 hl1 h81 hc0 hc1 h
  go_enter Tryz.func23, Tryz.ntmps23
  go_upto_region 1 with (fail)
  clear hW1
  clear hat hsz
  go_wp2_with fail
  have HS : Hid (Vg W1.drew w.heap.size g) := Lib.hid (HV1.out.blk rfl)
  refine reg_start 5 (fun w' => Vg w' w.heap.size g) (by kernel_rfl) (by kernel_rfl) ?_
  intro hTT
  have HTT := Lib.hid hTT
  clear hTT
  refine reg_load 1 HTT.out rfl (by kernel_rfl) (by decide) (fun _ _ _ _ h => h) HS.out rfl ?_
  apply Exists.intro
  refine ⟨fun w' hw => by (go_simp; exact rfl), ?_⟩
  refine reg_load 2 HTT.out rfl (by kernel_rfl) (by decide) (fun _ _ _ _ h => h) HS.out rfl ?_
  apply Exists.intro
  refine ⟨fun w' hw => by (have kz := hw.cell 4 _ rfl; go_simp; exact rfl), ?_⟩
  refine reg_only 0 rfl (by kernel_rfl) rfl ?_
  unfold Oper.wp
  go_simp
  refine (acts_any _).mono ?_
  rintro e w2 ⟨m, rfl, ⟨n, ho2⟩, b2⟩
  have hb2 : Below W1.heap.size W1 w2 := (Below.refl _ _).drew.trans b2
  have hS : Vg w2 w.heap.size g := HV1.out.later hb2
  refine ⟨hS, ?_⟩
  clear HS
  have HS := Lib.hid hS
  obtain ⟨fv, ps, hlk, hfv⟩ := ho2.lookup lawS Tryz.underlying152 (zero_fn w2) (show fnR .nilFunc = some (.lit (.int .u64 0), []) from rfl) (WideMaps.keyOf_string_mk Tryz.underlying9 HZ.out)
  rw [HST.out] at hfv
  obtain rfl := fnR_nil hfv
  have HB2 := Lib.hid hb2
  clear hS ho2 b2 hb2 hfv
  refine reg_only 3 rfl (by kernel_rfl) rfl ?_
  unfold Oper.wp
  go_simp
  refine ⟨HS.out, ?_⟩
  clear hlk
  refine reg_load 4 HTT.out rfl (by kernel_rfl) (by decide) (fun _ _ _ _ h => h) HS.out rfl ?_
  apply Exists.intro
  refine ⟨fun w' hw => by (go_simp; exact rfl), ?_⟩
  refine reg_done (by kernel_rfl) ?_
  have HW2 := Lib.hid (HW1.out.later HB2.out)
  have HV2 := Lib.hid HS.out
  have HT2 := Lib.hid (th5_later HT1.out HB2.out)
  have HF2 : Hid (Fw col1 W1 w2) := Lib.hid (Fz.of_below HB2.out)
  have HL2 : Hid (El W1 col1 col1) := Lib.hid (El.refl _ _)
  clear HS
  have he1 := eq_fn
  have he2 := eq_nil
  go_wp2_with (first
    | (refine load_g rfl _ rfl w.heap.size rfl g HV2.out ?_))
  refine (to_any g sDone _).mono ?_
  rintro e w8 ⟨rfl, b8⟩
  have HB8 := Lib.hid b8
  have HT8 := Lib.hid (th5_later HT2.out b8)
  clear b8
  go_wp2_with (first
    | (refine store_g rfl _ _ rfl (w.heap.size + 1) rfl { g with st := sDone } rfl HT8.out ?_; intro w9 hv9 hz9; have HV9 := Lib.hid hv9; have HZ9 := Lib.hid hz9; clear hv9 hz9))
  exact bodyPost_ret (v := Gv.val { g with st := sDone }) (res_g _ _ (w.heap.size + 1) _ Tryz.results23 rfl HV9.out) rfl ⟨rfl, give_end HL1.out HB1.out HS1.out H81.out HW2.out HF2.out HL2.out HB8.out HZ9.out⟩
theorem give_step (h : Wv base col w x q.s) (hM : q.s.M = Le.mk q.N) (hok : q.g.ok) (hnow : U64 q.s.now) (hsl : q.s.sl.length ≤ 1000) (hC : q.s.C.length < 1000) (hev : q.s.ev.length ≤ 1000) (hS : q.s.S.length ≤ 1000000) (hlv : 0 ≤ q.s.live ∧ q.s.live ≤ 1000000)
    (hst : q.g.st = sOffer ∨ q.g.st = sFree ∨ q.g.st = sStash ∨ q.g.st = sAgain ∨ q.g.st = sBack ∨ q.g.st = sClose ∨ q.g.st = sUnlist ∨ q.g.st = sShrink ∨ q.g.st = sDone) : Does 23 w base col x q (stepG q) := by
  rcases hst with e | e | e | e | e | e | e | e | e
  · rw [stepG_offer e]
    exact give_act w 102 h (by rw [e]; kernel_rfl) (by rw [e]; decide) (enters_of Tryz.func102 (by kernel_rfl) rfl _) (fun W col2 h2 => give_offer W h2 hM hok)
  · rw [stepG_free e]
    exact give_act w 103 h (by rw [e]; kernel_rfl) (by rw [e]; decide) (enters_of Tryz.func103 (by kernel_rfl) rfl _) (fun W col2 h2 => give_free W h2 hok hnow)
  · rw [stepG_stash e]
    exact give_act w 104 h (by rw [e]; kernel_rfl) (by rw [e]; decide) (enters_of Tryz.func104 (by kernel_rfl) rfl _) (fun W col2 h2 => give_stash W h2)
  · rw [stepG_again e]
    exact give_act w 105 h (by rw [e]; kernel_rfl) (by rw [e]; decide) (enters_of Tryz.func105 (by kernel_rfl) rfl _) (fun W col2 h2 => give_again W h2 hsl)
  · rw [stepG_back e]
    exact give_act w 106 h (by rw [e]; kernel_rfl) (by rw [e]; decide) (enters_of Tryz.func106 (by kernel_rfl) rfl _) (fun W col2 h2 => give_back W h2 hok hnow)
  · rw [stepG_close e]
    exact give_act w 107 h (by rw [e]; kernel_rfl) (by rw [e]; decide) (enters_of Tryz.func107 (by kernel_rfl) rfl _) (fun W col2 h2 => give_shut W h2 hM hok hnow hC hev)
  · rw [stepG_unlist e]
    exact give_act w 108 h (by rw [e]; kernel_rfl) (by rw [e]; decide) (enters_of Tryz.func108 (by kernel_rfl) rfl _) (fun W col2 h2 => give_unlist W h2 hok hS)
  · rw [stepG_shrink e]
    exact give_act w 109 h (by rw [e]; kernel_rfl) (by rw [e]; decide) (enters_of Tryz.func109 (by kernel_rfl) rfl _) (fun W col2 h2 => give_shrink W h2 hlv.1 hlv.2)
  · have := give_none w h (by rw [e]; kernel_rfl) (by rw [e]; decide)
    unfold stepG
    rw [e, if_neg (by decide), if_neg (by decide), if_neg (by decide), if_neg (by decide), if_neg (by decide), if_neg (by decide), if_neg (by decide), if_neg (by decide)]
    exact this
end
end Go.Proofs.YthmdiaingolfnaaGreatDoor.Wo
namespace Go.Proofs.YthmdiaingolfnaaGreatDoor.Wo
open Go Go.ChangeShapes Go.WideShapes Go.ChangeAt Go.RowKit Go.Deep Go.Maps Rw Hi Mt Ba
open Cn (Cf cfE)
set_option linter.unusedVariables false
structure Gi (q : Gw) (k : Nat) : Prop where
  mk_ : q.s.M = Le.mk q.N
  ok : q.g.ok
  nw : U64 q.s.now
  sl : q.s.sl.length ≤ 900
  cl : q.s.C.length ≤ k
  el : q.s.ev.length ≤ k
  S : q.s.S.length ≤ 900
  lv : 0 ≤ q.s.live ∧ q.s.live ≤ 1000
  st : q.g.st = sOffer ∨ q.g.st = sFree ∨ q.g.st = sStash ∨ q.g.st = sAgain ∨ q.g.st = sBack ∨ q.g.st = sClose ∨ q.g.st = sUnlist ∨ q.g.st = sShrink ∨ q.g.st = sDone
theorem bV_ok {D : List (Int × Ex)} {id old st : Int} (h : bK D id old st = true) (ho : U64 old) : U64 (bV D id old st) := by
  unfold bK at h
  unfold bV
  cases hf : fnd D id with
  | none => rw [hf] at h; cases h
  | some x =>
    rw [hf] at h
    have h : Wd.wSwapOk x.word old st = true := h
    have e : x.word = old := by
      unfold Wd.wSwapOk at h
      rw [Bool.and_eq_true, decide_eq_true_eq] at h
      exact h.1
    show U64 (Wd.wSwap x.word old st)
    rw [e]
    exact ⟨Wd.wSwap_lo _ _ _ ho.1, Wd.wSwap_hi _ _ _ ho.2⟩
section
variable {q : Gw} {k : Nat}
theorem Gi.swap (h : Gi q k) (st : Int) (t : ByteArray) (ht : t = sStash ∨ t = sOffer) : Gi (swapG q st t) (k + 1) := by
  have hcl := h.cl
  have hel := h.el
  unfold swapG
  split
  · next hk =>
    refine ⟨h.mk_, ⟨h.ok.i, bV_ok hk h.ok.w⟩, h.nw, h.sl, by show q.s.C.length ≤ k + 1; omega, by show q.s.ev.length ≤ k + 1; omega, h.S, h.lv, ?_⟩
    rcases ht with rfl | rfl
    · exact .inr (.inr (.inl rfl))
    · exact .inl rfl
  · exact ⟨h.mk_, ⟨h.ok.i, h.ok.w⟩, h.nw, h.sl, by show q.s.C.length ≤ k + 1; omega, by show q.s.ev.length ≤ k + 1; omega, h.S, h.lv, .inr (.inr (.inr (.inr (.inr (.inr (.inr (.inr rfl)))))))⟩
theorem Gi.step (h : Gi q k) : Gi (stepG q) (k + 1) := by
  have hcl := h.cl
  have hel := h.el
  have hlv := h.lv
  have hfl := St.fillR_len q.s.sl q.g.id
  rcases h.st with e | e | e | e | e | e | e | e | e
  · rw [stepG_offer e]
    unfold offerG
    split
    · exact ⟨h.mk_, ⟨h.ok.i, h.ok.w⟩, h.nw, h.sl, by show q.s.C.length ≤ k + 1; omega, by show q.s.ev.length ≤ k + 1; omega, h.S, h.lv, .inr (.inr (.inr (.inr (.inr (.inl rfl)))))⟩
    · split
      · exact ⟨h.mk_, ⟨h.ok.i, h.ok.w⟩, h.nw, by have := h.sl; show (St.fillR q.s.sl q.g.id).1.length ≤ 900; omega, by show q.s.C.length ≤ k + 1; omega, by show q.s.ev.length ≤ k + 1; omega, h.S, h.lv, .inr (.inr (.inr (.inr (.inr (.inr (.inr (.inr rfl)))))))⟩
      · exact ⟨h.mk_, ⟨h.ok.i, h.ok.w⟩, h.nw, by have := h.sl; show (St.fillR q.s.sl q.g.id).1.length ≤ 900; omega, by show q.s.C.length ≤ k + 1; omega, by show q.s.ev.length ≤ k + 1; omega, h.S, h.lv, .inr (.inl rfl)⟩
  · rw [stepG_free e]; exact h.swap 0 sStash (.inl rfl)
  · rw [stepG_stash e]
    exact ⟨h.mk_, ⟨h.ok.i, h.ok.w⟩, h.nw, h.sl, by show q.s.C.length ≤ k + 1; omega, by show q.s.ev.length ≤ k + 1; omega, h.S, h.lv, .inr (.inr (.inr (.inl rfl)))⟩
  · rw [stepG_again e]
    refine ⟨h.mk_, ⟨h.ok.i, h.ok.w⟩, h.nw, h.sl, by show q.s.C.length ≤ k + 1; omega, by show q.s.ev.length ≤ k + 1; omega, h.S, h.lv, ?_⟩
    have key : (againG q).g.st = sBack ∨ (againG q).g.st = sDone := by
      show (if q.s.closed = true ∨ 0 < St.waitN q.s.sl then sBack else sDone) = sBack ∨ (if q.s.closed = true ∨ 0 < St.waitN q.s.sl then sBack else sDone) = sDone
      split
      · exact .inl rfl
      · exact .inr rfl
    rcases key with e2 | e2
    · exact .inr (.inr (.inr (.inr (.inl e2))))
    · exact .inr (.inr (.inr (.inr (.inr (.inr (.inr (.inr e2)))))))
  · rw [stepG_back e]; exact h.swap 1 sOffer (.inr rfl)
  · rw [stepG_close e]
    unfold closeG
    split
    · refine ⟨rfl, ⟨h.ok.i, h.ok.w⟩, h.nw, h.sl, ?_, ?_, h.S, h.lv, .inr (.inr (.inr (.inr (.inr (.inr (.inl rfl))))))⟩
      · show (clsC q.s.n q.s.C q.g.id).length ≤ k + 1
        unfold clsC; split
        · rw [List.length_append]; simp; omega
        · omega
      · show (q.s.ev ++ [_]).length ≤ k + 1
        rw [List.length_append]; simp; omega
    · exact ⟨h.mk_, ⟨h.ok.i, h.ok.w⟩, h.nw, h.sl, by show q.s.C.length ≤ k + 1; omega, by show q.s.ev.length ≤ k + 1; omega, h.S, h.lv, .inr (.inr (.inr (.inr (.inr (.inr (.inl rfl))))))⟩
  · rw [stepG_unlist e]
    refine ⟨h.mk_, ⟨h.ok.i, h.ok.w⟩, h.nw, h.sl, by show q.s.C.length ≤ k + 1; omega, by show q.s.ev.length ≤ k + 1; omega, ?_, h.lv, .inr (.inr (.inr (.inr (.inr (.inr (.inr (.inl rfl)))))))⟩
    show (unlS q.s.D q.s.S q.g.id).length ≤ 900
    have := h.S
    unfold unlS; split
    · have h2 : (Sn.sWithout q.s.S q.g.id).length ≤ q.s.S.length := List.length_filter_le _ _
      omega
    · exact this
  · rw [stepG_shrink e]
    refine ⟨h.mk_, ⟨h.ok.i, h.ok.w⟩, h.nw, h.sl, by show q.s.C.length ≤ k + 1; omega, by show q.s.ev.length ≤ k + 1; omega, h.S, ?_, .inr (.inr (.inr (.inr (.inr (.inr (.inr (.inr rfl)))))))⟩
    show 0 ≤ shrV q.s.live ∧ shrV q.s.live ≤ 1000
    unfold shrV; split <;> omega
  · rw [stepG_done e]
    exact ⟨h.mk_, ⟨h.ok.i, h.ok.w⟩, h.nw, h.sl, by omega, by omega, h.S, h.lv, .inr (.inr (.inr (.inr (.inr (.inr (.inr (.inr e)))))))⟩
theorem Gi.it (h : Gi q 0) : ∀ k, Gi (itG k q) k
  | 0 => h
  | k + 1 => (h.it k).step
end
theorem give_run (w : World) {base : Nat} {col : Nat → Nat} {x : Wp} {q : Gw} {k : Nat} (h : Wv base col w x q.s) (hi : Gi q k) (hk : k ≤ 900) : Does 23 w base col x q (stepG q) :=
  give_step w h hi.mk_ hi.ok hi.nw (by have := hi.sl; omega) (by have := hi.cl; omega) (by have := hi.el; omega) (by have := hi.S; omega) ⟨hi.lv.1, by have := hi.lv.2; omega⟩ hi.st
end Go.Proofs.YthmdiaingolfnaaGreatDoor.Wo
