/- A part of the claim: the texts BagOpen BagG. -/
import Derived.Test.YthmdiaingolfnaaGreatDoorZGBag
import Derived.Test.YthmdiaingolfnaaGreatDoorZGAw
import Derived.RangeFuncSeq
namespace Go.Proofs.YthmdiaingolfnaaGreatDoor.Ba
open Go.ChangeShapes Go.WideShapes Go.ChangeAt Go.RowKit Go.Maps Rw Hi Mt
set_option linter.unusedVariables false
structure Ax where
  do_ : Int
  id : Int
  old : Int
  now : Int
  st : Int
structure Ax.ok (a : Ax) : Prop where
  d : 0 ≤ a.do_ ∧ a.do_ ≤ 255
  i : U64 a.id
  o : U64 a.old
  n : U64 a.now
  s : -9223372036854775808 ≤ a.st ∧ a.st ≤ 9223372036854775807
end Go.Proofs.YthmdiaingolfnaaGreatDoor.Ba
namespace Go.Proofs.YthmdiaingolfnaaGreatDoor.Ba
open Go Go.ChangeShapes Go.WideShapes Go.ChangeAt Go.RowKit Go.Maps Rw Hi Mt
set_option linter.unusedVariables false
theorem fnd_ins_ne {β : Type} {L : List (Int × β)} {id j : Int} (h : Ris L) (hn : id ∉ L.map Prod.fst) (x : β) (hj : j ≠ id) : fnd (ins L id x) j = fnd L j := by
  have h1 : Nd ((id, x) :: L) := by
    have q := Nd.cons h.nd id x
    rw [wo_none hn] at q
    exact q
  rw [← fnd_perm h1 (ins_perm h hn x) j, fnd_cons_ne _ _ hj]
theorem swap_three {x : Ex} (h : x.word % 4 = 3) (o st now : Int) : (exS o st now x).word = x.word := by
  unfold exS Wd.wSwap
  simp only
  split
  · next h1 =>
    rw [← h1.1, h, Wd.wMay_three] at h1
    cases h1.2
  · rfl
abbrev eW : Enc Int where
  val x := .int .u64 x
  dat x := .lit (.int .u64 x)
  R v := match v with
    | .int .u64 x => some (.lit (.int .u64 x), [])
    | _ => none
  mk_ x := rfl
  inv v y h := by
    split at h
    · rename_i x
      injection h with h
      exact ⟨x, rfl, h.symm⟩
    · cases h
  inj x y h := by injection h with h; injection h
def Gone (D : List (Int × Ex)) (G : List (Int × Int)) : Prop := ∀ z ∈ G, U64 z.1 ∧ ∃ x, fnd D z.1 = some x ∧ x.word = z.2 ∧ z.2 % 4 = 3
theorem Gone.swap {D : List (Int × Ex)} {G : List (Int × Int)} (h : Gone D G) (id o st now : Int) : Gone (up D id (exS o st now)) G := fun z hz => by
  obtain ⟨h1, x, h2, h3, h4⟩ := h z hz
  refine ⟨h1, ?_⟩
  by_cases e : z.1 = id
  · rw [e] at h2 ⊢
    exact ⟨_, fnd_up_same h2, by rw [swap_three (by rw [h3]; exact h4), h3], h4⟩
  · exact ⟨x, by rw [fnd_up_ne e]; exact h2, h3, h4⟩
theorem Gone.enter {D : List (Int × Ex)} {G : List (Int × Int)} (h : Gone D G) (hr : Ris D) (id st : Int) (x : Ex) : Gone (if eE D id st = 0 then ins D id x else D) G := by
  by_cases he : eE D id st = 0
  · rw [if_pos he]
    have hf : fnd D id = none := by
      unfold eE at he
      split at he
      · cases he
      · split at he
        · cases he
        · next h9 => simpa using h9
    intro z hz
    obtain ⟨h1, y, h2, h3, h4⟩ := h z hz
    have hne : z.1 ≠ id := fun e => by rw [e, hf] at h2; cases h2
    exact ⟨h1, y, by rw [fnd_ins_ne hr (fnd_no hf) x hne]; exact h2, h3, h4⟩
  · rw [if_neg he]; exact h
theorem Gone.more {D : List (Int × Ex)} {G : List (Int × Int)} (h : Gone D G) {id : Int} {x : Ex} (hid : U64 id) (hf : fnd D id = some x) (h3 : x.word % 4 = 3) : Gone D ((id, x.word) :: wo G id) := fun z hz => by
  rcases List.mem_cons.1 hz with rfl | hz
  · exact ⟨hid, x, hf, rfl, h3⟩
  · exact h z (mem_wo.1 hz).1
structure On (W : World) (p a m q : Nat) (w : World) (D : List (Int × Ex)) (S : List Int) (G : List (Int × Int)) (k : Nat) : Prop where
  bag : ∃ C R : Nat → Prop, (∀ g, C g → W.heap.size ≤ g ∧ g ≠ m ∧ g ≠ q ∧ g < w.heap.size) ∧ Bx C R w p a D S
  map : Mo Tryz.prog 22 eW w m G
  gone : Gone D G
  bel : Below W.heap.size W w
  ml : W.heap.size ≤ m
  dl : D.length ≤ k
  sl : S.length ≤ 2 * k
  gl : G.length ≤ k
structure Bq (w : World) (q : Nat) (y : Ax) : Prop where
  z0 : w.cell? ⟨q, 0, none⟩ = some (.int .u8 y.do_)
  z1 : w.cell? ⟨q, 1, none⟩ = some (.int .u64 y.id)
  z2 : w.cell? ⟨q, 2, none⟩ = some (.int .u64 y.old)
  z3 : w.cell? ⟨q, 3, none⟩ = some (.int .u64 y.now)
  z4 : w.cell? ⟨q, 4, none⟩ = some (.int .i64 y.st)
section
variable {W w w' : World} {p a m q : Nat} {D D' : List (Int × Ex)} {S S' : List Int} {G : List (Int × Int)} {k : Nat} {y : Ax} {C R C' R' E : Nat → Prop}
theorem Bq.blk (h : Bq w q y) (hb : w'.heap[q]? = w.heap[q]?) : Bq w' q y :=
  ⟨(World.cell?_of_block (a := ⟨q, 0, none⟩) hb).trans h.z0, (World.cell?_of_block (a := ⟨q, 1, none⟩) hb).trans h.z1, (World.cell?_of_block (a := ⟨q, 2, none⟩) hb).trans h.z2, (World.cell?_of_block (a := ⟨q, 3, none⟩) hb).trans h.z3, (World.cell?_of_block (a := ⟨q, 4, none⟩) hb).trans h.z4⟩
theorem Bq.later (h : Bq w q y) (hb : Below w.heap.size w w') : Bq w' q y := h.blk (hb.block q (Lw.lt_heap h.z0))
theorem On.later (h : On W p a m q w D S G k) (hb : Below w.heap.size w w') : On W p a m q w' D S G k := by
  obtain ⟨C, R, h1, h2⟩ := h.bag
  exact ⟨⟨C, R, fun g hg => ⟨(h1 g hg).1, (h1 g hg).2.1, (h1 g hg).2.2.1, Nat.lt_of_lt_of_le (h1 g hg).2.2.2 hb.size⟩, h2.later hb⟩, h.map.later hb, h.gone, h.bel.trans (hb.mono h.bel.size), h.ml, h.dl, h.sl, h.gl⟩
theorem On.drop (h : On W p a m q w D S G k) : On W p a m m w D S G k := by
  obtain ⟨C, R, h1, h2⟩ := h.bag
  exact ⟨⟨C, R, fun g hg => ⟨(h1 g hg).1, (h1 g hg).2.1, (h1 g hg).2.1, (h1 g hg).2.2.2⟩, h2⟩, h.map, h.gone, h.bel, h.ml, h.dl, h.sl, h.gl⟩
theorem On.turn (h : On W p a m q w D S G k) (hq : q < w.heap.size) (hC : ∀ g, C g → W.heap.size ≤ g ∧ g ≠ m ∧ g ≠ q ∧ g < w.heap.size) (hb : Bx C' R' w' p a D' S') (hz : Fz C w w') (hx : ∀ g, C' g → C g ∨ w.heap.size ≤ g) (hg : Gone D' G) {k' : Nat} (hd : D'.length ≤ k') (hs : S'.length ≤ 2 * k') (hk : k ≤ k') : On W p a m q w' D' S' G k' := by
  have hm := h.map.lt
  have hs0 := h.bel.size
  refine ⟨⟨fun g => C' g ∧ g < w'.heap.size, R', fun g hg => ?_, hb.mono (fun g h1 h2 => ⟨h2, h1⟩) (fun _ _ h => h) (fun g h => hb.cr g h.1)⟩, h.map.block (hz.block m hm (fun e => (hC m e).2.1 rfl)), hg, h.bel.trans (hz.below hs0 (fun g hg => (hC g hg).1)), h.ml, hd, hs, Nat.le_trans h.gl hk⟩
  rcases hx g hg.1 with h1 | h1
  · exact ⟨(hC g h1).1, (hC g h1).2.1, (hC g h1).2.2.1, hg.2⟩
  · exact ⟨by omega, by omega, by omega, hg.2⟩
theorem Bq.turn (h : Bq w q y) (hC : ¬ C q) (hz : Fz C w w') : Bq w' q y := h.blk (hz.block q (Lw.lt_heap h.z0) hC)
end
section
variable (w : World) {ops : Array Oper} {rest : List Oper} {o : Oper} {a : Act} {Q : Exit → Act → World → Prop}
end
end Go.Proofs.YthmdiaingolfnaaGreatDoor.Ba
