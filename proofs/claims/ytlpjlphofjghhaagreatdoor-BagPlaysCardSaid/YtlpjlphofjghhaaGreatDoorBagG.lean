/- Layer 15 (bag): a list that was taken stays; what a bag has of others; lemmas of the laws. -/
import Derived.Test.YtlpjlphofjghhaaGreatDoorBagOpen
import Derived.Test.YtlpjlphofjghhaaGreatDoorAwake15
import Derived.RangeFuncSeq
namespace Go.Proofs.YtlpjlphofjghhaaGreatDoor.Ba
open Go Go.ChangeShapes Go.WideShapes Go.ChangeAt Go.RowKit Go.Maps Rw Hi Mt
set_option linter.unusedVariables false

theorem blistR_any {C R : Nat → Prop} (w : World) (p a : Nat) (D : List (Int × Ex)) (S : List Int) (h : Bx C R w p a D S) : Calls Tryz.prog 62 #[ptr p] w fun e w' => ∃ A n c, e = .returned (.agg #[.slice A n c]) ∧ Rd (Value.int .u64) w w.heap.size A n c S ∧ (0 < n → ∀ b o, A = some ⟨b, o, none⟩ → R b) ∧ Below w.heap.size w w' := by
  obtain ⟨L, h, rfl⟩ := h
  exact list_any w p a L S h
/-- A row that nobody writes stays. -/
theorem rd_ro {R : Nat → Prop} {w w' : World} {A : Option Addr} {n c : Nat} {xs : List Int} (h : Rd (Value.int .u64) w w.heap.size A n c xs) (hR : 0 < n → ∀ b o, A = some ⟨b, o, none⟩ → R b) {E : Nat → Prop} (hz : Fz E w w') (hd : ∀ g, g < w.heap.size → E g → ¬ R g) : Rd (Value.int .u64) w' w'.heap.size A n c xs :=
  rd_blk h hz.size fun hn b o e => by
    obtain ⟨b', o', e', hb, _⟩ := h.at_ hn
    rw [e] at e'; injection e' with e'; injection e' with e1 _
    exact hz.block b (by omega) (fun hE => hd b (by omega) hE (hR hn b o e))
theorem fnd_ins_ne {β : Type} {L : List (Int × β)} {id j : Int} (h : Ris L) (hn : id ∉ L.map Prod.fst) (x : β) (hj : j ≠ id) : fnd (ins L id x) j = fnd L j := by
  have h1 : Nd ((id, x) :: L) := by
    have q := Nd.cons h.nd id x
    rw [wo_none hn] at q
    exact q
  rw [← fnd_perm h1 (ins_perm h hn x) j, fnd_cons_ne _ _ hj]
theorem swap_three {x : Ex} (h : x.word % 4 = 3) (o st now : Int) : (exS o st now x).word = x.word := by
  unfold exS Wd.wSwap
  simp only
  split
  · next h1 =>
    rw [← h1.1, h, Wd.wMay_three] at h1
    cases h1.2
  · rfl
/-- A number of 64 bits, as a map's element. -/
abbrev eW : Enc Int where
  val x := .int .u64 x
  dat x := .lit (.int .u64 x)
  R v := match v with
    | .int .u64 x => some (.lit (.int .u64 x), [])
    | _ => none
  mk_ x := rfl
  inv v y h := by
    split at h
    · rename_i x
      injection h with h
      exact ⟨x, rfl, h.symm⟩
    · cases h
  inj x y h := by injection h with h; injection h
theorem zeroW (w : World) : (zeroValue 33).run Tryz.prog w = .ok (eW.val 0) w := by kernel_rfl
/-- What is Removed stays so. -/
def Gone (D : List (Int × Ex)) (G : List (Int × Int)) : Prop := ∀ z ∈ G, U64 z.1 ∧ ∃ x, fnd D z.1 = some x ∧ x.word = z.2 ∧ z.2 % 4 = 3
theorem Gone.swap {D : List (Int × Ex)} {G : List (Int × Int)} (h : Gone D G) (id o st now : Int) : Gone (up D id (exS o st now)) G := fun z hz => by
  obtain ⟨h1, x, h2, h3, h4⟩ := h z hz
  refine ⟨h1, ?_⟩
  by_cases e : z.1 = id
  · rw [e] at h2 ⊢
    exact ⟨_, fnd_up_same h2, by rw [swap_three (by rw [h3]; exact h4), h3], h4⟩
  · exact ⟨x, by rw [fnd_up_ne e]; exact h2, h3, h4⟩
theorem Gone.enter {D : List (Int × Ex)} {G : List (Int × Int)} (h : Gone D G) (hr : Ris D) (id st : Int) (x : Ex) : Gone (if eE D id st = 0 then ins D id x else D) G := by
  by_cases he : eE D id st = 0
  · rw [if_pos he]
    have hf : fnd D id = none := by
      unfold eE at he
      split at he
      · cases he
      · split at he
        · cases he
        · next h9 => simpa using h9
    intro z hz
    obtain ⟨h1, y, h2, h3, h4⟩ := h z hz
    have hne : z.1 ≠ id := fun e => by rw [e, hf] at h2; cases h2
    exact ⟨h1, y, by rw [fnd_ins_ne hr (fnd_no hf) x hne]; exact h2, h3, h4⟩
  · rw [if_neg he]; exact h
theorem Gone.more {D : List (Int × Ex)} {G : List (Int × Int)} (h : Gone D G) {id : Int} {x : Ex} (hid : U64 id) (hf : fnd D id = some x) (h3 : x.word % 4 = 3) : Gone D ((id, x.word) :: wo G id) := fun z hz => by
  rcases List.mem_cons.1 hz with rfl | hz
  · exact ⟨hid, x, hf, rfl, h3⟩
  · exact h z (mem_wo.1 hz).1
/-- The law's state: a bag, the words that are Removed. -/
structure On (W : World) (p a m q : Nat) (w : World) (D : List (Int × Ex)) (S : List Int) (G : List (Int × Int)) (k : Nat) : Prop where
  bag : ∃ C R : Nat → Prop, (∀ g, C g → W.heap.size ≤ g ∧ g ≠ m ∧ g ≠ q ∧ g < w.heap.size) ∧ Bx C R w p a D S
  map : Mo Tryz.prog 30 eW w m G
  gone : Gone D G
  bel : Below W.heap.size W w
  ml : W.heap.size ≤ m
  dl : D.length ≤ k
  sl : S.length ≤ 2 * k
  gl : G.length ≤ k
/-- An act's box. -/
structure Bq (w : World) (q : Nat) (y : Ax) : Prop where
  z0 : w.cell? ⟨q, 0, none⟩ = some (.int .u8 y.do_)
  z1 : w.cell? ⟨q, 1, none⟩ = some (.int .u64 y.id)
  z2 : w.cell? ⟨q, 2, none⟩ = some (.int .u64 y.old)
  z3 : w.cell? ⟨q, 3, none⟩ = some (.int .u64 y.now)
  z4 : w.cell? ⟨q, 4, none⟩ = some (.int .i64 y.st)
section
variable {W w w' : World} {p a m q : Nat} {D D' : List (Int × Ex)} {S S' : List Int} {G : List (Int × Int)} {k : Nat} {y : Ax} {C R C' R' E : Nat → Prop}
theorem Bq.blk (h : Bq w q y) (hb : w'.heap[q]? = w.heap[q]?) : Bq w' q y :=
  ⟨(World.cell?_of_block (a := ⟨q, 0, none⟩) hb).trans h.z0, (World.cell?_of_block (a := ⟨q, 1, none⟩) hb).trans h.z1, (World.cell?_of_block (a := ⟨q, 2, none⟩) hb).trans h.z2, (World.cell?_of_block (a := ⟨q, 3, none⟩) hb).trans h.z3, (World.cell?_of_block (a := ⟨q, 4, none⟩) hb).trans h.z4⟩
theorem Bq.later (h : Bq w q y) (hb : Below w.heap.size w w') : Bq w' q y := h.blk (hb.block q (Lw.lt_heap h.z0))
theorem On.later (h : On W p a m q w D S G k) (hb : Below w.heap.size w w') : On W p a m q w' D S G k := by
  obtain ⟨C, R, h1, h2⟩ := h.bag
  exact ⟨⟨C, R, fun g hg => ⟨(h1 g hg).1, (h1 g hg).2.1, (h1 g hg).2.2.1, Nat.lt_of_lt_of_le (h1 g hg).2.2.2 hb.size⟩, h2.later hb⟩, h.map.later hb, h.gone, h.bel.trans (hb.mono h.bel.size), h.ml, h.dl, h.sl, h.gl⟩
theorem On.box (h : On W p a m m w D S G k) (y : Ax) : On W p a m w.heap.size (w.alloc (.cells #[.int .u8 y.do_, .int .u64 y.id, .int .u64 y.old, .int .u64 y.now, .int .i64 y.st] 32)) D S G k := by
  have hb : Below w.heap.size w (w.alloc (.cells #[.int .u8 y.do_, .int .u64 y.id, .int .u64 y.old, .int .u64 y.now, .int .i64 y.st] 32)) := (Below.refl _ _).alloc (Nat.le_refl _) _
  obtain ⟨C, R, h1, h2⟩ := h.bag
  refine ⟨⟨fun g => C g ∧ g ≠ w.heap.size, R, fun g hg => ⟨(h1 g hg.1).1, (h1 g hg.1).2.1, hg.2, Nat.lt_of_lt_of_le (h1 g hg.1).2.2.2 hb.size⟩, (h2.mono (E := fun g => C g ∧ g ≠ w.heap.size) (T := R) (fun g hg hc => ⟨hc, by omega⟩) (fun _ _ h => h) (fun g hg => h2.cr g hg.1)).later hb⟩, h.map.later hb, h.gone, h.bel.trans (hb.mono h.bel.size), h.ml, h.dl, h.sl, h.gl⟩
theorem Bq.new (w : World) (y : Ax) : Bq (w.alloc (.cells #[.int .u8 y.do_, .int .u64 y.id, .int .u64 y.old, .int .u64 y.now, .int .i64 y.st] 32)) w.heap.size y := by
  refine ⟨?_, ?_, ?_, ?_, ?_⟩ <;> go_simp
theorem On.drop (h : On W p a m q w D S G k) : On W p a m m w D S G k := by
  obtain ⟨C, R, h1, h2⟩ := h.bag
  exact ⟨⟨C, R, fun g hg => ⟨(h1 g hg).1, (h1 g hg).2.1, (h1 g hg).2.1, (h1 g hg).2.2.2⟩, h2⟩, h.map, h.gone, h.bel, h.ml, h.dl, h.sl, h.gl⟩
/-- A call of the bag's is done. -/
theorem On.turn (h : On W p a m q w D S G k) (hq : q < w.heap.size) (hC : ∀ g, C g → W.heap.size ≤ g ∧ g ≠ m ∧ g ≠ q ∧ g < w.heap.size) (hb : Bx C' R' w' p a D' S') (hz : Fz C w w') (hx : ∀ g, C' g → C g ∨ w.heap.size ≤ g) (hg : Gone D' G) {k' : Nat} (hd : D'.length ≤ k') (hs : S'.length ≤ 2 * k') (hk : k ≤ k') : On W p a m q w' D' S' G k' := by
  have hm := h.map.lt
  have hs0 := h.bel.size
  refine ⟨⟨fun g => C' g ∧ g < w'.heap.size, R', fun g hg => ?_, hb.mono (fun g h1 h2 => ⟨h2, h1⟩) (fun _ _ h => h) (fun g h => hb.cr g h.1)⟩, h.map.block (hz.block m hm (fun e => (hC m e).2.1 rfl)), hg, h.bel.trans (hz.below hs0 (fun g hg => (hC g hg).1)), h.ml, hd, hs, Nat.le_trans h.gl hk⟩
  rcases hx g hg.1 with h1 | h1
  · exact ⟨(hC g h1).1, (hC g h1).2.1, (hC g h1).2.2.1, hg.2⟩
  · exact ⟨by omega, by omega, by omega, hg.2⟩
theorem Bq.turn (h : Bq w q y) (hC : ¬ C q) (hz : Fz C w w') : Bq w' q y := h.blk (hz.block q (Lw.lt_heap h.z0) hC)
theorem cut_sub {X : Nat → Prop} : ∀ g, cut w X g → X g ∨ w.heap.size ≤ g := fun g h => .inl h.2
theorem ext_sub {X : Nat → Prop} : ∀ g, ext w X g → X g ∨ w.heap.size ≤ g := fun g h => h.imp And.right id
end
/-- A block without cells turned, which is none of the bag's. -/
theorem Bx.side {C R : Nat → Prop} {w w' : World} {p a r : Nat} {D : List (Int × Ex)} {S : List Int} (h : Bx C R w p a D S) (hg : w.grownBy w' (some r)) (hr : ∀ o v, w.cell? ⟨r, o, none⟩ ≠ some v) (hC : ¬ C r) : Bx C R w' p a D S := by
  obtain ⟨L, h, e⟩ := h
  have hk : ∀ g, g < w.heap.size → g ≠ r → w'.heap[g]? = w.heap[g]? := fun g h1 h2 => hg.block g h1 (fun e => h2 (by injection e))
  have hp := hk p h.lt.1 (fun e => hC (e ▸ h.ip))
  obtain ⟨A, n, c, h1, h2, h3⟩ := h.row
  refine ⟨L, ⟨(World.cell?_of_block hp).trans h.c0, (World.frozen?_of_block hp).trans h.f1, ⟨A, n, c, (World.cell?_of_block hp).trans h1, rd_blk h2 hg.size fun hn b o e => ?_, h3⟩, h.nd, h.us, h.mo.block (hk a h.lt.2 (fun e => hC (e ▸ h.ia))), fun q hq => ?_, h.ap, h.ri, h.ui, h.ip, h.ia, h.cr⟩, e⟩
  · obtain ⟨b', o', e', hb, hc⟩ := h2.at_ hn
    rw [e] at e'; injection e' with e'; injection e' with e1 e2 _
    refine hk b (by omega) (fun e3 => ?_)
    have := hc 0 _ (List.getElem?_eq_getElem (by rw [h2.len]; exact hn))
    rw [← e1, e3] at this
    exact hr _ _ this
  · have hq' := h.en q hq
    exact hq'.blk (hk _ hq'.lt.1 (fun e => hC (e ▸ hq'.ie))) (hk _ hq'.lt.2 (fun e => hC (e ▸ hq'.ic)))
theorem Bq.side {w w' : World} {q r : Nat} {y : Ax} (h : Bq w q y) (hg : w.grownBy w' (some r)) (hr : ∀ o v, w.cell? ⟨r, o, none⟩ ≠ some v) : Bq w' q y :=
  h.blk (hg.block q (Lw.lt_heap h.z0) (fun e => by injection e with e; exact hr 0 _ (e ▸ h.z0)))
theorem rg_no_cell {P : Program} {k : TypeId} {E : Enc Int} {w : World} {b r : Nat} {l left : List (Int × Int)} (h : Rg P k E w b r l left) (o : Nat) (v : Value) : w.cell? ⟨r, o, none⟩ ≠ some v := fun hc => by
  obtain ⟨⟨D, lf, cnt, h1, h2, h3⟩, h4, h5, h6⟩ := h
  obtain ⟨o1, e1, f1⟩ := h1.iter_walk
  obtain ⟨o2, e2, f2⟩ := not_walk_of_cell hc
  have e2 : w.heap[r]? = some o2 := e2
  rw [e1] at e2
  injection e2 with e2
  rw [e2, f2] at f1
  cases f1
/-- The words that are Removed turned. -/
theorem On.mapped {W w w' : World} {p a m q : Nat} {D : List (Int × Ex)} {S : List Int} {G G' : List (Int × Int)} {k : Nat} (h : On W p a m q w D S G k) (hg : w.grownBy w' (some m)) (hM : Mo Tryz.prog 30 eW w' m G') (hG : Gone D G') (hl : G'.length ≤ k) : On W p a m q w' D S G' k := by
  obtain ⟨C, R, h1, h2⟩ := h.bag
  refine ⟨⟨C, R, fun g hg' => ⟨(h1 g hg').1, (h1 g hg').2.1, (h1 g hg').2.2.1, Nat.lt_of_lt_of_le (h1 g hg').2.2.2 hg.size⟩, h2.side hg (fun o v => h.map.no_cell o v) (fun e => (h1 m e).2.1 rfl)⟩, hM, hG, h.bel.grown hg h.bel.size (fun j hj => by injection hj with hj; exact hj ▸ h.ml), h.ml, h.dl, h.sl, hl⟩
theorem with_fact {P : Program} {f : FuncId} {args : Array Value} {W : World} {R : Ending → World → Prop} (F : World → Prop) (hb : F W) (h : F W → Calls P f args W R) : Calls P f args W R := h hb
/-- A word that went on is not the one that was swapped: a second swap isn't done. -/
theorem bK_first (D : List (Int × Ex)) (id st : Int) : bK D id (bW D id) st = ((fnd D id).isSome && Wd.wMay (bW D id % 4) st) := by
  unfold bK bW
  cases hf : fnd D id with
  | none => rfl
  | some x => simp [Wd.wSwapOk]
theorem bK_second (D : List (Int × Ex)) (id st now : Int) : bK (up D id (exS (bW D id) st now)) id (bW D id) st = false := by
  cases hf : fnd D id with
  | none =>
    have h1 : up D id (exS (bW D id) st now) = D := up_none (fnd_no hf) _
    unfold bK
    rw [h1, hf]
  | some x =>
    have h0 : bW D id = x.word := by unfold bW; rw [hf]; rfl
    unfold bK
    rw [fnd_up_same hf, h0]
    show Wd.wSwapOk (Wd.wSwap x.word x.word st) x.word st = false
    unfold Wd.wSwapOk Wd.wSwap
    cases hm : Wd.wMay (x.word % 4) st with
    | false => simp
    | true =>
      have := Wd.wTo_ne hm
      simp [this]
theorem bW_gone {D : List (Int × Ex)} {G : List (Int × Int)} (h : Gone D G) {z : Int × Int} (hz : z ∈ G) : bW D z.1 = z.2 := by
  obtain ⟨_, x, h1, h2, _⟩ := h z hz
  unfold bW; rw [h1]; exact h2
theorem up_length {β : Type} (D : List (Int × β)) (id : Int) (f : β → β) : (up D id f).length = D.length := by simp [up]
section
variable (w : World) {ops : Array Oper} {rest : List Oper} {o : Oper} {a : Act} {Q : Exit → Act → World → Prop}
theorem nextW (hg : o.guard = none) (it : Operand) (hop : o.op = Op.next it false) (b r : Nat) (l left : List (Int × Int)) (hit : a.eval it = .pointer (some ⟨r, 0, none⟩)) (h : Rg Tryz.prog 30 eW w b r l left)
    (hDone : left = [] → wpList Tryz.prog ops Q rest (a.put o.dst (.tuple #[.bool false])) w)
    (hMore : ∀ y x w', (y, x) ∈ left → U64 y → Rg Tryz.prog 30 eW w' b r l (wo left y) → w'.rangeLeft b r < w.rangeLeft b r → w.grownBy w' (some r) → w'.heap.size = w.heap.size →
      (Instr.entry (.pointer (some ⟨r, 0, none⟩))).run Tryz.prog w' = .ok (.tuple #[.int .u64 y, .int .u64 x]) w' → wpList Tryz.prog ops Q rest (a.put o.dst (.tuple #[.bool true, .int .u64 y, .int .u64 x])) w') : wpList Tryz.prog ops Q (o :: rest) a w :=
  next1 w hg it hop 30 Tryz.underlying30 b r l left hit h hDone fun y x w' h1 h2 h3 h4 h5 h6 h7 => hMore y x w' h1 h2 h3 h4 h5 h6 h7
end
end Go.Proofs.YtlpjlphofjghhaaGreatDoor.Ba
