/- Layer 14 (lease): a book, the document's, and an act, on their way. -/
import Derived.Test.YtbdcdofjcljliaaGreatDoorLeaseU
import Derived.Test.YtbdcdofjcljliaaGreatDoorLeaseRefB
import Derived.Test.YtbdcdofjcljliaaGreatDoorLeaseOpen
namespace Go.Proofs.YtbdcdofjcljliaaGreatDoor.Le
open Go.ChangeShapes Go.WideShapes Go.ChangeAt Go.RowKit Go.Deep Go.Maps Rw Hi Mt Ck
set_option linter.unusedVariables false

theorem Dk.held {w w' : World} {d : Da} {D : List (Int × Ls)} {M : List Int} {T : List (Int × Int)} (h : Dk w d D M T) (hk : ∀ b o v, w.cell? ⟨b, o, none⟩ = some v → w'.cell? ⟨b, o, none⟩ = some v) (hs : w.heap.size ≤ w'.heap.size) : Dk w' d D M T :=
  ⟨Rs.held h.l hk hs, Rd.held h.m hk hs, Rs.held h.t hk hs, h.fm, h.fl⟩
/-- What is told of the lists alone. -/
structure Pv (D : List (Int × Ls)) (M : List Int) (T : List (Int × Int)) (k : Nat) : Prop where
  sd : Sd D
  tk : Tk D T
  dl : D.length ≤ k
  ml : M.length ≤ k
  tl : T.length ≤ k
section
variable {D D' : List (Int × Ls)} {M : List Int} {T : List (Int × Int)} {k : Nat}
theorem Pv.nil : Pv [] [] [] 0 := ⟨List.Pairwise.nil, Tk.nil, Nat.le_refl _, Nat.le_refl _, Nat.le_refl _⟩
theorem Pv.begin_ (h : Pv D M T k) (leak id th now : Int) (hk : k ≤ 1000) (hp : (bL D id th now).Perm D') (hs : Sd D') : Pv D' M (bT leak D T id th now) (k + 1) := by
  refine ⟨hs, (h.tk.begin_ leak id th now (by have := h.tl; omega)).perm hp, ?_, by have := h.ml; omega, ?_⟩
  · have h1 := bL_len D id th now
    have h2 := hp.length_eq
    have := h.dl
    omega
  · have h1 := bT_len leak D (T := T) id th now (by have := h.tl; omega)
    have := h.tl
    omega
theorem Pv.end_ (h : Pv D M T k) (id th : Int) : Pv (if holds D id th = true then Mt.wo D id else D) M (if holds D id th = true then Wl.wo T id else T) (k + 1) := by
  cases holds D id th with
  | true =>
    rw [if_pos rfl, if_pos rfl]
    refine ⟨h.sd.wo id, h.tk.end_ id, ?_, by have := h.ml; omega, ?_⟩
    · have h1 : (Mt.wo D id).length ≤ D.length := List.length_filter_le _ _
      have := h.dl; omega
    · have h1 := Wl.wo_len T id
      have := h.tl; omega
  | false =>
    rw [if_neg (by decide), if_neg (by decide)]
    exact ⟨h.sd, h.tk, by have := h.dl; omega, by have := h.ml; omega, by have := h.tl; omega⟩
theorem Pv.mark (h : Pv D M T k) (id th : Int) : Pv D (if holds D id th = true then M.filter (· != id) ++ [id] else M) T (k + 1) := by
  refine ⟨h.sd, h.tk, by have := h.dl; omega, ?_, by have := h.tl; omega⟩
  have h1 : (M.filter (· != id)).length ≤ M.length := List.length_filter_le _ _
  have := h.ml
  split
  · simp; omega
  · omega
theorem Pv.forget (h : Pv D M T k) (id : Int) : Pv D (M.filter (· != id)) T (k + 1) := by
  refine ⟨h.sd, h.tk, by have := h.dl; omega, ?_, by have := h.tl; omega⟩
  have h1 : (M.filter (· != id)).length ≤ M.length := List.length_filter_le _ _
  have := h.ml
  omega
theorem Pv.leaks (h : Pv D M T k) (now : Int) : Pv (fld D ((Wl.due T now).map Prod.fst)) M (Wl.left T now) (k + 1) := by
  refine ⟨fld_sd h.sd _, h.tk.leaks now _, by rw [fld_len]; have := h.dl; omega, by have := h.ml; omega, ?_⟩
  have h1 := Wl.due_left_len T now
  have := h.tl
  omega
end
/-- Four cells of a block that stays. -/
theorem V4.blk {w w' : World} {g : Nat} {a b c d : Value} (h : V4 w g a b c d) (hb : w'.heap[g]? = w.heap[g]?) : V4 w' g a b c d := by
  obtain ⟨⟨h0, h1, h2, h3⟩, f0, f1, f2, f3⟩ := h
  exact ⟨⟨(World.cell?_of_block (a := ⟨g, 0, none⟩) hb).trans h0, (World.cell?_of_block (a := ⟨g, 1, none⟩) hb).trans h1, (World.cell?_of_block (a := ⟨g, 2, none⟩) hb).trans h2, (World.cell?_of_block (a := ⟨g, 3, none⟩) hb).trans h3⟩,
    (World.frozen?_of_block (a := ⟨g, 0, none⟩) hb).trans f0, (World.frozen?_of_block (a := ⟨g, 1, none⟩) hb).trans f1, (World.frozen?_of_block (a := ⟨g, 2, none⟩) hb).trans f2, (World.frozen?_of_block (a := ⟨g, 3, none⟩) hb).trans f3⟩
/-- Where the document's book lies, in its variable. -/
abbrev Vd (w : World) (r : Nat) (leak : Int) (d : Da) : Prop := V4 w r (.int .u64 leak) (.slice d.A d.n d.c) (.slice d.A2 d.n2 d.c2) (.slice d.A3 d.n3 d.c3)
/-- Another one is stored. -/
def put4 (w : World) (r : Nat) (leak : Int) (d : Da) : World := (((w.setCell ⟨r, 0, none⟩ (.int .u64 leak)).setCell ⟨r, 1, none⟩ (.slice d.A d.n d.c)).setCell ⟨r, 2, none⟩ (.slice d.A2 d.n2 d.c2)).setCell ⟨r, 3, none⟩ (.slice d.A3 d.n3 d.c3)
section
variable {w w' : World} {r : Nat} {leak : Int} {d e : Da}
theorem put4_size : (put4 w r leak d).heap.size = w.heap.size := by simp [put4]
theorem put4_far {g : Nat} (hg : g ≠ r) : (put4 w r leak d).heap[g]? = w.heap[g]? := by
  unfold put4
  rw [heap_setCell_other _ _ g _ hg, heap_setCell_other _ _ g _ hg, heap_setCell_other _ _ g _ hg, heap_setCell_other _ _ g _ hg]
theorem put4_below {B : Nat} {w0 : World} (h : Below B w0 w) (hr : B ≤ r) : Below B w0 (put4 w r leak d) := (((h.setCell (p := ⟨r, 0, none⟩) hr _).setCell (p := ⟨r, 1, none⟩) hr _).setCell (p := ⟨r, 2, none⟩) hr _).setCell (p := ⟨r, 3, none⟩) hr _
theorem put4_vd (h : Vd w r leak e) : Vd (put4 w r leak d) r leak d := by
  obtain ⟨⟨h0, h1, h2, h3⟩, f0, f1, f2, f3⟩ := h
  unfold put4
  exact ⟨⟨by go_simp, by go_simp, by go_simp, by go_simp⟩, by go_simp, by go_simp, by go_simp, by go_simp⟩
theorem off_ne {b i j : Nat} (h : i ≠ j) : (⟨b, i, none⟩ : Addr) ≠ ⟨b, j, none⟩ := fun e => by injection e with _ e _; exact h e
/-- What is no slice stays. -/
theorem put4_cell (h : Vd w r leak e) {b o : Nat} {v : Value} (hc : w.cell? ⟨b, o, none⟩ = some v) (hv : ∀ A n c, v ≠ .slice A n c) : (put4 w r leak d).cell? ⟨b, o, none⟩ = some v := by
  obtain ⟨⟨h0, h1, h2, h3⟩, _⟩ := h
  by_cases hb : b = r
  · subst hb
    have n1 : o ≠ 1 := fun e => by subst e; rw [h1] at hc; injection hc with hc; exact hv _ _ _ hc.symm
    have n2 : o ≠ 2 := fun e => by subst e; rw [h2] at hc; injection hc with hc; exact hv _ _ _ hc.symm
    have n3 : o ≠ 3 := fun e => by subst e; rw [h3] at hc; injection hc with hc; exact hv _ _ _ hc.symm
    unfold put4
    rw [World.cell?_setCell_other _ _ _ _ (off_ne n3.symm), World.cell?_setCell_other _ _ _ _ (off_ne n2.symm), World.cell?_setCell_other _ _ _ _ (off_ne n1.symm)]
    by_cases n0 : o = 0
    · subst n0
      rw [h0] at hc
      rw [World.cell?_setCell_same _ _ _ h0]
      exact hc
    · rw [World.cell?_setCell_other _ _ _ _ (off_ne (Ne.symm n0))]
      exact hc
  · exact (World.cell?_of_block (a := ⟨b, o, none⟩) (put4_far hb)).trans hc
end
theorem Rs.put4 {α : Type} {enc : α → List Value} {sz : Nat} {w : World} {r : Nat} {leak : Int} {d e : Da} {B : Nat} {A : Option Addr} {n c : Nat} {xs : List α} (hv : Vd w r leak e) (h : Rs enc sz w B A n c xs) (he : ∀ x u, u ∈ enc x → ∀ A n c, u ≠ .slice A n c) (hB : B ≤ w.heap.size) : Rs enc sz (put4 w r leak d) (put4 w r leak d).heap.size A n c xs :=
  ⟨h.len, h.cap, h.top, fun hn => by
    obtain ⟨b, o, e1, hb, hc⟩ := h.at_ hn
    exact ⟨b, o, e1, by rw [put4_size]; omega, fun j x hx i u hi hu => put4_cell hv (hc j x hx i u hi hu) (he x u (List.mem_of_getElem? hu))⟩⟩
theorem Rd.put4 {α : Type} {enc : α → Value} {w : World} {r : Nat} {leak : Int} {d e : Da} {B : Nat} {A : Option Addr} {n c : Nat} {xs : List α} (hv : Vd w r leak e) (h : Rd enc w B A n c xs) (he : ∀ x, ∀ A n c, enc x ≠ .slice A n c) (hB : B ≤ w.heap.size) : Rd enc (put4 w r leak d) (put4 w r leak d).heap.size A n c xs :=
  ⟨h.len, h.cap, h.top, fun hn => by
    obtain ⟨b, o, e1, hb, hc⟩ := h.at_ hn
    exact ⟨b, o, e1, by rw [put4_size]; omega, fun j x hx => put4_cell hv (hc j x hx) (he x)⟩⟩
theorem Dk.put4 {w : World} {r : Nat} {leak : Int} {d e f : Da} {D : List (Int × Ls)} {M : List Int} {T : List (Int × Int)} (hv : Vd w r leak e) (h : Dk w f D M T) : Dk (put4 w r leak d) f D M T :=
  ⟨Rs.put4 hv h.l (fun x u hu A n c e => by simp [enc4] at hu; rcases hu with rfl | rfl | rfl | rfl <;> cases e) (Nat.le_refl _), Rd.put4 hv h.m (fun x A n c e => by cases e) (Nat.le_refl _), Rs.put4 hv h.t (fun x u hu A n c e => by simp [Wl.enc2] at hu; rcases hu with rfl | rfl <;> cases e) (Nat.le_refl _), h.fm, h.fl⟩
/-- A block with cells is none of a book's maps. -/
theorem Bk.blk {w w' : World} {x : At} {leak : Int} {L : List (Int × Ls)} {M : List (Int × Bool)} {T : List (Int × Int)} (h : Bk w x leak L M T) {f g : Option Nat} (hf : Fr f g w w') (hfg : (f = some x.a ∧ g = some x.m) ∨ (f = some x.b ∧ g = none)) {b o : Nat} {v : Value} (hc : w.cell? ⟨b, o, none⟩ = some v) : w'.heap[b]? = w.heap[b]? := by
  have hb : b < w.heap.size := Lw.lt_heap hc
  have ha : b ≠ x.a := fun e => h.leases.no_cell o v (e ▸ hc)
  have hb2 : b ≠ x.b := fun e => h.marks.no_cell o v (e ▸ hc)
  have hm : b ≠ x.m := fun e => wh_no_cell h.wheel o v (e ▸ hc)
  refine hf.block b hb ?_ ?_
  · rcases hfg with ⟨rfl, rfl⟩ | ⟨rfl, rfl⟩ <;> intro e <;> injection e <;> contradiction
  · rcases hfg with ⟨rfl, rfl⟩ | ⟨rfl, rfl⟩
    · intro e; injection e; contradiction
    · intro e; cases e
/-- The variable of the document's book is no block of a book. -/
theorem Bk.apart {w : World} {x : At} {leak : Int} {L : List (Int × Ls)} {M : List (Int × Bool)} {T : List (Int × Int)} (h : Bk w x leak L M T) {r : Nat} {d : Da} (hv : Vd w r leak d) : x.p ≠ r ∧ x.a ≠ r ∧ x.b ≠ r ∧ x.q ≠ r ∧ x.m ≠ r := by
  obtain ⟨⟨h0, h1, h2, h3⟩, _⟩ := hv
  refine ⟨fun e => ?_, fun e => h.leases.no_cell 0 _ (e ▸ h0), fun e => h.marks.no_cell 0 _ (e ▸ h0), fun e => ?_, fun e => wh_no_cell h.wheel 0 _ (e ▸ h0)⟩
  · subst e; have := h.c1.symm.trans h1; cases this
  · subst e; have := h.wheel.cell.symm.trans h0; cases this
theorem Bk.put4 {w : World} {x : At} {leak : Int} {L : List (Int × Ls)} {M : List (Int × Bool)} {T : List (Int × Int)} (h : Bk w x leak L M T) {r : Nat} {d e : Da} (hv : Vd w r leak e) : Bk (put4 w r leak d) x leak L M T := by
  obtain ⟨h1, h2, h3, h4, h5⟩ := h.apart hv
  exact h.same (put4_far h1) (put4_far h2) (put4_far h3) (put4_far h4) (put4_far h5)
/-- A book and the document's; an act's box. -/
structure Px (w0 w : World) (x : At) (e d : Da) (leak : Int) (L : List (Int × Ls)) (M : List Int) (T : List (Int × Int)) (D : List (Int × Ls)) (N : List Int) (U : List (Int × Int)) (r q : Nat) (a0 a1 a2 a3 : Int) : Prop where
  bk : Bk w x leak L (mk M) T
  dk : Dk w d D N U
  vd : Vd w r leak e
  b0 : w.cell? ⟨q, 0, none⟩ = some (.int .u8 a0)
  b1 : w.cell? ⟨q, 1, none⟩ = some (.int .u64 a1)
  b2 : w.cell? ⟨q, 2, none⟩ = some (.int .i64 a2)
  b3 : w.cell? ⟨q, 3, none⟩ = some (.int .u64 a3)
  bel : Below w0.heap.size w0 w
  lo : w0.heap.size ≤ x.p ∧ w0.heap.size ≤ x.a ∧ w0.heap.size ≤ x.b ∧ w0.heap.size ≤ x.q ∧ w0.heap.size ≤ x.m
  rl : w0.heap.size ≤ r
/-- .. without the box. -/
structure Pq (w0 w : World) (x : At) (d : Da) (leak : Int) (D : List (Int × Ls)) (M : List Int) (T : List (Int × Int)) (r : Nat) : Prop where
  bk : Bk w x leak D (mk M) T
  dk : Dk w d D M T
  vd : Vd w r leak d
  bel : Below w0.heap.size w0 w
  lo : w0.heap.size ≤ x.p ∧ w0.heap.size ≤ x.a ∧ w0.heap.size ≤ x.b ∧ w0.heap.size ≤ x.q ∧ w0.heap.size ≤ x.m
  rl : w0.heap.size ≤ r
section
variable {w0 w w' : World} {x : At} {e d : Da} {leak : Int} {L D : List (Int × Ls)} {M N : List Int} {T U : List (Int × Int)} {r q : Nat} {a0 a1 a2 a3 : Int}
theorem Pq.box (h : Pq w0 w x d leak D M T r) (a0 a1 a2 a3 : Int) : Px w0 (w.alloc (.cells #[.int .u8 a0, .int .u64 a1, .int .i64 a2, .int .u64 a3] 33)) x d d leak D M T D M T r w.heap.size a0 a1 a2 a3 :=
  have hb : Below w.heap.size w (w.alloc (.cells #[.int .u8 a0, .int .u64 a1, .int .i64 a2, .int .u64 a3] 33)) := (Below.refl _ _).alloc (Nat.le_refl _) _
  ⟨h.bk.later hb, h.dk.later hb, h.vd.below hb (Lw.lt_heap h.vd.1.1), by go_simp, by go_simp, by go_simp, by go_simp, h.bel.trans (hb.mono h.bel.size), h.lo, h.rl⟩
theorem Px.later (h : Px w0 w x e d leak L M T D N U r q a0 a1 a2 a3) (hb : Below w.heap.size w w') : Px w0 w' x e d leak L M T D N U r q a0 a1 a2 a3 :=
  have hq := Lw.lt_heap h.b0
  ⟨h.bk.later hb, h.dk.later hb, h.vd.below hb (Lw.lt_heap h.vd.1.1), (hb.cell (p := ⟨q, 0, none⟩) hq).trans h.b0, (hb.cell (p := ⟨q, 1, none⟩) hq).trans h.b1, (hb.cell (p := ⟨q, 2, none⟩) hq).trans h.b2, (hb.cell (p := ⟨q, 3, none⟩) hq).trans h.b3, h.bel.trans (hb.mono h.bel.size), h.lo, h.rl⟩
theorem Px.done (h : Px w0 w x d d leak D M T D M T r q a0 a1 a2 a3) : Pq w0 w x d leak D M T r := ⟨h.bk, h.dk, h.vd, h.bel, h.lo, h.rl⟩
theorem Px.perm (h : Px w0 w x e d leak L M T D N U r q a0 a1 a2 a3) {L' : List (Int × Ls)} (hp : L.Perm L') : Px w0 w x e d leak L' M T D N U r q a0 a1 a2 a3 :=
  ⟨h.bk.permL hp, h.dk, h.vd, h.b0, h.b1, h.b2, h.b3, h.bel, h.lo, h.rl⟩
/-- The book turned. -/
theorem Px.book {L' : List (Int × Ls)} {M' : List Int} {T' : List (Int × Int)} {f g : Option Nat} (h : Px w0 w x e d leak L M T D N U r q a0 a1 a2 a3) (hb : Bk w' x leak L' (Le.mk M') T') (hf : Fr f g w w') (hfg : (f = some x.a ∧ g = some x.m) ∨ (f = some x.b ∧ g = none)) : Px w0 w' x e d leak L' M' T' D N U r q a0 a1 a2 a3 := by
  obtain ⟨l1, l2, l3, l4, l5⟩ := h.lo
  refine ⟨hb, h.dk.held (fun b o v hc => h.bk.keep hf hfg hc) hf.size, h.vd.blk (h.bk.blk hf hfg h.vd.1.1), h.bk.keep hf hfg h.b0, h.bk.keep hf hfg h.b1, h.bk.keep hf hfg h.b2, h.bk.keep hf hfg h.b3, h.bel.trans (hf.below h.bel.size (fun j hj => ?_) (fun j hj => ?_)), h.lo, h.rl⟩
  · rcases hfg with ⟨rfl, rfl⟩ | ⟨rfl, rfl⟩ <;> injection hj <;> omega
  · rcases hfg with ⟨rfl, rfl⟩ | ⟨rfl, rfl⟩
    · injection hj; omega
    · cases hj
/-- The document's book is another one. -/
theorem Px.doc {d' : Da} {D' : List (Int × Ls)} {N' : List Int} {U' : List (Int × Int)} (h : Px w0 w x e d leak L M T D N U r q a0 a1 a2 a3) (hd : Dk w' d' D' N' U') (hb : Below w.heap.size w w') : Px w0 w' x e d' leak L M T D' N' U' r q a0 a1 a2 a3 :=
  have h' := h.later hb
  ⟨h'.bk, hd, h'.vd, h'.b0, h'.b1, h'.b2, h'.b3, h'.bel, h'.lo, h'.rl⟩
/-- .. and is stored. -/
theorem Px.put (h : Px w0 w x e d leak L M T D N U r q a0 a1 a2 a3) : Px w0 (put4 w r leak d) x d d leak L M T D N U r q a0 a1 a2 a3 :=
  ⟨h.bk.put4 h.vd, h.dk.put4 h.vd, put4_vd h.vd, put4_cell h.vd h.b0 (fun _ _ _ e => by cases e), put4_cell h.vd h.b1 (fun _ _ _ e => by cases e), put4_cell h.vd h.b2 (fun _ _ _ e => by cases e), put4_cell h.vd h.b3 (fun _ _ _ e => by cases e), put4_below h.bel h.rl, h.lo, h.rl⟩
/-- A clone goes on. -/
theorem Px.fresh {x' : At} (h : Px w0 w x e d leak L M T D N U r q a0 a1 a2 a3) (hk : Bk w' x' leak L (Le.mk M) T) (hb : Below w.heap.size w w') (hx : w.heap.size ≤ x'.p ∧ w.heap.size ≤ x'.a ∧ w.heap.size ≤ x'.b ∧ w.heap.size ≤ x'.q ∧ w.heap.size ≤ x'.m) : Px w0 w' x' e d leak L M T D N U r q a0 a1 a2 a3 :=
  have h' := h.later hb
  have hs := h.bel.size
  ⟨hk, h'.dk, h'.vd, h'.b0, h'.b1, h'.b2, h'.b3, h'.bel, by obtain ⟨h1, h2, h3, h4, h5⟩ := hx; omega, h'.rl⟩
/-- What is done with the elder book leaves the clone. -/
theorem Px.aside {x0 : At} {n : Nat} {L0 : List (Int × Ls)} {M0 : List (Int × Bool)} {T0 : List (Int × Int)} (h : Px w0 w x e d leak L M T D N U r q a0 a1 a2 a3) (ho : Bk w x0 leak L0 M0 T0) (h0 : x0.a < n ∧ x0.m < n) (hl : w0.heap.size ≤ x0.a ∧ w0.heap.size ≤ x0.m) (hx : n ≤ x.p ∧ n ≤ x.a ∧ n ≤ x.b ∧ n ≤ x.q ∧ n ≤ x.m) (hf : Fr (some x0.a) (some x0.m) w w') : Px w0 w' x e d leak L M T D N U r q a0 a1 a2 a3 := by
  obtain ⟨l1, l2, l3, l4, l5⟩ := h.bk.lt
  obtain ⟨n1, n2, n3, n4, n5⟩ := hx
  have k : ∀ g, g < w.heap.size → n ≤ g → w'.heap[g]? = w.heap[g]? := fun g hg hn => hf.block g hg (fun e => by injection e; omega) (fun e => by injection e; omega)
  refine ⟨h.bk.same (k _ l1 n1) (k _ l2 n2) (k _ l3 n3) (k _ l4 n4) (k _ l5 n5), h.dk.held (fun b o v hc => ho.keep hf (.inl ⟨rfl, rfl⟩) hc) hf.size, h.vd.blk (ho.blk hf (.inl ⟨rfl, rfl⟩) h.vd.1.1), ho.keep hf (.inl ⟨rfl, rfl⟩) h.b0, ho.keep hf (.inl ⟨rfl, rfl⟩) h.b1, ho.keep hf (.inl ⟨rfl, rfl⟩) h.b2, ho.keep hf (.inl ⟨rfl, rfl⟩) h.b3, h.bel.trans (hf.below h.bel.size (fun j hj => by injection hj; omega) (fun j hj => by injection hj; omega)), h.lo, h.rl⟩
end
end Go.Proofs.YtbdcdofjcljliaaGreatDoor.Le
