/- The walk of hackneylaw03.SnapStays. -/
import Derived.Test.YthamnebbecmegaaTwo
import Derived.Test.YthamnebbecmegaaAwake4
import Derived.Test.YthamnebbecmegaaAfter
import Derived.Test.YthamnebbecmegaaSortJ
import Derived.Deep.DeepCutAuto
namespace Go.Proofs.Ythamnebbecmegaa.Sn
open Go.ChangeShapes Go.WideShapes Go.ChangeAt Go.RowKit Rw Sl
set_option linter.unusedVariables false

theorem rd_near {α : Type} {enc : α → Value} {w w' : World} {B B' : Nat} {A : Option Addr} {n c : Nat} {xs : List α} (h : Rd enc w B A n c xs) (hB : B ≤ B') (hk : ∀ b o, A = some ⟨b, o, none⟩ → 0 < n → b < B → w'.heap[b]? = w.heap[b]?) : Rd enc w' B' A n c xs :=
  ⟨h.len, h.cap, h.top, fun hn => by
    obtain ⟨b, o, e, hb, hc⟩ := h.at_ hn
    refine ⟨b, o, e, by omega, fun j x hx => ?_⟩
    rw [← hc j x hx]
    unfold World.cell?
    rw [hk b o e hn hb]⟩
/-- A snap that was taken, and what it told then. -/
structure Ent where
  a : Option Addr
  c : Nat
  a' : Option Addr
  c' : Nat
  xs : List Int
def Far (A : Option Addr) (n : Nat) (g6 g7 : Option Nat) : Prop := 0 < n → ∀ b o, A = some ⟨b, o, none⟩ → some b ≠ g6 ∧ some b ≠ g7
structure Eok (w : World) (g6 g7 : Option Nat) (e : Ent) : Prop where
  s : Rd (Value.int .u64) w w.heap.size e.a e.xs.length e.c e.xs
  l : Rd (Value.int .u64) w w.heap.size e.a' e.xs.length e.c' e.xs
  fs : Far e.a e.xs.length g6 g7
  fl : Far e.a' e.xs.length g6 g7
  nd : e.xs.Nodup
  ok : U64s e.xs
  len : e.xs.length ≤ 160
def sV (e : Ent) : Value := .slice e.a e.xs.length e.c
def lV (e : Ent) : Value := .slice e.a' e.xs.length e.c'
/-- From w0 on but the two rows' blocks nothing has turned: such an entry stays. -/
theorem Eok.keep {w w' : World} {g6 g7 h6 h7 : Option Nat} {e : Ent} (h : Eok w g6 g7 e) (hf : Fr2 g6 g7 w w') (h6' : h6 = g6 ∨ ∃ b, h6 = some b ∧ w.heap.size ≤ b) (h7' : h7 = g7 ∨ ∃ b, h7 = some b ∧ w.heap.size ≤ b) : Eok w' h6 h7 e := by
  have far : ∀ (A : Option Addr) (n c : Nat) (xs : List Int), Rd (Value.int .u64) w w.heap.size A n c xs → Far A n g6 g7 → Far A n h6 h7 := by
    intro A n c xs hr hfa hn b o e
    obtain ⟨b', o', e', hb, _⟩ := hr.at_ hn
    rw [e] at e'
    injection e' with e'
    injection e' with e1 _
    obtain ⟨f1, f2⟩ := hfa hn b o e
    constructor
    · rcases h6' with q | ⟨x, q, hx⟩
      · rw [q]; exact f1
      · rw [q]; intro e; injection e; omega
    · rcases h7' with q | ⟨x, q, hx⟩
      · rw [q]; exact f2
      · rw [q]; intro e; injection e; omega
  refine ⟨rd_near h.s hf.size fun b o e hn hb => hf.block b hb (h.fs hn b o e).1 (h.fs hn b o e).2, rd_near h.l hf.size fun b o e hn hb => hf.block b hb (h.fl hn b o e).1 (h.fl hn b o e).2, far _ _ _ _ h.s h.fs, far _ _ _ _ h.l h.fl, h.nd, h.ok, h.len⟩
theorem Eok.later {w w' : World} {g6 g7 : Option Nat} {e : Ent} (h : Eok w g6 g7 e) (hb : Below w.heap.size w w') : Eok w' g6 g7 e :=
  h.keep ⟨hb.os, hb.tape, hb.output, hb.size, fun k hk _ _ => hb.block k hk⟩ (.inl rfl) (.inl rfl)
/-- All that a round of the law's needs. -/
structure Sst (w wr : World) (v6 v7 : Value) (T : List Ent) : Prop where
  all : wr.ownsRow w.heap.size 26 1 v6 T.length (T.map sV)
  was : wr.ownsRow w.heap.size 22 1 v7 T.length (T.map lV)
  ne : ∀ b, v6.ownBlock = some b → v7.ownBlock ≠ some b
  ents : ∀ e ∈ T, Eok wr v6.ownBlock v7.ownBlock e
  bel : Below w.heap.size w wr
theorem Sst.later {w wr w' : World} {v6 v7 : Value} {T : List Ent} (h : Sst w wr v6 v7 T) (hb : Below wr.heap.size wr w') : Sst w w' v6 v7 T := by
  have hg : wr.grownBy w' none := ⟨hb.os, hb.tape, hb.output, hb.size, fun k hk _ => hb.block k hk⟩
  exact ⟨kept_ne h.all hg (fun b _ e => by cases e), kept_ne h.was hg (fun b _ e => by cases e), h.ne, fun e he => (h.ents e he).later hb, h.bel.trans (hb.mono h.bel.size)⟩
theorem info_snap : (Try.prog.info? 26).map (fun i => (i.zero, i.size, i.bytes)) = some (some (.agg #[.slice none 0 0]), 1, 24) := by kernel_rfl
theorem info_list : (Try.prog.info? 22).map (fun i => (i.zero, i.size, i.bytes)) = some (some (.slice none 0 0), 1, 24) := by kernel_rfl
theorem own_quiet {w w' : World} {base e n : Nat} {v : Value} {xs : List Value} (h : w.ownsRow base e 1 v n xs) (hb : Below w.heap.size w w') : w'.ownsRow base e 1 v n xs :=
  kept_ne (row := none) h ⟨hb.os, hb.tape, hb.output, hb.size, fun k hk _ => hb.block k hk⟩ (fun b _ e => by cases e)
theorem below_alloc (w : World) (o : Obj) : Below w.heap.size w (w.alloc o) := (Below.refl _ _).alloc (Nat.le_refl _) _
theorem start_sst {w W1 W : World} {A0 A9 : Option Addr} {n0 c0 c9 b6 b7 : Nat} {ys : List Int} (hs : Snap W1 W1.heap.size (.agg #[.slice A0 n0 c0]) ys) (hb : Below W1.heap.size W1 W)
    (r6 : W.ownsRow W1.heap.size 26 1 (.slice (some ⟨b6, 0, none⟩) 1 1) 1 [.slice A0 n0 c0]) (r7 : W.ownsRow W1.heap.size 22 1 (.slice (some ⟨b7, 0, none⟩) 1 1) 1 [.slice A9 ys.length c9]) (h67 : b6 ≠ b7)
    (r9 : W.ownsRow W1.heap.size 31 1 (.slice A9 ys.length c9) ys.length (ys.map (Value.int .u64))) (h9 : ∀ b, (Value.slice A9 ys.length c9).ownBlock = some b → b ≠ b6 ∧ b ≠ b7) (hbw : Below w.heap.size w W1) (hl : ys.length ≤ 100) :
    ∃ T : List Ent, T.length = 1 ∧ Hid (Sst w W (.slice (some ⟨b6, 0, none⟩) 1 1) (.slice (some ⟨b7, 0, none⟩) 1 1) T ∧ ∀ e ∈ T, e.xs.length ≤ 100) := by
  obtain ⟨A, n, c, he, hr⟩ := hs.rd
  injection he with he
  injection he with he
  injection he with he _
  injection he with h1 h2 h3
  subst h1 h2 h3
  obtain rfl : ys.length = n0 := hr.len
  have l6 := (r6.lt b6 rfl).1
  have l7 := (r7.lt b7 rfl).1
  refine ⟨[⟨A0, c0, A9, c9, ys⟩], rfl, ⟨own_mono r6 hbw.size, own_mono r7 hbw.size, ?_, ?_, hbw.trans (hb.mono hbw.size)⟩, ?_⟩
  · intro b e1 e2
    simp only [Value.ownBlock, Option.some.injEq] at e1 e2
    exact h67 (e1.trans e2.symm)
  · intro e he
    obtain rfl : e = ⟨A0, c0, A9, c9, ys⟩ := by simpa using he
    refine ⟨hr.later hb, Rd.own_rd r9, ?_, ?_, hs.nd, hs.ok, by simp only; omega⟩
    · intro hn b o e
      obtain ⟨b', o', e', hb', _⟩ := hr.at_ hn
      simp only at e
      rw [e] at e'
      injection e' with e'
      injection e' with e1 _
      constructor <;> (intro q; simp only [Value.ownBlock, Option.some.injEq] at q; omega)
    · intro hn b o e
      simp only at e
      subst e
      obtain ⟨q1, q2⟩ := h9 b rfl
      constructor <;> (intro q; simp only [Value.ownBlock, Option.some.injEq] at q; omega)
  · intro e he
    obtain rfl : e = ⟨A0, c0, A9, c9, ys⟩ := by simpa using he
    exact hl
theorem grown_setCell (w : World) (a : Addr) (u : Value) : w.grownBy (w.setCell a u) (some a.block) :=
  ⟨rfl, rfl, rfl, by simp, fun k _ hk => heap_setCell_other w a k u (fun e => hk (by rw [e]))⟩
theorem rd_set {w : World} {A : Option Addr} {n c : Nat} {xs : List Int} (h : Rd (Value.int .u64) w w.heap.size A n c xs) {p : Addr} {B : Option Addr} {m d : Nat} (hp : w.cell? p = some (.slice B m d)) (u : Value) : Rd (Value.int .u64) (w.setCell p u) (w.setCell p u).heap.size A n c xs :=
  (h.setOther hp (fun x e => by cases e) u).more (by simp)
theorem Sst.set {w wr : World} {v6 v7 : Value} {T : List Ent} {H : Nat} {B : Option Addr} {m d : Nat} (h : Sst w wr v6 v7 T) (hp : wr.cell? ⟨H, 0, none⟩ = some (.slice B m d)) (h6 : v6.ownBlock ≠ some H) (h7 : v7.ownBlock ≠ some H) (hH : w.heap.size ≤ H) (u : Value) : Sst w (wr.setCell ⟨H, 0, none⟩ u) v6 v7 T := by
  have hg := grown_setCell wr ⟨H, 0, none⟩ u
  refine ⟨kept_ne h.all hg (fun b hb e => h6 (hb.trans e.symm)), kept_ne h.was hg (fun b hb e => h7 (hb.trans e.symm)), h.ne, fun e he => ?_, h.bel.setCell hH _⟩
  have := h.ents e he
  exact ⟨rd_set this.s hp u, rd_set this.l hp u, this.fs, this.fl, this.nd, this.ok, this.len⟩
theorem far_of_fresh {W : World} {a0 A5 : Option Addr} {n0 c0 n5 c5 : Nat} {g6 g7 : Option Nat} (hf : Fresh W (.agg #[.slice a0 n0 c0]) (.agg #[.slice A5 n5 c5])) (h : Far a0 n0 g6 g7) (h6 : ∀ b, g6 = some b → b < W.heap.size) (h7 : ∀ b, g7 = some b → b < W.heap.size) : Far A5 n5 g6 g7 := by
  rcases hf with e | ⟨A, n, c, e, hb⟩
  · injection e with e
    injection e with e
    injection e with e _
    injection e with e1 e2 e3
    subst e1 e2 e3
    exact h
  · injection e with e
    injection e with e
    injection e with e _
    injection e with e1 e2 e3
    subst e1 e2 e3
    intro _ b o e
    have := hb b o e
    constructor
    · intro q; have := h6 b q.symm; omega
    · intro q; have := h7 b q.symm; omega
/-- What comes next in a round: at block G its snap, at block F the act. -/
structure Nx (w wx : World) (v6 v7 : Value) (T : List Ent) (F G : Nat) (x : Int) (ob : Bool) (An : Option Addr) (cn : Nat) (zs : List Int) (m : Nat) : Prop where
  sst : Sst w wx v6 v7 T
  f0 : wx.cell? ⟨F, 0, none⟩ = some (.int .u64 x)
  f1 : wx.cell? ⟨F, 1, none⟩ = some (.bool ob)
  g0 : wx.cell? ⟨G, 0, none⟩ = some (.slice An zs.length cn)
  rd : Rd (Value.int .u64) wx wx.heap.size An zs.length cn zs
  far : Far An zs.length v6.ownBlock v7.ownBlock
  nd : zs.Nodup
  ok : U64s zs
  len : zs.length ≤ m
  is : decide (x ∈ zs) = !ob
theorem Nx.snap {w wx : World} {v6 v7 : Value} {T : List Ent} {F G : Nat} {x : Int} {ob : Bool} {An : Option Addr} {cn : Nat} {zs : List Int} {m : Nat} (h : Nx w wx v6 v7 T F G x ob An cn zs m) : Snap wx wx.heap.size (.agg #[.slice An zs.length cn]) zs := ⟨⟨An, zs.length, cn, rfl, h.rd⟩, h.nd, h.ok⟩
theorem snap_len {w : World} {B : Nat} {A : Option Addr} {n c : Nat} {zs : List Int} (h : Snap w B (.agg #[.slice A n c]) zs) : zs.length = n ∧ Rd (Value.int .u64) w B A n c zs := by
  obtain ⟨A', n', c', e, hr⟩ := h.rd
  injection e with e
  injection e with e
  injection e with e _
  injection e with e1 e2 e3
  subst e1 e2 e3
  exact ⟨hr.len, hr⟩
theorem far_keep {w w' : World} {A : Option Addr} {n c : Nat} {xs : List Int} {g6 g7 h6 h7 : Option Nat} (hr : Rd (Value.int .u64) w w.heap.size A n c xs) (hfa : Far A n g6 g7) (h6' : h6 = g6 ∨ ∃ b, h6 = some b ∧ w.heap.size ≤ b) (h7' : h7 = g7 ∨ ∃ b, h7 = some b ∧ w.heap.size ≤ b) : Far A n h6 h7 := by
  intro hn b o e
  obtain ⟨b', o', e', hb, _⟩ := hr.at_ hn
  rw [e] at e'
  injection e' with e'
  injection e' with e1 _
  obtain ⟨f1, f2⟩ := hfa hn b o e
  constructor
  · rcases h6' with q | ⟨x, q, hx⟩
    · rw [q]; exact f1
    · rw [q]; intro e; injection e; omega
  · rcases h7' with q | ⟨x, q, hx⟩
    · rw [q]; exact f2
    · rw [q]; intro e; injection e; omega
/-- Behind a round's two appends. -/
theorem Nx.more {w wc wg : World} {v6 v7 u6 u7 : Value} {T : List Ent} {F G : Nat} {x : Int} {ob : Bool} {An A9 : Option Addr} {cn c9 t : Nat} {zs : List Int} {m : Nat} {pb : List Own} (h : Nx w wc v6 v7 T F G x ob An cn zs m) (hT : T.length = t) (hm : m ≤ 160)
    (hF : v6.ownBlock ≠ some F ∧ v7.ownBlock ≠ some F) (hG : v6.ownBlock ≠ some G ∧ v7.ownBlock ≠ some G)
    (s : S2 26 22 v6.ownBlock v7.ownBlock wc w.heap.size wg u6 (t + 1) (T.map sV ++ [.slice An zs.length cn]) u7 (t + 1) (T.map lV ++ [.slice A9 zs.length c9]) pb)
    (hp : (.slice A9 zs.length c9, 31, zs.length, zs.map (Value.int .u64)) ∈ pb) : Nx w wg u6 u7 (T ++ [⟨An, cn, A9, c9, zs⟩]) F G x ob An cn zs m := by
  have hrd : Rd (Value.int .u64) wg wg.heap.size An zs.length cn zs := rd_near h.rd s.fr.size fun b o e hn hb => s.fr.block b hb (h.far hn b o e).1 (h.far hn b o e).2
  have hfar := far_keep (w' := wg) h.rd h.far s.oa s.ow
  have hpr := s.prot _ hp
  have hlen : (T ++ [(⟨An, cn, A9, c9, zs⟩ : Ent)]).length = t + 1 := by simp [hT]
  have hbel : Below w.heap.size w wg := h.sst.bel.trans ⟨s.fr.os, s.fr.tape, s.fr.output, s.fr.size, fun j hj => s.fr.block j (by have := h.sst.bel.size; omega) (fun e => by have := (h.sst.all.lt j e.symm).1; omega) (fun e => by have := (h.sst.was.lt j e.symm).1; omega)⟩
  refine ⟨⟨?_, ?_, s.ne, ?_, hbel⟩, ?_, ?_, ?_, hrd, hfar, h.nd, h.ok, h.len, h.is⟩
  · rw [hlen, List.map_append]; exact s.all
  · rw [hlen, List.map_append]; exact s.was
  · intro e he
    rcases List.mem_append.1 he with he | he
    · exact (h.sst.ents e he).keep s.fr s.oa s.ow
    · obtain rfl : e = ⟨An, cn, A9, c9, zs⟩ := by simpa using he
      refine ⟨hrd, Rd.own_rd hpr.1, hfar, fun hn b o e => ?_, h.nd, h.ok, Nat.le_trans h.len hm⟩
      simp only at e
      subst e
      obtain ⟨q1, q2⟩ := hpr.2 b rfl
      exact ⟨fun q => q1 q.symm, fun q => q2 q.symm⟩
  · exact (s.fr.cell (p := ⟨F, 0, none⟩) (Lw.lt_heap h.f0) (fun q => hF.1 q.symm) (fun q => hF.2 q.symm)).trans h.f0
  · exact (s.fr.cell (p := ⟨F, 1, none⟩) (Lw.lt_heap h.f1) (fun q => hF.1 q.symm) (fun q => hF.2 q.symm)).trans h.f1
  · exact (s.fr.cell (p := ⟨G, 0, none⟩) (Lw.lt_heap h.g0) (fun q => hG.1 q.symm) (fun q => hG.2 q.symm)).trans h.g0
/-- A list of the call's own sorted; what Compact makes of it then. -/
theorem sorted_any (w6 w7 : World) (A9 : Option Addr) (c9 : Nat) (ys : List Int) (hown : w7.ownsRow w6.heap.size 31 1 (.slice A9 ys.length c9) ys.length (ys.map (Value.int .u64))) (hb7 : Below w6.heap.size w6 w7) (hl : ys.length ≤ 160) (hnd : ys.Nodup) :
    Calls Try.prog 18 #[.slice A9 ys.length c9] w7 fun e w8 => e = .returned (.tuple #[]) ∧ Below w6.heap.size w6 w8 ∧ ∀ W, Below w8.heap.size w8 W → Calls Try.prog 20 #[.slice A9 ys.length c9] W fun e w' => e = .returned (.slice A9 ys.length c9) ∧ ∃ q, W.drewN q = w' := by
  have hrd : Rd (Value.int .u64) w7 w7.heap.size A9 ys.length c9 ys := Rd.own_rd hown
  by_cases hz : ys.length = 0
  · rw [hz]
    exact (So.sort_none A9 c9 w7).mono fun e w8 ⟨h1, h2⟩ => ⟨h1, h2 ▸ hb7, fun W _ => So.compact_small A9 0 c9 W (by omega)⟩
  · rcases hown.2 with ⟨_, h0⟩ | ⟨g, cap, cur, hsl, hgb, hgo, hnc, hrest⟩
    · omega
    · injection hsl with hA9 _ hcc
      subst hA9 hcc
      have hrow : So.Row w7 g ys.length ys := by
        refine ⟨rfl, fun j x hx => ?_, fun j hj => by simp [World.frozen?, hgo]⟩
        obtain ⟨b, o, hbo, _, hc⟩ := hrd.at_ (by omega)
        injection hbo with hbo
        injection hbo with hbo1 hbo2
        subst hbo1 hbo2
        have := hc j x hx
        rwa [Nat.zero_add] at this
      refine (So.sort_any g ys.length c9 ys w7 hrow (by omega) (by omega)).mono ?_
      rintro e w8 ⟨rfl, d', hperm, hrow8, hg8⟩
      refine ⟨rfl, hb7.grown hg8 hb7.size (fun j hj => by cases hj; exact hgb), fun W hW => ?_⟩
      by_cases h2 : ys.length < 2
      · exact So.compact_small _ _ _ W h2
      · have hlt := hrow8.lt (by omega)
        exact So.compact_any g ys.length c9 d' W ⟨hrow8.len, fun j x hx => (hW.cell (p := ⟨g, j, none⟩) hlt).trans (hrow8.cell j x hx), fun j hj => (hW.frozen (p := ⟨g, j, none⟩) hlt).trans (hrow8.free j hj)⟩ (hperm.nodup_iff.2 hnd) (by omega) (by omega)
theorem equal_same (A A' : Option Addr) (n c m c' : Nat) (ys : List Int) (B B' : Nat) (w : World) (h : Rd (Value.int .u64) w B A n c ys) (h' : Rd (Value.int .u64) w B' A' m c' ys) :
    Calls Try.prog 19 #[.slice A n c, .slice A' m c'] w fun e w' => e = .returned (.bool true) ∧ Below w.heap.size w w' :=
  (equal_any A A' n c m c' ys ys B B' w h h').mono fun e w' ⟨h1, q, h2⟩ => ⟨by rw [h1, decide_eq_true rfl], h2 ▸ below_drewN (Below.refl _ _) q⟩
set_option maxRecDepth 100000 in
set_option maxHeartbeats 8000000 in
theorem stays_any (A : Option Addr) (n c : Nat) (xs : List Int) (ab ao n2 c2 : Nat) (A2 : Option Addr) (N : Nat → Int) (O : Nat → Bool) (w : World) (h : Rd (Value.int .u64) w w.heap.size A n c xs) (hu : U64s xs) (hn : n ≤ 100) (hn2 : n2 ≤ 60)
    (hA : 0 < n2 → A2 = some ⟨ab, ao, none⟩) (hab : 0 < n2 → ab < w.heap.size)
    (hc : ∀ j, j < n2 → w.cell? ⟨ab, ao + j * 2, none⟩ = some (.int .u64 (N j)) ∧ w.cell? ⟨ab, ao + j * 2 + 1, none⟩ = some (.bool (O j)))
    (hK : ∀ j, j < n2 → 0 ≤ N j ∧ N j ≤ 18446744073709551615) :
    Calls Try.prog 3 #[.slice A n c, .slice A2 n2 c2] w fun e w' => e = .returned (.bool true) ∧ Below w.heap.size w w' := by
  obtain ⟨i6, hi6, hz60, hz61, hz62⟩ := info_parts info_snap
  obtain ⟨i7, hi7, hz70, hz71, hz72⟩ := info_parts info_list
  have t0 : decide ((100 : Int) < (n : Int)) = false := decide_eq_false (by omega)
  have t0' : decide (100 < n) = false := decide_eq_false (by omega)
  have t1 : decide ((60 : Int) < (n2 : Int)) = false := decide_eq_false (by omega)
  have t1' : decide (60 < n2) = false := decide_eq_false (by omega)
  have HR := Lib.hid h
  have HU := Lib.hid hu
  have HA := Lib.hid hA
  have HAB := Lib.hid hab
  have HC := Lib.hid hc
  have HKK := Lib.hid hK
  clear h hu hA hab hc hK
  go_enter Try.func3, Try.ntmps3
  go_wp2_with fail
  refine (Ck.awake3_any _).mono ?_
  rintro e w1 ⟨rfl, b1⟩
  go_wp2_with fail
  refine (of_any A n c xs _ (HR.out.later b1) HU.out (by omega)).mono ?_
  rintro e w2 ⟨u, rfl, hs2, hb2⟩
  obtain ⟨A0, n0, c0, rfl⟩ := hs2.form
  have HS2 := Lib.hid hs2
  have HB2 := Lib.hid (b1.trans (hb2.mono b1.size))
  have HNN := Lib.hid HR.out.len
  clear hs2 hb2 b1
  go_upto_region 6 with (fail)
  have hsl : (sOf xs).length ≤ 100 := by have := sOf_len xs; have := HNN.out; omega
  have hsx : Snap (w2.alloc (.cells #[.slice A0 n0 c0] 26)) (w2.alloc (.cells #[.slice A0 n0 c0] 26)).heap.size (.agg #[.slice A0 n0 c0]) (sOf xs) := HS2.out.later (below_alloc _ _)
  have HSX := Lib.hid hsx
  have HBX := Lib.hid (HB2.out.alloc HB2.out.size (.cells #[.slice A0 n0 c0] 26))
  obtain ⟨G, hG⟩ : ∃ G, w2.heap.size = G := ⟨_, rfl⟩
  have e0 : (w2.alloc (.cells #[.slice A0 n0 c0] 26)).cell? ⟨G, 0, none⟩ = some (.slice A0 n0 c0) := by rw [← hG]; go_simp
  rw [hG]
  clear hsx hG HS2 HB2
  generalize w2.alloc (.cells #[.slice A0 n0 c0] 26) = w3 at *
  go_cut [6, 7] from 28 to 32 (fun s6 s7 wx => ∃ T : List Ent, T.length = 1 ∧ Hid (Sst w wx s6 s7 T ∧ ∀ e ∈ T, e.xs.length ≤ 100))
  case first =>
    refine reg_start 7 (fun w' => w'.cell? ⟨G, 0, none⟩ = some (.slice A0 n0 c0)) (by kernel_rfl) (by kernel_rfl) ?_
    intro hT
    have HT := Lib.hid hT
    clear hT
    refine reg_load 0 HT.out rfl (by kernel_rfl) (by decide) (fun _ _ _ _ h => h) e0 rfl ?_
    apply Exists.intro
    refine ⟨fun w' hw => by (have h1 := hw; go_simp; exact rfl), ?_⟩
    refine reg_load 2 HT.out rfl (by kernel_rfl) (by decide) (fun _ _ _ _ h => h) e0 rfl ?_
    apply Exists.intro
    refine ⟨fun w' hw => by (have h1 := hw; go_simp; exact rfl), ?_⟩
    refine reg_two 1 3 rfl rfl (by kernel_rfl) rfl rfl ?_ ?_
    · unfold Oper.wp
      go_simp
      have r6wa : ((w3.alloc (.cells #[.slice A0 n0 c0] 26)).drew).ownsRow w3.heap.size 26 1 (.slice (some ⟨w3.heap.size, 0, none⟩) 1 1) 1 [.slice A0 n0 c0] := lit_row w3 (.slice A0 n0 c0) 26
      have hbwa : Below w3.heap.size w3 ((w3.alloc (.cells #[.slice A0 n0 c0] 26)).drew) := (below_alloc w3 _).drew
      have ewa : ((w3.alloc (.cells #[.slice A0 n0 c0] 26)).drew).cell? ⟨G, 0, none⟩ = some (.slice A0 n0 c0) := (hbwa.cell (p := ⟨G, 0, none⟩) (Lw.lt_heap e0)).trans e0
      have swa : ((w3.alloc (.cells #[.slice A0 n0 c0] 26)).drew).heap.size = w3.heap.size + 1 := by simp
      refine ⟨ewa, ?_⟩
      generalize ((w3.alloc (.cells #[.slice A0 n0 c0] 26)).drew) = wa at *
      refine reg_only 3 rfl (by kernel_rfl) rfl ?_
      unfold Oper.wp
      go_simp
      refine (all_any _ (sOf xs) _ (HSX.out.later hbwa) (by omega)).mono ?_
      rintro e wb ⟨A9, c9, rfl, hown, hbwb⟩
      have ewb : wb.cell? ⟨G, 0, none⟩ = some (.slice A0 n0 c0) := (hbwb.cell (p := ⟨G, 0, none⟩) (Lw.lt_heap ewa)).trans ewa
      have swb := hbwb.size
      refine ⟨ewb, ?_⟩
      refine reg_load 5 HT.out rfl (by kernel_rfl) (by decide) (fun _ _ _ _ h => h) ewb rfl ?_
      apply Exists.intro
      refine ⟨fun w' hw => by (have h1 := hw; go_simp; exact rfl), ?_⟩
      refine reg_only 4 rfl (by kernel_rfl) rfl ?_
      unfold Oper.wp
      go_simp
      have r7wc : (wb.alloc (.cells #[.slice A9 (sOf xs).length c9] 22)).ownsRow wb.heap.size 22 1 (.slice (some ⟨wb.heap.size, 0, none⟩) 1 1) 1 [.slice A9 (sOf xs).length c9] := lit_row wb (.slice A9 (sOf xs).length c9) 22
      have hbwc : Below wb.heap.size wb (wb.alloc (.cells #[.slice A9 (sOf xs).length c9] 22)) := below_alloc _ _
      have ewc : (wb.alloc (.cells #[.slice A9 (sOf xs).length c9] 22)).cell? ⟨G, 0, none⟩ = some (.slice A0 n0 c0) := (hbwc.cell (p := ⟨G, 0, none⟩) (Lw.lt_heap ewb)).trans ewb
      have swc : (wb.alloc (.cells #[.slice A9 (sOf xs).length c9] 22)).heap.size = wb.heap.size + 1 := by simp
      refine ⟨ewc, ?_⟩
      generalize (wb.alloc (.cells #[.slice A9 (sOf xs).length c9] 22)) = wc at *
      refine reg_only 6 rfl (by kernel_rfl) rfl ?_
      unfold Oper.wp
      go_simp
      try refine ⟨ewc, ?_⟩
      refine reg_done (by kernel_rfl) ?_
      go_wp2_with fail
      go_meet
      exact start_sst HSX.out (hbwa.trans ((hbwb.mono (by omega)).trans (hbwc.mono (by omega)))) (own_mono (own_quiet (own_quiet r6wa hbwb) hbwc) (by omega)) (own_mono r7wc (by omega)) (by omega) (own_mono (own_quiet hown hbwc) (by omega)) (fun b hb => by have := hown.lt b hb; omega) HBX.out hsl
    · unfold Oper.wp
      go_simp
      refine (all_any _ (sOf xs) _ (HSX.out.later (Below.refl _ _).drew) (by omega)).mono ?_
      rintro e wa ⟨A9, c9, rfl, hown, hbwa⟩
      have hbwa : Below w3.heap.size w3 wa := (Below.refl _ _).drew.trans hbwa
      have hown : wa.ownsRow w3.heap.size 31 1 (.slice A9 (sOf xs).length c9) (sOf xs).length ((sOf xs).map (Value.int .u64)) := hown
      have ewa : wa.cell? ⟨G, 0, none⟩ = some (.slice A0 n0 c0) := (hbwa.cell (p := ⟨G, 0, none⟩) (Lw.lt_heap e0)).trans e0
      have swa := hbwa.size
      refine ⟨ewa, ?_⟩
      refine reg_two 1 4 rfl rfl (by kernel_rfl) rfl rfl ?_ ?_
      · unfold Oper.wp
        go_simp
        have r6wb : (wa.alloc (.cells #[.slice A0 n0 c0] 26)).ownsRow wa.heap.size 26 1 (.slice (some ⟨wa.heap.size, 0, none⟩) 1 1) 1 [.slice A0 n0 c0] := lit_row wa (.slice A0 n0 c0) 26
        have hbwb : Below wa.heap.size wa (wa.alloc (.cells #[.slice A0 n0 c0] 26)) := (below_alloc wa _)
        have ewb : (wa.alloc (.cells #[.slice A0 n0 c0] 26)).cell? ⟨G, 0, none⟩ = some (.slice A0 n0 c0) := (hbwb.cell (p := ⟨G, 0, none⟩) (Lw.lt_heap ewa)).trans ewa
        have swb : (wa.alloc (.cells #[.slice A0 n0 c0] 26)).heap.size = wa.heap.size + 1 := by simp
        refine ⟨ewb, ?_⟩
        generalize (wa.alloc (.cells #[.slice A0 n0 c0] 26)) = wb at *
        refine reg_load 5 HT.out rfl (by kernel_rfl) (by decide) (fun _ _ _ _ h => h) ewb rfl ?_
        apply Exists.intro
        refine ⟨fun w' hw => by (have h1 := hw; go_simp; exact rfl), ?_⟩
        refine reg_only 4 rfl (by kernel_rfl) rfl ?_
        unfold Oper.wp
        go_simp
        have r7wc : (wb.alloc (.cells #[.slice A9 (sOf xs).length c9] 22)).ownsRow wb.heap.size 22 1 (.slice (some ⟨wb.heap.size, 0, none⟩) 1 1) 1 [.slice A9 (sOf xs).length c9] := lit_row wb (.slice A9 (sOf xs).length c9) 22
        have hbwc : Below wb.heap.size wb (wb.alloc (.cells #[.slice A9 (sOf xs).length c9] 22)) := below_alloc _ _
        have ewc : (wb.alloc (.cells #[.slice A9 (sOf xs).length c9] 22)).cell? ⟨G, 0, none⟩ = some (.slice A0 n0 c0) := (hbwc.cell (p := ⟨G, 0, none⟩) (Lw.lt_heap ewb)).trans ewb
        have swc : (wb.alloc (.cells #[.slice A9 (sOf xs).length c9] 22)).heap.size = wb.heap.size + 1 := by simp
        refine ⟨ewc, ?_⟩
        generalize (wb.alloc (.cells #[.slice A9 (sOf xs).length c9] 22)) = wc at *
        refine reg_only 6 rfl (by kernel_rfl) rfl ?_
        unfold Oper.wp
        go_simp
        try refine ⟨ewc, ?_⟩
        rw [swb] at r7wc
        refine reg_done (by kernel_rfl) ?_
        go_wp2_with fail
        go_meet
        exact start_sst HSX.out (hbwa.trans ((hbwb.mono (by omega)).trans (hbwc.mono (by omega)))) (own_mono (own_quiet r6wb hbwc) (by omega)) (own_mono r7wc (by omega)) (by omega) (own_quiet (own_quiet hown hbwb) hbwc) (fun b hb => by have := hown.lt b hb; omega) HBX.out hsl
      · unfold Oper.wp
        go_simp
        have r7wb : (wa.alloc (.cells #[.slice A9 (sOf xs).length c9] 22)).ownsRow wa.heap.size 22 1 (.slice (some ⟨wa.heap.size, 0, none⟩) 1 1) 1 [.slice A9 (sOf xs).length c9] := lit_row wa (.slice A9 (sOf xs).length c9) 22
        have hbwb : Below wa.heap.size wa (wa.alloc (.cells #[.slice A9 (sOf xs).length c9] 22)) := below_alloc _ _
        have ewb : (wa.alloc (.cells #[.slice A9 (sOf xs).length c9] 22)).cell? ⟨G, 0, none⟩ = some (.slice A0 n0 c0) := (hbwb.cell (p := ⟨G, 0, none⟩) (Lw.lt_heap ewa)).trans ewa
        have swb : (wa.alloc (.cells #[.slice A9 (sOf xs).length c9] 22)).heap.size = wa.heap.size + 1 := by simp
        refine ⟨ewb, ?_⟩
        generalize (wa.alloc (.cells #[.slice A9 (sOf xs).length c9] 22)) = wb at *
        refine reg_only 1 rfl (by kernel_rfl) rfl ?_
        unfold Oper.wp
        go_simp
        have r6wc : (wb.alloc (.cells #[.slice A0 n0 c0] 26)).ownsRow wb.heap.size 26 1 (.slice (some ⟨wb.heap.size, 0, none⟩) 1 1) 1 [.slice A0 n0 c0] := lit_row wb (.slice A0 n0 c0) 26
        have hbwc : Below wb.heap.size wb (wb.alloc (.cells #[.slice A0 n0 c0] 26)) := (below_alloc wb _)
        have ewc : (wb.alloc (.cells #[.slice A0 n0 c0] 26)).cell? ⟨G, 0, none⟩ = some (.slice A0 n0 c0) := (hbwc.cell (p := ⟨G, 0, none⟩) (Lw.lt_heap ewb)).trans ewb
        have swc : (wb.alloc (.cells #[.slice A0 n0 c0] 26)).heap.size = wb.heap.size + 1 := by simp
        refine ⟨ewc, ?_⟩
        generalize (wb.alloc (.cells #[.slice A0 n0 c0] 26)) = wc at *
        refine reg_only 5 rfl (by kernel_rfl) rfl ?_
        unfold Oper.wp
        go_simp
        try refine ⟨ewc, ?_⟩
        refine reg_only 6 rfl (by kernel_rfl) rfl ?_
        unfold Oper.wp
        go_simp
        try refine ⟨ewc, ?_⟩
        rw [swb] at r6wc
        refine reg_done (by kernel_rfl) ?_
        go_wp2_with fail
        go_meet
        exact start_sst HSX.out (hbwa.trans ((hbwb.mono (by omega)).trans (hbwc.mono (by omega)))) (own_mono r6wc (by omega)) (own_mono (own_quiet r7wb hbwc) (by omega)) (by omega) (own_quiet (own_quiet hown hbwb) hbwc) (fun b hb => by have := hown.lt b hb; omega) HBX.out hsl
  case rest =>
    clear e0 HSX HBX
    obtain ⟨T, hT1, HT0⟩ := hcut
    go_wp2_with fail
    go_loopw [6, 7, 35] (fun v6 v7 i wr => ∃ (k : Nat) (T : List Ent), k ≤ n2 ∧ i = .int .i64 k ∧ T.length = k + 1 ∧ Hid (Sst w wr v6 v7 T ∧ ∀ e ∈ T, e.xs.length ≤ 100 + k)) (fun _ _ i _ => n2 - (intOf i).toNat)
    case atStart => exact ⟨0, T, Nat.zero_le _, rfl, hT1, HT0⟩
    case round =>
      clear hT1 HT0
      obtain ⟨k, T, hk, rfl, hTl, HS⟩ := hrel
      obtain ⟨A6, c6, rfl⟩ := own_slice HS.out.1.all
      obtain ⟨A7, c7, rfl⟩ := own_slice HS.out.1.was
      obtain ⟨t, ht⟩ : ∃ t, T.length = t := ⟨_, rfl⟩
      rw [ht] at HS hTl ⊢
      have HTT := Lib.hid ht
      have hbs := HS.out.1.bel.size
      clear ht
      by_cases hlt : k < n2
      · obtain ⟨d0, d1⟩ := HC.out k hlt
        have hab := HAB.out (by omega)
        obtain rfl := HA.out (by omega)
        rw [← HS.out.1.bel.cell (p := ⟨ab, _, none⟩) hab] at d0 d1
        have hNk := HKK.out k hlt
        obtain ⟨x, hx⟩ : ∃ x, N k = x := ⟨_, rfl⟩
        obtain ⟨ob, hob⟩ : ∃ ob, O k = ob := ⟨_, rfl⟩
        rw [hx] at d0 hNk
        rw [hob] at d1
        have HNK := Lib.hid hNk
        clear hx hob hNk
        have hrd : Rd sV wr wr.heap.size A6 T.length c6 T := Rd.own_rd (by have := HS.out.1.all; rw [← HTT.out] at this; exact this)
        obtain ⟨q, hq2, hqk⟩ : ∃ q : Nat, (k : Int) / 2 = (q : Int) ∧ q ≤ k := ⟨k / 2, by omega, by omega⟩
        have hq1 : (k : Int).tdiv 2 = (q : Int) := by rw [Int.tdiv_eq_ediv_of_nonneg (by omega)]; exact hq2
        obtain ⟨b6, o6, e0, rfl, hb6, he0, hc6⟩ := hrd.get (k := q) (by have := HTT.out; omega)
        have hlq : q < t := by omega
        have hcap := hrd.cap
        rw [HTT.out] at hcap
        have hE := HS.out.1.ents e0 (List.mem_of_getElem? he0)
        have hEl := HS.out.2 e0 (List.mem_of_getElem? he0)
        have HE := Lib.hid hE
        obtain ⟨a0, c0', a0', c0'', ys⟩ := e0
        unfold sV at hc6
        simp only at hc6 hEl
        clear hrd he0 hE
        subst hTl
        go_wp2_with fail
        obtain ⟨F, hF⟩ : ∃ F, wr.heap.size = F := ⟨_, rfl⟩
        have HOF : Hid ((Value.slice (some ⟨b6, o6, none⟩) (k + 1) c6).ownBlock ≠ some F ∧ (Value.slice A7 (k + 1) c7).ownBlock ≠ some F) := Lib.hid ⟨fun e => by have := (HS.out.1.all.lt F e).2; omega, fun e => by have := (HS.out.1.was.lt F e).2; omega⟩
        have hbW : Below wr.heap.size wr ((wr.alloc (.cells #[.int .u64 x, .bool ob] 33)).alloc (.cells #[.slice a0 ys.length c0'] 26)) := (below_alloc _ _).alloc (by simp) _
        have hf0 : ((wr.alloc (.cells #[.int .u64 x, .bool ob] 33)).alloc (.cells #[.slice a0 ys.length c0'] 26)).cell? ⟨F, 0, none⟩ = some (.int .u64 x) := by rw [← hF]; go_simp
        have hf1 : ((wr.alloc (.cells #[.int .u64 x, .bool ob] 33)).alloc (.cells #[.slice a0 ys.length c0'] 26)).cell? ⟨F, 1, none⟩ = some (.bool ob) := by rw [← hF]; go_simp
        have hf2 : ((wr.alloc (.cells #[.int .u64 x, .bool ob] 33)).alloc (.cells #[.slice a0 ys.length c0'] 26)).cell? ⟨F + 1, 0, none⟩ = some (.slice a0 ys.length c0') := by rw [← hF]; go_simp
        rw [hF]
        generalize hWW : (wr.alloc (.cells #[.int .u64 x, .bool ob] 33)).alloc (.cells #[.slice a0 ys.length c0'] 26) = w3 at *
        have hsnap : Snap w3 w3.heap.size (.agg #[.slice a0 ys.length c0']) ys := Snap.later ⟨⟨a0, ys.length, c0', rfl, HE.out.s⟩, HE.out.nd, HE.out.ok⟩ hbW
        have HSN := Lib.hid hsnap
        have HST := Lib.hid (HS.out.1.later hbW)
        have HFAR := Lib.hid HE.out.fs
        clear hsnap hbW hWW hF HE
        refine (with2_any _ ys x _ HSN.out (by omega) HNK.out).mono ?_
        rintro e w4 ⟨u, rfl, hs4, hb4, hfr4⟩
        obtain ⟨A5, n5, c5, rfl⟩ := hs4.form
        have x0 : w4.cell? ⟨F, 0, none⟩ = some (.int .u64 x) := (hb4.cell (p := ⟨F, 0, none⟩) (Lw.lt_heap hf0)).trans hf0
        have x1 : w4.cell? ⟨F, 1, none⟩ = some (.bool ob) := (hb4.cell (p := ⟨F, 1, none⟩) (Lw.lt_heap hf1)).trans hf1
        have x2 : w4.cell? ⟨F + 1, 0, none⟩ = some (.slice a0 ys.length c0') := (hb4.cell (p := ⟨F + 1, 0, none⟩) (Lw.lt_heap hf2)).trans hf2
        obtain ⟨hl5, hr5⟩ := snap_len hs4
        subst hl5
        have hfar5 : Far A5 (sWith ys x).length (Value.slice (some ⟨b6, o6, none⟩) (k + 1) c6).ownBlock (Value.slice A7 (k + 1) c7).ownBlock := far_of_fresh hfr4 HFAR.out (fun b hb => (HST.out.all.lt b hb).2) (fun b hb => (HST.out.was.lt b hb).2)
        have HS4 := Lib.hid hs4
        have HFAR5 := Lib.hid hfar5
        have HST4 := Lib.hid (HST.out.later hb4)
        have HSN4 := Lib.hid (HSN.out.later hb4)
        have hs4' := hb4.size
        clear hs4 hb4 hfr4 hr5 hfar5 hf0 hf1 hf2 HSN
        have y1 := alloc_cell x1 (.cells #[.slice A5 (sWith ys x).length c5] 26)
        go_upto_if 50 with (fail)
        obtain ⟨H, hH⟩ : ∃ H, w4.heap.size = H := ⟨_, rfl⟩
        have y0 := alloc_cell x0 (.cells #[.slice A5 (sWith ys x).length c5] 26)
        have y2 := alloc_cell x2 (.cells #[.slice A5 (sWith ys x).length c5] 26)
        have y3 : (w4.alloc (.cells #[.slice A5 (sWith ys x).length c5] 26)).cell? ⟨H, 0, none⟩ = some (.slice A5 (sWith ys x).length c5) := by rw [← hH]; go_simp
        have y4 : (w4.alloc (.cells #[.slice A5 (sWith ys x).length c5] 26)).frozen? ⟨H, 0, none⟩ = false := by rw [← hH]; go_simp
        rw [hH]
        have HS5 := Lib.hid (HS4.out.later (below_alloc w4 (.cells #[.slice A5 (sWith ys x).length c5] 26)))
        have HSN5 := Lib.hid (HSN4.out.later (below_alloc w4 (.cells #[.slice A5 (sWith ys x).length c5] 26)))
        have HST5 := Lib.hid (HST4.out.later (below_alloc w4 (.cells #[.slice A5 (sWith ys x).length c5] 26)))
        have hFH : F < H := by have h := Lw.lt_heap x0; rw [← hH]; exact h
        have HFH := Lib.hid hFH
        have HOWN : Hid ((Value.slice (some ⟨b6, o6, none⟩) (k + 1) c6).ownBlock ≠ some H ∧ (Value.slice A7 (k + 1) c7).ownBlock ≠ some H) := Lib.hid ⟨fun e => by have := (HST4.out.all.lt H e).2; omega, fun e => by have := (HST4.out.was.lt H e).2; omega⟩
        have HHW : Hid (w.heap.size ≤ H) := Lib.hid (by have := HST4.out.bel.size; omega)
        clear x0 x1 x2 HS4 HSN4 HST4 hs4' hH hFH
        generalize w4.alloc (.cells #[.slice A5 (sWith ys x).length c5] 26) = w5 at *
        go_cut [35] from 35 to 84 (fun s35 wx => s35 = .int .i64 k ∧ ∃ (An : Option Addr) (cn : Nat) (zs : List Int), Hid (Nx w wx (.slice (some ⟨b6, o6, none⟩) (k + 1) c6) (.slice A7 (k + 1) c7) T F H x ob An cn zs (101 + k)))
        case first =>
          cases ob
          · go_wp2_with fail
            go_meet
            refine ⟨rfl, A5, c5, sWith ys x, ⟨HST5.out, y0, y1, y3, (snap_len HS5.out).2, HFAR5.out, HS5.out.nd, HS5.out.ok, ?_, ?_⟩⟩
            · have := sWith_len ys x; omega
            · exact decide_eq_true ((mem_sWith ys x x).2 (.inr rfl))
          · go_wp2_with fail
            refine (without2_any _ ys x _ HSN5.out (by omega)).mono ?_
            rintro e w6 ⟨u, rfl, hs6, hb6, hfr6⟩
            obtain ⟨A6', n6', c6', rfl⟩ := hs6.form
            obtain ⟨hl6, hr6⟩ := snap_len hs6
            subst hl6
            have hfar6 : Far A6' (sWithout ys x).length (Value.slice (some ⟨b6, o6, none⟩) (k + 1) c6).ownBlock (Value.slice A7 (k + 1) c7).ownBlock := far_of_fresh hfr6 HFAR.out (fun b hb => (HST5.out.all.lt b hb).2) (fun b hb => (HST5.out.was.lt b hb).2)
            have z0 := (hb6.cell (p := ⟨F, 0, none⟩) (Lw.lt_heap y0)).trans y0
            have z1 := (hb6.cell (p := ⟨F, 1, none⟩) (Lw.lt_heap y1)).trans y1
            have z3 := (hb6.cell (p := ⟨H, 0, none⟩) (Lw.lt_heap y3)).trans y3
            have z4 := (hb6.frozen (p := ⟨H, 0, none⟩) (Lw.lt_heap y3)).trans y4
            have HST6 := Lib.hid (HST5.out.later hb6)
            have HS6 := Lib.hid hs6
            have HFAR6 := Lib.hid hfar6
            clear hs6 hb6 hfr6 hr6 hfar6 y0 y1 y2 y3 y4
            go_wp2_with fail
            have hset : Nx w (w6.setCell ⟨H, 0, none⟩ (.slice A6' (sWithout ys x).length c6')) (.slice (some ⟨b6, o6, none⟩) (k + 1) c6) (.slice A7 (k + 1) c7) T F H x true A6' c6' (sWithout ys x) (101 + k) := by
              have hn : ∀ m : Nat, (⟨H, 0, none⟩ : Addr) ≠ ⟨F, m, none⟩ := fun m e => by injection e with e; have := HFH.out; omega
              refine ⟨HST6.out.set z3 HOWN.out.1 HOWN.out.2 HHW.out _, (World.cell?_setCell_other _ _ _ _ (hn 0)).trans z0, (World.cell?_setCell_other _ _ _ _ (hn 1)).trans z1, World.cell?_setCell_same _ _ _ z3, rd_set (snap_len HS6.out).2 z3 _, HFAR6.out, HS6.out.nd, HS6.out.ok, ?_, ?_⟩
              · have := sWithout_len ys x; omega
              · exact decide_eq_false (by rw [mem_sWithout]; simp)
            go_meet
            exact ⟨rfl, A6', c6', sWithout ys x, hset⟩
        case rest =>
          clear HS5 HSN5 HST5 HFAR5 y0 y1 y2 y3 y4 HFAR hc6
          obtain ⟨rfl, An, cn, zs, HN⟩ := hcut
          have hbase := HN.out.sst.bel.size
          go_upto_region 14 with (fail)
          go_cut [6, 7, 35] from 35 to 84 (fun s6 s7 s35 wx => s35 = .int .i64 k ∧ ∃ T' : List Ent, T'.length = k + 1 + 1 ∧ (∀ e ∈ T', e.xs.length ≤ 101 + k) ∧ Hid (Nx w wx s6 s7 T' F H x ob An cn zs (101 + k)))
          case first =>
            have g0 := HN.out.g0
            have hst : S2 26 22 (Value.slice (some ⟨b6, o6, none⟩) (k + 1) c6).ownBlock (Value.slice A7 (k + 1) c7).ownBlock wc w.heap.size wc (Value.slice (some ⟨b6, o6, none⟩) (k + 1) c6) (k + 1) (T.map sV) (Value.slice A7 (k + 1) c7) (k + 1) (T.map lV) [] :=
              ⟨Fr2.refl _ _ _, by have := HN.out.sst.all; rwa [HTT.out] at this, by have := HN.out.sst.was; rwa [HTT.out] at this, .inl rfl, .inl rfl, HN.out.sst.ne, fun p hp => (by cases hp)⟩
            have HS0 := Lib.hid hst
            clear hst
            refine reg_start 11 (fun w' => w'.cell? ⟨H, 0, none⟩ = some (.slice An zs.length cn)) (by kernel_rfl) (by kernel_rfl) ?_
            intro hT
            have HT := Lib.hid hT
            clear hT
            refine reg_load 0 HT.out rfl (by kernel_rfl) (by decide) (fun _ _ _ _ h => h) g0 rfl ?_
            apply Exists.intro
            refine ⟨fun w' hw => by (have h1 := hw; go_simp; exact rfl), ?_⟩
            refine reg_load 1 HT.out rfl (by kernel_rfl) (by decide) (fun _ _ _ _ h => h) g0 rfl ?_
            apply Exists.intro
            refine ⟨fun w' hw => by (have h1 := hw; go_simp; exact rfl), ?_⟩
            refine reg_load 4 HT.out rfl (by kernel_rfl) (by decide) (fun _ _ _ _ h => h) g0 rfl ?_
            apply Exists.intro
            refine ⟨fun w' hw => by (have h1 := hw; go_simp; exact rfl), ?_⟩
            refine reg_load 5 HT.out rfl (by kernel_rfl) (by decide) (fun _ _ _ _ h => h) g0 rfl ?_
            apply Exists.intro
            refine ⟨fun w' hw => by (have h1 := hw; go_simp; exact rfl), ?_⟩
            refine reg_only 2 rfl (by kernel_rfl) rfl ?_
            unfold Oper.wp
            go_simp
            have hs1 := (HS0.out.lit (.slice An zs.length cn) 26).below (w' := (wc.alloc (.cells #[.slice An zs.length cn] 26)).drew) (Below.refl _ _).drew
            have e1 : ((wc.alloc (.cells #[.slice An zs.length cn] 26)).drew).cell? ⟨H, 0, none⟩ = some (.slice An zs.length cn) := (hs1.fr.cell (p := ⟨H, 0, none⟩) (Lw.lt_heap g0) (fun q => HOWN.out.1 q.symm) (fun q => HOWN.out.2 q.symm)).trans g0
            refine ⟨e1, ?_⟩
            have hsz1 : ((wc.alloc (.cells #[.slice An zs.length cn] 26)).drew).heap.size = wc.heap.size + 1 := by simp
            obtain ⟨pb1, hpb1⟩ : ∃ pb : List Own, [] ++ [((Value.slice (some ⟨wc.heap.size, 0, none⟩) 1 1, 26, 1, [.slice An zs.length cn]) : Own)] = pb := ⟨_, rfl⟩
            rw [hpb1] at hs1
            have hm1 : ((Value.slice (some ⟨wc.heap.size, 0, none⟩) 1 1, 26, 1, [.slice An zs.length cn]) : Own) ∈ pb1 := by rw [← hpb1]; simp
            have HS1 := Lib.hid hs1
            have HM1 := Lib.hid hm1
            clear hs1 hpb1 hm1 e1
            generalize (wc.alloc (.cells #[.slice An zs.length cn] 26)).drew = wa at *
            refine reg_only 3 rfl (by kernel_rfl) rfl ?_
            refine wp_append_rd _ _ 28 rfl w.heap.size 26 i6 _ 24 Try.underlying28 hi6 hz60 hz61 hz62 rfl (.slice (some ⟨b6, o6, none⟩) (k + 1) c6) (k + 1) _ rfl HS1.out.all _ _ 1 1 [()] rfl (HS1.out.rd1 HM1.out) (fun _ => rfl) (k + 1 + 1) rfl (T.map sV ++ [.slice An zs.length cn]) rfl (by unfold maxLen; omega) (by omega) (by omega) ?_
            intro A8 c8 wb hrow8 hg8 hat8
            have hs2 := HS1.out.app6 hrow8 hg8 hat8
            have e2 : wb.cell? ⟨H, 0, none⟩ = some (.slice An zs.length cn) := (hs2.fr.cell (p := ⟨H, 0, none⟩) (Lw.lt_heap g0) (fun q => HOWN.out.1 q.symm) (fun q => HOWN.out.2 q.symm)).trans g0
            have HS2' := Lib.hid hs2
            have hszb := hg8.size
            clear hrow8 hg8 hat8 hs2
            refine ⟨fun _ => e2, ?_⟩
            refine reg_only 6 rfl (by kernel_rfl) rfl ?_
            unfold Oper.wp
            go_simp
            refine (all_any _ zs _ ⟨⟨An, zs.length, cn, rfl, rd_near HN.out.rd HS2'.out.fr.size fun b o e hn hb => HS2'.out.fr.block b hb (HN.out.far hn b o e).1 (HN.out.far hn b o e).2⟩, HN.out.nd, HN.out.ok⟩ (by have := HN.out.len; omega)).mono ?_
            rintro e wd ⟨A9, c9, rfl, hown9, hb9⟩
            have hs3 := HS2'.out.add (HS2'.out.below hb9) (.slice A9 zs.length c9, 31, zs.length, zs.map (Value.int .u64)) hown9
            have e3 : wd.cell? ⟨H, 0, none⟩ = some (.slice An zs.length cn) := (hs3.fr.cell (p := ⟨H, 0, none⟩) (Lw.lt_heap g0) (fun q => HOWN.out.1 q.symm) (fun q => HOWN.out.2 q.symm)).trans g0
            obtain ⟨pb3, hpb3⟩ : ∃ pb : List Own, pb1 ++ [((Value.slice A9 zs.length c9, 31, zs.length, zs.map (Value.int .u64)) : Own)] = pb := ⟨_, rfl⟩
            rw [hpb3] at hs3
            have hm3 : ((Value.slice A9 zs.length c9, 31, zs.length, zs.map (Value.int .u64)) : Own) ∈ pb3 := by rw [← hpb3]; simp
            have HS3 := Lib.hid hs3
            have HM3 := Lib.hid hm3
            have hszd := hb9.size
            clear hs3 hpb3 hm3 hown9 hb9 e2
            refine ⟨e3, ?_⟩
            refine reg_only 7 rfl (by kernel_rfl) rfl ?_
            unfold Oper.wp
            go_simp
            have hs4 := HS3.out.lit (.slice A9 zs.length c9) 22
            have e4 : (wd.alloc (.cells #[.slice A9 zs.length c9] 22)).cell? ⟨H, 0, none⟩ = some (.slice An zs.length cn) := (hs4.fr.cell (p := ⟨H, 0, none⟩) (Lw.lt_heap g0) (fun q => HOWN.out.1 q.symm) (fun q => HOWN.out.2 q.symm)).trans g0
            have hsz4 : (wd.alloc (.cells #[.slice A9 zs.length c9] 22)).heap.size = wd.heap.size + 1 := by simp
            refine ⟨e4, ?_⟩
            obtain ⟨pb4, hpb4⟩ : ∃ pb : List Own, pb3 ++ [((Value.slice (some ⟨wd.heap.size, 0, none⟩) 1 1, 22, 1, [.slice A9 zs.length c9]) : Own)] = pb := ⟨_, rfl⟩
            rw [hpb4] at hs4
            have hm4 : ((Value.slice (some ⟨wd.heap.size, 0, none⟩) 1 1, 22, 1, [.slice A9 zs.length c9]) : Own) ∈ pb4 := by rw [← hpb4]; simp
            have hm4' : ((Value.slice A9 zs.length c9, 31, zs.length, zs.map (Value.int .u64)) : Own) ∈ pb4 := by rw [← hpb4]; exact List.mem_append.2 (.inl HM3.out)
            have HS4' := Lib.hid hs4
            have HM4 := Lib.hid hm4
            have HM4' := Lib.hid hm4'
            clear hs4 hpb4 hm4 hm4' e3 e4
            generalize wd.alloc (.cells #[.slice A9 zs.length c9] 22) = we at *
            refine reg_only 8 rfl (by kernel_rfl) rfl ?_
            refine wp_append_rd _ _ 30 rfl w.heap.size 22 i7 _ 24 Try.underlying30 hi7 hz70 hz71 hz72 rfl (.slice A7 (k + 1) c7) (k + 1) _ rfl HS4'.out.was _ _ 1 1 [()] rfl (HS4'.out.rd1 HM4.out) (fun _ => rfl) (k + 1 + 1) rfl (T.map lV ++ [.slice A9 zs.length c9]) rfl (by unfold maxLen; omega) (by omega) (by omega) ?_
            intro A10 c10 wg hrow10 hg10 hat10
            have hs5 := HS4'.out.app7 hrow10 hg10 hat10
            have e5 : wg.cell? ⟨H, 0, none⟩ = some (.slice An zs.length cn) := (hs5.fr.cell (p := ⟨H, 0, none⟩) (Lw.lt_heap g0) (fun q => HOWN.out.1 q.symm) (fun q => HOWN.out.2 q.symm)).trans g0
            have HN5 := Lib.hid (HN.out.more HTT.out (by omega) HOF.out HOWN.out hs5 HM4'.out)
            clear hrow10 hg10 hat10 hs5 HS4' HM4 HM4' HS3 HM3 HS2' HS1 HM1 HS0
            refine ⟨fun _ => e5, ?_⟩
            refine reg_only 9 rfl (by kernel_rfl) rfl ?_
            unfold Oper.wp
            go_simp
            try refine ⟨e5, ?_⟩
            refine reg_only 10 rfl (by kernel_rfl) rfl ?_
            unfold Oper.wp
            go_simp
            try refine ⟨e5, ?_⟩
            refine reg_done (by kernel_rfl) ?_
            clear e5
            go_wp2_with fail
            go_meet
            refine ⟨rfl, T ++ [⟨An, cn, A9, c9, zs⟩], by simp [HTT.out], fun e he => ?_, HN5⟩
            rcases List.mem_append.1 he with he | he
            · have := HS.out.2 e he; omega
            · obtain rfl : e = ⟨An, cn, A9, c9, zs⟩ := by simpa using he
              exact HN.out.len
          case rest =>
            clear HN hbase HOF HOWN HFH HHW HNK HTT HS hq1 hq2 hqk hlq hcap hb6 hEl d0 d1 hab hbs
            obtain ⟨rfl, T', hT', hl', HN⟩ := hcut
            have hzl := HN.out.len
            have gg := HN.out.g0
            go_wp2_with fail
            refine (all_any _ zs _ HN.out.snap (by omega)).mono ?_
            rintro e w6 ⟨A8, c8, rfl, -, hb6⟩
            have f0 := (hb6.cell (p := ⟨F, 0, none⟩) (Lw.lt_heap HN.out.f0)).trans HN.out.f0
            have f1 := (hb6.cell (p := ⟨F, 1, none⟩) (Lw.lt_heap HN.out.f1)).trans HN.out.f1
            have g0 := (hb6.cell (p := ⟨H, 0, none⟩) (Lw.lt_heap HN.out.g0)).trans HN.out.g0
            clear gg
            have HSN6 := Lib.hid (HN.out.snap.later hb6)
            have HST6 := Lib.hid (HN.out.sst.later hb6)
            clear hb6
            go_wp2_with fail
            refine (all_any _ zs _ HSN6.out (by omega)).mono ?_
            rintro e w7 ⟨A9, c9, rfl, hown, hb7⟩
            have hlist : ∀ W, Below w6.heap.size w6 W → (W.cell? ⟨F, 0, none⟩ = some (.int .u64 x) ∧ W.cell? ⟨F, 1, none⟩ = some (.bool ob) ∧ W.cell? ⟨H, 0, none⟩ = some (.slice An zs.length cn)) ∧ Snap W W.heap.size (.agg #[.slice An zs.length cn]) zs ∧ Sst w W u6 u7 T' := fun W h =>
              ⟨⟨(h.cell (p := ⟨F, 0, none⟩) (Lw.lt_heap f0)).trans f0, (h.cell (p := ⟨F, 1, none⟩) (Lw.lt_heap f1)).trans f1, (h.cell (p := ⟨H, 0, none⟩) (Lw.lt_heap g0)).trans g0⟩, HSN6.out.later h, HST6.out.later h⟩
            have HLI := Lib.hid hlist
            have HIS := Lib.hid HN.out.is
            have HOW := Lib.hid hown
            have HB7 := Lib.hid hb7
            clear hlist f0 f1 g0 HSN6 HST6 HN hb7 hown
            go_upto_if 70 with (fail)
            go_cut [35] from 35 to 84 (fun s35 wx => s35 = .int .i64 k ∧ Hid (Below w6.heap.size w6 wx))
            case first =>
              by_cases hz : zs.length = 0
              · have hzd : decide ((0 : Int) < (zs.length : Int)) = false := decide_eq_false (by omega)
                go_wp2_with fail
                all_goals (try (exfalso; omega))
                go_meet
                exact ⟨rfl, HB7⟩
              · have hzd : decide ((0 : Int) < (zs.length : Int)) = true := decide_eq_true (by omega)
                have hrd : Rd (Value.int .u64) w7 w7.heap.size A9 zs.length c9 zs := Rd.own_rd HOW.out
                rcases HOW.out.2 with ⟨_, h0⟩ | ⟨g, cap, cur, hsl, hgb, hgo, hnc, -⟩
                · omega
                · injection hsl with hA9 _ hcc
                  subst hA9 hcc
                  obtain ⟨b, o, y, hbo, hb, hy, hcy⟩ := hrd.get (k := 0) (by omega)
                  injection hbo with hbo
                  injection hbo with hbo1 hbo2
                  subst hbo1 hbo2
                  simp only [Nat.add_zero] at hcy
                  have hfz : w7.frozen? ⟨g, 0, none⟩ = false := by simp [World.frozen?, hgo]
                  have hlen1 : 1 ≤ zs.length := by omega
                  have HGB := Lib.hid hgb
                  clear hrd hy hgo hz hgb
                  go_wp2_with fail
                  all_goals (try (exfalso; omega))
                  go_meet
                  exact ⟨rfl, HB7.out.setCell HGB.out _⟩
            case rest =>
              clear HB7 HOW
              obtain ⟨rfl, HB8⟩ := hcut
              obtain ⟨⟨f0, f1, g0⟩, hsn, hst⟩ := HLI.out _ HB8.out
              have HSN := Lib.hid hsn
              have HST := Lib.hid hst
              have hd : decide (sIdx zs x < 0) = ob := by
                have h1 := HIS.out
                have h2 := sIdx_neg zs x
                cases ob
                · have : x ∈ zs := of_decide_eq_true (by simpa using h1)
                  exact decide_eq_false (fun h => (h2.1 h) this)
                · have : x ∉ zs := of_decide_eq_false (by simpa using h1)
                  exact decide_eq_true (h2.2 this)
              have F0 : ∀ q : After wc, q.1.cell? ⟨F, 0, none⟩ = some (.int .u64 x) := fun q => q.cell f0
              have F1 : ∀ q : After wc, q.1.cell? ⟨F, 1, none⟩ = some (.bool ob) := fun q => q.cell f1
              have G0 : ∀ q : After wc, q.1.cell? ⟨H, 0, none⟩ = some (.slice An zs.length cn) := fun q => q.cell g0
              have hidx : ∀ q : After wc, Calls Try.prog 17 #[.agg #[.slice An zs.length cn], .int .u64 x] q.1 fun e w' => e = .returned (.int .i64 (sIdx zs x)) ∧ Below q.1.heap.size q.1 w' := fun q => idx_any _ zs x q.1 (HSN.out.later q.2)
              have HIX := Lib.hid hidx
              clear hsn hst HLI HIS hidx
              go_wp2_with fail
              refine region_after (by kernel_rfl) (by kernel_rfl) ?_
              repeat (go_big_quiet_step (first
                | (go_at_call 17; exact After.call (HIX.out _))))
              refine wpQuiet_nil ?_
              rintro W3 ⟨⟨_, hb3⟩, rfl⟩
              have HST3 := Lib.hid (HST.out.later hb3)
              clear F0 F1 G0 f0 f1 g0 hb3 HIX HSN HST
              go_wp2_with fail
              go_roundw
              case rel => exact ⟨k + 1, T', by omega, by go_num, hT', HST3.out, fun e he => by have := hl' e he; omega⟩
              case measure => simp [intOf]; omega
      · obtain rfl : k = n2 := by omega
        subst hTl
        clear hlt hbs
        obtain ⟨hst, -⟩ := HS.out
        have HST := Lib.hid hst
        have hl2 : ∀ e ∈ T, e.xs.length ≤ 160 := fun e he => (hst.ents e he).len
        have HL2 := Lib.hid hl2
        clear HS hst hl2
        go_wp2_with fail
        go_loopw [87] (fun i wr => ∃ j : Nat, j ≤ k + 1 ∧ i = .int .i64 j ∧ Hid (Sst w wr (.slice A6 (k + 1) c6) (.slice A7 (k + 1) c7) T)) (fun i _ => k + 1 - (intOf i).toNat)
        case atStart => exact ⟨0, Nat.zero_le _, rfl, HST⟩
        case round =>
          clear HST
          obtain ⟨j, hj, rfl, HST⟩ := hrel
          by_cases hlj : j < k + 1
          · have hrd6 : Rd sV wr wr.heap.size A6 T.length c6 T := Rd.own_rd (by have := HST.out.all; rw [← HTT.out] at this; exact this)
            have hrd7 : Rd lV wr wr.heap.size A7 T.length c7 T := Rd.own_rd (by have := HST.out.was; rw [← HTT.out] at this; exact this)
            obtain ⟨b6, o6, e6, rfl, hb6, he6, hc6⟩ := hrd6.get (k := j) (by have := HTT.out; omega)
            obtain ⟨b7, o7, e7, rfl, hb7, he7, hc7⟩ := hrd7.get (k := j) (by have := HTT.out; omega)
            obtain rfl : e6 = e7 := by have := he6.symm.trans he7; injection this
            have hcap6 := hrd6.cap
            have hcap7 := hrd7.cap
            rw [HTT.out] at hcap6 hcap7
            have hmem := List.mem_of_getElem? he6
            have HE := Lib.hid (HST.out.ents e6 hmem)
            have hel := HL2.out e6 hmem
            obtain ⟨a0, c0', a0', c0'', ys⟩ := e6
            unfold sV at hc6
            unfold lV at hc7
            simp only at hc6 hc7 hel
            clear hrd6 hrd7 he6 he7 hmem
            go_wp2_with fail
            obtain ⟨P, hP⟩ : ∃ P, wr.heap.size = P := ⟨_, rfl⟩
            have hp0 : (wr.alloc (.cells #[.slice a0 ys.length c0'] 26)).cell? ⟨P, 0, none⟩ = some (.slice a0 ys.length c0') := by rw [← hP]; go_simp
            have hp7 := alloc_cell hc7 (.cells #[.slice a0 ys.length c0'] 26)
            have hst6 := HST.out.later (below_alloc wr (.cells #[.slice a0 ys.length c0'] 26))
            have hE6 := HE.out.later (below_alloc wr (.cells #[.slice a0 ys.length c0'] 26))
            rw [hP]
            have HST6 := Lib.hid hst6
            have HE6 := Lib.hid hE6
            clear hst6 hE6 HST HE hP hc6 hc7 hb6 hb7
            generalize wr.alloc (.cells #[.slice a0 ys.length c0'] 26) = w6 at *
            refine (all_any _ ys _ ⟨⟨a0, ys.length, c0', rfl, HE6.out.s⟩, HE6.out.nd, HE6.out.ok⟩ (by omega)).mono ?_
            rintro e w7 ⟨A9, c9, rfl, hown, hb7⟩
            have HOW := Lib.hid hown
            have HB7 := Lib.hid hb7
            clear hown hb7
            go_wp2_with fail
            refine (sorted_any w6 w7 A9 c9 ys HOW.out HB7.out hel HE6.out.nd).mono ?_
            rintro e w8 ⟨rfl, hb8, hcomp⟩
            have g0 : w8.cell? ⟨P, 0, none⟩ = some (.slice a0 ys.length c0') := (hb8.cell (p := ⟨P, 0, none⟩) (Lw.lt_heap hp0)).trans hp0
            have g7 : w8.cell? ⟨b7, o7 + j, none⟩ = some (.slice a0' ys.length c0'') := (hb8.cell (p := ⟨b7, o7 + j, none⟩) (Lw.lt_heap hp7)).trans hp7
            have HST8 := Lib.hid (HST6.out.later hb8)
            have HE8 := Lib.hid (HE6.out.later hb8)
            have HCP := Lib.hid hcomp
            clear hcomp hb8 hp0 hp7 HST6 HE6 HOW HB7
            go_wp2_with fail
            refine reg_start 16 (fun w' => w'.cell? ⟨P, 0, none⟩ = some (.slice a0 ys.length c0') ∧ w'.cell? ⟨b7, o7 + j, none⟩ = some (.slice a0' ys.length c0'')) (by kernel_rfl) (by kernel_rfl) ?_
            intro hT
            have HT := Lib.hid hT
            clear hT
            refine reg_load 0 HT.out rfl (by kernel_rfl) (by decide) (fun _ _ _ _ h => h) ⟨g0, g7⟩ rfl ?_
            apply Exists.intro
            refine ⟨fun w' hw => by (obtain ⟨h1, h2⟩ := hw; go_simp; exact rfl), ?_⟩
            refine reg_load 2 HT.out rfl (by kernel_rfl) (by decide) (fun _ _ _ _ h => h) ⟨g0, g7⟩ rfl ?_
            apply Exists.intro
            refine ⟨fun w' hw => by (obtain ⟨h1, h2⟩ := hw; go_simp; exact rfl), ?_⟩
            refine reg_load 3 HT.out rfl (by kernel_rfl) (by decide) (fun _ _ _ _ h => h) ⟨g0, g7⟩ rfl ?_
            apply Exists.intro
            refine ⟨fun w' hw => by (obtain ⟨h1, h2⟩ := hw; go_simp; exact rfl), ?_⟩
            refine reg_load 4 HT.out rfl (by kernel_rfl) (by decide) (fun _ _ _ _ h => h) ⟨g0, g7⟩ rfl ?_
            apply Exists.intro
            refine ⟨fun w' hw => by (obtain ⟨h1, h2⟩ := hw; go_simp; exact rfl), ?_⟩
            refine reg_load 5 HT.out rfl (by kernel_rfl) (by decide) (fun _ _ _ _ h => h) ⟨g0, g7⟩ rfl ?_
            apply Exists.intro
            refine ⟨fun w' hw => by (obtain ⟨h1, h2⟩ := hw; go_simp; exact rfl), ?_⟩
            refine reg_only 1 rfl (by kernel_rfl) rfl ?_
            unfold Oper.wp
            go_simp
            refine (all_any _ ys _ ⟨⟨a0, ys.length, c0', rfl, (HE8.out.later (Below.refl _ _).drew).s⟩, HE8.out.nd, HE8.out.ok⟩ (by omega)).mono ?_
            rintro e wa ⟨A10, c10, rfl, hown10, hba⟩
            have hba : Below w8.heap.size w8 wa := (Below.refl _ _).drew.trans hba
            have g1 : wa.cell? ⟨P, 0, none⟩ = some (.slice a0 ys.length c0') := (hba.cell (p := ⟨P, 0, none⟩) (Lw.lt_heap g0)).trans g0
            have g8 : wa.cell? ⟨b7, o7 + j, none⟩ = some (.slice a0' ys.length c0'') := (hba.cell (p := ⟨b7, o7 + j, none⟩) (Lw.lt_heap g7)).trans g7
            have HE9 := Lib.hid (HE8.out.later hba)
            have HR10 : Hid (Rd (Value.int .u64) wa wa.heap.size A10 ys.length c10 ys) := Lib.hid (Rd.own_rd hown10)
            have HBA := Lib.hid hba
            clear hown10 hba g0 g7
            refine ⟨⟨g1, g8⟩, ?_⟩
            refine reg_only 6 rfl (by kernel_rfl) rfl ?_
            unfold Oper.wp
            go_simp
            refine (equal_same A10 a0' ys.length c10 ys.length c0'' ys _ _ _ HR10.out HE9.out.l).mono ?_
            rintro e wb ⟨rfl, hbb⟩
            have g2 : wb.cell? ⟨P, 0, none⟩ = some (.slice a0 ys.length c0') := (hbb.cell (p := ⟨P, 0, none⟩) (Lw.lt_heap g1)).trans g1
            have g9 : wb.cell? ⟨b7, o7 + j, none⟩ = some (.slice a0' ys.length c0'') := (hbb.cell (p := ⟨b7, o7 + j, none⟩) (Lw.lt_heap g8)).trans g8
            have HBB := Lib.hid (HBA.out.trans (hbb.mono HBA.out.size))
            clear hbb g1 g8
            refine ⟨⟨g2, g9⟩, ?_⟩
            refine reg_only 7 rfl (by kernel_rfl) rfl ?_
            unfold Oper.wp
            go_simp
            try refine ⟨⟨g2, g9⟩, ?_⟩
            refine reg_only 8 rfl (by kernel_rfl) rfl ?_
            unfold Oper.wp
            go_simp
            try refine ⟨⟨g2, g9⟩, ?_⟩
            refine reg_load 9 HT.out rfl (by kernel_rfl) (by decide) (fun _ _ _ _ h => h) ⟨g2, g9⟩ rfl ?_
            apply Exists.intro
            refine ⟨fun w' hw => by (obtain ⟨h1, h2⟩ := hw; go_simp; exact rfl), ?_⟩
            refine reg_load 12 HT.out rfl (by kernel_rfl) (by decide) (fun _ _ _ _ h => h) ⟨g2, g9⟩ rfl ?_
            apply Exists.intro
            refine ⟨fun w' hw => by (obtain ⟨h1, h2⟩ := hw; go_simp; exact rfl), ?_⟩
            refine reg_only 10 rfl (by kernel_rfl) rfl ?_
            unfold Oper.wp
            go_simp
            refine (HCP.out _ HBB.out).mono ?_
            rintro e wd ⟨rfl, q, rfl⟩
            have g3 : (wb.drewN q).cell? ⟨P, 0, none⟩ = some (.slice a0 ys.length c0') := g2
            have g10 : (wb.drewN q).cell? ⟨b7, o7 + j, none⟩ = some (.slice a0' ys.length c0'') := g9
            have HBD : Hid (Below w8.heap.size w8 (wb.drewN q)) := Lib.hid (below_drewN HBB.out q)
            refine ⟨⟨g3, g10⟩, ?_⟩
            generalize wb.drewN q = wd at *
            clear g2 g9
            refine reg_load 11 HT.out rfl (by kernel_rfl) (by decide) (fun _ _ _ _ h => h) ⟨g3, g10⟩ rfl ?_
            apply Exists.intro
            refine ⟨fun w' hw => by (obtain ⟨h1, h2⟩ := hw; go_simp; exact rfl), ?_⟩
            refine reg_only 13 rfl (by kernel_rfl) rfl ?_
            unfold Oper.wp
            go_simp
            refine (len_any _ ys _ _ (⟨⟨a0, ys.length, c0', rfl, (HE8.out.later HBD.out).s⟩, HE8.out.nd, HE8.out.ok⟩ : Snap wd wd.heap.size (.agg #[.slice a0 ys.length c0']) ys)).mono ?_
            rintro e we ⟨rfl, hbe⟩
            have g4 : we.cell? ⟨P, 0, none⟩ = some (.slice a0 ys.length c0') := (hbe.cell (p := ⟨P, 0, none⟩) (Lw.lt_heap g3)).trans g3
            have g11 : we.cell? ⟨b7, o7 + j, none⟩ = some (.slice a0' ys.length c0'') := (hbe.cell (p := ⟨b7, o7 + j, none⟩) (Lw.lt_heap g10)).trans g10
            have HBE := Lib.hid (HST8.out.later (HBD.out.trans (hbe.mono HBD.out.size)))
            clear hbe g3 g10
            refine ⟨⟨g4, g11⟩, ?_⟩
            refine reg_only 14 rfl (by kernel_rfl) rfl ?_
            unfold Oper.wp
            go_simp
            try refine ⟨⟨g4, g11⟩, ?_⟩
            refine reg_only 15 rfl (by kernel_rfl) rfl ?_
            unfold Oper.wp
            go_simp
            try refine ⟨⟨g4, g11⟩, ?_⟩
            refine reg_done (by kernel_rfl) ?_
            clear g4 g11
            go_wp2_with fail
            go_roundw
            case rel => exact ⟨j + 1, by omega, by go_num, HBE⟩
            case measure => simp [intOf]; omega
          · obtain rfl : j = k + 1 := by omega
            go_wp2_with fail
            go_ret
            exact ⟨rfl, HST.out.bel⟩
theorem stays_long (A A2 : Option Addr) (n n2 c c2 : Nat) (w : World) (hn : n ≤ 9223372036854775807) (hn2 : n2 ≤ 9223372036854775807) (h : 100 < n ∨ (n ≤ 100 ∧ 60 < n2)) :
    Calls Try.prog 3 #[.slice A n c, .slice A2 n2 c2] w fun e w' => e = .returned (.bool true) ∧ Below w.heap.size w w' := by
  rcases h with h | ⟨h0, h⟩
  · have t0 : decide ((100 : Int) < (n : Int)) = true := decide_eq_true (by omega)
    have t0' : decide (100 < n) = true := decide_eq_true (by omega)
    go_enter Try.func3, Try.ntmps3
    go_wp2_with fail
    refine (Ck.awake3_any _).mono ?_
    rintro e w1 ⟨rfl, b1⟩
    go_wp2_with fail
    go_ret
    exact ⟨rfl, b1⟩
  · have t0 : decide ((100 : Int) < (n : Int)) = false := decide_eq_false (by omega)
    have t0' : decide (100 < n) = false := decide_eq_false (by omega)
    have t1 : decide ((60 : Int) < (n2 : Int)) = true := decide_eq_true (by omega)
    have t1' : decide (60 < n2) = true := decide_eq_true (by omega)
    go_enter Try.func3, Try.ntmps3
    go_wp2_with fail
    refine (Ck.awake3_any _).mono ?_
    rintro e w1 ⟨rfl, b1⟩
    go_wp2_with fail
    go_ret
    exact ⟨rfl, b1⟩
end Go.Proofs.Ythamnebbecmegaa.Sn
