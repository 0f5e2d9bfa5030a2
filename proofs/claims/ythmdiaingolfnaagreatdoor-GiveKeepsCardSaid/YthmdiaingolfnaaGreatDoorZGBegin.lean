/- A part of the claim: the texts BeginMath WorldN Begin. -/
import Derived.Test.YthmdiaingolfnaaGreatDoorZDocNew
import Derived.Test.YthmdiaingolfnaaGreatDoorZPlayT3
import Derived.Test.YthmdiaingolfnaaGreatDoorZPlayT
import Derived.Test.YthmdiaingolfnaaGreatDoorZGGive
import Derived.Test.YthmdiaingolfnaaGreatDoorZGWorld
import Derived.Test.YthmdiaingolfnaaGreatDoorZGAwK
import Derived.Deep.CutBlock
namespace Go.Proofs.YthmdiaingolfnaaGreatDoor.Wo
open Go Go.ChangeShapes Go.WideShapes Go.ChangeAt Go.RowKit Go.Deep Go.Maps Rw Hi Mt Ba
open Cn (Cf cfE)
set_option linter.unusedVariables false
def tri (i : Nat) (st : Int) : List Ay := [⟨1, 0, 0, 0, 0⟩, ⟨3, 0, 0, 0, st⟩, ⟨4, (i : Int) + 1, 0, 0, 0⟩]
def acts1 (l : List Int) (k : Nat) : List Ay := (List.range k).flatMap fun i => tri i (l.getD i 0 % 4)
def lsA (m : Int) : Ay := ⟨5, m % 8 + 1, 0, m % 8, 0⟩
theorem acts1_succ (l : List Int) (k : Nat) : acts1 l (k + 1) = acts1 l k ++ tri k (l.getD k 0 % 4) := by
  unfold acts1; rw [List.range_succ, List.flatMap_append]; simp
theorem acts1_len (l : List Int) (k : Nat) : (acts1 l k).length = 3 * k := by
  induction k with
  | zero => rfl
  | succ k ih => rw [acts1_succ, List.length_append, ih]; show 3 * k + 3 = _; omega
def parkW (s : Ws) (t : Int) : Ws := { s with sl := St.parkL s.sl (t % 8) 9 }
def markW (q : Ws × List Int) (m : Int) : Ws × List Int := if 128 ≤ m then q else ({ q.1 with M := Le.mk (mrkN q.1.L q.2 (m % 8 + 1) (m % 8)) }, mrkN q.1.L q.2 (m % 8 + 1) (m % 8))
abbrev c8 : Cf := ⟨8, 1, 100, 1000, 50, 200, 4598175219545276416⟩
def bgnA (ss ms : List Int) : List Ay := acts1 ss ss.length ++ ms.map lsA
def bgn1 (ss ms : List Int) : Ws := (bgnA ss ms).foldl playS (newS c8 [] [])
def bgn2 (ss ws ms : List Int) : Ws := ws.foldl parkW (bgn1 ss ms)
def bgn3 (ss ws ms : List Int) : Ws × List Int := ms.foldl markW (bgn2 ss ws ms, [])
def bgnS (ss ws ms : List Int) (cl : Bool) : Ws := { (bgn3 ss ws ms).1 with closed := cl }
def bgnN (ss ws ms : List Int) : List Int := (bgn3 ss ws ms).2
theorem foldl_take {α β : Type} (f : β → α → β) (b : β) {l : List α} {k : Nat} {x : α} (h : l[k]? = some x) : (l.take (k + 1)).foldl f b = f ((l.take k).foldl f b) x := by
  rw [List.take_add_one, h, List.foldl_append]; rfl
def okA (y : Ay) : Prop := y.ok ∧ (y.do_ % 8 = 1 ∨ y.do_ % 8 = 3 ∨ y.do_ % 8 = 4 ∨ y.do_ % 8 = 5)
theorem ay_ok {d i n t s : Int} (hd : 0 ≤ d ∧ d ≤ 255) (hi : 0 ≤ i ∧ i ≤ 18446744073709551615) (hn : 0 ≤ n ∧ n ≤ 18446744073709551615) (ht : -9223372036854775808 ≤ t ∧ t ≤ 9223372036854775807) (hs : -9223372036854775808 ≤ s ∧ s ≤ 9223372036854775807) : (⟨d, i, n, t, s⟩ : Ay).ok := ⟨hd, hi, hn, ht, hs⟩
theorem tri_ok (i : Nat) (hi : i ≤ 1000) (st : Int) (hst : 0 ≤ st ∧ st < 4) : ∀ y ∈ tri i st, okA y := by
  intro y hy
  have : y = ⟨1, 0, 0, 0, 0⟩ ∨ y = ⟨3, 0, 0, 0, st⟩ ∨ y = ⟨4, (i : Int) + 1, 0, 0, 0⟩ := by simpa [tri] using hy
  rcases this with rfl | rfl | rfl
  · exact ⟨ay_ok (by decide) (by decide) (by decide) (by decide) (by decide), .inl (by decide)⟩
  · exact ⟨ay_ok (by decide) (by decide) (by decide) (by decide) ⟨by omega, by omega⟩, .inr (.inl (show (3 : Int) % 8 = 3 by decide))⟩
  · exact ⟨ay_ok (by decide) ⟨by omega, by omega⟩ (by decide) (by decide) (by decide), .inr (.inr (.inl (show (4 : Int) % 8 = 4 by decide)))⟩
theorem acts1_ok (l : List Int) (k : Nat) (hk : k ≤ 1000) : ∀ y ∈ acts1 l k, okA y := by
  intro y hy
  obtain ⟨i, hi, hy⟩ := List.mem_flatMap.1 hy
  exact tri_ok i (by have := List.mem_range.1 hi; omega) _ ⟨by omega, by omega⟩ y hy
theorem lsA_ok (m : Int) : okA (lsA m) := ⟨ay_ok (by decide) ⟨by omega, by omega⟩ (by decide) ⟨by omega, by omega⟩ (by decide), .inr (.inr (.inr (show (5 : Int) % 8 = 5 by decide)))⟩
theorem bgnA_ok (ss ms : List Int) (h : ss.length ≤ 1000) : ∀ y ∈ bgnA ss ms, okA y := by
  intro y hy
  rcases List.mem_append.1 hy with hy | hy
  · exact acts1_ok ss _ h y hy
  · obtain ⟨m, _, rfl⟩ := List.mem_map.1 hy
    exact lsA_ok m
theorem Pl.new : Pl (newS c8 [] []) [] 0 :=
  ⟨rfl, by decide, by decide, ⟨by decide, by decide⟩, ⟨by decide, by decide⟩, Nat.le_refl _, Nat.le_refl _, Nat.le_refl _, Nat.le_refl _, Nat.le_refl _, Nat.le_refl _, Nat.le_refl _, List.Pairwise.nil, List.Pairwise.nil, fun i hi => by cases hi⟩
theorem playS_cl {s : Ws} {y : Ay} : (playS s y).closed = s.closed := by
  unfold playS
  repeat' split
  all_goals rfl
theorem acts_pl (l : List Ay) (hl : ∀ y ∈ l, okA y) (k : Nat) (hk : k ≤ l.length) (h9 : l.length ≤ 900) : Pl ((l.take k).foldl playS (newS c8 [] [])) [] k ∧ ((l.take k).foldl playS (newS c8 [] [])).closed = false := by
  induction k with
  | zero => exact ⟨Pl.new, rfl⟩
  | succ k ih =>
    obtain ⟨h1, h2⟩ := ih (by omega)
    have hx := List.getElem?_eq_getElem (show k < l.length by omega)
    rw [foldl_take playS _ hx]
    exact ⟨h1.play (by omega) (hl _ (List.getElem_mem _)).1, by rw [playS_cl]; exact h2⟩
section
variable {w w' : World} {base : Nat} {col col' : Nat → Nat} {x : Wp} {s : Ws} {d : Nat} {v : Dv} {y : Ay} {N : List Int} {k : Nat}
theorem Tw.later (h : Tw base col w x v d s N) (hb : Below w.heap.size w w') : Tw base col w' x v d s N := ⟨h.wv.later hb, h.dw.later hb, h.vw.later hb, h.c8⟩
theorem play_ok (w : World) (h : Tw base col w x v d s N) (hp : Pl s N k) (hk : k ≤ 900) (hN : N.length ≤ 900) (hy : okA y) (hc : s.closed = false) : Plays w base col x s d y N := by
  rcases hy.2 with e | e | e | e
  · exact playT1 w h hp hy.1 e
  · exact playT3 w h hp hk hN hy.1 e
  · exact playT4 w h hp hk hN hy.1 e hc
  · exact playT5 w h hp hk hN hy.1 e
theorem rs_of (w : World) {α : Type} {enc : α → List Value} {sz : Nat} (he : ∀ x, (enc x).length = sz) (hs : 0 < sz) (xs : List α) (n : Nat) (hn : xs.length = n) (h63 : n ≤ 9223372036854775807) (t : TypeId) {cs : Array Value} (hcs : cs.toList = flat enc xs) : Rs enc sz (w.alloc (.cells cs t)) (w.heap.size + 1) (some ⟨w.heap.size, 0, none⟩) n n xs := by
  refine ⟨hn, Nat.le_refl _, h63, fun _ => ⟨w.heap.size, 0, rfl, by omega, fun j x hx i u hi hu => ?_⟩⟩
  have hf := flat_at he xs j x i hx hi
  have h1 : (w.alloc (.cells cs t)).heap[w.heap.size]? = some (.cells cs t) := heap_alloc_last _ _
  rw [Nat.zero_add, cell_of_row _ _ _ _ _ _ h1, ← Array.getElem?_toList, hcs, hf]
  exact hu
end
theorem encY_one : ∀ y, ∀ u ∈ encY y, u.oneCell' = true := by
  intro y u hu
  simp [encY] at hu
  rcases hu with rfl | rfl | rfl | rfl | rfl <;> rfl
theorem range_set0 {w : World} {g : Nat} {c : Cf} (h : w.rangeAt g 0 (ccs c)) (n : Int) : (w.setCell ⟨g, 0, none⟩ (.int .i64 n)).rangeAt g 0 (ccs { c with max := n }) := by
  have k : ∀ o u, o ≠ 0 → w.cell? ⟨g, o, none⟩ = some u → (w.setCell ⟨g, 0, none⟩ (.int .i64 n)).cell? ⟨g, o, none⟩ = some u := fun o u ho hu => (World.cell?_setCell_other _ _ _ _ (fun e => by injection e with _ e _; omega)).trans hu
  have r : ∀ j u, (ccs c)[j]? = some u → w.cell? ⟨g, j, none⟩ = some u := fun j u hj => by have := h j u hj; rwa [Nat.zero_add] at this
  intro j u hj
  rw [Nat.zero_add]
  match j, hj with
  | 0, hj => injection hj with hj; subst hj; exact World.cell?_setCell_same _ _ _ (r 0 _ rfl)
  | 1, hj => exact k 1 u (by decide) (r 1 u hj)
  | 2, hj => exact k 2 u (by decide) (r 2 u hj)
  | 3, hj => exact k 3 u (by decide) (r 3 u hj)
  | 4, hj => exact k 4 u (by decide) (r 4 u hj)
  | 5, hj => exact k 5 u (by decide) (r 5 u hj)
  | 6, hj => exact k 6 u (by decide) (r 6 u hj)
end Go.Proofs.YthmdiaingolfnaaGreatDoor.Wo
namespace Go.Proofs.YthmdiaingolfnaaGreatDoor.Wo
open Go Go.ChangeShapes Go.WideShapes Go.ChangeAt Go.RowKit Go.Deep Go.Maps Rw Hi Mt Ba
open Cn (Cf cfE)
set_option linter.unusedVariables false
theorem info_act : (Tryz.prog.info? 37).map (fun i => (i.zero, i.size, i.bytes)) = some (some (.agg #[.int .u8 0, .int .u64 0, .int .u64 0, .int .i64 0, .int .i64 0]), 5, 40) := by kernel_rfl
section
variable {ops : Array Oper} {rest : List Oper} {op : Oper} {a : Act} {w : World} {Q : Exit → Act → World → Prop}
theorem store_c2 (hgd : op.guard = none) (y z : Operand) (ho : op.op = .store 30 y z) (g : Nat) (hx : a.eval y = .pointer (some ⟨g, 0, none⟩)) (c : Cf) (hy : a.eval z = c.v) (ht : w.there g 0 7)
    (h : ∀ w', w'.rangeAt g 0 (ccs c) → w'.there g 0 7 → Fz (fun k => k = g) w w' → wpList Tryz.prog ops Q rest (a.put op.dst undef) w') : wpList Tryz.prog ops Q (op :: rest) a w :=
  wpList_store_mid hgd 30 y z ho g 0 (ccs c).toArray hx hy ht (by kernel_rfl) (by kernel_rfl) (h _ (World.rangeAt_setCells_same w g 0 _ ht) (World.there_setCells ht g 0 _) (fz_setCells _ _ _ _))
end
theorem res_wm {fn : Func} {p u x : Tmp} (tmps : Array Value) (w : World) (g : Nat) (v : Dv) (s : Ws) (h : fn.results = #[.tmp u, .cell p 69, .tmp x]) (hp : tmps.getD p undef = .pointer (some ⟨g, 0, none⟩)) (hv : Vw w g (v.cells s)) : (results fn tmps).run Tryz.prog w = .ok (.tuple #[tmps.getD u undef, v.val s, tmps.getD x undef]) w := by
  have hr := run_loadVar_mid (P := Tryz.prog) w g 0 69 _ _ hv.at_ under_w row_w info_w
  have hp' : tmps[p]?.getD undef = .pointer (some ⟨g, 0, none⟩) := by simpa using hp
  simp [results, h, hp', asAddr, hr]
theorem c8_ok : c8.ok := ⟨⟨by decide, by decide⟩, ⟨by decide, by decide⟩, ⟨by decide, by decide⟩, ⟨by decide, by decide⟩, by decide⟩
theorem c8_zero : cfE c8 = 0 := by kernel_rfl
section
variable {w w' : World} {base : Nat} {col col' : Nat → Nat} {x : Wp} {s : Ws} {d : Nat} {v : Dv} {N : List Int}
theorem Tw.there (h : Tw base col w x v d s N) {R : Nat} (hR : col R = 8) (hne : R ≠ d) (hz : Fp col d w w') (ht : w.there R 0 23) : w'.there R 0 23 :=
  th_blk ht (hz.block R (th_lt ht) (fun e => by
    rcases e with e | e
    · exact e.2 hR
    · exact hne e))
theorem Wo.v2 (h : Wo base col w x s) : ∃ col', Wv base col' w x s ∧ El w col col' := by
  obtain ⟨col', hcol⟩ : ∃ col' : Nat → Nat, col' = fun g => if g < w.heap.size then col g else 0 := ⟨_, rfl⟩
  have e1 : ∀ g, g < w.heap.size → col' g = col g := fun g hg => by rw [hcol]; exact if_pos hg
  have e3 : ∀ g, w.heap.size ≤ g → col' g = 0 := fun g hg => by rw [hcol]; show (if g < w.heap.size then col g else 0) = 0; rw [if_neg (by omega)]
  refine ⟨col', ⟨x.rs, x.rh, h.recol e1 (fun g hg => ?_), fun g hg => ?_⟩, e1⟩
  · by_cases h3 : g < w.heap.size
    · exact h.lo g (by rw [← e1 g h3]; exact hg)
    · exact absurd (e3 g (by omega)) hg
  · by_cases h3 : g < w.heap.size
    · exact h3
    · exact absurd (e3 g (by omega)) hg
theorem Tw.low (h : Tw base col w x v d s N) (hd : base ≤ d) (hz : Fp col d w w') : Below base w w' :=
  hz.below h.wv.base_le (fun g hg => by
    rcases hg with hg | hg
    · exact h.wv.lo g hg.1
    · omega)
theorem rs_fp {α : Type} {enc : α → List Value} {sz n c : Nat} {A : Option Addr} {xs : List α} (h : Rs enc sz w w.heap.size A n c xs) (hk : Kn (Kc col) n A) (hc : col d = 8) (hz : Fp col d w w') : Rs enc sz w' w'.heap.size A n c xs :=
  rs_blk h hz.size (kn_blk (rs_at h) hk hz (fun g hg e e2 => by
    have e : col g = 0 := e
    rcases e2 with e2 | e2
    · exact e2.1 e
    · subst e2; omega))
theorem kn_el {α : Type} {enc : α → List Value} {sz n c : Nat} {A : Option Addr} {xs : List α} (h : Rs enc sz w w.heap.size A n c xs) (hk : Kn (Kc col) n A) (hl : El w col col') : Kn (Kc col') n A :=
  kn_mono (rs_at h) hk (fun g hg e => (hl g hg).trans e)
end
theorem bgn1_facts (ss ms : List Int) (h1 : ss.length ≤ 6) (h2 : ms.length ≤ 5) : Pl (bgn1 ss ms) [] (bgnA ss ms).length ∧ (bgn1 ss ms).closed = false := by
  have hl : (bgnA ss ms).length ≤ 900 := by unfold bgnA; rw [List.length_append, acts1_len, List.length_map]; omega
  have := acts_pl (bgnA ss ms) (bgnA_ok ss ms (by omega)) (bgnA ss ms).length (Nat.le_refl _) hl
  rw [List.take_length] at this
  exact this
theorem foldS (f : Ws → Ay → Ws) (hf : ∀ s y, (f s y).sl = s.sl) (l : List Ay) (s : Ws) : (l.foldl f s).sl = s.sl := by
  induction l generalizing s with
  | nil => rfl
  | cons a l ih => rw [List.foldl_cons, ih, hf]
theorem bgn1_sl (ss ms : List Int) : (bgn1 ss ms).sl = [] := by
  unfold bgn1
  rw [foldS playS (fun s y => by unfold playS; repeat' split
                                 all_goals rfl)]
theorem park_len (l : List Int) (s : Ws) : (l.foldl parkW s).sl.length ≤ s.sl.length + l.length := by
  induction l generalizing s with
  | nil => simp
  | cons a l ih =>
    rw [List.foldl_cons]
    have := ih (parkW s a)
    have h2 : (parkW s a).sl.length ≤ s.sl.length + 1 := by
      show (St.parkL s.sl (a % 8) 9).length ≤ _
      unfold St.parkL; split <;> simp
    simp only [List.length_cons]; omega
theorem park_rest (l : List Int) (s : Ws) : (l.foldl parkW s).M = s.M ∧ (l.foldl parkW s).L = s.L ∧ (l.foldl parkW s).T = s.T := by
  induction l generalizing s with
  | nil => exact ⟨rfl, rfl, rfl⟩
  | cons a l ih => rw [List.foldl_cons]; exact ih (parkW s a)
theorem bgn2_facts (ss ws ms : List Int) (h1 : ss.length ≤ 6) (h2 : ms.length ≤ 5) : (bgn2 ss ws ms).M = Le.mk [] ∧ Le.Sd (bgn2 ss ws ms).L ∧ (bgn2 ss ws ms).L.length ≤ 23 ∧ (bgn2 ss ws ms).T.length ≤ 23 := by
  have h := (bgn1_facts ss ms h1 h2).1
  have hl : (bgnA ss ms).length ≤ 23 := by unfold bgnA; rw [List.length_append, acts1_len, List.length_map]; omega
  have hr := park_rest ws (bgn1 ss ms)
  unfold bgn2
  rw [hr.1, hr.2.1, hr.2.2]
  exact ⟨h.mk_, h.sd, by have := h.ll; omega, by have := h.tl; omega⟩
theorem mark_facts (l : List Int) (s0 : Ws) (h : s0.M = Le.mk [] ∧ Le.Sd s0.L ∧ s0.L.length ≤ 23 ∧ s0.T.length ≤ 23) : (l.foldl markW (s0, [])).1.M = Le.mk (l.foldl markW (s0, [])).2 ∧ (l.foldl markW (s0, [])).2.length ≤ l.length ∧ Le.Sd (l.foldl markW (s0, [])).1.L ∧ (l.foldl markW (s0, [])).1.L.length ≤ 23 ∧ (l.foldl markW (s0, [])).1.T.length ≤ 23 := by
  have key : ∀ (l : List Int) (q : Ws × List Int) (n : Nat), (q.1.M = Le.mk q.2 ∧ q.2.length ≤ n ∧ Le.Sd q.1.L ∧ q.1.L.length ≤ 23 ∧ q.1.T.length ≤ 23) → ((l.foldl markW q).1.M = Le.mk (l.foldl markW q).2 ∧ (l.foldl markW q).2.length ≤ n + l.length ∧ Le.Sd (l.foldl markW q).1.L ∧ (l.foldl markW q).1.L.length ≤ 23 ∧ (l.foldl markW q).1.T.length ≤ 23) := by
    intro l
    induction l with
    | nil => intro q n hq; exact hq
    | cons a l ih =>
      intro q n hq
      rw [List.foldl_cons]
      have := ih (markW q a) (n + 1) (by
        unfold markW
        split
        · exact ⟨hq.1, by omega, hq.2.2⟩
        · refine ⟨rfl, ?_, hq.2.2⟩
          show (mrkN q.1.L q.2 (a % 8 + 1) (a % 8)).length ≤ n + 1
          unfold mrkN
          split
          · have := List.length_filter_le (· != (a % 8 + 1)) q.2; simp; omega
          · omega)
      simp only [List.length_cons]
      exact ⟨this.1, by have := this.2.1; omega, this.2.2⟩
  have := key l (s0, []) 0 ⟨h.1, Nat.le_refl _, h.2⟩
  simpa using this
set_option maxRecDepth 100000 in
set_option maxHeartbeats 40000000 in
theorem begin_any (W : World) (As Aw Am : Option Addr) (ns cs nw cw nm cm : Nat) (ss ws ms : List Int) (hs : Rd (Value.int .u8) W W.heap.size As ns cs ss) (hw : Rd (Value.int .u8) W W.heap.size Aw nw cw ws) (hm : Rd (Value.int .u8) W W.heap.size Am nm cm ms)
    (us : ∀ z ∈ ss, 0 ≤ z ∧ z ≤ 255) (uw : ∀ z ∈ ws, 0 ≤ z ∧ z ≤ 255) (um : ∀ z ∈ ms, 0 ≤ z ∧ z ≤ 255) (hn : ns ≤ 6) (hnw : nw ≤ 5) (hnm : nm ≤ 5) (cl : Bool) :
    Calls Tryz.prog 19 #[.slice As ns cs, .slice Aw nw cw, .slice Am nm cm, .bool cl] W fun e w' => ∃ (base : Nat) (x : Wp) (col : Nat → Nat) (v : Dv), e = .returned (.tuple #[ptr x.pw, v.val (bgnS ss ws ms cl), .bool true]) ∧ W.heap.size ≤ base ∧ Wv base col w' x (bgnS ss ws ms cl) ∧ Dw (Kc col) w' v (bgnS ss ws ms cl) (bgnN ss ws ms) ∧ Below W.heap.size W w' := by
  obtain ⟨i0, hi, hz0, hz1, hz2⟩ := info_parts info_act
  have HSS := Lib.hid hs
  have HWS := Lib.hid hw
  have HMS := Lib.hid hm
  have HUS := Lib.hid us
  have HUW := Lib.hid uw
  have HUM := Lib.hid um
  have HLS := Lib.hid hs.len
  have HLW := Lib.hid hw.len
  have HLM := Lib.hid hm.len
  clear hs hw hm us uw um
  have HT0 : Hid ((W.alloc (.cells #[.int .i64 0, .int .i64 0, .int .u64 0, .int .u64 0, .int .u64 0, .int .u64 0, .float .f64 0, .int .u64 0, .slice none 0 0, .slice none 0 0, .slice none 0 0, .slice none 0 0, .int .u64 0, .slice none 0 0, .slice none 0 0, .slice none 0 0, .slice none 0 0, .slice none 0 0, .slice none 0 0, .int .u64 0, .slice none 0 0, .int .i64 0, .bool false] 69)).there W.heap.size 0 23) := Lib.hid (th_zero W)
  have HB0 : Hid (Below W.heap.size W (W.alloc (.cells #[.int .i64 0, .int .i64 0, .int .u64 0, .int .u64 0, .int .u64 0, .int .u64 0, .float .f64 0, .int .u64 0, .slice none 0 0, .slice none 0 0, .slice none 0 0, .slice none 0 0, .int .u64 0, .slice none 0 0, .slice none 0 0, .slice none 0 0, .slice none 0 0, .slice none 0 0, .slice none 0 0, .int .u64 0, .slice none 0 0, .int .i64 0, .bool false] 69))) := Lib.hid ((Below.refl _ _).alloc (Nat.le_refl _) _)
  have hsz0 : (W.alloc (.cells #[.int .i64 0, .int .i64 0, .int .u64 0, .int .u64 0, .int .u64 0, .int .u64 0, .float .f64 0, .int .u64 0, .slice none 0 0, .slice none 0 0, .slice none 0 0, .slice none 0 0, .int .u64 0, .slice none 0 0, .slice none 0 0, .slice none 0 0, .slice none 0 0, .slice none 0 0, .slice none 0 0, .int .u64 0, .slice none 0 0, .int .i64 0, .bool false] 69)).heap.size = W.heap.size + 1 := by simp
  have HSZ0 := Lib.hid hsz0
  clear hsz0
  go_enter Tryz.func19, Tryz.ntmps19
  go_upto_region 1 with (fail)
  generalize (W.alloc (.cells #[.int .i64 0, .int .i64 0, .int .u64 0, .int .u64 0, .int .u64 0, .int .u64 0, .float .f64 0, .int .u64 0, .slice none 0 0, .slice none 0 0, .slice none 0 0, .slice none 0 0, .int .u64 0, .slice none 0 0, .slice none 0 0, .slice none 0 0, .slice none 0 0, .slice none 0 0, .slice none 0 0, .int .u64 0, .slice none 0 0, .int .i64 0, .bool false] 69)) = W0 at *
  go_wp2_with fail
  refine (Cn.default_any W0).mono ?_
  rintro e w1 ⟨rfl, b1⟩
  have HB1 := Lib.hid b1
  clear b1
  go_upto_region 2 with (first
    | (refine store_c2 rfl _ _ rfl w1.heap.size rfl ⟨4, 1, 100, 1000, 50, 200, 4598175219545276416⟩ rfl (th_conf w1) ?_; intro w2 hr2 ht2 hz2'; have HR2 := Lib.hid hr2; have HT2 := Lib.hid ht2; have HB2 : Hid (Below w1.heap.size w1 w2) := Lib.hid (((Below.refl _ _).alloc (Nat.le_refl _) _).trans (hz2'.below (by simp) (fun k hk => by omega))); clear hr2 ht2 hz2'))
  obtain ⟨cb, hcbe⟩ : ∃ cb, w1.heap.size = cb := ⟨_, rfl⟩
  rw [hcbe] at HR2 HT2
  rw [hcbe]
  have HCB := Lib.hid hcbe
  clear hcbe
  have f0 : w2.cell? ⟨cb, 0, none⟩ = some (.int .i64 4) := by have := HR2.out 0 _ rfl; rwa [Nat.zero_add] at this
  have g0 : w2.frozen? ⟨cb, 0, none⟩ = false := by have := (HT2.out 0 (by decide)).2; rwa [Nat.zero_add] at this
  go_upto_region 3 with (fail)
  have HR3 : Hid ((w2.setCell ⟨cb, 0, none⟩ (.int .i64 8)).rangeAt cb 0 (ccs c8)) := Lib.hid (range_set0 HR2.out 8)
  have HB3 : Hid (Below w1.heap.size w1 (w2.setCell ⟨cb, 0, none⟩ (.int .i64 8))) := Lib.hid (HB2.out.setCell (p := ⟨cb, 0, none⟩) (by have := HCB.out; show w1.heap.size ≤ cb; omega) _)
  generalize (w2.setCell ⟨cb, 0, none⟩ (.int .i64 8)) = w3 at *
  clear f0 g0 HR2 HT2 HB2
  have HBW : Hid (Below W.heap.size W w3) := Lib.hid ((HB0.out.trans (HB1.out.mono HB0.out.size)).trans (HB3.out.mono (Nat.le_trans HB0.out.size HB1.out.size)))
  have HT3 : Hid (w3.there W.heap.size 0 23) := Lib.hid (th_later HT0.out (HB1.out.trans (HB3.out.mono HB1.out.size)))
  have HR3L : Hid (W.heap.size < w3.heap.size) := Lib.hid (th_lt HT3.out)
  clear HB0 HB1 HB3 HT0 HCB HSZ0
  go_wp2_with (first
    | (refine load_c rfl _ rfl cb rfl c8 HR3.out ?_))
  refine (new_ok2 W.heap.size W.heap.size c8 c8_ok c8_zero none none 0 0 w3.heap.size 0 0 w3.heap.size [] [] w3 HR3L.out (Nat.le_refl _) Rd.nil_ Rd.nil_ (Nat.le_refl _) (Nat.le_refl _) (by omega) (by omega)).mono ?_
  rintro e w4 ⟨x, col0, rfl, h4, hcr, b4⟩
  obtain ⟨col, h4, hel⟩ := h4.v2
  have HCR4 : Hid (col W.heap.size = 8) := Lib.hid ((hel _ (by have h1 := HR3L.out; have h2 := b4.size; omega)).trans hcr)
  have HW4 := Lib.hid h4
  have HB4 := Lib.hid b4
  have HR4 := Lib.hid (range_later HR3.out b4)
  clear h4 b4 HR3 hel hcr
  go_wp2_with (first
    | (refine load_c rfl _ rfl cb rfl c8 HR4.out ?_))
  refine (dnew_any (K := Kc col) w4 c8 c8_ok c8_zero HW4.out.new0 none none 0 0 0 0 [] [] (Fk.Rn.nil_ _ _) (Fk.Rn.nil_ _ _)).mono ?_
  rintro e w5 ⟨v, rfl, hd5, b5⟩
  have HD5 := Lib.hid hd5
  have HB5 := Lib.hid b5
  clear hd5 b5 HR4
  go_upto_region 5 with (first
    | (refine store_w rfl _ _ rfl w5.heap.size rfl v (newS c8 [] []) rfl (th_zero w5) ?_; intro w6 hv6 hz6; have HV6 := Lib.hid hv6; have HB6 : Hid (Below w5.heap.size w5 w6) := Lib.hid (((Below.refl _ w5).alloc (Nat.le_refl _) _).trans (hz6.below (by simp) (fun k hk => by omega))); clear hv6 hz6))
  obtain ⟨d, hd⟩ : ∃ d, w5.heap.size = d := ⟨_, rfl⟩
  rw [hd] at HV6
  rw [hd]
  have HTW : Hid (∃ col6, Tw W.heap.size col6 w6 x v d (newS c8 [] []) [] ∧ col6 W.heap.size = 8) := Lib.hid (by
    have hs5 := HB5.out.size
    obtain ⟨col6, hw6, hl6, h68, h60⟩ := HW4.out.var (HB5.out.trans (HB6.out.mono HB5.out.size)) d (by omega) HV6.out.lt
    refine ⟨col6, ⟨hw6, (HD5.out.mono (fun g hg e => ?_)).later HB6.out, HV6.out, h68⟩, (hl6 _ (by have h1 := HR3L.out; have h2 := HB4.out.size; omega)).trans HCR4.out⟩
    by_cases h3 : g < w4.heap.size
    · exact (hl6 g h3).trans e
    · exact h60 g (by omega) (by omega))
  have HB36 : Hid (Below w3.heap.size w3 w6) := Lib.hid ((HB4.out.trans (HB5.out.mono HB4.out.size)).trans (HB6.out.mono (Nat.le_trans HB4.out.size HB5.out.size)))
  have HDL : Hid (W.heap.size ≤ d) := Lib.hid (by have := HB4.out.size; have := HB5.out.size; have := HR3L.out; omega)
  have HRD : Hid (W.heap.size ≠ d) := Lib.hid (by have := HB4.out.size; have := HB5.out.size; have := HR3L.out; omega)
  clear HW4 HB4 HD5 HB5 HV6 HB6 hd
  obtain ⟨col6, htw, hcr6⟩ := HTW.out
  have HTW6 := Lib.hid htw
  have HCR := Lib.hid hcr6
  clear htw hcr6 HTW HCR4
  have HB6W : Hid (Below W.heap.size W w6) := Lib.hid (HBW.out.trans (HB36.out.mono (Nat.le_of_lt HR3L.out)))
  have HT6 : Hid (w6.there W.heap.size 0 23) := Lib.hid (th_blk HT3.out (HB36.out.block _ HR3L.out))
  clear HBW HB36 HT3
  go_upto_region 8 with (fail)
  go_wp2_with fail
  go_loopw [16, 52] (fun a i wr => ∃ (k : Nat) (A : Option Addr) (c : Nat), k ≤ ns ∧ a = .slice A (3 * k) c ∧ i = .int .i64 k ∧ Hid (wr.ownsRow w6.heap.size 37 5 (.slice A (3 * k) c) (3 * k) (flat encY (acts1 ss k))) ∧ Hid (Below w6.heap.size w6 wr)) (fun _ i _ => ns - (intOf i).toNat)
  case atStart => exact ⟨0, none, 0, Nat.zero_le _, rfl, rfl, Lib.hid (World.ownsRow_nil _ _ _ _), Lib.hid (Below.refl _ _)⟩
  case round =>
    obtain ⟨k, A, c, hk, rfl, rfl, HO, HB⟩ := hrel
    by_cases hkn : k < ns
    · obtain ⟨b, o, z, rfl, hb, hz, hc⟩ := HSS.out.get hkn
      have hzu := HUS.out z (List.mem_of_getElem? hz)
      have d0 := ((HB6W.out.trans (HB.out.mono HB6W.out.size)).cell (p := ⟨b, o + k, none⟩) hb).trans hc
      have hkc : k < cs := by have := HSS.out.cap; omega
      have t1 : z.tmod 4 = z % 4 := Int.tmod_eq_emod_of_nonneg hzu.1
      have t2 : IntKind.i64.wrap (z % 4) = z % 4 := by rw [IntKind.wrap_i64]; omega
      have t3 : IntKind.i64.wrap ((k : Int) + 1) = (k : Int) + 1 := by rw [IntKind.wrap_i64]; omega
      have t4 : IntKind.u64.wrap ((k : Int) + 1) = (k : Int) + 1 := by rw [IntKind.wrap_u64]; omega
      have HTR : Hid (acts1 ss (k + 1) = acts1 ss k ++ tri k (z % 4)) := Lib.hid (by rw [acts1_succ, List.getD_eq_getElem?_getD, hz]; rfl)
      have hrs := rs_of wr encY_len (by decide) (tri k (z % 4)) 3 rfl (by decide) 37 (cs := #[.int .u8 1, .int .u64 0, .int .u64 0, .int .i64 0, .int .i64 0, .int .u8 3, .int .u64 0, .int .u64 0, .int .i64 0, .int .i64 (z % 4), .int .u8 4, .int .u64 ((k : Int) + 1), .int .u64 0, .int .i64 0, .int .i64 0]) rfl
      have HRS := Lib.hid hrs
      have hbs := HB.out.size
      have HO2 := Lib.hid (HO.out.alloc (.cells #[.int .u8 1, .int .u64 0, .int .u64 0, .int .i64 0, .int .i64 0, .int .u8 3, .int .u64 0, .int .u64 0, .int .i64 0, .int .i64 (z % 4), .int .u8 4, .int .u64 ((k : Int) + 1), .int .u64 0, .int .i64 0, .int .i64 0] 37))
      have HB2 := Lib.hid (HB.out.alloc hbs (.cells #[.int .u8 1, .int .u64 0, .int .u64 0, .int .i64 0, .int .i64 0, .int .u8 3, .int .u64 0, .int .u64 0, .int .i64 0, .int .i64 (z % 4), .int .u8 4, .int .u64 ((k : Int) + 1), .int .u64 0, .int .i64 0, .int .i64 0] 37))
      clear hz hc hrs HO HB hzu
      go_wp2_with (
        at_builtin
        refine append_rs encY_len rfl _ _ 26 rfl w6.heap.size 37 i0 _ 40 Tryz.underlying26 hi hz0 hz1 hz2 rfl (by decide) (.slice A (3 * k) c) (3 * k) _ rfl HO2.out _ _ 3 3 (tri k (z % 4)) rfl HRS.out encY_one (3 * (k + 1)) (by omega) (flat encY (acts1 ss (k + 1))) (by rw [HTR.out]; exact (flat_append _ _).symm) (by unfold maxLen; omega) (by omega) (by simp; omega) ?_
        intro A' c' w' hrow hg hat
        have HO3 := Lib.hid hrow
        have HB3 := Lib.hid (HB2.out.grown hg (by simp; omega) (fun j hj => (HO2.out.lt j hj).1))
        clear hrow hg hat)
      go_roundw
      case rel => exact ⟨k + 1, A', c', by omega, rfl, by go_num, HO3, HB3⟩
      case measure => simp [intOf]; omega
    · obtain rfl : k = ns := by omega
      clear hk hkn
      have HO1 := HO
      have HB1 := HB
      clear HO HB
      generalize wr = wa at *
      go_wp2_with fail
      go_loopw [16, 72] (fun a i wr => ∃ (j : Nat) (A : Option Addr) (c : Nat), j ≤ nm ∧ a = .slice A (3 * k + j) c ∧ i = .int .i64 j ∧ Hid (wr.ownsRow w6.heap.size 37 5 (.slice A (3 * k + j) c) (3 * k + j) (flat encY (acts1 ss k ++ (ms.take j).map lsA))) ∧ Hid (Below w6.heap.size w6 wr)) (fun _ i _ => nm - (intOf i).toNat)
      case atStart => exact ⟨0, A, c, Nat.zero_le _, rfl, rfl, Lib.hid (by have := HO1.out; simpa using this), HB1⟩
      case round =>
        clear HO1 HB1
        obtain ⟨j, A, c, hj, rfl, rfl, HO, HB⟩ := hrel
        by_cases hjn : j < nm
        · obtain ⟨b, o, z, rfl, hb, hz, hc⟩ := HMS.out.get hjn
          have hzu := HUM.out z (List.mem_of_getElem? hz)
          have d0 := ((HB6W.out.trans (HB.out.mono HB6W.out.size)).cell (p := ⟨b, o + j, none⟩) hb).trans hc
          have hkc : j < cm := by have := HMS.out.cap; omega
          have t1 : z.tmod 8 = z % 8 := Int.tmod_eq_emod_of_nonneg hzu.1
          have t2 : IntKind.i64.wrap (z % 8) = z % 8 := by rw [IntKind.wrap_i64]; omega
          have t3 : IntKind.u64.wrap (z % 8) = z % 8 := by rw [IntKind.wrap_u64]; omega
          have t4 : IntKind.u64.wrap (z % 8 + 1) = z % 8 + 1 := by rw [IntKind.wrap_u64]; omega
          have HTR : Hid (acts1 ss k ++ (ms.take (j + 1)).map lsA = (acts1 ss k ++ (ms.take j).map lsA) ++ [lsA z]) := Lib.hid (by rw [List.take_add_one, hz, List.map_append, List.append_assoc]; rfl)
          have hrs := rs_one encY_len wr (lsA z) 37 (cs := #[.int .u8 5, .int .u64 (z % 8 + 1), .int .u64 0, .int .i64 (z % 8), .int .i64 0]) rfl
          have HRS := Lib.hid hrs
          have hbs := HB.out.size
          have HO2 := Lib.hid (HO.out.alloc (.cells #[.int .u8 5, .int .u64 (z % 8 + 1), .int .u64 0, .int .i64 (z % 8), .int .i64 0] 37))
          have HB2 := Lib.hid (HB.out.alloc hbs (.cells #[.int .u8 5, .int .u64 (z % 8 + 1), .int .u64 0, .int .i64 (z % 8), .int .i64 0] 37))
          clear hz hc hrs HO HB hzu
          go_wp2_with (
            at_builtin
            refine append_rs encY_len rfl _ _ 26 rfl w6.heap.size 37 i0 _ 40 Tryz.underlying26 hi hz0 hz1 hz2 rfl (by decide) (.slice A (3 * k + j) c) (3 * k + j) _ rfl HO2.out _ _ 1 1 [lsA z] rfl HRS.out encY_one (3 * k + (j + 1)) (by omega) (flat encY (acts1 ss k ++ (ms.take (j + 1)).map lsA)) (by rw [HTR.out]; exact (flat_append _ _).symm) (by unfold maxLen; omega) (by omega) (by simp; omega) ?_
            intro A' c' w' hrow hg hat
            have HO3 := Lib.hid hrow
            have HB3 := Lib.hid (HB2.out.grown hg (by simp; omega) (fun j hj => (HO2.out.lt j hj).1))
            clear hrow hg hat)
          go_roundw
          case rel => exact ⟨j + 1, A', c', by omega, rfl, by go_num, HO3, HB3⟩
          case measure => simp [intOf]; omega
        · obtain rfl : j = nm := by omega
          clear hj hjn
          obtain ⟨L, hL⟩ : ∃ L, bgnA ss ms = L := ⟨_, rfl⟩
          obtain ⟨na, hna⟩ : ∃ na, 3 * k + j = na := ⟨_, rfl⟩
          have hLL : L.length = na := by rw [← hL, ← hna]; unfold bgnA; rw [List.length_append, acts1_len, List.length_map, HLS.out, HLM.out]
          have hrow := HO.out
          rw [show acts1 ss k ++ (ms.take j).map lsA = L by rw [← hL]; unfold bgnA; rw [HLS.out, ← HLM.out, List.take_length]] at hrow
          rw [hna] at hrow
          rw [hna]
          have hkr : Kn (Kc col6) na A := fun _ a e => HTW6.out.wv.new0 _ (by subst e; exact (hrow.lt _ rfl).1)
          have HRW := Lib.hid (Rs.own_rs encY_len hLL hrow)
          have HKR := Lib.hid hkr
          have HLL := Lib.hid hLL
          have HLO := Lib.hid (show ∀ y ∈ L, okA y from hL ▸ bgnA_ok ss ms (by have := HLS.out; omega))
          have hna9 : na ≤ 23 := by omega
          have HTA := Lib.hid (HTW6.out.later HB.out)
          have HBA : Hid (Below W.heap.size W wr) := Lib.hid (HB6W.out.trans (HB.out.mono HB6W.out.size))
          have HT3 := Lib.hid (th_later HT6.out HB.out)
          have HLD := Lib.hid hL
          have HNA := Lib.hid hna
          clear hL hna hLL hrow hkr HO HB HTW6 HB6W HT6
          generalize wr = wb at *
          go_wp2_with fail
          go_loopw [90] (fun i wr => ∃ (p : Nat) (col : Nat → Nat) (v : Dv), p ≤ na ∧ i = .int .i64 p ∧ Hid (Tw W.heap.size col wr x v d ((L.take p).foldl playS (newS c8 [] [])) []) ∧ Hid (Rs encY 5 wr wr.heap.size A na c L) ∧ Hid (Kn (Kc col) na A) ∧ Hid (Below W.heap.size W wr) ∧ Hid (wr.there W.heap.size 0 23) ∧ Hid (col W.heap.size = 8)) (fun i _ => na - (intOf i).toNat)
          case atStart => exact ⟨0, col6, v, Nat.zero_le _, rfl, HTA, HRW, HKR, HBA, HT3, HCR⟩
          case round =>
            clear HTA HRW HKR HBA HT3 HCR
            obtain ⟨p, col, v, hp, rfl, HTA, HRW, HKR, HBA, HT3, HCR⟩ := hrel
            have hpl := acts_pl L HLO.out p (by rw [HLL.out]; exact hp) (by rw [HLL.out]; omega)
            have HPL := Lib.hid hpl.1
            have HCL := Lib.hid hpl.2
            clear hpl
            by_cases hpn : p < na
            · obtain ⟨b, o, y, rfl, hb, hy, e1, e2, e3, e4, e5⟩ := actY_at HRW.out hpn
              have HY := Lib.hid (HLO.out y (List.mem_of_getElem? hy))
              have HTK : Hid ((L.take (p + 1)).foldl playS (newS c8 [] []) = playS ((L.take p).foldl playS (newS c8 [] [])) y) := Lib.hid (foldl_take playS _ hy)
              have hpc : p < c := by have := HRW.out.cap; omega
              have hba : Below wr.heap.size wr (wr.alloc (.cells #[.int .u8 y.do_, .int .u64 y.id, .int .u64 y.n, .int .i64 y.th, .int .i64 y.st] 37)) := (Below.refl _ _).alloc (Nat.le_refl _) _
              have HTA2 := Lib.hid (HTA.out.later hba)
              have HRW2 := Lib.hid (HRW.out.later hba)
              have HBA2 : Hid (Below W.heap.size W (wr.alloc (.cells #[.int .u8 y.do_, .int .u64 y.id, .int .u64 y.n, .int .i64 y.th, .int .i64 y.st] 37))) := Lib.hid (HBA.out.trans (hba.mono HBA.out.size))
              have HT32 := Lib.hid (th_later HT3.out hba)
              have HYC := Lib.hid (Yc.new wr y)
              clear hba hy
              go_upto_region 21 with (fail)
              obtain ⟨q, hq⟩ : ∃ q, wr.heap.size = q := ⟨_, rfl⟩
              rw [hq] at HYC
              rw [hq]
              clear hq e1 e2 e3 e4 e5 hb HTA HRW HBA HT3
              generalize (wr.alloc (.cells #[.int .u8 y.do_, .int .u64 y.id, .int .u64 y.n, .int .i64 y.th, .int .i64 y.st] 37)) = w7 at *
              obtain ⟨z0, z1, z2, z3, z4⟩ := HYC.out
              obtain ⟨s, hs⟩ : ∃ s, (L.take p).foldl playS (newS c8 [] []) = s := ⟨_, rfl⟩
              rw [hs] at HTA2 HPL HCL HTK
              have HPY := Lib.hid (play_ok w7 HTA2.out HPL.out (by omega) (by decide) HY.out HCL.out)
              clear hs HPL HCL
              go_wp2_with fail
              refine HPY.out.mono ?_
              rintro e w8 ⟨rfl, col8, v8, ht8, hz8, hl8⟩
              have HTA8 : Hid (Tw W.heap.size col8 w8 x v8 d ((L.take (p + 1)).foldl playS (newS c8 [] [])) []) := Lib.hid (by rw [HTK.out]; exact ht8)
              have HRW8 := Lib.hid (rs_fp HRW2.out HKR.out HTA2.out.c8 hz8)
              have HKR8 := Lib.hid (kn_el HRW2.out HKR.out hl8)
              have HCR8 : Hid (col8 W.heap.size = 8) := Lib.hid ((hl8 _ (th_lt HT32.out)).trans HCR.out)
              have hlow := HTA2.out.low HDL.out hz8
              have HBA8 : Hid (Below W.heap.size W w8) := Lib.hid (HBA2.out.trans hlow)
              have HT38 : Hid (w8.there W.heap.size 0 23) := Lib.hid (HTA2.out.there HCR.out HRD.out hz8 HT32.out)
              clear ht8 hz8 hl8 HPY HTA2 HRW2 HKR HBA2 HT32 z0 z1 z2 z3 z4 HYC hlow
              go_wp2_with fail
              go_roundw
              case rel => exact ⟨p + 1, col8, v8, by omega, by go_num, HTA8, HRW8, HKR8, HBA8, HT38, HCR8⟩
              case measure => simp [intOf]; omega
            · obtain rfl : p = na := by omega
              have hs1 : (L.take p).foldl playS (newS c8 [] []) = bgn1 ss ms := by rw [← HLL.out, List.take_length, ← HLD.out]; rfl
              rw [hs1] at HTA HPL HCL
              clear hs1 hp hpn HRW HKR
              generalize wr = wc at *
              go_wp2_with fail
              go_loopw [102] (fun i wr => ∃ (r : Nat) (col : Nat → Nat) (v : Dv), r ≤ nw ∧ i = .int .i64 r ∧ Hid (Tw W.heap.size col wr x v d ((ws.take r).foldl parkW (bgn1 ss ms)) []) ∧ Hid (Below W.heap.size W wr) ∧ Hid (wr.there W.heap.size 0 23) ∧ Hid (col W.heap.size = 8)) (fun i _ => nw - (intOf i).toNat)
              case atStart => exact ⟨0, col, v, Nat.zero_le _, rfl, HTA, HBA, HT3, HCR⟩
              case round =>
                clear HTA HBA HT3 HCR
                obtain ⟨r, col, v, hr, rfl, HTA, HBA, HT3, HCR⟩ := hrel
                by_cases hrn : r < nw
                · obtain ⟨b, o, z, rfl, hb, hz, hc⟩ := HWS.out.get hrn
                  have hzu := HUW.out z (List.mem_of_getElem? hz)
                  have d0 := (HBA.out.cell (p := ⟨b, o + r, none⟩) hb).trans hc
                  have hkc : r < cw := by have := HWS.out.cap; omega
                  have t1 : z.tmod 8 = z % 8 := Int.tmod_eq_emod_of_nonneg hzu.1
                  have t2 : IntKind.i64.wrap (z % 8) = z % 8 := by rw [IntKind.wrap_i64]; omega
                  have HTK : Hid ((ws.take (r + 1)).foldl parkW (bgn1 ss ms) = parkW ((ws.take r).foldl parkW (bgn1 ss ms)) z) := Lib.hid (foldl_take parkW _ hz)
                  have HSL : Hid (((ws.take r).foldl parkW (bgn1 ss ms)).sl.length ≤ 1000) := Lib.hid (by have := park_len (ws.take r) (bgn1 ss ms); rw [bgn1_sl, List.length_nil] at this; have h2 : (ws.take r).length ≤ 5 := (by rw [List.length_take]; omega); omega)
                  obtain ⟨s, hs⟩ : ∃ s, (ws.take r).foldl parkW (bgn1 ss ms) = s := ⟨_, rfl⟩
                  rw [hs] at HTA HTK HSL
                  clear hz hc hs hzu
                  have c10 := HTA.out.wv.cells.c10
                  go_wp2_with (first
                    | (refine load_w rfl _ rfl d rfl v s HV7.out ?_))
                  refine (wpark wr HTA.out.wv (z % 8) 9 HSL.out).mono ?_
                  rintro e w7 ⟨rfl, col7, h7, z7, l7⟩
                  have HW7 := Lib.hid h7
                  have HD7 := Lib.hid (HTA.out.dw.call z7 l7)
                  have HV7 := Lib.hid (HTA.out.vw.blk (z7.block d HTA.out.vw.lt (fun e => e.2 HTA.out.c8)))
                  have HC7 : Hid (col7 d = 8) := Lib.hid ((l7 d HTA.out.vw.lt).trans HTA.out.c8)
                  have HCR7 : Hid (col7 W.heap.size = 8) := Lib.hid ((l7 _ (th_lt HT3.out)).trans HCR.out)
                  have hlow := HTA.out.low HDL.out (fp_w (d := d) z7)
                  have HBA7 : Hid (Below W.heap.size W w7) := Lib.hid (HBA.out.trans hlow)
                  have HT37 : Hid (w7.there W.heap.size 0 23) := Lib.hid (HTA.out.there HCR.out HRD.out (fp_w (d := d) z7) HT3.out)
                  clear h7 z7 l7 HTA HBA HT3 c10 hlow
                  go_wp2_with (first
                    | (refine load_w rfl _ rfl d rfl v s HV7.out ?_))
                  refine (dpark_any w7 v s [] HD7.out HW7.out.new0 (z % 8) 9 HSL.out).mono ?_
                  rintro e w8 ⟨v8, rfl, hd8, b8⟩
                  have HD8 := Lib.hid hd8
                  have HB8 := Lib.hid b8
                  have HT8 := Lib.hid (HV7.out.later b8).th
                  clear hd8 b8
                  go_wp2_with (first
                    | (refine store_w rfl _ _ rfl d rfl v8 { s with sl := St.parkL s.sl (z % 8) 9 } rfl HT8.out ?_; intro w9 hv9 hz9; have HV9 := Lib.hid hv9; have HZ9 := Lib.hid hz9; clear hv9 hz9))
                  have HTA9 : Hid (Tw W.heap.size col7 w9 x v8 d ((ws.take (r + 1)).foldl parkW (bgn1 ss ms)) []) := Lib.hid (by
                    rw [HTK.out]
                    exact ⟨(HW7.out.later HB8.out).aside HZ9.out (fun g _ e => e ▸ HC7.out), HD8.out.at_ HC7.out HZ9.out, HV9.out, HC7.out⟩)
                  have hbz : Below W.heap.size w7 w9 := (HB8.out.mono HW7.out.base_le).trans (HZ9.out.below (Nat.le_trans HW7.out.base_le HB8.out.size) (fun g hg => by have := HDL.out; omega))
                  have HBA9 : Hid (Below W.heap.size W w9) := Lib.hid (HBA7.out.trans hbz)
                  have HT39 : Hid (w9.there W.heap.size 0 23) := Lib.hid (th_blk (th_later HT37.out HB8.out) (HZ9.out.block _ (th_lt (th_later HT37.out HB8.out)) HRD.out))
                  clear HW7 HD7 HV7 HC7 HBA7 HT37 HD8 HB8 HT8 HV9 HZ9 hbz
                  go_roundw
                  case rel => exact ⟨r + 1, col7, v8, by omega, by go_num, HTA9, HBA9, HT39, HCR7⟩
                  case measure => simp [intOf]; omega
                · obtain rfl : r = nw := by omega
                  have hs2 : (ws.take r).foldl parkW (bgn1 ss ms) = bgn2 ss ws ms := by rw [← HLW.out, List.take_length]; rfl
                  rw [hs2] at HTA
                  clear hs2 hr hrn
                  generalize wr = wd at *
                  go_wp2_with fail
                  go_loopw [122] (fun i wr => ∃ (r2 : Nat) (col : Nat → Nat) (v : Dv), r2 ≤ j ∧ i = .int .i64 r2 ∧ Hid (Tw W.heap.size col wr x v d ((ms.take r2).foldl markW (bgn2 ss ws ms, [])).1 ((ms.take r2).foldl markW (bgn2 ss ws ms, [])).2) ∧ Hid (Below W.heap.size W wr) ∧ Hid (wr.there W.heap.size 0 23) ∧ Hid (col W.heap.size = 8)) (fun i _ => j - (intOf i).toNat)
                  case atStart => exact ⟨0, col, v, Nat.zero_le _, rfl, HTA, HBA, HT3, HCR⟩
                  case round =>
                    clear HTA HBA HT3 HCR
                    obtain ⟨r2, col, v, hr2, rfl, HTA, HBA, HT3, HCR⟩ := hrel
                    by_cases hrn : r2 < j
                    · obtain ⟨b, o, z, rfl, hb, hz, hc⟩ := HMS.out.get hrn
                      have hzu := HUM.out z (List.mem_of_getElem? hz)
                      have d0 := (HBA.out.cell (p := ⟨b, o + r2, none⟩) hb).trans hc
                      have hkc : r2 < cm := by have := HMS.out.cap; omega
                      have t1 : z.tmod 8 = z % 8 := Int.tmod_eq_emod_of_nonneg hzu.1
                      have t2 : IntKind.i64.wrap (z % 8) = z % 8 := by rw [IntKind.wrap_i64]; omega
                      have t3 : IntKind.u64.wrap (z % 8) = z % 8 := by rw [IntKind.wrap_u64]; omega
                      have t4 : IntKind.u64.wrap (z % 8 + 1) = z % 8 + 1 := by rw [IntKind.wrap_u64]; omega
                      have HTK : Hid ((ms.take (r2 + 1)).foldl markW (bgn2 ss ws ms, []) = markW ((ms.take r2).foldl markW (bgn2 ss ws ms, [])) z) := Lib.hid (foldl_take markW _ hz)
                      have hmk := mark_facts (ms.take r2) (bgn2 ss ws ms) (bgn2_facts ss ws ms (by have := HLS.out; omega) (by have := HLM.out; omega))
                      have hml : (ms.take r2).length ≤ 5 := by rw [List.length_take]; omega
                      obtain ⟨P, hP⟩ : ∃ P, (ms.take r2).foldl markW (bgn2 ss ws ms, []) = P := ⟨_, rfl⟩
                      rw [hP] at HTA HTK hmk
                      obtain ⟨s, N⟩ := P
                      have HMF := Lib.hid hmk
                      clear hz hc hP hmk
                      by_cases h128 : 128 ≤ z
                      · have q1 : decide ((128 : Int) ≤ z) = true := decide_eq_true h128
                        have hmw : markW (s, N) z = (s, N) := if_pos h128
                        rw [hmw] at HTK
                        clear h128 hmw hzu
                        go_wp2_with fail
                        go_roundw
                        case rel => exact ⟨r2 + 1, col, v, by omega, by go_num, by rw [HTK.out]; exact HTA, HBA, HT3, HCR⟩
                        case measure => simp [intOf]; omega
                      · have q1 : decide ((128 : Int) ≤ z) = false := decide_eq_false h128
                        have hmw : markW (s, N) z = ({ s with M := Le.mk (mrkN s.L N (z % 8 + 1) (z % 8)) }, mrkN s.L N (z % 8 + 1) (z % 8)) := if_neg h128
                        rw [hmw] at HTK
                        clear h128 hmw hzu
                        have c11 := HTA.out.wv.cells.c11
                        go_wp2_with fail
                        refine (wmark wr N HTA.out.wv HMF.out.1 (z % 8 + 1) (z % 8) ⟨by omega, by omega⟩ (by have := HMF.out.2.1; simp at this; omega)).mono ?_
                        rintro e w7 ⟨rfl, h7, z7⟩
                        have HW7 := Lib.hid h7
                        have HD7 := Lib.hid (HTA.out.dw.call z7 (El.refl _ _))
                        have HV7 := Lib.hid (HTA.out.vw.blk (z7.block d HTA.out.vw.lt (fun e => e.2 HTA.out.c8)))
                        have HC7 := Lib.hid HTA.out.c8
                        have hlow := HTA.out.low HDL.out (fp_w (d := d) z7)
                        have HBA7 : Hid (Below W.heap.size W w7) := Lib.hid (HBA.out.trans hlow)
                        have HT37 : Hid (w7.there W.heap.size 0 23) := Lib.hid (HTA.out.there HCR.out HRD.out (fp_w (d := d) z7) HT3.out)
                        clear h7 z7 HTA HBA HT3 c11 hlow
                        go_wp2_with (first
                          | (refine load_w rfl _ rfl d rfl v s HV7.out ?_))
                        refine (dmark_any w7 v s N HD7.out HW7.out.new0 (z % 8 + 1) (z % 8) HMF.out.2.2.1.nd (by have := HMF.out.2.2.2.1; omega) (by have := HMF.out.2.1; simp at this; omega) (by have := HMF.out.2.2.2.2; omega)).mono ?_
                        rintro e w8 ⟨v8, rfl, hd8, b8⟩
                        have HD8 := Lib.hid hd8
                        have HB8 := Lib.hid b8
                        have HT8 := Lib.hid (HV7.out.later b8).th
                        clear hd8 b8
                        go_wp2_with (first
                          | (refine store_w rfl _ _ rfl d rfl v8 s rfl HT8.out ?_; intro w9 hv9 hz9; have HV9 := Lib.hid hv9; have HZ9 := Lib.hid hz9; clear hv9 hz9))
                        have HTA9 : Hid (Tw W.heap.size col w9 x v8 d ((ms.take (r2 + 1)).foldl markW (bgn2 ss ws ms, [])).1 ((ms.take (r2 + 1)).foldl markW (bgn2 ss ws ms, [])).2) := Lib.hid (by
                          rw [HTK.out]
                          have hd := HD8.out.at_ HC7.out HZ9.out
                          exact ⟨(HW7.out.later HB8.out).aside HZ9.out (fun g _ e => e ▸ HC7.out), ⟨hd.bag, hd.loc, hd.sl, hd.sk, hd.book, hd.fact, hd.hist, hd.hk, hd.l8⟩, HV9.out, HC7.out⟩)
                        have hbz : Below W.heap.size w7 w9 := (HB8.out.mono HW7.out.base_le).trans (HZ9.out.below (Nat.le_trans HW7.out.base_le HB8.out.size) (fun g hg => by have := HDL.out; omega))
                        have HBA9 : Hid (Below W.heap.size W w9) := Lib.hid (HBA7.out.trans hbz)
                        have HT39 : Hid (w9.there W.heap.size 0 23) := Lib.hid (th_blk (th_later HT37.out HB8.out) (HZ9.out.block _ (th_lt (th_later HT37.out HB8.out)) HRD.out))
                        clear HW7 HD7 HV7 HC7 HBA7 HT37 HD8 HB8 HT8 HV9 HZ9 hbz
                        go_roundw
                        case rel => exact ⟨r2 + 1, col, v8, by omega, by go_num, HTA9, HBA9, HT39, HCR⟩
                        case measure => simp [intOf]; omega
                    · obtain rfl : r2 = j := by omega
                      have hs3 : (ms.take r2).foldl markW (bgn2 ss ws ms, []) = bgn3 ss ws ms := by rw [← HLM.out, List.take_length]; rfl
                      rw [hs3] at HTA
                      clear hs3 hr2 hrn
                      obtain ⟨⟨s, N⟩, hP⟩ : ∃ P, bgn3 ss ws ms = P := ⟨_, rfl⟩
                      have HBSE : Hid (bgnS ss ws ms cl = { s with closed := cl }) := Lib.hid (by unfold bgnS; rw [hP])
                      have HBNE : Hid (bgnN ss ws ms = N) := Lib.hid (by unfold bgnN; rw [hP])
                      rw [hP] at HTA
                      clear hP
                      generalize wr = we at *
                      have f15 := HTA.out.wv.cells.fz 15
                      have c15 := HTA.out.wv.cells.c15
                      have f22 := HTA.out.vw.cell 22 _ rfl
                      have g22 := HTA.out.vw.free 22 (by decide)
                      have hpd : x.pw ≠ d := fun e => by have h1 := HTA.out.wv.kw; have h2 := HTA.out.c8; rw [e] at h1; omega
                      have hdp : d ≠ x.pw := fun e => hpd e.symm
                      go_upto_region 38 with (fail)
                      have h1 := wset15 we HTA.out.wv cl
                      have hv1 : Vw (we.setCell ⟨x.pw, 15, none⟩ (.bool cl)) d (v.cells s) := HTA.out.vw.blk (heap_setCell_other _ _ d _ hdp)
                      have hv2 := hv1.set 22 (by simp [cells_len]) (.bool cl)
                      have hz2' : Fz (fun k => k = d) (we.setCell ⟨x.pw, 15, none⟩ (.bool cl)) ((we.setCell ⟨x.pw, 15, none⟩ (.bool cl)).setCell ⟨d, 22, none⟩ (.bool cl)) := Fz.of_set (C := fun k => k = d) (a := ⟨d, 22, none⟩) _ rfl
                      have HV2 : Hid (Vw ((we.setCell ⟨x.pw, 15, none⟩ (.bool cl)).setCell ⟨d, 22, none⟩ (.bool cl)) d (v.cells { s with closed := cl })) := Lib.hid hv2
                      have HW2 : Hid (Wv W.heap.size col ((we.setCell ⟨x.pw, 15, none⟩ (.bool cl)).setCell ⟨d, 22, none⟩ (.bool cl)) x { s with closed := cl }) := Lib.hid (h1.1.aside hz2' (fun g _ e => e ▸ HTA.out.c8))
                      have HD2 : Hid (Dw (Kc col) ((we.setCell ⟨x.pw, 15, none⟩ (.bool cl)).setCell ⟨d, 22, none⟩ (.bool cl)) v { s with closed := cl } N) := Lib.hid (((HTA.out.dw.call h1.2 (El.refl _ _)).at_ HTA.out.c8 hz2').own_ s.conf s.now s.live cl)
                      have hlow := HTA.out.low HDL.out ((fp_w (d := d) h1.2).trans (fp_d hz2'))
                      have HBA2 : Hid (Below W.heap.size W ((we.setCell ⟨x.pw, 15, none⟩ (.bool cl)).setCell ⟨d, 22, none⟩ (.bool cl))) := Lib.hid (HBA.out.trans hlow)
                      have HT32 : Hid (((we.setCell ⟨x.pw, 15, none⟩ (.bool cl)).setCell ⟨d, 22, none⟩ (.bool cl)).there W.heap.size 0 23) := Lib.hid (HTA.out.there HCR.out HRD.out ((fp_w (d := d) h1.2).trans (fp_d hz2')) HT3.out)
                      clear f15 c15 f22 g22 h1 hv1 hv2 hz2' hlow HTA HBA HT3
                      generalize ((we.setCell ⟨x.pw, 15, none⟩ (.bool cl)).setCell ⟨d, 22, none⟩ (.bool cl)) = wf at *
                      go_wp2_with fail
                      have HS : Hid (Vw wf.drew d (v.cells { s with closed := cl })) := Lib.hid (HV2.out.blk rfl)
                      refine reg_start 5 (fun w' => Vw w' d (v.cells { s with closed := cl })) (by kernel_rfl) (by kernel_rfl) ?_
                      intro hTT
                      have HTT := Lib.hid hTT
                      clear hTT
                      refine reg_load 0 HTT.out rfl (by kernel_rfl) (by decide) (fun _ _ _ _ h => h) HS.out rfl ?_
                      apply Exists.intro
                      refine ⟨fun w' hw => by (go_simp; exact rfl), ?_⟩
                      refine reg_load 1 HTT.out rfl (by kernel_rfl) (by decide) (fun _ _ _ _ h => h) HS.out rfl ?_
                      apply Exists.intro
                      refine ⟨fun w' hw => exec_load_w _ _ _ rfl rfl hw, ?_⟩
                      refine reg_load 2 HTT.out rfl (by kernel_rfl) (by decide) (fun _ _ _ _ h => h) HS.out rfl ?_
                      apply Exists.intro
                      refine ⟨fun w' hw => by (go_simp; exact rfl), ?_⟩
                      refine reg_only 3 rfl (by kernel_rfl) rfl ?_
                      refine wp_store_w _ _ rfl W.heap.size rfl v { s with closed := cl } rfl (th_blk HT32.out rfl) ?_
                      intro wg hvg hzg
                      have hrd : W.heap.size ≠ d := HRD.out
                      have hS : Vw wg d (v.cells { s with closed := cl }) := HS.out.blk (hzg.block d HS.out.lt (fun e => hrd e.symm))
                      refine ⟨fun _ => hS, ?_⟩
                      clear HS
                      have HS := Lib.hid hS
                      have HVG := Lib.hid hvg
                      have HZG : Hid (Fz (fun k => k = W.heap.size) wf wg) := Lib.hid ((Fz.of_below (Below.refl _ _).drew).trans hzg)
                      clear hS hvg hzg
                      refine reg_load 4 HTT.out rfl (by kernel_rfl) (by decide) (fun _ _ _ _ h => h) HS.out rfl ?_
                      apply Exists.intro
                      refine ⟨fun w' hw => by (go_simp; exact rfl), ?_⟩
                      refine reg_done (by kernel_rfl) ?_
                      go_wp2_with fail
                      exact bodyPost_ret (v := .tuple #[ptr x.pw, Dv.val v { s with closed := cl }, .bool true]) (res_wm _ _ W.heap.size _ _ Tryz.results19 rfl HVG.out) rfl ⟨W.heap.size, x, col, v, by rw [HBSE.out], Nat.le_refl _, by rw [HBSE.out]; exact HW2.out.aside HZG.out (fun g _ e => e ▸ HCR.out), by rw [HBSE.out, HBNE.out]; exact HD2.out.at_ HCR.out HZG.out, HBA2.out.trans (HZG.out.below HBA2.out.size (fun k hk => by omega))⟩
end Go.Proofs.YthmdiaingolfnaaGreatDoor.Wo
