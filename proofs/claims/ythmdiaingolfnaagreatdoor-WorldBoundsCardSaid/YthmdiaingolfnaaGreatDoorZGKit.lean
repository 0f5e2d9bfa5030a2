/- A part of the claim: the texts BoundsKit BoundsLong RawOpen. -/
import Derived.Test.YthmdiaingolfnaaGreatDoorZGWorldC
import Derived.Test.YthmdiaingolfnaaGreatDoorZGDocW
import Derived.Test.YthmdiaingolfnaaGreatDoorZRawMake
import Derived.Test.YthmdiaingolfnaaGreatDoorZAwake16
import Derived.Test.YthmdiaingolfnaaGreatDoorZConfCheck
import Derived.Test.YthmdiaingolfnaaGreatDoorZBase1
import Derived.WalkKit
import Derived.ProofKit
namespace Go.Proofs.YthmdiaingolfnaaGreatDoor.Wo
open Go Go.ChangeShapes Go.WideShapes Go.ChangeAt Go.RowKit Go.Maps Rw Hi Mt Ba
open Cn (Cf cfE)
set_option linter.unusedVariables false
def encY (a : Ay) : List Value := [.int .u8 a.do_, .int .u64 a.id, .int .u64 a.n, .int .i64 a.th, .int .i64 a.st]
theorem actY_at {w : World} {B : Nat} {A : Option Addr} {n c : Nat} {xs : List Ay} (h : Rs encY 5 w B A n c xs) {k : Nat} (hk : k < n) :
    ∃ b o x, A = some ⟨b, o, none⟩ ∧ b < B ∧ xs[k]? = some x ∧ w.cell? ⟨b, o + k * 5, none⟩ = some (.int .u8 x.do_) ∧ w.cell? ⟨b, o + k * 5 + 1, none⟩ = some (.int .u64 x.id) ∧ w.cell? ⟨b, o + k * 5 + 2, none⟩ = some (.int .u64 x.n) ∧ w.cell? ⟨b, o + k * 5 + 3, none⟩ = some (.int .i64 x.th) ∧ w.cell? ⟨b, o + k * 5 + 4, none⟩ = some (.int .i64 x.st) := by
  obtain ⟨b, o, x, hA, hb, hx, hc⟩ := h.get hk
  exact ⟨b, o, x, hA, hb, hx, hc 0 _ (by omega) rfl, hc 1 _ (by omega) rfl, hc 2 _ (by omega) rfl, hc 3 _ (by omega) rfl, hc 4 _ (by omega) rfl⟩
set_option maxRecDepth 100000 in
theorem open_acts {H : Type} {enc : TypeId × Value → H} {W : World} {base b0 : Nat} {sp : Nat → Bool} {held : Bool} {v : Value} {d : DataW H} {p : List MemPlace}
    (k0 : Value.okWide Tryz.prog W .any b0 26 v) (h0 : DataW.Trod enc Tryz.prog W base sp held 26 v d p) :
    ∃ A n c xs, v = .slice A n c ∧ Rs encY 5 W W.heap.size A n c xs ∧ ∀ x ∈ xs, x.ok := by
  rcases Lw.slice_structs Tryz.underlying26 Tryz.underlying37 (by kernel_rfl) (by kernel_rfl) k0 h0 with rfl | ⟨ad, len, cap, rfl, hl, hm, hc⟩
  · exact ⟨none, 0, 0, [], rfl, Rs.nil_, fun x hx => by cases hx⟩
  · unfold maxLen at hm
    by_cases h00 : len = 0
    · subst h00
      exact ⟨some ad, 0, cap, [], rfl, Rs.empty _ (by omega), fun x hx => by cases hx⟩
    have hs : ad.spot = none := by
      obtain ⟨x, y, n, hx, _⟩ := hc 0 (by omega) 0 _ rfl
      exact Lw.spot_none (a := ad) hx
    have hall : ∀ i, ∃ q : Ay, i < len → (∀ j u, j < 5 → (encY q)[j]? = some u → W.cell? ⟨ad.block, ad.off + i * 5 + j, none⟩ = some u) ∧ q.ok := by
      intro i
      by_cases hi : i < len
      · obtain ⟨x0, y0, n0, c0, t0⟩ := hc i hi 0 _ rfl
        obtain ⟨x1, y1, n1, c1, t1⟩ := hc i hi 1 _ rfl
        obtain ⟨x2, y2, n2, c2, t2⟩ := hc i hi 2 _ rfl
        obtain ⟨x3, y3, n3, c3, t3⟩ := hc i hi 3 _ rfl
        obtain ⟨x4, y4, n4, c4, t4⟩ := hc i hi 4 _ rfl
        obtain ⟨z0, e0, -, u0⟩ := DataW.trod_int Tryz.underlying5 t0
        obtain ⟨z1, e1, -, u1⟩ := DataW.trod_int Tryz.underlying22 t1
        obtain ⟨z2, e2, -, u2⟩ := DataW.trod_int Tryz.underlying22 t2
        obtain ⟨z3, e3, -, u3⟩ := DataW.trod_int Tryz.underlying3 t3
        obtain ⟨z4, e4, -, u4⟩ := DataW.trod_int Tryz.underlying3 t4
        simp only [List.cons.injEq, and_true] at e0 e1 e2 e3 e4
        subst e0 e1 e2 e3 e4
        rw [Lw.add_eq hs] at c0 c1 c2 c3 c4
        refine ⟨⟨z0, z1, z2, z3, z4⟩, fun _ => ⟨fun j u hj hu => ?_, Wd.lo_u8 u0, Wd.lo_u64 u1, Wd.lo_u64 u2, Wd.lo_i64 u3, Wd.lo_i64 u4⟩⟩
        match j, hj, hu with
        | 0, _, hu => simp [encY] at hu; subst hu; exact c0
        | 1, _, hu => simp [encY] at hu; subst hu; exact c1
        | 2, _, hu => simp [encY] at hu; subst hu; exact c2
        | 3, _, hu => simp [encY] at hu; subst hu; exact c3
        | 4, _, hu => simp [encY] at hu; subst hu; exact c4
      · exact ⟨⟨0, 0, 0, 0, 0⟩, fun h => absurd h hi⟩
    obtain ⟨Q, hQ⟩ := Classical.axiomOfChoice hall
    have hblk : ad.block < W.heap.size := Lw.lt_heap (a := ⟨ad.block, ad.off + 0 * 5 + 0, none⟩) ((hQ 0 (by omega)).1 0 _ (by omega) rfl)
    refine ⟨some ad, len, cap, (List.range len).map Q, rfl, ⟨by simp, hl, by omega, fun _ => ⟨ad.block, ad.off, by cases ad; simp at hs; subst hs; rfl, hblk, fun j x hx i u hi hu => ?_⟩⟩, fun x hx => ?_⟩
    · obtain ⟨hj, rfl⟩ := List.getElem?_eq_some_iff.1 hx
      simp at hj hu
      exact (hQ j hj).1 i u hi hu
    · obtain ⟨i, hi, rfl⟩ := List.mem_map.1 hx
      exact (hQ i (List.mem_range.1 hi)).2
abbrev ccs (c : Cf) : List Value := [.int .i64 c.max, .int .i64 c.min, .int .u64 c.idle, .int .u64 c.life, .int .u64 c.keep, .int .u64 c.leak, .float .f64 c.var]
theorem th_conf (w : World) : (w.alloc (.cells #[.int .i64 0, .int .i64 0, .int .u64 0, .int .u64 0, .int .u64 0, .int .u64 0, .float .f64 0] 30)).there w.heap.size 0 7 := by
  have h1 : (w.alloc (.cells #[.int .i64 0, .int .i64 0, .int .u64 0, .int .u64 0, .int .u64 0, .int .u64 0, .float .f64 0] 30)).heap[w.heap.size]? = some (.cells #[.int .i64 0, .int .i64 0, .int .u64 0, .int .u64 0, .int .u64 0, .int .u64 0, .float .f64 0] 30) := heap_alloc_last _ _
  intro j hj
  refine ⟨?_, ?_⟩
  · rw [cell_of_row _ _ _ _ _ _ h1]; simp; omega
  · unfold World.frozen?; simp only [h1]; rfl
section
variable {ops : Array Oper} {rest : List Oper} {op : Oper} {a : Act} {w : World} {Q : Exit → Act → World → Prop}
theorem load_c (hgd : op.guard = none) (y : Operand) (ho : op.op = .load 30 y) (g : Nat) (hx : a.eval y = .pointer (some ⟨g, 0, none⟩)) (c : Cf) (hv : w.rangeAt g 0 (ccs c))
    (h : wpList Tryz.prog ops Q rest (a.put op.dst c.v) w) : wpList Tryz.prog ops Q (op :: rest) a w :=
  wpList_load_mid hgd 30 y ho g 0 hx _ _ hv Cn.under_c Cn.row_c (by kernel_rfl) h
theorem store_c (hgd : op.guard = none) (y z : Operand) (ho : op.op = .store 30 y z) (g : Nat) (hx : a.eval y = .pointer (some ⟨g, 0, none⟩)) (c : Cf) (hy : a.eval z = c.v) (ht : w.there g 0 7)
    (h : ∀ w', w'.rangeAt g 0 (ccs c) → Fz (fun k => k = g) w w' → wpList Tryz.prog ops Q rest (a.put op.dst undef) w') : wpList Tryz.prog ops Q (op :: rest) a w :=
  wpList_store_mid hgd 30 y z ho g 0 (ccs c).toArray hx hy ht (by kernel_rfl) (by kernel_rfl) (h _ (World.rangeAt_setCells_same w g 0 _ ht) (fz_setCells _ _ _ _))
end
theorem Iv.init (c : Cf) (O : List Bool) (h : 1 ≤ c.max ∧ c.max ≤ 16) : Iv ⟨c, 0, [], [], fun _ => [], [], c.leak, [], [], [], O, [], 0, [], 0, [], 0, false⟩ [] 0 :=
  ⟨rfl, h, ⟨Int.le_refl _, by show (0 : Int) ≤ c.max; omega⟩, ⟨by show (0 : Int) ≤ 0; omega, by show (0 : Int) ≤ 18446744073709551615; omega⟩, Nat.le_refl _, Nat.le_refl _, Nat.le_refl _, Nat.le_refl _, Nat.le_refl _, List.Pairwise.nil, fun q hq => (by cases hq), fun q hq => (by cases hq), rfl⟩
def zv : Dv := ⟨⟨none, 0, 0, none, 0, 0⟩, none, 0, 0, [], none, 0, 0, ⟨none, 0, 0, none, 0, 0, none, 0, 0⟩, none, 0, 0, none, 0, 0, none, 0, none, 0, 0⟩
def zs : Ws := ⟨⟨0, 0, 0, 0, 0, 0, 0⟩, 0, [], [], fun _ => [], [], 0, [], [], [], [], [], 0, [], 0, [], 0, false⟩
theorem zero_w (w : World) : Vw (w.alloc (.cells #[.int .i64 0, .int .i64 0, .int .u64 0, .int .u64 0, .int .u64 0, .int .u64 0, .float .f64 0, .int .u64 0, .slice none 0 0, .slice none 0 0, .slice none 0 0, .slice none 0 0, .int .u64 0, .slice none 0 0, .slice none 0 0, .slice none 0 0, .slice none 0 0, .slice none 0 0, .slice none 0 0, .int .u64 0, .slice none 0 0, .int .i64 0, .bool false] 69)) w.heap.size (zv.cells zs) := by
  obtain ⟨W, e, h, _⟩ := box_w (zv.cells zs) w rfl
  exact e ▸ h
theorem hr3lt {w : World} {g : Nat} {c : Cf} (h : w.rangeAt g 0 (ccs c)) : g < w.heap.size := by
  have := h 0 _ rfl
  exact Lw.lt_heap this
theorem Wo.v {base : Nat} {col : Nat → Nat} {w : World} {x : Wp} {s : Ws} (h : Wo base col w x s) : ∃ col', Wv base col' w x s := by
  obtain ⟨col', hcol⟩ : ∃ col' : Nat → Nat, col' = fun g => if g < w.heap.size then col g else 0 := ⟨_, rfl⟩
  have e1 : ∀ g, g < w.heap.size → col' g = col g := fun g hg => by rw [hcol]; exact if_pos hg
  have e3 : ∀ g, w.heap.size ≤ g → col' g = 0 := fun g hg => by rw [hcol]; show (if g < w.heap.size then col g else 0) = 0; rw [if_neg (by omega)]
  refine ⟨col', x.rs, x.rh, h.recol e1 (fun g hg => ?_), fun g hg => ?_⟩
  · by_cases h3 : g < w.heap.size
    · exact h.lo g (by rw [← e1 g h3]; exact hg)
    · exact absurd (e3 g (by omega)) hg
  · by_cases h3 : g < w.heap.size
    · exact h3
    · exact absurd (e3 g (by omega)) hg
structure Bo (W : World) (bs : Nat) (x : Wp) (c : Cf) (cb : Nat) (w : World) (col : Nat → Nat) (s : Ws) (N : List Int) (k : Nat) : Prop where
  wv : Wv bs col w x s
  hbs : W.heap.size ≤ bs
  iv : Iv s N k
  cf : s.conf = c
  bel : Below W.heap.size W w
  cc : w.cell? ⟨cb, 0, none⟩ = some (.int .i64 c.max)
  c0 : col cb = 0
section
variable {W w w' : World} {bs : Nat} {x : Wp} {c : Cf} {cb : Nat} {col col' : Nat → Nat} {s s' : Ws} {N N' : List Int} {k k' : Nat}
theorem Bo.later (h : Bo W bs x c cb w col s N k) (hb : Below w.heap.size w w') : Bo W bs x c cb w' col s N k :=
  ⟨h.wv.later hb, h.hbs, h.iv, h.cf, h.bel.trans (hb.mono h.bel.size), (hb.cell (p := ⟨cb, 0, none⟩) (Lw.lt_heap h.cc)).trans h.cc, h.c0⟩
theorem Bo.turn (h : Bo W bs x c cb w col s N k) (h2 : Wv bs col' w' x s') (hz : Fw col w w') (hl : El w col col') (hi : Iv s' N' k') (hc : s'.conf = s.conf) : Bo W bs x c cb w' col' s' N' k' :=
  ⟨h2, h.hbs, hi, hc.trans h.cf, h.bel.trans (hz.below h.bel.size (fun g hg => Nat.le_trans h.hbs (h.wv.lo g hg.1))), (World.cell?_of_block (a := ⟨cb, 0, none⟩) (hz.block cb (Lw.lt_heap h.cc) (fun e => e.1 h.c0))).trans h.cc, (hl cb (Lw.lt_heap h.cc)).trans h.c0⟩
theorem Bo.play {w5 : World} {d : Nat} (h : Bo W bs x c cb w5 col s N k) (hb : Below w5.heap.size w5 w) (hd : w5.heap.size ≤ d) (hl : El w5 col col') (h2 : Wv bs col' w' x s') (hz : Fp col' d w w') (hv : ∀ g, col' g ≠ 0 → bs ≤ g) (hi : Iv s' N' k') (hc : s'.conf = s.conf) : Bo W bs x c cb w' col' s' N' k' := by
  have hs := h.bel.size
  have hs2 := hb.size
  have hcb := Lw.lt_heap h.cc
  have hcl : cb < w5.heap.size := hcb
  have e0 : col' cb = 0 := (hl cb hcl).trans h.c0
  have h1 := h.later hb
  refine ⟨h2, h.hbs, hi, hc.trans h.cf, h1.bel.trans (hz.below h1.bel.size (fun g hg => ?_)), (World.cell?_of_block (a := ⟨cb, 0, none⟩) (hz.block cb (by have := hb.size; omega) (fun e => ?_))).trans h1.cc, e0⟩
  · rcases hg with hg | hg
    · exact Nat.le_trans h.hbs (hv g hg.1)
    · omega
  · rcases e with e | e
    · exact e.1 e0
    · omega
theorem Yc.fw {q : Nat} {y : Ay} (h : Yc w q y) (hc : col q = 0) (hz : Fw col w w') : Yc w' q y := h.blk (hz.block q h.lt (fun e => e.1 hc))
end
theorem Wv.cin {base : Nat} {col : Nat → Nat} {w : World} {x : Wp} {s : Ws} (h : Wv base col w x s) : ∀ i ∈ s.C, i ≤ s.n := fun i hi => (h.fact.mem i hi).2
end Go.Proofs.YthmdiaingolfnaaGreatDoor.Wo
namespace Go.Proofs.YthmdiaingolfnaaGreatDoor.Wo
open Go Go.ChangeShapes Go.WideShapes Go.ChangeAt Go.RowKit Go.Deep Go.Maps Rw Hi Mt Ba
open Cn (Cf cfE)
set_option linter.unusedVariables false
set_option maxRecDepth 100000 in
theorem bounds_long (c : Cf) (Ao : Option Addr) (no co : Nat) (A0 : Option Addr) (n c0 : Nat) (sh : Int) (W : World) (hT : Tb.Tabs W) (hm : no ≤ 9223372036854775807) (hm' : n ≤ 9223372036854775807) (hl : 60 < no ∨ 80 < n) :
    Calls Tryz.prog 3 #[c.raw, .slice Ao no co, .slice A0 n c0, .int .u8 sh] W fun e w' => e = .returned (.bool true) ∧ Below W.heap.size W w' := by
  have HT := Lib.hid hT
  have HB0 : Hid (Below W.heap.size W (W.alloc (.cells #[.int .i64 c.max, .int .i64 c.min, .int .u64 c.idle, .int .u64 c.life, .int .u64 c.keep, .int .u64 c.leak, .int .u64 c.var] 24))) := Lib.hid ((Below.refl _ _).alloc (Nat.le_refl _) _)
  clear hT
  by_cases h1 : 60 < no
  · have t0 : decide ((60 : Int) < (no : Int)) = true := decide_eq_true (by omega)
    have t0' : decide (60 < no) = true := decide_eq_true (by omega)
    clear hl h1
    go_enter Tryz.func3, Tryz.ntmps3
    go_upto_region 1 with (fail)
    generalize (W.alloc (.cells #[.int .i64 c.max, .int .i64 c.min, .int .u64 c.idle, .int .u64 c.life, .int .u64 c.keep, .int .u64 c.leak, .int .u64 c.var] 24)) = W0 at *
    go_wp2_with fail
    refine (awake16_any W0 (HT.out.below HB0.out)).mono ?_
    rintro e w1 ⟨rfl, b1⟩
    have HB1 := Lib.hid b1
    clear b1
    go_wp2_with fail
    go_ret
    exact ⟨rfl, HB0.out.trans (HB1.out.mono HB0.out.size)⟩
  · have t0 : decide ((60 : Int) < (no : Int)) = false := decide_eq_false (by omega)
    have t0' : decide (60 < no) = false := decide_eq_false (by omega)
    have t1 : decide ((80 : Int) < (n : Int)) = true := decide_eq_true (by omega)
    have t1' : decide (80 < n) = true := decide_eq_true (by omega)
    clear hl h1
    go_enter Tryz.func3, Tryz.ntmps3
    go_upto_region 1 with (fail)
    generalize (W.alloc (.cells #[.int .i64 c.max, .int .i64 c.min, .int .u64 c.idle, .int .u64 c.life, .int .u64 c.keep, .int .u64 c.leak, .int .u64 c.var] 24)) = W0 at *
    go_wp2_with fail
    refine (awake16_any W0 (HT.out.below HB0.out)).mono ?_
    rintro e w1 ⟨rfl, b1⟩
    have HB1 := Lib.hid b1
    clear b1
    go_wp2_with fail
    go_ret
    exact ⟨rfl, HB0.out.trans (HB1.out.mono HB0.out.size)⟩
end Go.Proofs.YthmdiaingolfnaaGreatDoor.Wo
namespace Go.Proofs.YthmdiaingolfnaaGreatDoor.Cn
open Go Go.ChangeShapes Go.WideShapes Go.ChangeAt Go.RowKit Go.Deep Rw
set_option linter.unusedVariables false
set_option maxRecDepth 100000 in
theorem open_raw {H : Type} {enc : TypeId × Value → H} {W : World} {base b0 : Nat} {sp : Nat → Bool} {held : Bool} {v : Value} {d : DataW H} {p : List MemPlace}
    (k0 : Value.okWide Tryz.prog W .any b0 24 v) (h0 : DataW.Trod enc Tryz.prog W base sp held 24 v d p) :
    ∃ c : Cf, v = .agg #[.int .i64 c.max, .int .i64 c.min, .int .u64 c.idle, .int .u64 c.life, .int .u64 c.keep, .int .u64 c.leak, .int .u64 c.var] ∧ c.ok := by
  have k1 : Tryz.prog.cellsOf 22 = 1 := by kernel_rfl
  have k2 : Tryz.prog.cellsOf 3 = 1 := by kernel_rfl
  obtain ⟨cs, rfl, hn⟩ := okWide_struct Tryz.underlying24 k0
  obtain ⟨fuel, hf⟩ := h0
  obtain ⟨xs, n, _, -, hl, hlen, hf⟩ := DataW.trod_struct Tryz.underlying24 hf
  have hcs : cs.size = 7 := hn.trans (by kernel_rfl)
  have hsome : ∀ i, i < 7 → ∃ y, xs[i]? = some y := fun i hi => ⟨xs[i]'(by rw [hlen]; exact hi), List.getElem?_eq_getElem (by rw [hlen]; exact hi)⟩
  obtain ⟨l⟩ := cs
  match l, hcs, hf with
  | [a0, a1, a2, a3, a4, a5, a6], _, hf =>
    obtain ⟨y0, g0⟩ := hsome 0 (by decide)
    have q0 := hf 0 _ rfl
    rw [g0] at q0
    obtain ⟨z0, e0, -, u0⟩ := DataW.trod_int Tryz.underlying3 q0
    simp [Value.cells, k2] at e0
    obtain ⟨y1, g1⟩ := hsome 1 (by decide)
    have q1 := hf 1 _ rfl
    rw [g1] at q1
    obtain ⟨z1, e1, -, u1⟩ := DataW.trod_int Tryz.underlying3 q1
    simp [Value.cells, k2] at e1
    obtain ⟨y2, g2⟩ := hsome 2 (by decide)
    have q2 := hf 2 _ rfl
    rw [g2] at q2
    obtain ⟨z2, e2, -, u2⟩ := DataW.trod_int Tryz.underlying22 q2
    simp [Value.cells, k1] at e2
    obtain ⟨y3, g3⟩ := hsome 3 (by decide)
    have q3 := hf 3 _ rfl
    rw [g3] at q3
    obtain ⟨z3, e3, -, u3⟩ := DataW.trod_int Tryz.underlying22 q3
    simp [Value.cells, k1] at e3
    obtain ⟨y4, g4⟩ := hsome 4 (by decide)
    have q4 := hf 4 _ rfl
    rw [g4] at q4
    obtain ⟨z4, e4, -, u4⟩ := DataW.trod_int Tryz.underlying22 q4
    simp [Value.cells, k1] at e4
    obtain ⟨y5, g5⟩ := hsome 5 (by decide)
    have q5 := hf 5 _ rfl
    rw [g5] at q5
    obtain ⟨z5, e5, -, u5⟩ := DataW.trod_int Tryz.underlying22 q5
    simp [Value.cells, k1] at e5
    obtain ⟨y6, g6⟩ := hsome 6 (by decide)
    have q6 := hf 6 _ rfl
    rw [g6] at q6
    obtain ⟨z6, e6, -, u6⟩ := DataW.trod_int Tryz.underlying22 q6
    simp [Value.cells, k1] at e6
    subst e0 e1 e2 e3 e4 e5 e6
    have u6' := Wd.lo_u64 u6
    refine ⟨⟨z0, z1, z2, z3, z4, z5, z6.toNat⟩, ?_, ⟨Wd.lo_u64 u2, Wd.lo_u64 u3, Wd.lo_u64 u4, Wd.lo_u64 u5, ?_⟩⟩
    · show _ = Value.agg #[_, _, _, _, _, _, .int .u64 ((z6.toNat : Nat) : Int)]
      rw [Int.toNat_of_nonneg u6'.1]
    · show z6.toNat < 18446744073709551616
      omega
end Go.Proofs.YthmdiaingolfnaaGreatDoor.Cn
