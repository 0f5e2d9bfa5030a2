/- A part of the claim: the texts Awake13. -/
import Derived.Test.YthmdiaingolfnaaGreatDoorZFltF
import Derived.Test.YthmdiaingolfnaaGreatDoorZBase3
import Derived.Test.YthmdiaingolfnaaGreatDoorZStabZ
import Derived.Test.YthmdiaingolfnaaGreatDoorZBase5
namespace Go.Proofs.YthmdiaingolfnaaGreatDoor.Cn
open Go.ChangeShapes Go.WideShapes Go.ChangeAt Go.RowKit Rw Go.Shelf Go.Sort Tx
set_option linter.unusedVariables false
abbrev dflt : Value := .agg #[.int .i64 4, .int .i64 1, .int .u64 100, .int .u64 1000, .int .u64 50, .int .u64 200, .float .f64 4598175219545276416]
theorem default_any (w : World) : Calls Tryz.prog 65 #[] w fun e w' => e = .returned dflt ∧ Below w.heap.size w w' := by
  go_enter Tryz.func65, Tryz.ntmps65
  have rs : ∀ (w : World) (a : Addr) (b : Nat), (store a (.float .f64 b)).run Tryz.prog w = stored Tryz.prog w a (.float .f64 b) .plain := fun w a b => run_store Tryz.prog w a _ .plain rfl
  go_wp2_with fail
  refine bodyPost_ret (v := dflt) ?_ rfl ⟨rfl, (Below.refl _ _).alloc (Nat.le_refl _) _⟩
  simp [results, Tryz.results65, go_sem]
  trace_state
def wds : List (List UInt8) := [[52], [49], [49, 48, 48], [49, 48, 48, 48], [53, 48], [50, 48, 48], [48, 46, 50, 53]]
def box7 (g : Nat) (w : World) : Prop := w.cell? ⟨g, 0, none⟩ = some (.int .i64 4) ∧ w.cell? ⟨g, 1, none⟩ = some (.int .i64 1) ∧ w.cell? ⟨g, 2, none⟩ = some (.int .u64 100) ∧ w.cell? ⟨g, 3, none⟩ = some (.int .u64 1000) ∧ w.cell? ⟨g, 4, none⟩ = some (.int .u64 50) ∧
  w.cell? ⟨g, 5, none⟩ = some (.int .u64 200) ∧ w.cell? ⟨g, 6, none⟩ = some (.float .f64 4598175219545276416)
theorem box7.below {g : Nat} {w w' : World} (h : box7 g w) (hb : Below w.heap.size w w') : box7 g w' := by
  obtain ⟨h0, h1, h2, h3, h4, h5, h6⟩ := h
  exact ⟨(hb.cell (p := ⟨g, 0, none⟩) (Lw.lt_heap h0)).trans h0, (hb.cell (p := ⟨g, 1, none⟩) (Lw.lt_heap h1)).trans h1, (hb.cell (p := ⟨g, 2, none⟩) (Lw.lt_heap h2)).trans h2, (hb.cell (p := ⟨g, 3, none⟩) (Lw.lt_heap h3)).trans h3, (hb.cell (p := ⟨g, 4, none⟩) (Lw.lt_heap h4)).trans h4, (hb.cell (p := ⟨g, 5, none⟩) (Lw.lt_heap h5)).trans h5, (hb.cell (p := ⟨g, 6, none⟩) (Lw.lt_heap h6)).trans h6⟩
theorem dflt_box (w : World) (t : TypeId) : box7 w.heap.size (w.alloc (.cells #[.int .i64 4, .int .i64 1, .int .u64 100, .int .u64 1000, .int .u64 50, .int .u64 200, .float .f64 4598175219545276416] t)) := by
  refine ⟨?_, ?_, ?_, ?_, ?_, ?_, ?_⟩ <;> simp
def empty7 (B g : Nat) (w : World) : Prop := B ≤ g ∧ g < w.heap.size ∧ w.heap[g]? = some (.cells #[.string ⟨#[]⟩, .string ⟨#[]⟩, .string ⟨#[]⟩, .string ⟨#[]⟩, .string ⟨#[]⟩, .string ⟨#[]⟩, .string ⟨#[]⟩] 259 (0, 0))
def tD (B : Nat) : Nat → Value → World → Prop
  | 2, v, _ => v = .string (bts [52])
  | 5, v, _ => v = .string (bts [49])
  | 8, v, _ => v = .string (bts [49, 48, 48])
  | 11, v, _ => v = .string (bts [49, 48, 48, 48])
  | 14, v, _ => v = .string (bts [53, 48])
  | 17, v, _ => v = .string (bts [50, 48, 48])
  | 20, v, _ => v = .float .f64 4598175219545276416
  | 21, v, _ => v = .string (bts [48, 46, 50, 53])
  | 22, v, _ => v = .agg #[.string (bts [52]), .string (bts [49]), .string (bts [49, 48, 48]), .string (bts [49, 48, 48, 48]), .string (bts [53, 48]), .string (bts [50, 48, 48]), .string (bts [48, 46, 50, 53])]
  | 23, v, w => ∃ g, v = .pointer (some ⟨g, 0, none⟩) ∧ empty7 B g w
  | _, _, _ => True
theorem tD_mono (B : Nat) (i : Nat) (v : Value) (w w' : World) (h : tD B i v w) (hb : Below w.heap.size w w') : tD B i v w' := by
  unfold tD at *
  split at h
  all_goals first
    | exact h
    | (obtain ⟨g, e1, e2, e3, e4⟩ := h; exact ⟨g, e1, e2, Nat.lt_of_lt_of_le e3 hb.size, (hb.block g e3).trans e4⟩)
def Words (L : Nat → List UInt8) (g : Nat) (w : World) : Prop := ∀ j, j < 7 → w.cell? ⟨g, j, none⟩ = some (.string (bts (L j))) ∧ w.frozen? ⟨g, j, none⟩ = false
def upd (L : Nat → List UInt8) (i : Nat) (s : List UInt8) : Nat → List UInt8 := fun j => if j = i then s else L j
theorem Words.set {L : Nat → List UInt8} {g : Nat} {w : World} (h : Words L g w) (i : Nat) (hi : i < 7) (s : List UInt8) : Words (upd L i s) g (w.setCell ⟨g, i, none⟩ (.string (bts s))) := by
  intro j hj
  unfold upd
  by_cases e : j = i
  · subst e
    rw [if_pos rfl]
    exact ⟨World.cell?_setCell_same _ _ _ (h j hj).1, by simpa using (h j hj).2⟩
  · rw [if_neg e]
    exact ⟨(World.cell?_setCell_other _ _ _ _ (fun e2 => e (by injection e2 with _ e2; exact e2.symm))).trans (h j hj).1, by simpa using (h j hj).2⟩
theorem Words.same {L L' : Nat → List UInt8} {g : Nat} {w : World} (h : Words L g w) (he : ∀ j, j < 7 → L' j = L j) : Words L' g w := fun j hj => by rw [he j hj]; exact h j hj
def word (i j : Nat) : List UInt8 := if j < i then Tb.keyT.getD j [] ++ wds.getD j [] else wds.getD j []
theorem word_next (i : Nat) : upd (word i) i (Tb.keyT.getD i [] ++ wds.getD i []) = word (i + 1) := by
  funext j
  unfold upd word
  by_cases e : j = i
  · subst e; rw [if_pos rfl, if_pos (by omega)]
  · rw [if_neg e]
    by_cases h : j < i
    · rw [if_pos h, if_pos (by omega)]
    · rw [if_neg h, if_neg (by omega)]
theorem empty_words {B g : Nat} {w : World} (h : empty7 B g w) : Words (fun _ => []) g w := by
  intro j hj
  unfold World.cell? World.frozen?
  simp only [h.2.2]
  match j, hj with
  | 0, _ => exact ⟨rfl, rfl⟩
  | 1, _ => exact ⟨rfl, rfl⟩
  | 2, _ => exact ⟨rfl, rfl⟩
  | 3, _ => exact ⟨rfl, rfl⟩
  | 4, _ => exact ⟨rfl, rfl⟩
  | 5, _ => exact ⟨rfl, rfl⟩
  | 6, _ => exact ⟨rfl, rfl⟩
  | i + 7, h => exact absurd h (by omega)
theorem words0 {g : Nat} {w : World} (h : Words (fun _ => []) g w) :
    Words (word 0) g (((((((w.setCell ⟨g, 0, none⟩ (.string (bts [52]))).setCell ⟨g, 1, none⟩ (.string (bts [49]))).setCell ⟨g, 2, none⟩ (.string (bts [49, 48, 48]))).setCell ⟨g, 3, none⟩ (.string (bts [49, 48, 48, 48]))).setCell ⟨g, 4, none⟩ (.string (bts [53, 48]))).setCell ⟨g, 5, none⟩ (.string (bts [50, 48, 48]))).setCell ⟨g, 6, none⟩ (.string (bts [48, 46, 50, 53]))) := by
  refine (((((((h.set 0 (by omega) _).set 1 (by omega) _).set 2 (by omega) _).set 3 (by omega) _).set 4 (by omega) _).set 5 (by omega) _).set 6 (by omega) _).same ?_
  intro j hj
  match j, hj with
  | 0, _ => rfl
  | 1, _ => rfl
  | 2, _ => rfl
  | 3, _ => rfl
  | 4, _ => rfl
  | 5, _ => rfl
  | 6, _ => rfl
  | i + 7, h => exact absurd h (by omega)
def dtext : List UInt8 := [109, 97, 120, 61, 52, 32, 109, 105, 110, 61, 49, 32, 105, 100, 108, 101, 61, 49, 48, 48, 32, 108, 105, 102, 101, 61, 49, 48, 48, 48, 32, 107, 101, 101, 112, 61, 53, 48, 32, 108, 101, 97, 107, 61, 50, 48, 48, 32, 118, 97, 114, 105, 97, 110, 99, 101, 61, 48, 46, 50, 53]
def dws : List ByteArray := [bts [109, 97, 120, 61, 52], bts [109, 105, 110, 61, 49], bts [105, 100, 108, 101, 61, 49, 48, 48], bts [108, 105, 102, 101, 61, 49, 48, 48, 48], bts [107, 101, 101, 112, 61, 53, 48], bts [108, 101, 97, 107, 61, 50, 48, 48], bts [118, 97, 114, 105, 97, 110, 99, 101, 61, 48, 46, 50, 53]]
theorem join_dtext : Lib.join (dws.map (·.data.toList)) [32] = dtext := by decide +kernel
theorem join_dflt (g : Nat) (w : World) (h : Words (word 7) g w) (hg : g < w.heap.size) :
    Calls Tryz.prog 168 #[.slice (some ⟨g, 0, none⟩) 7 7, .string ⟨#[32]⟩] w fun e w' => e = .returned (.string (bts dtext)) ∧ Below w.heap.size w w' := by
  have J := Any.strings_Join (P := Tryz.prog) (ρ := txRen) txJoin txExtra g 0 7 dws (bts [32]) w (fun j x hx => by
    rw [Nat.zero_add]
    match j, hx with
    | 0, hx => injection hx with hx; subst hx; exact (h 0 (by omega)).1
    | 1, hx => injection hx with hx; subst hx; exact (h 1 (by omega)).1
    | 2, hx => injection hx with hx; subst hx; exact (h 2 (by omega)).1
    | 3, hx => injection hx with hx; subst hx; exact (h 3 (by omega)).1
    | 4, hx => injection hx with hx; subst hx; exact (h 4 (by omega)).1
    | 5, hx => injection hx with hx; subst hx; exact (h 5 (by omega)).1
    | 6, hx => injection hx with hx; subst hx; exact (h 6 (by omega)).1) hg (by simp [dws]) (by simp [dws]) (by rw [show (bts [32]).data.toList = [32] from rfl, join_dtext]; decide)
  exact J.mono fun e w' ⟨h1, h2⟩ => ⟨by rw [h1, show (bts [32]).data.toList = [32] from rfl, join_dtext]; rfl, h2⟩
theorem it_small : Lib.itoa 4 = [52] ∧ Lib.itoa 1 = [49] ∧ Lib.itoa 100 = [49, 48, 48] ∧ Lib.itoa 1000 = [49, 48, 48, 48] ∧ Lib.itoa 50 = [53, 48] ∧ Lib.itoa 200 = [50, 48, 48] := by
  refine ⟨?_, ?_, ?_, ?_, ?_, ?_⟩ <;> simp [Lib.itoa, Lib.decDigits]
set_option maxHeartbeats 1500000 in
set_option maxRecDepth 100000 in
theorem text_dflt (w : World) (hT : Tb.Tabs w) :
    Calls Tryz.prog 157 #[dflt] w fun e w' => e = .returned (.tuple #[.string (bts dtext), .int .i64 0]) ∧ Below w.heap.size w w' := by
  have HT := Lib.hid hT
  clear hT
  unfold dflt
  go_enter Tryz.func157, Tryz.ntmps157
  go_wp2_with fail
  refine (Ff.ccheck_q _).mono ?_
  rintro e W ⟨rfl, hbW⟩
  have bx : box7 w.heap.size W := (dflt_box w _).below hbW
  have bW : Below w.heap.size w W := ((Below.refl _ w).alloc (Nat.le_refl _) _).trans (hbW.mono (by simp))
  have HBX := Lib.hid bx
  have HBW := Lib.hid bW
  have hsW : w.heap.size < W.heap.size := by have := hbW.size; simp at this; omega
  clear hbW bx bW
  go_wp2_with fail
  have d0 : box7 w.heap.size W.drew := HBX.out
  have HD := Lib.hid (show Below W.heap.size W W.drew from (Below.refl _ _).drew)
  refine reg_start 25 (box7 w.heap.size) (by kernel_rfl) (by kernel_rfl) ?_
  intro hT0
  have HA := Lib.hid hT0
  clear hT0
  refine reg_load 0 HA.out rfl (by kernel_rfl) (by decide) (fun _ _ _ _ h => h) d0 rfl ?_
  apply Exists.intro
  refine ⟨fun w' hw => by (obtain ⟨h0, h1, h2, h3, h4, h5, h6⟩ := hw; go_simp; exact rfl), ?_⟩
  refine reg_load 1 HA.out rfl (by kernel_rfl) (by decide) (fun _ _ _ _ h => h) d0 rfl ?_
  apply Exists.intro
  refine ⟨fun w' hw => by (obtain ⟨h0, h1, h2, h3, h4, h5, h6⟩ := hw; go_simp; exact rfl), ?_⟩
  refine reg_load 3 HA.out rfl (by kernel_rfl) (by decide) (fun _ _ _ _ h => h) d0 rfl ?_
  apply Exists.intro
  refine ⟨fun w' hw => by (obtain ⟨h0, h1, h2, h3, h4, h5, h6⟩ := hw; go_simp; exact rfl), ?_⟩
  refine reg_load 4 HA.out rfl (by kernel_rfl) (by decide) (fun _ _ _ _ h => h) d0 rfl ?_
  apply Exists.intro
  refine ⟨fun w' hw => by (obtain ⟨h0, h1, h2, h3, h4, h5, h6⟩ := hw; go_simp; exact rfl), ?_⟩
  refine reg_load 6 HA.out rfl (by kernel_rfl) (by decide) (fun _ _ _ _ h => h) d0 rfl ?_
  apply Exists.intro
  refine ⟨fun w' hw => by (obtain ⟨h0, h1, h2, h3, h4, h5, h6⟩ := hw; go_simp; exact rfl), ?_⟩
  refine reg_load 7 HA.out rfl (by kernel_rfl) (by decide) (fun _ _ _ _ h => h) d0 rfl ?_
  apply Exists.intro
  refine ⟨fun w' hw => by (obtain ⟨h0, h1, h2, h3, h4, h5, h6⟩ := hw; go_simp; exact rfl), ?_⟩
  refine reg_load 9 HA.out rfl (by kernel_rfl) (by decide) (fun _ _ _ _ h => h) d0 rfl ?_
  apply Exists.intro
  refine ⟨fun w' hw => by (obtain ⟨h0, h1, h2, h3, h4, h5, h6⟩ := hw; go_simp; exact rfl), ?_⟩
  refine reg_load 10 HA.out rfl (by kernel_rfl) (by decide) (fun _ _ _ _ h => h) d0 rfl ?_
  apply Exists.intro
  refine ⟨fun w' hw => by (obtain ⟨h0, h1, h2, h3, h4, h5, h6⟩ := hw; go_simp; exact rfl), ?_⟩
  refine reg_load 12 HA.out rfl (by kernel_rfl) (by decide) (fun _ _ _ _ h => h) d0 rfl ?_
  apply Exists.intro
  refine ⟨fun w' hw => by (obtain ⟨h0, h1, h2, h3, h4, h5, h6⟩ := hw; go_simp; exact rfl), ?_⟩
  refine reg_load 13 HA.out rfl (by kernel_rfl) (by decide) (fun _ _ _ _ h => h) d0 rfl ?_
  apply Exists.intro
  refine ⟨fun w' hw => by (obtain ⟨h0, h1, h2, h3, h4, h5, h6⟩ := hw; go_simp; exact rfl), ?_⟩
  refine reg_load 15 HA.out rfl (by kernel_rfl) (by decide) (fun _ _ _ _ h => h) d0 rfl ?_
  apply Exists.intro
  refine ⟨fun w' hw => by (obtain ⟨h0, h1, h2, h3, h4, h5, h6⟩ := hw; go_simp; exact rfl), ?_⟩
  refine reg_load 16 HA.out rfl (by kernel_rfl) (by decide) (fun _ _ _ _ h => h) d0 rfl ?_
  apply Exists.intro
  refine ⟨fun w' hw => by (obtain ⟨h0, h1, h2, h3, h4, h5, h6⟩ := hw; go_simp; exact rfl), ?_⟩
  refine reg_load 18 HA.out rfl (by kernel_rfl) (by decide) (fun _ _ _ _ h => h) d0 rfl ?_
  apply Exists.intro
  refine ⟨fun w' hw => by (obtain ⟨h0, h1, h2, h3, h4, h5, h6⟩ := hw; go_simp; exact rfl), ?_⟩
  refine reg_load 19 HA.out rfl (by kernel_rfl) (by decide) (fun _ _ _ _ h => h) d0 rfl ?_
  apply Exists.intro
  refine ⟨fun w' hw => by (obtain ⟨h0, h1, h2, h3, h4, h5, h6⟩ := hw; go_simp; exact rfl), ?_⟩
  refine reg_stable_z 24 [2, 5, 8, 11, 14, 17, 20, 21, 22, 23] (fun w w' => Below w.heap.size w w') (tD W.heap.size) ?_ ?_ ?_ ?_ ?_ ?_ ?_ (fun _ => Below.refl _ _) (fun _ _ _ h1 h2 => h1.trans (h2.mono h1.size)) (tD_mono W.heap.size) (fun _ h => d0.below h) ?_ ?_
  · kernel_rfl
  · kernel_rfl
  · kernel_rfl
  · kernel_rfl
  · kernel_rfl
  · kernel_rfl
  · kernel_rfl
  · refine ⟨?_, ?_, ?_, ?_, ?_, ?_, ?_, ?_, ?_, ?_, trivial⟩
    · intro a' w' val hb hfr hd
      have e1 : a'.tmps[14]?.getD undef = .int .i64 4 := (hfr 14 (by kernel_rfl)).trans (by kernel_rfl)
      clear hfr hd
      refine ⟨_, rfl, ?_⟩
      unfold Oper.wp
      go_simp
      refine (itoa_any 4 (by omega) (by omega) w' (HT.out.tab.below (HBW.out.trans ((HD.out.trans hb).mono HBW.out.size)))).mono ?_
      rintro x w2 ⟨rfl, hb2⟩
      exact ⟨_, rfl, by rw [it_small.1]; rfl, hb2⟩
    · intro a' w' val hb hfr hd
      have e1 : a'.tmps[17]?.getD undef = .int .i64 1 := (hfr 17 (by kernel_rfl)).trans (by kernel_rfl)
      clear hfr hd
      refine ⟨_, rfl, ?_⟩
      unfold Oper.wp
      go_simp
      refine (itoa_any 1 (by omega) (by omega) w' (HT.out.tab.below (HBW.out.trans ((HD.out.trans hb).mono HBW.out.size)))).mono ?_
      rintro x w2 ⟨rfl, hb2⟩
      exact ⟨_, rfl, by rw [it_small.2.1]; rfl, hb2⟩
    · intro a' w' val hb hfr hd
      have e1 : a'.tmps[20]?.getD undef = .int .u64 100 := (hfr 20 (by kernel_rfl)).trans (by kernel_rfl)
      clear hfr hd
      refine ⟨_, rfl, ?_⟩
      unfold Oper.wp
      go_simp
      refine (funit_any 100 (by omega) (by omega) w' (HT.out.tab.below (HBW.out.trans ((HD.out.trans hb).mono HBW.out.size)))).mono ?_
      rintro x w2 ⟨rfl, hb2⟩
      exact ⟨_, rfl, by rw [it_small.2.2.1]; rfl, hb2⟩
    · intro a' w' val hb hfr hd
      have e1 : a'.tmps[23]?.getD undef = .int .u64 1000 := (hfr 23 (by kernel_rfl)).trans (by kernel_rfl)
      clear hfr hd
      refine ⟨_, rfl, ?_⟩
      unfold Oper.wp
      go_simp
      refine (funit_any 1000 (by omega) (by omega) w' (HT.out.tab.below (HBW.out.trans ((HD.out.trans hb).mono HBW.out.size)))).mono ?_
      rintro x w2 ⟨rfl, hb2⟩
      exact ⟨_, rfl, by rw [it_small.2.2.2.1]; rfl, hb2⟩
    · intro a' w' val hb hfr hd
      have e1 : a'.tmps[26]?.getD undef = .int .u64 50 := (hfr 26 (by kernel_rfl)).trans (by kernel_rfl)
      clear hfr hd
      refine ⟨_, rfl, ?_⟩
      unfold Oper.wp
      go_simp
      refine (funit_any 50 (by omega) (by omega) w' (HT.out.tab.below (HBW.out.trans ((HD.out.trans hb).mono HBW.out.size)))).mono ?_
      rintro x w2 ⟨rfl, hb2⟩
      exact ⟨_, rfl, by rw [it_small.2.2.2.2.1]; rfl, hb2⟩
    · intro a' w' val hb hfr hd
      have e1 : a'.tmps[29]?.getD undef = .int .u64 200 := (hfr 29 (by kernel_rfl)).trans (by kernel_rfl)
      clear hfr hd
      refine ⟨_, rfl, ?_⟩
      unfold Oper.wp
      go_simp
      refine (funit_any 200 (by omega) (by omega) w' (HT.out.tab.below (HBW.out.trans ((HD.out.trans hb).mono HBW.out.size)))).mono ?_
      rintro x w2 ⟨rfl, hb2⟩
      exact ⟨_, rfl, by rw [it_small.2.2.2.2.2]; rfl, hb2⟩
    · intro a' w' val hb hfr hd
      have e1 : a'.tmps[32]?.getD undef = .float .f64 4598175219545276416 := (hfr 32 (by kernel_rfl)).trans (by kernel_rfl)
      clear hfr hd
      refine ⟨_, rfl, ?_⟩
      unfold Oper.wp
      go_simp
      refine (Ff.clean_q w').mono ?_
      rintro x w2 ⟨rfl, rfl⟩
      exact ⟨_, rfl, rfl, Below.refl _ _⟩
    · intro a' w' val hb hfr hd
      obtain ⟨q1, s1⟩ := hd 20 (by decide) (by kernel_rfl)
      have e1 := s1 33 (by kernel_rfl)
      clear hfr hd
      rw [show val 20 = .float .f64 4598175219545276416 from q1] at e1
      refine ⟨_, rfl, ?_⟩
      unfold Oper.wp
      go_simp
      refine (Ff.rtext_q w' (HT.out.below (HBW.out.trans ((HD.out.trans hb).mono HBW.out.size)))).mono ?_
      rintro x w2 ⟨rfl, hb2⟩
      exact ⟨_, rfl, rfl, hb2⟩
    · intro a' w' val hb hfr hd
      obtain ⟨q2, s2⟩ := hd 2 (by decide) (by kernel_rfl)
      have e2 := s2 15 (by kernel_rfl)
      rw [show val 2 = .string (bts [52]) from q2] at e2
      obtain ⟨q5, s5⟩ := hd 5 (by decide) (by kernel_rfl)
      have e5 := s5 18 (by kernel_rfl)
      rw [show val 5 = .string (bts [49]) from q5] at e5
      obtain ⟨q8, s8⟩ := hd 8 (by decide) (by kernel_rfl)
      have e8 := s8 21 (by kernel_rfl)
      rw [show val 8 = .string (bts [49, 48, 48]) from q8] at e8
      obtain ⟨q11, s11⟩ := hd 11 (by decide) (by kernel_rfl)
      have e11 := s11 24 (by kernel_rfl)
      rw [show val 11 = .string (bts [49, 48, 48, 48]) from q11] at e11
      obtain ⟨q14, s14⟩ := hd 14 (by decide) (by kernel_rfl)
      have e14 := s14 27 (by kernel_rfl)
      rw [show val 14 = .string (bts [53, 48]) from q14] at e14
      obtain ⟨q17, s17⟩ := hd 17 (by decide) (by kernel_rfl)
      have e17 := s17 30 (by kernel_rfl)
      rw [show val 17 = .string (bts [50, 48, 48]) from q17] at e17
      obtain ⟨q21, s21⟩ := hd 21 (by decide) (by kernel_rfl)
      have e21 := s21 34 (by kernel_rfl)
      rw [show val 21 = .string (bts [48, 46, 50, 53]) from q21] at e21
      clear hfr hd
      refine ⟨_, rfl, ?_⟩
      unfold Oper.wp
      go_simp
      exact ⟨_, rfl, rfl, Below.refl _ _⟩
    · intro a' w' val hb hfr hd
      clear hfr hd
      refine ⟨_, rfl, ?_⟩
      unfold Oper.wp
      go_simp
      exact ⟨_, rfl, ⟨w'.heap.size, rfl, (HD.out.trans hb).size, by simp, (Go.MapKept.heap_alloc w' _).1⟩, (Below.refl _ _).alloc (Nat.le_refl _) _⟩
  · intro val w' hE hb
    have hb' : Below W.heap.size W w' := HD.out.trans hb
    obtain ⟨p2, p5, p8, p11, p14, p17, p20, p21, p22, p23, -⟩ := hE
    have e22 : val 22 = .agg #[.string (bts [52]), .string (bts [49]), .string (bts [49, 48, 48]), .string (bts [49, 48, 48, 48]), .string (bts [53, 48]), .string (bts [50, 48, 48]), .string (bts [48, 46, 50, 53])] := p22
    obtain ⟨g, e23, hg0, hg1, hg2⟩ : ∃ g, val 23 = .pointer (some ⟨g, 0, none⟩) ∧ empty7 W.heap.size g w' := p23
    clear p2 p5 p8 p11 p14 p17 p20 p21 p22
    simp only [puts, dstOf]
    have hc := empty_words ⟨hg0, hg1, hg2⟩
    have HC := Lib.hid hc
    obtain ⟨c0, f0⟩ := hc 0 (by omega)
    obtain ⟨c1, f1⟩ := hc 1 (by omega)
    obtain ⟨c2, f2⟩ := hc 2 (by omega)
    obtain ⟨c3, f3⟩ := hc 3 (by omega)
    obtain ⟨c4, f4⟩ := hc 4 (by omega)
    obtain ⟨c5, f5⟩ := hc 5 (by omega)
    obtain ⟨c6, f6⟩ := hc 6 (by omega)
    clear hc
    refine reg_only 24 rfl (by kernel_rfl) rfl ?_
    unfold Oper.wp
    go_simp
    obtain ⟨W9, hW9⟩ : ∃ W9, W9 = ((((((w'.setCell ⟨g, 0, none⟩ (.string (bts [52]))).setCell ⟨g, 1, none⟩ (.string (bts [49]))).setCell ⟨g, 2, none⟩ (.string (bts [49, 48, 48]))).setCell ⟨g, 3, none⟩ (.string (bts [49, 48, 48, 48]))).setCell ⟨g, 4, none⟩ (.string (bts [53, 48]))).setCell ⟨g, 5, none⟩ (.string (bts [50, 48, 48]))).setCell ⟨g, 6, none⟩ (.string (bts [48, 46, 50, 53])) := ⟨_, rfl⟩
    have hb9 : Below W.heap.size W W9 := by
      rw [hW9]
      exact ((((((hb'.setCell hg0 _).setCell hg0 _).setCell hg0 _).setCell hg0 _).setCell hg0 _).setCell hg0 _).setCell hg0 _
    have hw9 : Words (word 0) g W9 := by rw [hW9]; exact words0 HC.out
    rw [← hW9]
    refine ⟨HBX.out.below hb9, ?_⟩
    have HB9 := Lib.hid hb9
    have HW9 := Lib.hid hw9
    have hk := (HT.out.below (HBW.out.trans (hb9.mono HBW.out.size))).keys
    have hg9 : g < W9.heap.size := by rw [hW9]; simpa using hg1
    obtain ⟨k0, k0c⟩ := hk 0 _ rfl
    obtain ⟨-, k1c⟩ := hk 1 _ rfl
    obtain ⟨-, k2c⟩ := hk 2 _ rfl
    obtain ⟨-, k3c⟩ := hk 3 _ rfl
    obtain ⟨-, k4c⟩ := hk 4 _ rfl
    obtain ⟨-, k5c⟩ := hk 5 _ rfl
    obtain ⟨-, k6c⟩ := hk 6 _ rfl
    clear hW9 hb9 hw9 hb hb' c0 c1 c2 c3 c4 c5 c6 f0 f1 f2 f3 f4 f5 f6 e22 e23 hk hg1 hg2
    refine reg_done (by kernel_rfl) ?_
    go_wp2_with fail
    clear k0c k1c k2c k3c k4c k5c k6c
    go_loopw [37] (fun s37 wr => ∃ i : Nat, i ≤ 7 ∧ s37 = .int .i64 i ∧ g < wr.heap.size ∧ Hid (Words (word i) g wr ∧ Below W.heap.size W wr)) (fun s37 _ => 7 - (intOf s37).toNat)
    case atStart => exact ⟨0, by omega, rfl, hg9, HW9.out, HB9.out⟩
    case round =>
      clear HW9 HB9 hg9
      obtain ⟨i, hi, rfl, hgr, hrr⟩ := hrel
      rcases (show i = 0 ∨ i = 1 ∨ i = 2 ∨ i = 3 ∨ i = 4 ∨ i = 5 ∨ i = 6 ∨ i = 7 by omega) with rfl | rfl | rfl | rfl | rfl | rfl | rfl | rfl
      · have hidx : ∀ w, (Instr.index 259 (.agg #[.string (bts [109, 97, 120, 61]), .string (bts [109, 105, 110, 61]), .string (bts [105, 100, 108, 101, 61]), .string (bts [108, 105, 102, 101, 61]), .string (bts [107, 101, 101, 112, 61]), .string (bts [108, 101, 97, 107, 61]), .string (bts [118, 97, 114, 105, 97, 110, 99, 101, 61])]) (.int .i64 0)).run Tryz.prog w = .ok (.string (bts [109, 97, 120, 61])) w := fun w => by kernel_rfl
        have hadd : ∀ w, (binOp .add 9 (.string (bts [109, 97, 120, 61])) (.string (bts [52]))).run Tryz.prog w = .ok (.string (bts [109, 97, 120, 61, 52])) w := fun w => by kernel_rfl
        obtain ⟨cc, ff⟩ : wr.cell? ⟨g, 0, none⟩ = some (.string (bts [52])) ∧ wr.frozen? ⟨g, 0, none⟩ = false := hrr.out.1 0 (by omega)
        go_wp2_with fail
        go_roundw
        case rel => exact ⟨1, by omega, rfl, by simpa using hgr, word_next 0 ▸ hrr.out.1.set 0 (by omega) _, hrr.out.2.setCell hg0 _⟩
        case measure => simp [intOf]
      · have hidx : ∀ w, (Instr.index 259 (.agg #[.string (bts [109, 97, 120, 61]), .string (bts [109, 105, 110, 61]), .string (bts [105, 100, 108, 101, 61]), .string (bts [108, 105, 102, 101, 61]), .string (bts [107, 101, 101, 112, 61]), .string (bts [108, 101, 97, 107, 61]), .string (bts [118, 97, 114, 105, 97, 110, 99, 101, 61])]) (.int .i64 1)).run Tryz.prog w = .ok (.string (bts [109, 105, 110, 61])) w := fun w => by kernel_rfl
        have hadd : ∀ w, (binOp .add 9 (.string (bts [109, 105, 110, 61])) (.string (bts [49]))).run Tryz.prog w = .ok (.string (bts [109, 105, 110, 61, 49])) w := fun w => by kernel_rfl
        obtain ⟨cc, ff⟩ : wr.cell? ⟨g, 1, none⟩ = some (.string (bts [49])) ∧ wr.frozen? ⟨g, 1, none⟩ = false := hrr.out.1 1 (by omega)
        go_wp2_with fail
        go_roundw
        case rel => exact ⟨2, by omega, rfl, by simpa using hgr, word_next 1 ▸ hrr.out.1.set 1 (by omega) _, hrr.out.2.setCell hg0 _⟩
        case measure => simp [intOf]
      · have hidx : ∀ w, (Instr.index 259 (.agg #[.string (bts [109, 97, 120, 61]), .string (bts [109, 105, 110, 61]), .string (bts [105, 100, 108, 101, 61]), .string (bts [108, 105, 102, 101, 61]), .string (bts [107, 101, 101, 112, 61]), .string (bts [108, 101, 97, 107, 61]), .string (bts [118, 97, 114, 105, 97, 110, 99, 101, 61])]) (.int .i64 2)).run Tryz.prog w = .ok (.string (bts [105, 100, 108, 101, 61])) w := fun w => by kernel_rfl
        have hadd : ∀ w, (binOp .add 9 (.string (bts [105, 100, 108, 101, 61])) (.string (bts [49, 48, 48]))).run Tryz.prog w = .ok (.string (bts [105, 100, 108, 101, 61, 49, 48, 48])) w := fun w => by kernel_rfl
        obtain ⟨cc, ff⟩ : wr.cell? ⟨g, 2, none⟩ = some (.string (bts [49, 48, 48])) ∧ wr.frozen? ⟨g, 2, none⟩ = false := hrr.out.1 2 (by omega)
        go_wp2_with fail
        go_roundw
        case rel => exact ⟨3, by omega, rfl, by simpa using hgr, word_next 2 ▸ hrr.out.1.set 2 (by omega) _, hrr.out.2.setCell hg0 _⟩
        case measure => simp [intOf]
      · have hidx : ∀ w, (Instr.index 259 (.agg #[.string (bts [109, 97, 120, 61]), .string (bts [109, 105, 110, 61]), .string (bts [105, 100, 108, 101, 61]), .string (bts [108, 105, 102, 101, 61]), .string (bts [107, 101, 101, 112, 61]), .string (bts [108, 101, 97, 107, 61]), .string (bts [118, 97, 114, 105, 97, 110, 99, 101, 61])]) (.int .i64 3)).run Tryz.prog w = .ok (.string (bts [108, 105, 102, 101, 61])) w := fun w => by kernel_rfl
        have hadd : ∀ w, (binOp .add 9 (.string (bts [108, 105, 102, 101, 61])) (.string (bts [49, 48, 48, 48]))).run Tryz.prog w = .ok (.string (bts [108, 105, 102, 101, 61, 49, 48, 48, 48])) w := fun w => by kernel_rfl
        obtain ⟨cc, ff⟩ : wr.cell? ⟨g, 3, none⟩ = some (.string (bts [49, 48, 48, 48])) ∧ wr.frozen? ⟨g, 3, none⟩ = false := hrr.out.1 3 (by omega)
        go_wp2_with fail
        go_roundw
        case rel => exact ⟨4, by omega, rfl, by simpa using hgr, word_next 3 ▸ hrr.out.1.set 3 (by omega) _, hrr.out.2.setCell hg0 _⟩
        case measure => simp [intOf]
      · have hidx : ∀ w, (Instr.index 259 (.agg #[.string (bts [109, 97, 120, 61]), .string (bts [109, 105, 110, 61]), .string (bts [105, 100, 108, 101, 61]), .string (bts [108, 105, 102, 101, 61]), .string (bts [107, 101, 101, 112, 61]), .string (bts [108, 101, 97, 107, 61]), .string (bts [118, 97, 114, 105, 97, 110, 99, 101, 61])]) (.int .i64 4)).run Tryz.prog w = .ok (.string (bts [107, 101, 101, 112, 61])) w := fun w => by kernel_rfl
        have hadd : ∀ w, (binOp .add 9 (.string (bts [107, 101, 101, 112, 61])) (.string (bts [53, 48]))).run Tryz.prog w = .ok (.string (bts [107, 101, 101, 112, 61, 53, 48])) w := fun w => by kernel_rfl
        obtain ⟨cc, ff⟩ : wr.cell? ⟨g, 4, none⟩ = some (.string (bts [53, 48])) ∧ wr.frozen? ⟨g, 4, none⟩ = false := hrr.out.1 4 (by omega)
        go_wp2_with fail
        go_roundw
        case rel => exact ⟨5, by omega, rfl, by simpa using hgr, word_next 4 ▸ hrr.out.1.set 4 (by omega) _, hrr.out.2.setCell hg0 _⟩
        case measure => simp [intOf]
      · have hidx : ∀ w, (Instr.index 259 (.agg #[.string (bts [109, 97, 120, 61]), .string (bts [109, 105, 110, 61]), .string (bts [105, 100, 108, 101, 61]), .string (bts [108, 105, 102, 101, 61]), .string (bts [107, 101, 101, 112, 61]), .string (bts [108, 101, 97, 107, 61]), .string (bts [118, 97, 114, 105, 97, 110, 99, 101, 61])]) (.int .i64 5)).run Tryz.prog w = .ok (.string (bts [108, 101, 97, 107, 61])) w := fun w => by kernel_rfl
        have hadd : ∀ w, (binOp .add 9 (.string (bts [108, 101, 97, 107, 61])) (.string (bts [50, 48, 48]))).run Tryz.prog w = .ok (.string (bts [108, 101, 97, 107, 61, 50, 48, 48])) w := fun w => by kernel_rfl
        obtain ⟨cc, ff⟩ : wr.cell? ⟨g, 5, none⟩ = some (.string (bts [50, 48, 48])) ∧ wr.frozen? ⟨g, 5, none⟩ = false := hrr.out.1 5 (by omega)
        go_wp2_with fail
        go_roundw
        case rel => exact ⟨6, by omega, rfl, by simpa using hgr, word_next 5 ▸ hrr.out.1.set 5 (by omega) _, hrr.out.2.setCell hg0 _⟩
        case measure => simp [intOf]
      · have hidx : ∀ w, (Instr.index 259 (.agg #[.string (bts [109, 97, 120, 61]), .string (bts [109, 105, 110, 61]), .string (bts [105, 100, 108, 101, 61]), .string (bts [108, 105, 102, 101, 61]), .string (bts [107, 101, 101, 112, 61]), .string (bts [108, 101, 97, 107, 61]), .string (bts [118, 97, 114, 105, 97, 110, 99, 101, 61])]) (.int .i64 6)).run Tryz.prog w = .ok (.string (bts [118, 97, 114, 105, 97, 110, 99, 101, 61])) w := fun w => by kernel_rfl
        have hadd : ∀ w, (binOp .add 9 (.string (bts [118, 97, 114, 105, 97, 110, 99, 101, 61])) (.string (bts [48, 46, 50, 53]))).run Tryz.prog w = .ok (.string (bts [118, 97, 114, 105, 97, 110, 99, 101, 61, 48, 46, 50, 53])) w := fun w => by kernel_rfl
        obtain ⟨cc, ff⟩ : wr.cell? ⟨g, 6, none⟩ = some (.string (bts [48, 46, 50, 53])) ∧ wr.frozen? ⟨g, 6, none⟩ = false := hrr.out.1 6 (by omega)
        go_wp2_with fail
        go_roundw
        case rel => exact ⟨7, by omega, rfl, by simpa using hgr, word_next 6 ▸ hrr.out.1.set 6 (by omega) _, hrr.out.2.setCell hg0 _⟩
        case measure => simp [intOf]
      · go_wp2_with fail
        refine (join_dflt g wr hrr.out.1 hgr).mono ?_
        rintro e w9 ⟨rfl, hb9⟩
        go_wp2_with fail
        go_ret2
        exact ⟨rfl, HBW.out.trans ((hrr.out.2.trans (hb9.mono hrr.out.2.size)).mono HBW.out.size)⟩
end Go.Proofs.YthmdiaingolfnaaGreatDoor.Cn
