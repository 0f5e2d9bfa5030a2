/- The library's sort at uint64: what breaks patterns. -/
import Derived.Test.YtbdcdofjcljliaaGreatDoorSortG
import Derived.Test.YtbdcdofjcljliaaGreatDoorSortC
namespace Go.Proofs.YtbdcdofjcljliaaGreatDoor.So
open Go.ChangeShapes Go.WideShapes Go.ChangeAt Go.RowKit Rw
set_option linter.unusedVariables false

/-- The row, permuted; the random walk's number, in block rb. -/
def St (g n rb : Nat) (d : List Int) (w w' : World) : Prop := ∃ (d' : List Int) (v : Int), d'.Perm d ∧ Row w' g n d' ∧ w'.cell? ⟨rb, 0, none⟩ = some (.int .u64 v) ∧ w'.frozen? ⟨rb, 0, none⟩ = false ∧ w.grownBy w' (some g)
theorem grown_via {w w1 w2 : World} {g rb : Nat} (h : w.grownBy w1 (some g)) (h' : w1.grownBy w2 (some rb)) (hrb : w.heap.size ≤ rb) : w.grownBy w2 (some g) :=
  ⟨h'.os.trans h.os, h'.tape.trans h.tape, h'.output.trans h.output, Nat.le_trans h.size h'.size, fun k hk hne => (h'.block k (Nat.lt_of_lt_of_le hk h.size) (by simp; omega)).trans (h.block k hk hne)⟩
theorem Row.grown {w w' : World} {g n rb : Nat} {d : List Int} (h : Row w g n d) (hg : w.grownBy w' (some rb)) (hne : g ≠ rb) (hl : g < w.heap.size) : Row w' g n d :=
  ⟨h.len, fun j x hx => (World.cell?_of_block (hg.block g hl (by simp; exact hne))).trans (h.cell j x hx), fun j hj => (World.frozen?_of_block (hg.block g hl (by simp; exact hne))).trans (h.free j hj)⟩
theorem St.of {g n rb : Nat} {d d1 : List Int} {w w1 w2 : World} {v : Int} (h : Pm g n d1 w1 w2) (hp : d1.Perm d) (hg : w.grownBy w1 (some g)) (hc : w1.cell? ⟨rb, 0, none⟩ = some (.int .u64 v)) (hf : w1.frozen? ⟨rb, 0, none⟩ = false) (hne : rb ≠ g) : St g n rb d w w2 := by
  obtain ⟨d2, h1, h2, h3⟩ := h
  exact ⟨d2, v, h1.trans hp, h2, h3.cell hc (by simp; exact hne), grown_frozen h3 hf (Lw.lt_heap hc) (by simp; exact hne), hg.trans h3⟩
set_option maxHeartbeats 8000000 in
set_option maxRecDepth 100000 in
theorem break_any (g n c : Nat) (d : List Int) (a b : Nat) (w : World) (h : Row w g n d) (hab : a + 12 < b) (hb : b ≤ n) (hn : n ≤ 200) :
    Calls Tryz.prog 106 #[.slice (some ⟨g, 0, none⟩) n c, .int .i64 a, .int .i64 b] w fun e w' => e = .returned (.tuple #[]) ∧ Pm g n d w w' := by
  have hgl := h.lt (by omega)
  have HR := Lib.hid h
  clear h
  obtain ⟨q, hq⟩ : ∃ q : Nat, b = a + q := ⟨b - a, by omega⟩
  obtain ⟨t, ht⟩ : ∃ t : Nat, t = q / 4 := ⟨_, rfl⟩
  have e1 : (b : Int) - (a : Int) = (q : Int) := by omega
  have e2 : (q : Int) / 4 = (t : Int) := by omega
  have ht0 : 3 ≤ t := by omega
  have ht1 : t * 4 ≤ q := by omega
  have hqn : a + q ≤ n := by omega
  have hq8 : 8 ≤ q := by omega
  clear hq ht
  go_enter Tryz.func106, Tryz.ntmps106
  go_wp2_with fail
  refine (next_any q _ (by omega) (by omega)).mono ?_
  rintro e w1 ⟨M, rfl, hM0, hM1, rfl⟩
  have st0 : St g n w.heap.size d w (w.alloc (.cells #[.int .u64 q] 148)) :=
    ⟨d, q, List.Perm.refl _, ⟨HR.out.len, fun j x hx => alloc_cell (HR.out.cell j x hx) _, fun j hj => alloc_frozen (HR.out.free j hj) hgl _⟩, by go_simp, by go_simp, World.grownBy_alloc w _ _⟩
  have ST0 := Lib.hid st0
  have hrb : w.heap.size ≠ g := by omega
  clear st0
  go_wp2_with fail
  go_loopw [9, 10] (fun si _ wr => ∃ I : Int, (a : Int) + t * 2 - 1 ≤ I ∧ I ≤ (a : Int) + t * 2 + 2 ∧ si = .int .i64 I ∧ Hid (St g n w.heap.size d w wr)) (fun si _ _ => ((a : Int) + t * 2 + 2 - intOf si).toNat)
  case atStart => exact ⟨_, by omega, by omega, rfl, ST0⟩
  case round =>
    clear ST0
    obtain ⟨I, hI0, hI1, rfl, hst⟩ := hrel
    by_cases hlt : I ≤ (a : Int) + t * 2 + 1
    · obtain ⟨d1, v, hp1, hr1, hc1, hf1, hg1⟩ := hst.out
      have HR1 := Lib.hid hr1
      have HP1 := Lib.hid hp1
      have HG1 := Lib.hid hg1
      have hl1 : g < wr.heap.size := hr1.lt (by omega)
      clear hr1 hp1 hg1 hst
      go_wp2_with fail
      refine (xor_any w.heap.size v _ hc1 hf1).mono ?_
      rintro e w2 ⟨v2, rfl, hv2, hvc, hvf, hvg⟩
      have hrw := HR1.out.grown hvg (fun e => hrb e.symm) hl1
      have HG2 := Lib.hid (grown_via HG1.out hvg (Nat.le_refl _))
      obtain ⟨o, ho⟩ : ∃ o : Nat, o = v2 &&& (M - 1) := ⟨_, rfl⟩
      have hoM : o ≤ M - 1 := by rw [ho]; exact Nat.and_le_right
      have hand : bits .and .u64 (v2 : Int) ((M : Int) - 1) = (o : Int) := by
        rw [show (M : Int) - 1 = ((M - 1 : Nat) : Int) by omega, bits_and_u64_nat _ _ hv2 (by omega), ho]
      clear ho hc1 hf1 hvg HR1 HG1
      by_cases hoq : q ≤ o
      · obtain ⟨o2, ho2⟩ : ∃ o2 : Nat, o = q + o2 := ⟨o - q, by omega⟩
        have e3 : (o : Int) - (q : Int) = (o2 : Int) := by omega
        have ho : o2 < q := by omega
        have w1 : IntKind.i64.wrap ((a : Int) + (o2 : Int)) = (a : Int) + (o2 : Int) := IntWalk.i64_in _ (by omega)
        have t1 : ((a : Int) + (o2 : Int)).toNat = a + o2 := by omega
        have s0 : (0 : Int) ≤ I := by omega
        have s1 : I < (n : Int) := by omega
        have s2 : (0 : Int) ≤ (a : Int) + (o2 : Int) := by omega
        have s3 : (a : Int) + (o2 : Int) < (n : Int) := by omega
        obtain ⟨x, hx, hcx⟩ := hrw.get (show I.toNat < n by omega)
        obtain ⟨y, hy, hcy⟩ := hrw.get (show a + o2 < n by omega)
        have fx := hrw.free I.toNat (by omega)
        have fy := hrw.free (a + o2) (by omega)
        have HX := Lib.hid hx
        have HY := Lib.hid hy
        have HRW := Lib.hid hrw
        clear hx hy hrw
        by_cases hsame : I.toNat = a + o2
        · rw [hsame] at hcx fx HX
          have hxy : x = y := by have h1 := HX.out; have h2 := HY.out; rw [h2] at h1; injection h1 with h1; exact h1.symm
          subst hxy
          go_wp2
          go_region
          go_wp2
          have hps := Lib.hid (HRW.out.swap HX.out HX.out 1 rfl)
          clear hsame
          go_roundw
          case rel => first | exact ⟨I + 1, by omega, by omega, by go_num, St.of hps.out HP1.out HG2.out hvc hvf hrb⟩ | ((repeat apply Exists.intro); exact ⟨⟨I + 1, by omega, by omega, by go_num, St.of hps.out HP1.out HG2.out hvc hvf hrb⟩, rfl⟩)
          case measure => simp [intOf] <;> omega
        · have hne2 : ¬ a + o2 = I.toNat := fun e => hsame e.symm
          go_wp2
          go_region
          go_wp2
          have hps := Lib.hid (HRW.out.swap HX.out HY.out 1 rfl)
          go_roundw
          case rel => first | exact ⟨I + 1, by omega, by omega, by go_num, St.of hps.out HP1.out HG2.out hvc hvf hrb⟩ | ((repeat apply Exists.intro); exact ⟨⟨I + 1, by omega, by omega, by go_num, St.of hps.out HP1.out HG2.out hvc hvf hrb⟩, rfl⟩)
          case measure => simp [intOf] <;> omega
      · have hoq' : o < q := by omega
        have ho : o < q := by omega
        have w1 : IntKind.i64.wrap ((a : Int) + (o : Int)) = (a : Int) + (o : Int) := IntWalk.i64_in _ (by omega)
        have t1 : ((a : Int) + (o : Int)).toNat = a + o := by omega
        have s0 : (0 : Int) ≤ I := by omega
        have s1 : I < (n : Int) := by omega
        have s2 : (0 : Int) ≤ (a : Int) + (o : Int) := by omega
        have s3 : (a : Int) + (o : Int) < (n : Int) := by omega
        obtain ⟨x, hx, hcx⟩ := hrw.get (show I.toNat < n by omega)
        obtain ⟨y, hy, hcy⟩ := hrw.get (show a + o < n by omega)
        have fx := hrw.free I.toNat (by omega)
        have fy := hrw.free (a + o) (by omega)
        have HX := Lib.hid hx
        have HY := Lib.hid hy
        have HRW := Lib.hid hrw
        clear hx hy hrw
        by_cases hsame : I.toNat = a + o
        · rw [hsame] at hcx fx HX
          have hxy : x = y := by have h1 := HX.out; have h2 := HY.out; rw [h2] at h1; injection h1 with h1; exact h1.symm
          subst hxy
          go_wp2
          go_region
          go_wp2
          have hps := Lib.hid (HRW.out.swap HX.out HX.out 1 rfl)
          clear hsame
          go_roundw
          case rel => first | exact ⟨I + 1, by omega, by omega, by go_num, St.of hps.out HP1.out HG2.out hvc hvf hrb⟩ | ((repeat apply Exists.intro); exact ⟨⟨I + 1, by omega, by omega, by go_num, St.of hps.out HP1.out HG2.out hvc hvf hrb⟩, rfl⟩)
          case measure => simp [intOf] <;> omega
        · have hne2 : ¬ a + o = I.toNat := fun e => hsame e.symm
          go_wp2
          go_region
          go_wp2
          have hps := Lib.hid (HRW.out.swap HX.out HY.out 1 rfl)
          go_roundw
          case rel => first | exact ⟨I + 1, by omega, by omega, by go_num, St.of hps.out HP1.out HG2.out hvc hvf hrb⟩ | ((repeat apply Exists.intro); exact ⟨⟨I + 1, by omega, by omega, by go_num, St.of hps.out HP1.out HG2.out hvc hvf hrb⟩, rfl⟩)
          case measure => simp [intOf] <;> omega
    · obtain ⟨d1, v, hp1, hr1, hc1, hf1, hg1⟩ := hst.out
      have HPM : Hid (Pm g n d w wr) := ⟨d1, hp1, hr1, hg1⟩
      clear hp1 hr1 hc1 hf1 hg1 hst
      go_wp2_with fail
      go_end0
      exact ⟨rfl, HPM.out⟩
end Go.Proofs.YtbdcdofjcljliaaGreatDoor.So
