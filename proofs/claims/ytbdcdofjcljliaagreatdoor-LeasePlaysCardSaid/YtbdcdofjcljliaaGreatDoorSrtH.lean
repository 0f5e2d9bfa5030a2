/- The library's sort at uint64, in order: a part reversed; what breaks patterns. -/
import Derived.Test.YtbdcdofjcljliaaGreatDoorSrtKit
import Derived.Test.YtbdcdofjcljliaaGreatDoorSortH
namespace Go.Proofs.YtbdcdofjcljliaaGreatDoor.So
open Go.ChangeShapes Go.WideShapes Go.ChangeAt Go.RowKit Rw
open Go.Sort (swp ltInt PermIn SortedIn)
set_option linter.unusedVariables false

/-- A row of which P holds; the random walk's number, in block rb. -/
def Sq (g n rb : Nat) (P : Array Int → Prop) (w w' : World) : Prop := ∃ (A : Array Int) (v : Int), A.size = n ∧ P A ∧ Row w' g n A.toList ∧ w'.cell? ⟨rb, 0, none⟩ = some (.int .u64 v) ∧ w'.frozen? ⟨rb, 0, none⟩ = false ∧ w.grownBy w' (some g)
theorem Sq.of {g n rb : Nat} {P : Array Int → Prop} {w w1 w2 : World} {v : Int} (h : Pq g n P w1 w2) (hg : w.grownBy w1 (some g)) (hc : w1.cell? ⟨rb, 0, none⟩ = some (.int .u64 v)) (hf : w1.frozen? ⟨rb, 0, none⟩ = false) (hne : rb ≠ g) : Sq g n rb P w w2 := by
  obtain ⟨A, h0, h1, h2, h3⟩ := h
  exact ⟨A, v, h0, h1, h2, h3.cell hc (by simp; exact hne), grown_frozen h3 hf (Lw.lt_heap hc) (by simp; exact hne), hg.trans h3⟩
set_option maxHeartbeats 2000000 in
set_option maxRecDepth 100000 in
theorem reverse_srt (g n c : Nat) (D : Array Int) (a b : Nat) (w : World) (hD : D.size = n) (h : Row w g n D.toList) (ha : a ≤ b) (hb : b ≤ n) (hn : n ≤ 9223372036854775807) :
    Calls Tryz.prog 108 #[.slice (some ⟨g, 0, none⟩) n c, .int .i64 a, .int .i64 b] w fun e w' => e = .returned (.tuple #[]) ∧ Pq g n (fun A => PermIn a b D A) w w' := by
  have HR : Hid (Pq g n (fun A => PermIn a b D A) w w) := Lib.hid (Pq.start hD (Go.Sort.permIn_refl D a b) h)
  clear h hD
  go_enter Tryz.func108, Tryz.ntmps108
  go_wp2
  go_loopw [6, 7] (fun si sj wr => ∃ (i : Nat) (j : Int), a ≤ i ∧ i ≤ n ∧ -1 ≤ j ∧ j < b ∧ si = .int .i64 i ∧ sj = .int .i64 j ∧ Hid (Pq g n (fun A => PermIn a b D A) w wr)) (fun si sj _ => (intOf sj - intOf si).toNat)
  case atStart => exact ⟨a, (b : Int) - 1, by omega, by omega, by omega, by omega, rfl, rfl, HR.out⟩
  case round =>
    obtain ⟨i, j, hai, hi, hj0, hj1, rfl, rfl, hpm⟩ := hrel
    by_cases hlt : (i : Int) < j
    · obtain ⟨m, rfl⟩ := Int.eq_ofNat_of_zero_le (show 0 ≤ j by omega)
      have him : i < m := by omega
      have hmn : m < n := by omega
      obtain ⟨d1, hs1, hp1, hr1, hg1⟩ := hpm.out
      have HQ : Hid (PermIn a b D (swp d1 i m)) := Lib.hid (Go.Sort.permIn_trans _ _ _ _ _ hp1 (Go.Sort.swp_permIn d1 a b i m hai (by omega) (by omega) (by omega) (by omega)))
      have HS1 := Lib.hid hs1
      obtain ⟨x, hx, hcx⟩ := hr1.get (show i < n by omega)
      obtain ⟨y, hy, hcy⟩ := hr1.get hmn
      have fx := hr1.free i (by omega)
      have fy := hr1.free m hmn
      have HX := Lib.hid hx
      have HY := Lib.hid hy
      have HR1 := Lib.hid hr1
      have HP1 := Lib.hid hp1
      clear hx hy hr1 hp1 hpm hs1
      have b0 : (0 : Int) ≤ (i : Int) := by omega
      have b1 : (i : Int) < (n : Int) := by omega
      have b2 : (0 : Int) ≤ (m : Int) := by omega
      have b3 : (m : Int) < (n : Int) := by omega
      have hne : i ≠ m := by omega
      go_wp2
      go_region
      go_wp2
      go_roundw
      case rel => exact ⟨i + 1, (m : Int) - 1, by omega, by omega, by omega, by omega, by go_num, rfl, Pq.swap HS1.out hg1 HR1.out HX.out HY.out 1 rfl HQ.out⟩
      case measure => simp [intOf]; omega
    · go_wp2
      go_end0
      exact ⟨rfl, hpm.out⟩

set_option maxHeartbeats 8000000 in
set_option maxRecDepth 100000 in
theorem break_srt (g n c : Nat) (D : Array Int) (a b : Nat) (w : World) (hD : D.size = n) (h : Row w g n D.toList) (hab : a + 12 < b) (hb : b ≤ n) (hn : n ≤ 200) :
    Calls Tryz.prog 106 #[.slice (some ⟨g, 0, none⟩) n c, .int .i64 a, .int .i64 b] w fun e w' => e = .returned (.tuple #[]) ∧ Pq g n (fun A => PermIn a b D A) w w' := by
  have hgl := h.lt (by omega)
  have HR := Lib.hid h
  clear h
  obtain ⟨q, hq⟩ : ∃ q : Nat, b = a + q := ⟨b - a, by omega⟩
  obtain ⟨t, ht⟩ : ∃ t : Nat, t = q / 4 := ⟨_, rfl⟩
  have e1 : (b : Int) - (a : Int) = (q : Int) := by omega
  have e2 : (q : Int) / 4 = (t : Int) := by omega
  have ht0 : 3 ≤ t := by omega
  have ht1 : t * 4 ≤ q := by omega
  have hqn : a + q ≤ n := by omega
  have hq8 : 8 ≤ q := by omega
  have hqb : a + q ≤ b := by omega
  clear hq ht
  go_enter Tryz.func106, Tryz.ntmps106
  go_wp2_with fail
  refine (next_any q _ (by omega) (by omega)).mono ?_
  rintro e w1 ⟨M, rfl, hM0, hM1, rfl⟩
  have st0 : Sq g n w.heap.size (fun A => PermIn a b D A) w (w.alloc (.cells #[.int .u64 q] 148)) :=
    ⟨D, q, hD, Go.Sort.permIn_refl D a b, ⟨HR.out.len, fun j x hx => alloc_cell (HR.out.cell j x hx) _, fun j hj => alloc_frozen (HR.out.free j hj) hgl _⟩, by go_simp, by go_simp, World.grownBy_alloc w _ _⟩
  have ST0 := Lib.hid st0
  have hrb : w.heap.size ≠ g := by omega
  clear st0 hD
  go_wp2_with fail
  go_loopw [9, 10] (fun si _ wr => ∃ I : Int, (a : Int) + t * 2 - 1 ≤ I ∧ I ≤ (a : Int) + t * 2 + 2 ∧ si = .int .i64 I ∧ Hid (Sq g n w.heap.size (fun A => PermIn a b D A) w wr)) (fun si _ _ => ((a : Int) + t * 2 + 2 - intOf si).toNat)
  case atStart => exact ⟨_, by omega, by omega, rfl, ST0⟩
  case round =>
    clear ST0
    obtain ⟨I, hI0, hI1, rfl, hst⟩ := hrel
    by_cases hlt : I ≤ (a : Int) + t * 2 + 1
    · obtain ⟨d1, v, hs1, hp1, hr1, hc1, hf1, hg1⟩ := hst.out
      have HR1 := Lib.hid hr1
      have HP1 := Lib.hid hp1
      have HS1 := Lib.hid hs1
      have HG1 := Lib.hid hg1
      have hl1 : g < wr.heap.size := hr1.lt (by omega)
      clear hr1 hp1 hg1 hst hs1
      go_wp2_with fail
      refine (xor_any w.heap.size v _ hc1 hf1).mono ?_
      rintro e w2 ⟨v2, rfl, hv2, hvc, hvf, hvg⟩
      have hrw := HR1.out.grown hvg (fun e => hrb e.symm) hl1
      have HG2 := Lib.hid (grown_via HG1.out hvg (Nat.le_refl _))
      obtain ⟨o, ho⟩ : ∃ o : Nat, o = v2 &&& (M - 1) := ⟨_, rfl⟩
      have hoM : o ≤ M - 1 := by rw [ho]; exact Nat.and_le_right
      have hand : bits .and .u64 (v2 : Int) ((M : Int) - 1) = (o : Int) := by
        rw [show (M : Int) - 1 = ((M - 1 : Nat) : Int) by omega, bits_and_u64_nat _ _ hv2 (by omega), ho]
      clear ho hc1 hf1 hvg HR1 HG1
      by_cases hoq : q ≤ o
      · obtain ⟨o2, ho2⟩ : ∃ o2 : Nat, o = q + o2 := ⟨o - q, by omega⟩
        have e3 : (o : Int) - (q : Int) = (o2 : Int) := by omega
        have ho : o2 < q := by omega
        have w1 : IntKind.i64.wrap ((a : Int) + (o2 : Int)) = (a : Int) + (o2 : Int) := IntWalk.i64_in _ (by omega)
        have t1 : ((a : Int) + (o2 : Int)).toNat = a + o2 := by omega
        have s0 : (0 : Int) ≤ I := by omega
        have s1 : I < (n : Int) := by omega
        have s2 : (0 : Int) ≤ (a : Int) + (o2 : Int) := by omega
        have s3 : (a : Int) + (o2 : Int) < (n : Int) := by omega
        obtain ⟨x, hx, hcx⟩ := hrw.get (show I.toNat < n by omega)
        obtain ⟨y, hy, hcy⟩ := hrw.get (show a + o2 < n by omega)
        have fx := hrw.free I.toNat (by omega)
        have fy := hrw.free (a + o2) (by omega)
        have HX := Lib.hid hx
        have HY := Lib.hid hy
        have HRW := Lib.hid hrw
        clear hx hy hrw
        by_cases hsame : I.toNat = a + o2
        · rw [hsame] at hcx fx HX
          have hxy : x = y := by have h1 := HX.out; have h2 := HY.out; rw [h2] at h1; injection h1 with h1; exact h1.symm
          subst hxy
          go_wp2
          go_region
          go_wp2
          have HQ : Hid (PermIn a b D (swp d1 (a + o2) (a + o2))) := Lib.hid (Go.Sort.permIn_trans _ _ _ _ _ HP1.out (Go.Sort.swp_permIn d1 a b (a + o2) (a + o2) (by omega) (by omega) (by omega) (by omega) (by rw [HS1.out]; omega)))
          have hps := Lib.hid (Pq.swap (Q := fun A => PermIn a b D A) HS1.out (World.grownBy.refl _ _) HRW.out HX.out HX.out 1 rfl HQ.out)
          clear hsame
          go_roundw
          case rel => first | exact ⟨I + 1, by omega, by omega, by go_num, Sq.of hps.out HG2.out hvc hvf hrb⟩ | ((repeat apply Exists.intro); exact ⟨⟨I + 1, by omega, by omega, by go_num, Sq.of hps.out HG2.out hvc hvf hrb⟩, rfl⟩)
          case measure => simp [intOf] <;> omega
        · have hne2 : ¬ a + o2 = I.toNat := fun e => hsame e.symm
          go_wp2
          go_region
          go_wp2
          have HQ : Hid (PermIn a b D (swp d1 I.toNat (a + o2))) := Lib.hid (Go.Sort.permIn_trans _ _ _ _ _ HP1.out (Go.Sort.swp_permIn d1 a b I.toNat (a + o2) (by omega) (by omega) (by omega) (by omega) (by rw [HS1.out]; omega)))
          have hps := Lib.hid (Pq.swap (Q := fun A => PermIn a b D A) HS1.out (World.grownBy.refl _ _) HRW.out HX.out HY.out 1 rfl HQ.out)
          go_roundw
          case rel => first | exact ⟨I + 1, by omega, by omega, by go_num, Sq.of hps.out HG2.out hvc hvf hrb⟩ | ((repeat apply Exists.intro); exact ⟨⟨I + 1, by omega, by omega, by go_num, Sq.of hps.out HG2.out hvc hvf hrb⟩, rfl⟩)
          case measure => simp [intOf] <;> omega
      · have hoq' : o < q := by omega
        have ho : o < q := by omega
        have w1 : IntKind.i64.wrap ((a : Int) + (o : Int)) = (a : Int) + (o : Int) := IntWalk.i64_in _ (by omega)
        have t1 : ((a : Int) + (o : Int)).toNat = a + o := by omega
        have s0 : (0 : Int) ≤ I := by omega
        have s1 : I < (n : Int) := by omega
        have s2 : (0 : Int) ≤ (a : Int) + (o : Int) := by omega
        have s3 : (a : Int) + (o : Int) < (n : Int) := by omega
        obtain ⟨x, hx, hcx⟩ := hrw.get (show I.toNat < n by omega)
        obtain ⟨y, hy, hcy⟩ := hrw.get (show a + o < n by omega)
        have fx := hrw.free I.toNat (by omega)
        have fy := hrw.free (a + o) (by omega)
        have HX := Lib.hid hx
        have HY := Lib.hid hy
        have HRW := Lib.hid hrw
        clear hx hy hrw
        by_cases hsame : I.toNat = a + o
        · rw [hsame] at hcx fx HX
          have hxy : x = y := by have h1 := HX.out; have h2 := HY.out; rw [h2] at h1; injection h1 with h1; exact h1.symm
          subst hxy
          go_wp2
          go_region
          go_wp2
          have HQ : Hid (PermIn a b D (swp d1 (a + o) (a + o))) := Lib.hid (Go.Sort.permIn_trans _ _ _ _ _ HP1.out (Go.Sort.swp_permIn d1 a b (a + o) (a + o) (by omega) (by omega) (by omega) (by omega) (by rw [HS1.out]; omega)))
          have hps := Lib.hid (Pq.swap (Q := fun A => PermIn a b D A) HS1.out (World.grownBy.refl _ _) HRW.out HX.out HX.out 1 rfl HQ.out)
          clear hsame
          go_roundw
          case rel => first | exact ⟨I + 1, by omega, by omega, by go_num, Sq.of hps.out HG2.out hvc hvf hrb⟩ | ((repeat apply Exists.intro); exact ⟨⟨I + 1, by omega, by omega, by go_num, Sq.of hps.out HG2.out hvc hvf hrb⟩, rfl⟩)
          case measure => simp [intOf] <;> omega
        · have hne2 : ¬ a + o = I.toNat := fun e => hsame e.symm
          go_wp2
          go_region
          go_wp2
          have HQ : Hid (PermIn a b D (swp d1 I.toNat (a + o))) := Lib.hid (Go.Sort.permIn_trans _ _ _ _ _ HP1.out (Go.Sort.swp_permIn d1 a b I.toNat (a + o) (by omega) (by omega) (by omega) (by omega) (by rw [HS1.out]; omega)))
          have hps := Lib.hid (Pq.swap (Q := fun A => PermIn a b D A) HS1.out (World.grownBy.refl _ _) HRW.out HX.out HY.out 1 rfl HQ.out)
          go_roundw
          case rel => first | exact ⟨I + 1, by omega, by omega, by go_num, Sq.of hps.out HG2.out hvc hvf hrb⟩ | ((repeat apply Exists.intro); exact ⟨⟨I + 1, by omega, by omega, by go_num, Sq.of hps.out HG2.out hvc hvf hrb⟩, rfl⟩)
          case measure => simp [intOf] <;> omega
    · obtain ⟨d1, v, hs1, hp1, hr1, hc1, hf1, hg1⟩ := hst.out
      have HPM : Hid (Pq g n (fun A => PermIn a b D A) w wr) := ⟨d1, hs1, hp1, hr1, hg1⟩
      clear hs1 hp1 hr1 hc1 hf1 hg1 hst
      go_wp2_with fail
      go_end0
      exact ⟨rfl, HPM.out⟩
end Go.Proofs.YtbdcdofjcljliaaGreatDoor.So
