/- The library's sort at uint64, in order: a row of which something holds; insertion sort, sift down, heap sort, reversed. -/
import Derived.Test.YtbdcdofjcljliaaGreatDoorSortKit
import Derived.Sort.LotA
import Derived.Sort.LotB
import Derived.Sort.LotC
namespace Go.Proofs.YtbdcdofjcljliaaGreatDoor.So
open Go.ChangeShapes Go.WideShapes Go.ChangeAt Go.RowKit Rw
open Go.Sort (swp ltInt insOuter insInner insertionSort siftDown heapBuild heapPop heapSort PermIn SortedIn swo_ltInt)
set_option linter.unusedVariables false

/-- From w to w': nothing but block g has turned, and its row is one of which P holds. -/
def Pq (g n : Nat) (P : Array Int → Prop) (w w' : World) : Prop := ∃ A : Array Int, A.size = n ∧ P A ∧ Row w' g n A.toList ∧ w.grownBy w' (some g)
theorem Pq.mk' {g n : Nat} {P : Array Int → Prop} {w w' : World} {A : Array Int} (hs : A.size = n) (hP : P A) (hg : w.grownBy w' (some g)) (h : Row w' g n A.toList) : Pq g n P w w' := ⟨A, hs, hP, h, hg⟩
theorem Pq.start {g n : Nat} {P : Array Int → Prop} {w : World} {A : Array Int} (hs : A.size = n) (hP : P A) (h : Row w g n A.toList) : Pq g n P w w := ⟨A, hs, hP, h, World.grownBy.refl _ _⟩
theorem Pq.drewN {g n : Nat} {P : Array Int → Prop} {w w' : World} (h : Pq g n P w w') (k : Nat) : Pq g n P w (w'.drewN k) := by
  obtain ⟨A, h0, h1, h2, h3⟩ := h
  exact ⟨A, h0, h1, h2.drewN k, h3.trans (grown_drewN _ _ _)⟩
theorem Pq.imp {g n : Nat} {P Q : Array Int → Prop} {w w' : World} (h : Pq g n P w w') (f : ∀ A : Array Int, A.size = n → P A → Q A) : Pq g n Q w w' := by
  obtain ⟨A, h0, h1, h2, h3⟩ := h
  exact ⟨A, h0, f A h0 h1, h2, h3⟩
theorem Pq.trans {g n : Nat} {P : Array Int → Prop} {w w1 w' : World} (hg : w.grownBy w1 (some g)) (h : Pq g n P w1 w') : Pq g n P w w' := by
  obtain ⟨A, h0, h1, h2, h3⟩ := h
  exact ⟨A, h0, h1, h2, hg.trans h3⟩
theorem bang {A : Array Int} {i : Nat} {x : Int} (h : A.toList[i]? = some x) : A[i]! = x := by
  have h2 : A[i]? = some x := by rw [← Array.getElem?_toList]; exact h
  obtain ⟨hi, e⟩ := Array.getElem?_eq_some_iff.1 h2
  rw [getElem!_pos A i hi]; exact e
theorem swp_list {A : Array Int} {i j : Nat} {x y : Int} (hx : A.toList[i]? = some x) (hy : A.toList[j]? = some y) : (swp A i j).toList = (A.toList.set i y).set j x := by
  unfold swp
  rw [bang hx, bang hy, Array.toList_setIfInBounds, Array.toList_setIfInBounds]
theorem Pq.swap {g n : Nat} {Q : Array Int → Prop} {w w1 w' : World} {A : Array Int} {i j : Nat} {x y : Int} (hs : A.size = n) (hg : w.grownBy w1 (some g)) (h : Row w1 g n A.toList) (hx : A.toList[i]? = some x) (hy : A.toList[j]? = some y) (k : Nat)
    (hw : w' = ((w1.drewN k).setCell ⟨g, i, none⟩ (.int .u64 y)).setCell ⟨g, j, none⟩ (.int .u64 x)) (hQ : Q (swp A i j)) : Pq g n Q w w' := by
  subst hw
  have hil : i < n := by rw [← h.len]; exact (List.getElem?_eq_some_iff.1 hx).1
  have hjl : j < n := by rw [← h.len]; exact (List.getElem?_eq_some_iff.1 hy).1
  refine ⟨swp A i j, by rw [Go.Sort.swp_size]; exact hs, hQ, ?_, hg.trans (((grown_drewN w1 k _).trans (grown_setCell _ g i _)).trans (grown_setCell _ g j _))⟩
  rw [swp_list hx hy]
  exact ((h.drewN k).set hil y).set hjl x
theorem lt_t {x y : Int} (h : x < y) : ltInt x y = true := decide_eq_true h
theorem lt_f {x y : Int} (h : ¬ x < y) : ltInt x y = false := decide_eq_false h

set_option maxHeartbeats 2000000 in
set_option maxRecDepth 100000 in
theorem insertion_srt (g n c : Nat) (D : Array Int) (a b : Nat) (w : World) (hD : D.size = n) (h : Row w g n D.toList) (hab : a ≤ b) (hb : b ≤ n) (hn : n ≤ 4611686018427387904) :
    Calls Tryz.prog 104 #[.slice (some ⟨g, 0, none⟩) n c, .int .i64 a, .int .i64 b] w fun e w' => e = .returned (.tuple #[]) ∧ Pq g n (fun A => PermIn a b D A ∧ SortedIn ltInt a b A) w w' := by
  have HS := Lib.hid (Go.Sort.insertionSort_holds swo_ltInt D a b hab (by rw [hD]; exact hb))
  obtain ⟨T, hT⟩ : ∃ T, insertionSort ltInt D a b = T := ⟨_, rfl⟩
  rw [hT] at HS
  have HR : Hid (Pq g n (fun A => insOuter ltInt a b (a + 1) A = T) w w) := Lib.hid (Pq.start hD hT h)
  clear h hT hD
  go_enter Tryz.func104, Tryz.ntmps104
  go_wp2
  go_loopw [6, 7] (fun si _ wr => ∃ i : Nat, a + 1 ≤ i ∧ i ≤ n + 1 ∧ si = .int .i64 i ∧ Hid (Pq g n (fun A => insOuter ltInt a b i A = T) w wr)) (fun si _ _ => n + 1 - (intOf si).toNat)
  case atStart => exact ⟨a + 1, Nat.le_refl _, by omega, by go_num, HR.out⟩
  case round =>
    obtain ⟨i, hi0, hi1, rfl, hpm⟩ := hrel
    by_cases hlt : i < b
    · go_wp2
      obtain ⟨wo, hwo⟩ : ∃ wo : World, wo = wr := ⟨_, rfl⟩
      subst hwo
      go_loopw [7] (fun sj wq => ∃ J : Int, (a : Int) ≤ J ∧ J ≤ i ∧ sj = .int .i64 J ∧ Hid (Pq g n (fun A => insOuter ltInt a b (i + 1) (insInner ltInt a J.toNat A) = T) w wq)) (fun sj _ => (intOf sj).toNat)
      case atStart => exact ⟨i, by omega, by omega, rfl, hpm.out.imp fun A _ hA => by rw [insOuter, if_pos hlt] at hA; exact hA⟩
      case round =>
        clear hpm
        obtain ⟨J, hj0, hj1, rfl, hpm⟩ := hrel
        by_cases hja : (a : Int) < J
        · obtain ⟨m, hm⟩ := Int.eq_ofNat_of_zero_le (show 0 ≤ J - 1 by omega)
          have hj2 : 0 ≤ J := by omega
          have hj3 : J < (n : Int) := by omega
          have hj4 : J.toNat = m + 1 := by omega
          obtain ⟨d1, hs1, hp1, hr1, hg1⟩ := hpm.out
          obtain ⟨x, hx, hcx⟩ := hr1.get (show J.toNat < n by omega)
          obtain ⟨y, hy, hcy⟩ := hr1.get (show m < n by omega)
          have fx := hr1.free J.toNat (by omega)
          have fy := hr1.free m (by omega)
          have b2 : (0 : Int) ≤ (m : Int) := by omega
          have b3 : (m : Int) < (n : Int) := by omega
          have hne : J.toNat ≠ m := by omega
          have w1 : IntKind.i64.wrap (J - 1) = (m : Int) := by rw [hm]; exact IntWalk.i64_in _ (by omega)
          have HX := Lib.hid hx
          have HY := Lib.hid hy
          have HR1 := Lib.hid hr1
          have HP1 := Lib.hid hp1
          have HM := Lib.hid hm
          have H4 := Lib.hid hj4
          have HS1 := Lib.hid hs1
          have qa : decide ((a : Int) < J) = true := by simpa using hja
          clear hx hy hr1 hp1 hpm hm hj4 hs1
          by_cases hxy : x < y
          · have q1 : decide (x < y) = true := by simpa using hxy
            have HQ : Hid (insOuter ltInt a b (i + 1) (insInner ltInt a m (swp d1 J.toNat m)) = T) := Lib.hid (by
              have h1 := HP1.out
              have ex := bang HX.out
              have ey := bang HY.out
              rw [H4.out] at h1 ex ⊢
              rw [insInner, ex, ey, lt_t hxy, Bool.and_true, if_pos (decide_eq_true (by have := H4.out; omega))] at h1
              exact h1)
            go_wp2
            go_quiet ((go_at_call 110; first | exact less_quiet _ _ | exact less_quiet2 _ _))
            go_wp2
            go_region
            go_wp2
            go_roundw
            case rel => exact ⟨m, by have := HM.out; omega, by have := HM.out; omega, by go_num, Pq.swap HS1.out (hg1.trans (grown_drewN _ nq _)) (HR1.out.drewN nq) HX.out HY.out 1 rfl HQ.out⟩
            case measure => simp [intOf]; have := H4.out; omega
          · have q1 : decide (x < y) = false := by simpa using hxy
            have HQ : Hid (insOuter ltInt a b (i + 1) d1 = T) := Lib.hid (by
              have h1 := HP1.out
              have ex := bang HX.out
              have ey := bang HY.out
              rw [H4.out] at h1 ex
              rw [insInner, ex, ey, lt_f hxy, Bool.and_false, if_neg (by decide)] at h1
              exact h1)
            go_wp2
            go_quiet ((go_at_call 110; first | exact less_quiet _ _ | exact less_quiet2 _ _))
            go_wp2
            go_roundw
            case rel => exact ⟨i + 1, by omega, by omega, by go_num, (Pq.mk' HS1.out HQ.out hg1 HR1.out).drewN _⟩
            case measure => simp [intOf]; omega
        · have qa : decide ((a : Int) < J) = false := by simpa using hja
          have HQ : Hid (Pq g n (fun A => insOuter ltInt a b (i + 1) A = T) w wr) := Lib.hid (hpm.out.imp fun A _ hA => by
            cases hJ : J.toNat with
            | zero => rw [hJ, insInner] at hA; exact hA
            | succ k =>
              rw [hJ, insInner, decide_eq_false (by omega), Bool.false_and, if_neg (by decide)] at hA
              exact hA)
          clear hpm
          go_wp2
          go_quiet (fail)
          go_wp2
          go_roundw
          case rel => exact ⟨i + 1, by omega, by omega, by go_num, HQ.out.drewN _⟩
          case measure => simp [intOf]; omega
    · have HQ : Hid (Pq g n (fun A => PermIn a b D A ∧ SortedIn ltInt a b A) w wr) := Lib.hid (hpm.out.imp fun A _ hA => by
        rw [insOuter, if_neg hlt] at hA
        rw [hA]; exact HS.out)
      clear hpm
      go_wp2
      go_end0
      exact ⟨rfl, HQ.out⟩
end Go.Proofs.YtbdcdofjcljliaaGreatDoor.So
