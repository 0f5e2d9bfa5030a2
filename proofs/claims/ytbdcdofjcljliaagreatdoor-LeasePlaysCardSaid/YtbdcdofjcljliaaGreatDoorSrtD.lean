/- The library's sort at uint64, in order: the partitions. -/
import Derived.Test.YtbdcdofjcljliaaGreatDoorSrtKit
namespace Go.Proofs.YtbdcdofjcljliaaGreatDoor.So
open Go.ChangeShapes Go.WideShapes Go.ChangeAt Go.RowKit Rw
open Go.Sort (swp ltInt PermIn SortedIn)
set_option linter.unusedVariables false

/-- What is less than the pivot; what is no more than it. -/
def plt (pv x : Int) : Bool := decide (x < pv)
def ple (pv x : Int) : Bool := decide (x ≤ pv)
/-- On the way of a partition: what stands ahead of i is such, what stands behind j isn't. -/
structure Pt (p : Int → Bool) (D : Array Int) (a b : Nat) (pv : Int) (i j : Int) (A : Array Int) : Prop where
  perm : PermIn a b D A
  piv : A[a]! = pv
  lo : ∀ k : Nat, a < k → (k : Int) < i → p A[k]! = true
  hi : ∀ k : Nat, j < (k : Int) → k < b → p A[k]! = false
/-- Parted: less than the pivot, it, no less. -/
structure Split (D : Array Int) (a b : Nat) (pv : Int) (r : Nat) (A : Array Int) : Prop where
  perm : PermIn a b D A
  piv : A[r]! = pv
  lo : ∀ k : Nat, a ≤ k → k < r → A[k]! < pv
  hi : ∀ k : Nat, r < k → k < b → pv ≤ A[k]!
/-- Parted: no more than the pivot, more. -/
structure SplitE (D : Array Int) (a b : Nat) (pv : Int) (r : Nat) (A : Array Int) : Prop where
  perm : PermIn a b D A
  lo : ∀ k : Nat, a ≤ k → k < r → A[k]! ≤ pv
  hi : ∀ k : Nat, r ≤ k → k < b → pv < A[k]!
section
variable {p : Int → Bool} {D A : Array Int} {a b : Nat} {pv i j x : Int}
theorem Pt.up (h : Pt p D a b pv i j A) (hi : 0 ≤ i) (hx : A[i.toNat]! = x) (hp : p x = true) : Pt p D a b pv (i + 1) j A :=
  ⟨h.perm, h.piv, fun k h1 h2 => by
    by_cases e : (k : Int) = i
    · rw [show k = i.toNat by omega, hx]; exact hp
    · exact h.lo k h1 (by omega), h.hi⟩
theorem Pt.down (h : Pt p D a b pv i j A) (hj : 0 ≤ j) (hx : A[j.toNat]! = x) (hp : p x = false) : Pt p D a b pv i (j - 1) A :=
  ⟨h.perm, h.piv, h.lo, fun k h1 h2 => by
    by_cases e : (k : Int) = j
    · rw [show k = j.toNat by omega, hx]; exact hp
    · exact h.hi k (by omega) h2⟩
theorem Pt.swap (h : Pt p D a b pv i j A) (ha : (a : Int) < i) (hij : i < j) (hj : j < b) (hb : b ≤ A.size) (h1 : p A[i.toNat]! = false) (h2 : p A[j.toNat]! = true) : Pt p D a b pv (i + 1) (j - 1) (swp A i.toNat j.toNat) := by
  refine ⟨Go.Sort.permIn_trans _ _ _ _ _ h.perm (Go.Sort.swp_permIn A a b _ _ (by omega) (by omega) (by omega) (by omega) hb), ?_, fun k k1 k2 => ?_, fun k k1 k2 => ?_⟩
  · rw [Go.Sort.swp_other A _ _ a (by omega) (by omega)]; exact h.piv
  · by_cases e : (k : Int) = i
    · rw [show k = i.toNat by omega, Go.Sort.swp_left A _ _ (by omega) (by omega)]; exact h2
    · rw [Go.Sort.swp_other A _ _ k (by omega) (by omega)]; exact h.lo k k1 (by omega)
  · by_cases e : (k : Int) = j
    · rw [show k = j.toNat by omega, Go.Sort.swp_right A _ _ (by omega)]; exact h1
    · rw [Go.Sort.swp_other A _ _ k (by omega) (by omega)]; exact h.hi k (by omega) k2
theorem Pt.init {q : Nat} (hpv : D[q]! = pv) (ha : a ≤ q) (hq : q < b) (hb : b ≤ D.size) (hA : A = D) : Pt p D a b pv ((a : Int) + 1) ((b : Int) - 1) (swp A a q) := by
  subst hA
  refine ⟨Go.Sort.swp_permIn A a b _ _ (Nat.le_refl _) (by omega) ha hq hb, ?_, fun k k1 k2 => by omega, fun k k1 k2 => by omega⟩
  by_cases e : a = q
  · subst e; rw [Go.Sort.swp_right A _ _ (by omega)]; exact hpv
  · rw [Go.Sort.swp_left A _ _ (by omega) e]; exact hpv
theorem Pt.fin (h : Pt (plt pv) D a b pv i j A) (hji : j < i) (ha : (a : Int) ≤ j) (hj : j < b) (hb : b ≤ A.size) : Split D a b pv j.toNat (swp A j.toNat a) := by
  refine ⟨Go.Sort.permIn_trans _ _ _ _ _ h.perm (Go.Sort.swp_permIn A a b _ _ (by omega) (by omega) (Nat.le_refl _) (by omega) hb), ?_, fun k k1 k2 => ?_, fun k k1 k2 => ?_⟩
  · by_cases e : j.toNat = a
    · rw [e, Go.Sort.swp_right A _ _ (by omega)]; exact h.piv
    · rw [Go.Sort.swp_left A _ _ (by omega) e]; exact h.piv
  · by_cases e : k = a
    · subst e
      rw [Go.Sort.swp_right A _ _ (by omega)]
      exact of_decide_eq_true (h.lo j.toNat (by omega) (by omega))
    · rw [Go.Sort.swp_other A _ _ k (by omega) e]
      exact of_decide_eq_true (h.lo k (by omega) (by omega))
  · rw [Go.Sort.swp_other A _ _ k (by omega) (by omega)]
    have := of_decide_eq_false (h.hi k (by omega) k2)
    omega
theorem Pt.finE (h : Pt (ple pv) D a b pv i j A) (hji : j < i) (ha : (a : Int) < i) : SplitE D a b pv i.toNat A := by
  refine ⟨h.perm, fun k k1 k2 => ?_, fun k k1 k2 => ?_⟩
  · by_cases e : k = a
    · subst e; rw [h.piv]; exact Int.le_refl _
    · exact of_decide_eq_true (h.lo k (by omega) (by omega))
  · have := of_decide_eq_false (h.hi k (by omega) k2)
    omega
end

set_option maxHeartbeats 8000000 in
set_option maxRecDepth 100000 in
theorem partEq_srt (g n c : Nat) (D : Array Int) (a b p : Nat) (w : World) (hD : D.size = n) (h : Row w g n D.toList) (ha : a < b) (hb : b ≤ n) (hpa : a ≤ p) (hpb : p < b) (hn : n ≤ 1152921504606846976) :
    Calls Tryz.prog 111 #[.slice (some ⟨g, 0, none⟩) n c, .int .i64 a, .int .i64 b, .int .i64 p] w fun e w' => ∃ r : Nat, e = .returned (.int .i64 r) ∧ a < r ∧ r ≤ b ∧ Pq g n (fun A => SplitE D a b D[p]! r A) w w' := by
  obtain ⟨pv, hpv⟩ : ∃ pv, D[p]! = pv := ⟨_, rfl⟩
  have hpS : Hid (Pq g n (fun A => A = D) w w) := Lib.hid (Pq.start hD rfl h)
  have HDs : Hid (n = D.size) := Lib.hid hD.symm
  have HPV := Lib.hid hpv
  clear h hD
  rw [hpv]
  clear hpv
  go_enter Tryz.func111, Tryz.ntmps111
  obtain ⟨d2, hs2, hp2, hr2, hg2⟩ := hpS.out
  obtain ⟨x2, hx2, hcx2⟩ := hr2.get (show a < n by omega)
  obtain ⟨y2, hy2, hcy2⟩ := hr2.get (show p < n by omega)
  have fx2 := hr2.free a (by omega)
  have fy2 := hr2.free p (by omega)
  have s0 : (0 : Int) ≤ (a : Int) := by omega
  have s1 : (a : Int) < (n : Int) := by omega
  have s2 : (0 : Int) ≤ (p : Int) := by omega
  have s3 : (p : Int) < (n : Int) := by omega
  have HX2 := Lib.hid hx2
  have HY2 := Lib.hid hy2
  have HR2 := Lib.hid hr2
  have HP2 := Lib.hid hp2
  have HS2 := Lib.hid hs2
  clear hx2 hy2 hr2 hp2 hs2 hpS
  by_cases hsame : p = a
  · rw [hsame] at hcy2 fy2 HY2
    have hxy2 : x2 = y2 := by have h1 := HX2.out; have h2 := HY2.out; rw [h2] at h1; injection h1 with h1; exact h1.symm
    subst hxy2
    have HQ2 : Hid (Pt (ple pv) D a b pv ((a : Int) + 1) ((b : Int) - 1) (swp d2 a p)) := Lib.hid (Pt.init HPV.out (by omega) (by omega) (by rw [← HDs.out]; omega) HP2.out)
    have hsame2 := hsame.symm; subst hsame2
    go_wp2
    go_region
    go_wp2
    have hp21 := Lib.hid (Pq.swap (Q := fun A => Pt (ple pv) D a b pv ((a : Int) + 1) ((b : Int) - 1) A) HS2.out hg2 HR2.out HX2.out HX2.out 1 rfl HQ2.out)
    clear HP2 hg2 HR2 HX2 HY2 HS2 hcx2 hcy2 fx2 fy2 s0 s1 s2 s3 HQ2 HPV HDs
    go_loopw [9, 10] (fun si sj wr => ∃ I J : Int, (a : Int) + 1 ≤ I ∧ I ≤ b ∧ (a : Int) ≤ J ∧ J < b ∧ si = .int .i64 I ∧ sj = .int .i64 J ∧ Hid (Pq g n (fun A => Pt (ple pv) D a b pv (I) (J) A) w wr)) (fun si sj _ => (intOf sj - intOf si + 2).toNat)
    case atStart => exact ⟨(a : Int) + 1, (b : Int) - 1, by omega, by omega, by omega, by omega, rfl, rfl, hp21⟩
    case round =>
      obtain ⟨I, J, hI0, hI1, hJ0, hJ1, rfl, rfl, hp0⟩ := hrel
      go_wp2
      go_loopw [9] (fun sv wq => ∃ I1 : Int, I ≤ I1 ∧ I1 ≤ (b : Int) ∧ sv = .int .i64 I1 ∧ Hid (Pq g n (fun A => Pt (ple pv) D a b pv (I1) (J) A) w wq)) (fun sv _ => ((b : Int) - intOf sv).toNat)
      case atStart => exact ⟨I, by omega, by omega, rfl, hp0⟩
      case round =>
        obtain ⟨I1, ha3, hb4, rfl, hp2⟩ := hrel
        by_cases hij : I1 ≤ J
        · obtain ⟨d1, hs1, hp1, hr1, hg1⟩ := hp2.out
          have hv0 : 0 ≤ I1 := by omega
          have hv1 : I1 < (n : Int) := by omega
          have ba0 : (0 : Int) ≤ (a : Int) := by omega
          have ba1 : (a : Int) < (n : Int) := by omega
          obtain ⟨x, hx, hcx⟩ := hr1.get (show I1.toNat < n by omega)
          obtain ⟨z, hz, hcz⟩ := hr1.get (show a < n by omega)
          have hzp : z = pv := (bang hz).symm.trans hp1.piv
          have qg : decide (I1 ≤ J) = true := by simpa using hij
          by_cases hxz : z < x
          · have q5 : decide (z < x) = true := by simpa using hxz
            have HPX : Hid (Pq g n (fun A => Pt (ple pv) D a b pv (I1) (J) A ∧ ple pv A[(I1).toNat]! = false) w wr) := Lib.hid (Pq.mk' hs1 ⟨hp1, by rw [bang hx]; exact (show ple pv x = false from decide_eq_false (by omega))⟩ hg1 hr1)
            clear hx hz hs1 hp1 hr1 hp2 hzp
            go_wp2
            go_quiet ((go_at_call 110; first | exact less_quiet _ _ | exact less_quiet2 _ _))
            go_wp2
            have hp5 := Lib.hid (HPX.out.drewN nq)
            clear HPX hcx hcz q5 qg hxz hg1
            generalize wr.drewN nq = wx at hp5 ⊢
            go_loopw [10] (fun sv wq => ∃ J7 : Int, (a : Int) ≤ J7 ∧ J7 ≤ J ∧ sv = .int .i64 J7 ∧ Hid (Pq g n (fun A => Pt (ple pv) D a b pv (I1) (J7) A ∧ ple pv A[(I1).toNat]! = false) w wq)) (fun sv _ => (intOf sv).toNat)
            case atStart => exact ⟨J, by omega, by omega, rfl, hp5⟩
            case round =>
              obtain ⟨J7, ha9, hb10, rfl, hp8⟩ := hrel
              by_cases hij : I1 ≤ J7
              · obtain ⟨d1, hs1, hp1, hr1, hg1⟩ := hp8.out
                have hv0 : 0 ≤ J7 := by omega
                have hv1 : J7 < (n : Int) := by omega
                have ba0 : (0 : Int) ≤ (a : Int) := by omega
                have ba1 : (a : Int) < (n : Int) := by omega
                obtain ⟨x, hx, hcx⟩ := hr1.get (show J7.toNat < n by omega)
                obtain ⟨z, hz, hcz⟩ := hr1.get (show a < n by omega)
                have hzp : z = pv := (bang hz).symm.trans hp1.1.piv
                have qg : decide (I1 ≤ J7) = true := by simpa using hij
                by_cases hxz : z < x
                · have q5 : decide (z < x) = true := by simpa using hxz
                  have HPX : Hid (Pq g n (fun A => Pt (ple pv) D a b pv (I1) (J7 - 1) A ∧ ple pv A[(I1).toNat]! = false) w wr) := Lib.hid (Pq.mk' hs1 ⟨hp1.1.down (by omega) (bang hx) (show ple pv x = false from decide_eq_false (by omega)), hp1.2⟩ hg1 hr1)
                  clear hx hz hs1 hp1 hr1 hp8 hzp
                  go_wp2
                  go_quiet ((go_at_call 110; first | exact less_quiet _ _ | exact less_quiet2 _ _))
                  go_wp2
                  go_roundw
                  case rel => exact ⟨J7 - 1, by omega, by omega, by go_num, HPX.out.drewN _⟩
                  case measure => simp [intOf] <;> omega
                · have q5 : decide (z < x) = false := by simpa using hxz
                  have q6 : x ≤ z := by omega
                  have HPX : Hid (Pq g n (fun A => Pt (ple pv) D a b pv (I1) (J7) A ∧ ple pv A[(I1).toNat]! = false ∧ ple pv A[(J7).toNat]! = true) w wr) := Lib.hid (Pq.mk' hs1 ⟨hp1.1, hp1.2, by rw [bang hx]; exact (show ple pv x = true from decide_eq_true (by omega))⟩ hg1 hr1)
                  clear hx hz hs1 hp1 hr1 hp8 hzp
                  go_wp2
                  go_quiet ((go_at_call 110; first | exact less_quiet _ _ | exact less_quiet2 _ _))
                  go_wp2
                  have hp11 := Lib.hid (HPX.out.drewN nq)
                  clear HPX hcx hcz q5 q6 qg hxz hg1
                  generalize wr.drewN nq = wx at hp11 ⊢
                  have hgo : I1 ≤ J7 := hij
                  obtain ⟨d2, hs2, hp2, hr2, hg2⟩ := hp11.out
                  obtain ⟨x2, hx2, hcx2⟩ := hr2.get (show I1.toNat < n by omega)
                  obtain ⟨y2, hy2, hcy2⟩ := hr2.get (show J7.toNat < n by omega)
                  have fx2 := hr2.free I1.toNat (by omega)
                  have fy2 := hr2.free J7.toNat (by omega)
                  have s0 : (0 : Int) ≤ I1 := by omega
                  have s1 : I1 < (n : Int) := by omega
                  have s2 : (0 : Int) ≤ J7 := by omega
                  have s3 : J7 < (n : Int) := by omega
                  have HX2 := Lib.hid hx2
                  have HY2 := Lib.hid hy2
                  have HR2 := Lib.hid hr2
                  have HP2 := Lib.hid hp2
                  have HS2 := Lib.hid hs2
                  clear hx2 hy2 hr2 hp2 hs2 hp11
                  have hij2 : I1 < J7 := by
                    have h3 := HP2.out.2.1
                    have h4 := HP2.out.2.2
                    rcases Int.lt_or_le I1 J7 with h5 | h5
                    · exact h5
                    · exfalso
                      rw [show J7 = I1 by omega, h3] at h4
                      cases h4
                  have hne2 : ¬ I1.toNat = J7.toNat := by omega
                  have HQ2 : Hid (Pt (ple pv) D a b pv (I1 + 1) (J7 - 1) (swp d2 I1.toNat J7.toNat)) := Lib.hid (HP2.out.1.swap (by omega) hij2 (by omega) (by rw [HS2.out]; omega) HP2.out.2.1 HP2.out.2.2)
                  go_wp2
                  go_region
                  go_wp2
                  have hp13 := Lib.hid (Pq.swap (Q := fun A => Pt (ple pv) D a b pv (I1 + 1) (J7 - 1) A) HS2.out hg2 HR2.out HX2.out HY2.out 1 rfl HQ2.out)
                  clear HP2 hg2 HR2 HX2 HY2 HS2 hcx2 hcy2 fx2 fy2 s0 s1 s2 s3 hne2 hij2 HQ2
                  go_roundw
                  case rel => first | exact ⟨I1 + 1, J7 - 1, by omega, by omega, by omega, by omega, by go_num, by go_num, hp13.out⟩ | ((repeat apply Exists.intro); exact ⟨⟨I1 + 1, J7 - 1, by omega, by omega, by omega, by omega, by go_num, by go_num, hp13.out⟩, rfl⟩)
                  case measure => simp [intOf] <;> omega
              · have qg : decide (I1 ≤ J7) = false := by simpa using hij
                have HPG : Hid (Pq g n (fun A => Pt (ple pv) D a b pv (I1) (J7) A) w wr) := Lib.hid (hp8.out.imp fun A _ hA => hA.1)
                clear hp8
                go_wp2
                go_quiet (fail)
                go_wp2
                have hp12 := Lib.hid (HPG.out.drewN nq)
                clear HPG qg
                generalize wr.drewN nq = wx at hp12 ⊢
                have hbrk : J7 < I1 := by omega
                have HQ3 : Hid (Pq g n (fun A => SplitE D a b pv I1.toNat A) w wx) := Lib.hid (hp12.out.imp fun A _ hA => hA.finE (by omega) (by omega))
                clear hp12
                go_wp2
                go_ret
                exact ⟨I1.toNat, by rw [show ((I1.toNat : Nat) : Int) = I1 by omega]; rfl, by omega, by omega, HQ3.out⟩
          · have q5 : decide (z < x) = false := by simpa using hxz
            have q6 : x ≤ z := by omega
            have HPX : Hid (Pq g n (fun A => Pt (ple pv) D a b pv (I1 + 1) (J) A) w wr) := Lib.hid (Pq.mk' hs1 (hp1.up (by omega) (bang hx) (show ple pv x = true from decide_eq_true (by omega))) hg1 hr1)
            clear hx hz hs1 hp1 hr1 hp2 hzp
            go_wp2
            go_quiet ((go_at_call 110; first | exact less_quiet _ _ | exact less_quiet2 _ _))
            go_wp2
            go_roundw
            case rel => exact ⟨I1 + 1, by omega, by omega, by go_num, HPX.out.drewN _⟩
            case measure => simp [intOf] <;> omega
        · have qg : decide (I1 ≤ J) = false := by simpa using hij
          have HPG : Hid (Pq g n (fun A => Pt (ple pv) D a b pv (I1) (J) A) w wr) := hp2
          clear hp2
          go_wp2
          go_quiet (fail)
          go_wp2
          have hp6 := Lib.hid (HPG.out.drewN nq)
          clear HPG qg
          generalize wr.drewN nq = wx at hp6 ⊢
          go_loopw [10] (fun sv wq => ∃ J14 : Int, (a : Int) ≤ J14 ∧ J14 ≤ J ∧ sv = .int .i64 J14 ∧ Hid (Pq g n (fun A => Pt (ple pv) D a b pv (I1) (J14) A) w wq)) (fun sv _ => (intOf sv).toNat)
          case atStart => exact ⟨J, by omega, by omega, rfl, hp6⟩
          case round =>
            obtain ⟨J14, ha16, hb17, rfl, hp15⟩ := hrel
            by_cases hij : I1 ≤ J14
            · exfalso; omega
            · have qg : decide (I1 ≤ J14) = false := by simpa using hij
              have HPG : Hid (Pq g n (fun A => Pt (ple pv) D a b pv (I1) (J14) A) w wr) := hp15
              clear hp15
              go_wp2
              go_quiet (fail)
              go_wp2
              have hp19 := Lib.hid (HPG.out.drewN nq)
              clear HPG qg
              generalize wr.drewN nq = wx at hp19 ⊢
              have hbrk : J14 < I1 := by omega
              have HQ3 : Hid (Pq g n (fun A => SplitE D a b pv I1.toNat A) w wx) := Lib.hid (hp19.out.imp fun A _ hA => hA.finE (by omega) (by omega))
              clear hp19
              go_wp2
              go_ret
              exact ⟨I1.toNat, by rw [show ((I1.toNat : Nat) : Int) = I1 by omega]; rfl, by omega, by omega, HQ3.out⟩
  · have hne2 : ¬ a = p := fun e => hsame e.symm
    have HQ2 : Hid (Pt (ple pv) D a b pv ((a : Int) + 1) ((b : Int) - 1) (swp d2 a p)) := Lib.hid (Pt.init HPV.out (by omega) (by omega) (by rw [← HDs.out]; omega) HP2.out)
    go_wp2
    go_region
    go_wp2
    have hp21 := Lib.hid (Pq.swap (Q := fun A => Pt (ple pv) D a b pv ((a : Int) + 1) ((b : Int) - 1) A) HS2.out hg2 HR2.out HX2.out HY2.out 1 rfl HQ2.out)
    clear HP2 hg2 HR2 HX2 HY2 HS2 hcx2 hcy2 fx2 fy2 s0 s1 s2 s3 hsame hne2 HQ2 HPV HDs
    go_loopw [9, 10] (fun si sj wr => ∃ I J : Int, (a : Int) + 1 ≤ I ∧ I ≤ b ∧ (a : Int) ≤ J ∧ J < b ∧ si = .int .i64 I ∧ sj = .int .i64 J ∧ Hid (Pq g n (fun A => Pt (ple pv) D a b pv (I) (J) A) w wr)) (fun si sj _ => (intOf sj - intOf si + 2).toNat)
    case atStart => exact ⟨(a : Int) + 1, (b : Int) - 1, by omega, by omega, by omega, by omega, rfl, rfl, hp21⟩
    case round =>
      obtain ⟨I, J, hI0, hI1, hJ0, hJ1, rfl, rfl, hp0⟩ := hrel
      go_wp2
      go_loopw [9] (fun sv wq => ∃ I1 : Int, I ≤ I1 ∧ I1 ≤ (b : Int) ∧ sv = .int .i64 I1 ∧ Hid (Pq g n (fun A => Pt (ple pv) D a b pv (I1) (J) A) w wq)) (fun sv _ => ((b : Int) - intOf sv).toNat)
      case atStart => exact ⟨I, by omega, by omega, rfl, hp0⟩
      case round =>
        obtain ⟨I1, ha3, hb4, rfl, hp2⟩ := hrel
        by_cases hij : I1 ≤ J
        · obtain ⟨d1, hs1, hp1, hr1, hg1⟩ := hp2.out
          have hv0 : 0 ≤ I1 := by omega
          have hv1 : I1 < (n : Int) := by omega
          have ba0 : (0 : Int) ≤ (a : Int) := by omega
          have ba1 : (a : Int) < (n : Int) := by omega
          obtain ⟨x, hx, hcx⟩ := hr1.get (show I1.toNat < n by omega)
          obtain ⟨z, hz, hcz⟩ := hr1.get (show a < n by omega)
          have hzp : z = pv := (bang hz).symm.trans hp1.piv
          have qg : decide (I1 ≤ J) = true := by simpa using hij
          by_cases hxz : z < x
          · have q5 : decide (z < x) = true := by simpa using hxz
            have HPX : Hid (Pq g n (fun A => Pt (ple pv) D a b pv (I1) (J) A ∧ ple pv A[(I1).toNat]! = false) w wr) := Lib.hid (Pq.mk' hs1 ⟨hp1, by rw [bang hx]; exact (show ple pv x = false from decide_eq_false (by omega))⟩ hg1 hr1)
            clear hx hz hs1 hp1 hr1 hp2 hzp
            go_wp2
            go_quiet ((go_at_call 110; first | exact less_quiet _ _ | exact less_quiet2 _ _))
            go_wp2
            have hp5 := Lib.hid (HPX.out.drewN nq)
            clear HPX hcx hcz q5 qg hxz hg1
            generalize wr.drewN nq = wx at hp5 ⊢
            go_loopw [10] (fun sv wq => ∃ J7 : Int, (a : Int) ≤ J7 ∧ J7 ≤ J ∧ sv = .int .i64 J7 ∧ Hid (Pq g n (fun A => Pt (ple pv) D a b pv (I1) (J7) A ∧ ple pv A[(I1).toNat]! = false) w wq)) (fun sv _ => (intOf sv).toNat)
            case atStart => exact ⟨J, by omega, by omega, rfl, hp5⟩
            case round =>
              obtain ⟨J7, ha9, hb10, rfl, hp8⟩ := hrel
              by_cases hij : I1 ≤ J7
              · obtain ⟨d1, hs1, hp1, hr1, hg1⟩ := hp8.out
                have hv0 : 0 ≤ J7 := by omega
                have hv1 : J7 < (n : Int) := by omega
                have ba0 : (0 : Int) ≤ (a : Int) := by omega
                have ba1 : (a : Int) < (n : Int) := by omega
                obtain ⟨x, hx, hcx⟩ := hr1.get (show J7.toNat < n by omega)
                obtain ⟨z, hz, hcz⟩ := hr1.get (show a < n by omega)
                have hzp : z = pv := (bang hz).symm.trans hp1.1.piv
                have qg : decide (I1 ≤ J7) = true := by simpa using hij
                by_cases hxz : z < x
                · have q5 : decide (z < x) = true := by simpa using hxz
                  have HPX : Hid (Pq g n (fun A => Pt (ple pv) D a b pv (I1) (J7 - 1) A ∧ ple pv A[(I1).toNat]! = false) w wr) := Lib.hid (Pq.mk' hs1 ⟨hp1.1.down (by omega) (bang hx) (show ple pv x = false from decide_eq_false (by omega)), hp1.2⟩ hg1 hr1)
                  clear hx hz hs1 hp1 hr1 hp8 hzp
                  go_wp2
                  go_quiet ((go_at_call 110; first | exact less_quiet _ _ | exact less_quiet2 _ _))
                  go_wp2
                  go_roundw
                  case rel => exact ⟨J7 - 1, by omega, by omega, by go_num, HPX.out.drewN _⟩
                  case measure => simp [intOf] <;> omega
                · have q5 : decide (z < x) = false := by simpa using hxz
                  have q6 : x ≤ z := by omega
                  have HPX : Hid (Pq g n (fun A => Pt (ple pv) D a b pv (I1) (J7) A ∧ ple pv A[(I1).toNat]! = false ∧ ple pv A[(J7).toNat]! = true) w wr) := Lib.hid (Pq.mk' hs1 ⟨hp1.1, hp1.2, by rw [bang hx]; exact (show ple pv x = true from decide_eq_true (by omega))⟩ hg1 hr1)
                  clear hx hz hs1 hp1 hr1 hp8 hzp
                  go_wp2
                  go_quiet ((go_at_call 110; first | exact less_quiet _ _ | exact less_quiet2 _ _))
                  go_wp2
                  have hp11 := Lib.hid (HPX.out.drewN nq)
                  clear HPX hcx hcz q5 q6 qg hxz hg1
                  generalize wr.drewN nq = wx at hp11 ⊢
                  have hgo : I1 ≤ J7 := hij
                  obtain ⟨d2, hs2, hp2, hr2, hg2⟩ := hp11.out
                  obtain ⟨x2, hx2, hcx2⟩ := hr2.get (show I1.toNat < n by omega)
                  obtain ⟨y2, hy2, hcy2⟩ := hr2.get (show J7.toNat < n by omega)
                  have fx2 := hr2.free I1.toNat (by omega)
                  have fy2 := hr2.free J7.toNat (by omega)
                  have s0 : (0 : Int) ≤ I1 := by omega
                  have s1 : I1 < (n : Int) := by omega
                  have s2 : (0 : Int) ≤ J7 := by omega
                  have s3 : J7 < (n : Int) := by omega
                  have HX2 := Lib.hid hx2
                  have HY2 := Lib.hid hy2
                  have HR2 := Lib.hid hr2
                  have HP2 := Lib.hid hp2
                  have HS2 := Lib.hid hs2
                  clear hx2 hy2 hr2 hp2 hs2 hp11
                  have hij2 : I1 < J7 := by
                    have h3 := HP2.out.2.1
                    have h4 := HP2.out.2.2
                    rcases Int.lt_or_le I1 J7 with h5 | h5
                    · exact h5
                    · exfalso
                      rw [show J7 = I1 by omega, h3] at h4
                      cases h4
                  have hne2 : ¬ I1.toNat = J7.toNat := by omega
                  have HQ2 : Hid (Pt (ple pv) D a b pv (I1 + 1) (J7 - 1) (swp d2 I1.toNat J7.toNat)) := Lib.hid (HP2.out.1.swap (by omega) hij2 (by omega) (by rw [HS2.out]; omega) HP2.out.2.1 HP2.out.2.2)
                  go_wp2
                  go_region
                  go_wp2
                  have hp13 := Lib.hid (Pq.swap (Q := fun A => Pt (ple pv) D a b pv (I1 + 1) (J7 - 1) A) HS2.out hg2 HR2.out HX2.out HY2.out 1 rfl HQ2.out)
                  clear HP2 hg2 HR2 HX2 HY2 HS2 hcx2 hcy2 fx2 fy2 s0 s1 s2 s3 hne2 hij2 HQ2
                  go_roundw
                  case rel => first | exact ⟨I1 + 1, J7 - 1, by omega, by omega, by omega, by omega, by go_num, by go_num, hp13.out⟩ | ((repeat apply Exists.intro); exact ⟨⟨I1 + 1, J7 - 1, by omega, by omega, by omega, by omega, by go_num, by go_num, hp13.out⟩, rfl⟩)
                  case measure => simp [intOf] <;> omega
              · have qg : decide (I1 ≤ J7) = false := by simpa using hij
                have HPG : Hid (Pq g n (fun A => Pt (ple pv) D a b pv (I1) (J7) A) w wr) := Lib.hid (hp8.out.imp fun A _ hA => hA.1)
                clear hp8
                go_wp2
                go_quiet (fail)
                go_wp2
                have hp12 := Lib.hid (HPG.out.drewN nq)
                clear HPG qg
                generalize wr.drewN nq = wx at hp12 ⊢
                have hbrk : J7 < I1 := by omega
                have HQ3 : Hid (Pq g n (fun A => SplitE D a b pv I1.toNat A) w wx) := Lib.hid (hp12.out.imp fun A _ hA => hA.finE (by omega) (by omega))
                clear hp12
                go_wp2
                go_ret
                exact ⟨I1.toNat, by rw [show ((I1.toNat : Nat) : Int) = I1 by omega]; rfl, by omega, by omega, HQ3.out⟩
          · have q5 : decide (z < x) = false := by simpa using hxz
            have q6 : x ≤ z := by omega
            have HPX : Hid (Pq g n (fun A => Pt (ple pv) D a b pv (I1 + 1) (J) A) w wr) := Lib.hid (Pq.mk' hs1 (hp1.up (by omega) (bang hx) (show ple pv x = true from decide_eq_true (by omega))) hg1 hr1)
            clear hx hz hs1 hp1 hr1 hp2 hzp
            go_wp2
            go_quiet ((go_at_call 110; first | exact less_quiet _ _ | exact less_quiet2 _ _))
            go_wp2
            go_roundw
            case rel => exact ⟨I1 + 1, by omega, by omega, by go_num, HPX.out.drewN _⟩
            case measure => simp [intOf] <;> omega
        · have qg : decide (I1 ≤ J) = false := by simpa using hij
          have HPG : Hid (Pq g n (fun A => Pt (ple pv) D a b pv (I1) (J) A) w wr) := hp2
          clear hp2
          go_wp2
          go_quiet (fail)
          go_wp2
          have hp6 := Lib.hid (HPG.out.drewN nq)
          clear HPG qg
          generalize wr.drewN nq = wx at hp6 ⊢
          go_loopw [10] (fun sv wq => ∃ J14 : Int, (a : Int) ≤ J14 ∧ J14 ≤ J ∧ sv = .int .i64 J14 ∧ Hid (Pq g n (fun A => Pt (ple pv) D a b pv (I1) (J14) A) w wq)) (fun sv _ => (intOf sv).toNat)
          case atStart => exact ⟨J, by omega, by omega, rfl, hp6⟩
          case round =>
            obtain ⟨J14, ha16, hb17, rfl, hp15⟩ := hrel
            by_cases hij : I1 ≤ J14
            · exfalso; omega
            · have qg : decide (I1 ≤ J14) = false := by simpa using hij
              have HPG : Hid (Pq g n (fun A => Pt (ple pv) D a b pv (I1) (J14) A) w wr) := hp15
              clear hp15
              go_wp2
              go_quiet (fail)
              go_wp2
              have hp19 := Lib.hid (HPG.out.drewN nq)
              clear HPG qg
              generalize wr.drewN nq = wx at hp19 ⊢
              have hbrk : J14 < I1 := by omega
              have HQ3 : Hid (Pq g n (fun A => SplitE D a b pv I1.toNat A) w wx) := Lib.hid (hp19.out.imp fun A _ hA => hA.finE (by omega) (by omega))
              clear hp19
              go_wp2
              go_ret
              exact ⟨I1.toNat, by rw [show ((I1.toNat : Nat) : Int) = I1 by omega]; rfl, by omega, by omega, HQ3.out⟩
end Go.Proofs.YtbdcdofjcljliaaGreatDoor.So
