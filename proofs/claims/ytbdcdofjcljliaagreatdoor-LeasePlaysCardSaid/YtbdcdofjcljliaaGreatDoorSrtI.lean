/- The library's sort at uint64, in order: pdqsort. -/
import Derived.Test.YtbdcdofjcljliaaGreatDoorSrtA
import Derived.Test.YtbdcdofjcljliaaGreatDoorSrtE
import Derived.Test.YtbdcdofjcljliaaGreatDoorSrtF
import Derived.Test.YtbdcdofjcljliaaGreatDoorSrtC
import Derived.Test.YtbdcdofjcljliaaGreatDoorSrtH
import Derived.Deep.DeepCutAuto
namespace Go.Proofs.YtbdcdofjcljliaaGreatDoor.So
open Go.ChangeShapes Go.WideShapes Go.ChangeAt Go.RowKit Rw
open Go.Sort (swp ltInt PermIn SortedIn swo_ltInt)
set_option linter.unusedVariables false

/-- Where the part from A to B rises, all from a to b does. -/
def Fin (D : Array Int) (a b A B : Nat) (X : Array Int) : Prop := ∀ X', PermIn A B X X' → SortedIn ltInt A B X' → PermIn a b D X' ∧ SortedIn ltInt a b X'
section
variable {D X Y : Array Int} {a b A B r : Nat} {pv : Int}
theorem Fin.perm (h : Fin D a b A B X) (hp : PermIn A B X Y) : Fin D a b A B Y := fun X' h1 h2 => h X' (Go.Sort.permIn_trans _ _ _ _ _ hp h1) h2
theorem bl_perm (h : Go.Sort.Below ltInt A B X) (hB : B ≤ X.size) (hp : PermIn A B X Y) : Go.Sort.Below ltInt A B Y := Go.Sort.Below.permA Go.Sort.permIn_all hB h hp
theorem bl_sub (h : Go.Sort.Below ltInt A B X) (hr : r ≤ B) : Go.Sort.Below ltInt A r X := by
  rcases h with h | h
  · exact .inl h
  · exact .inr fun i h1 h2 => h i h1 (by omega)
theorem nlt {x y : Int} (h : y ≤ x) : ltInt x y = false := decide_eq_false (by omega)
theorem ge_of {x y : Int} (h : ltInt x y = false) : y ≤ x := by have := of_decide_eq_false h; omega
theorem fin_left (h : Fin D a b A B X) (hs : Split Y A B pv r X) (hA : A ≤ r) (hr : r < B) (hB : B ≤ X.size) {Z : Array Int} (h1 : PermIn A r X Z) (h2 : SortedIn ltInt A r Z) : Fin D a b (r + 1) B Z ∧ Go.Sort.Below ltInt (r + 1) B Z := by
  have z1 : ∀ k, A ≤ k → k < r → Z[k]! < pv := Go.Sort.permIn_all X Z A r (fun v => v < pv) (by omega) h1 (fun k k1 k2 => hs.lo k k1 k2)
  have z2 : ∀ k, r ≤ k → Z[k]! = X[k]! := fun k hk => h1.2.1 k (.inr hk)
  refine ⟨fun X' p s => ?_, .inr fun i i1 i2 => ?_⟩
  · have zs : Z.size = X.size := h1.1
    have x1 : ∀ k, k < r + 1 → X'[k]! = Z[k]! := fun k hk => p.2.1 k (.inl hk)
    have x2 : ∀ k, r + 1 ≤ k → k < B → pv ≤ X'[k]! := Go.Sort.permIn_all Z X' (r + 1) B (fun v => pv ≤ v) (by omega) p (fun k k1 k2 => by rw [z2 k (by omega)]; exact hs.hi k (by omega) k2)
    refine h X' (Go.Sort.permIn_trans _ _ _ _ _ (Go.Sort.permIn_mono _ _ _ _ _ _ (Nat.le_refl _) (by omega) hB h1) (Go.Sort.permIn_mono _ _ _ _ _ _ (by omega) (Nat.le_refl _) (by omega) p)) fun i j hi hij hj => nlt ?_
    by_cases c1 : j < r
    · rw [x1 i (by omega), x1 j (by omega)]
      exact ge_of (h2 i j hi hij c1)
    · by_cases c2 : j = r
      · subst c2
        rw [x1 i (by omega), x1 j (by omega), z2 j (Nat.le_refl _), hs.piv]
        have := z1 i hi hij
        omega
      · by_cases c3 : i < r
        · have := z1 i hi c3
          have := x2 j (by omega) hj
          rw [x1 i (by omega)]; omega
        · by_cases c4 : i = r
          · subst c4
            rw [x1 i (by omega), z2 i (Nat.le_refl _), hs.piv]
            exact x2 j (by omega) hj
          · exact ge_of (s i j (by omega) hij hj)
  · rw [show r + 1 - 1 = r by omega, z2 i (by omega), z2 r (Nat.le_refl _), hs.piv]
    exact nlt (hs.hi i (by omega) i2)
theorem bl_right (hs : Split Y A B pv r X) : Go.Sort.Below ltInt (r + 1) B X := .inr fun i i1 i2 => by
  rw [show r + 1 - 1 = r by omega, hs.piv]
  exact nlt (hs.hi i (by omega) i2)
theorem fin_right (h : Fin D a b A B X) (hb : Go.Sort.Below ltInt A B X) (hs : Split Y A B pv r X) (hA : A ≤ r) (hr : r < B) (hB : B ≤ X.size) {Z : Array Int} (h1 : PermIn (r + 1) B X Z) (h2 : SortedIn ltInt (r + 1) B Z) : Fin D a b A r Z ∧ Go.Sort.Below ltInt A r Z := by
  have z1 : ∀ k, r + 1 ≤ k → k < B → pv ≤ Z[k]! := Go.Sort.permIn_all X Z (r + 1) B (fun v => pv ≤ v) hB h1 (fun k k1 k2 => hs.hi k (by omega) k2)
  have z2 : ∀ k, k < r + 1 → Z[k]! = X[k]! := fun k hk => h1.2.1 k (.inl hk)
  have zs : Z.size = X.size := h1.1
  refine ⟨fun X' p s => ?_, ?_⟩
  · have x1 : ∀ k, r ≤ k → X'[k]! = Z[k]! := fun k hk => p.2.1 k (.inr hk)
    have x2 : ∀ k, A ≤ k → k < r → X'[k]! < pv := Go.Sort.permIn_all Z X' A r (fun v => v < pv) (by omega) p (fun k k1 k2 => by rw [z2 k (by omega)]; exact hs.lo k k1 k2)
    refine h X' (Go.Sort.permIn_trans _ _ _ _ _ (Go.Sort.permIn_mono _ _ _ _ _ _ (by omega) (Nat.le_refl _) hB h1) (Go.Sort.permIn_mono _ _ _ _ _ _ (Nat.le_refl _) (by omega) (by omega) p)) fun i j hi hij hj => nlt ?_
    by_cases c1 : j < r
    · exact ge_of (s i j hi hij c1)
    · by_cases c2 : j = r
      · subst c2
        rw [x1 j (Nat.le_refl _), z2 j (by omega), hs.piv]
        have := x2 i hi hij
        omega
      · by_cases c3 : i < r
        · have := x2 i hi c3
          have := z1 j (by omega) hj
          rw [x1 j (by omega)]; omega
        · by_cases c4 : i = r
          · subst c4
            rw [x1 i (Nat.le_refl _), z2 i (by omega), hs.piv, x1 j (by omega)]
            exact z1 j (by omega) hj
          · rw [x1 i (by omega), x1 j (by omega)]
            exact ge_of (h2 i j (by omega) hij hj)
  · rcases hb with hb | hb
    · exact .inl hb
    · exact .inr fun i i1 i2 => by rw [z2 i (by omega), z2 (A - 1) (by omega)]; exact hb i i1 (by omega)
theorem fin_eq (h : Fin D a b A B X) (hs : SplitE Y A B pv r X) (hge : ∀ k, A ≤ k → k < B → pv ≤ Y[k]!) (hA : A < r) (hr : r ≤ B) (hB : B ≤ X.size) : Fin D a b r B X ∧ Go.Sort.Below ltInt r B X := by
  have g1 : ∀ k, A ≤ k → k < B → pv ≤ X[k]! := Go.Sort.permIn_all Y X A B (fun v => pv ≤ v) (by rw [← hs.perm.1]; exact hB) hs.perm hge
  refine ⟨fun X' p s => ?_, .inr fun i i1 i2 => ?_⟩
  · have x1 : ∀ k, k < r → X'[k]! = X[k]! := fun k hk => p.2.1 k (.inl hk)
    have x2 : ∀ k, r ≤ k → k < B → pv < X'[k]! := Go.Sort.permIn_all X X' r B (fun v => pv < v) hB p (fun k k1 k2 => hs.hi k k1 k2)
    refine h X' (Go.Sort.permIn_mono _ _ _ _ _ _ (by omega) (Nat.le_refl _) hB p) fun i j hi hij hj => nlt ?_
    by_cases c1 : i < r
    · have h3 := hs.lo i hi c1
      by_cases c2 : j < r
      · rw [x1 i c1, x1 j c2]
        have := g1 j (by omega) hj
        omega
      · have := x2 j (by omega) hj
        rw [x1 i c1]; omega
    · exact ge_of (s i j (by omega) hij hj)
  · have := hs.lo (r - 1) (by omega) (by omega)
    have := hs.hi i i1 i2
    exact nlt (by omega)
end

set_option maxHeartbeats 8000000 in
set_option maxRecDepth 100000 in
theorem pdq_srt (k : Nat) : ∀ (g n c : Nat) (D : Array Int) (a b : Nat) (lim : Int) (w : World), b - a ≤ k → D.size = n → Row w g n D.toList → Go.Sort.Below ltInt a b D → a ≤ b → b ≤ n → n ≤ 200 → 0 < n → 0 ≤ lim → lim ≤ 9223372036854775807 →
    Calls Tryz.prog 84 #[.slice (some ⟨g, 0, none⟩) n c, .int .i64 a, .int .i64 b, .int .i64 lim] w fun e w' => e = .returned (.tuple #[]) ∧ Pq g n (fun X => PermIn a b D X ∧ SortedIn ltInt a b X) w w' := by
  induction k using Nat.strongRecOn with
  | _ k ih =>
  intro g n c D a b lim w hk hD h hbl hab hb hn hn0 hl0 hl1
  have HI := Lib.hid ih
  have HPS : Hid (Pq g n (fun X => Fin D a b a b X ∧ Go.Sort.Below ltInt a b X) w w) := Lib.hid (Pq.start hD ⟨fun X' h1 h2 => ⟨h1, h2⟩, hbl⟩ h)
  clear ih h hD hbl
  go_enter Tryz.func84, Tryz.ntmps84
  go_wp2_with fail
  go_loopw [1, 2, 3, 8, 9] (fun sa sb sl s8 s9 wr => ∃ (A B : Nat) (L : Int) (wb wp : Bool), a ≤ A ∧ A ≤ B ∧ B ≤ b ∧ sa = .int .i64 A ∧ sb = .int .i64 B ∧ sl = .int .i64 L ∧ 0 ≤ L ∧ L ≤ 9223372036854775807 ∧ s8 = .bool wb ∧ s9 = .bool wp ∧ Hid (Pq g n (fun X => Fin D a b A B X ∧ Go.Sort.Below ltInt A B X) w wr)) (fun sa sb _ _ _ _ => (intOf sb - intOf sa).toNat)
  case atStart => exact ⟨a, b, lim, true, true, Nat.le_refl _, hab, Nat.le_refl _, rfl, rfl, rfl, hl0, hl1, rfl, rfl, HPS⟩
  case round =>
    clear HPS
    obtain ⟨A, B, L, wb, wp, hA, hAB, hB, rfl, rfl, rfl, hL0, hL1, rfl, rfl, hpm⟩ := hrel
    obtain ⟨q, hq⟩ : ∃ q : Nat, B = A + q := ⟨B - A, by omega⟩
    have e1 : (B : Int) - (A : Int) = (q : Int) := by omega
    have hq1 : B ≤ A + q := by omega
    have hq2 : A + q ≤ B := by omega
    clear hq
    by_cases hq12 : q ≤ 12
    · obtain ⟨d1, hs1, hp1, hr1, hg1⟩ := hpm.out
      have HR1 := Lib.hid hr1
      have HP1 := Lib.hid hp1
      have HS1 := Lib.hid hs1
      clear hr1 hp1 hpm hs1
      go_wp2_with fail
      refine (insertion_srt g n c d1 A B _ HS1.out HR1.out (by omega) (by omega) (by omega)).mono ?_
      rintro e w2 ⟨rfl, h2⟩
      have H2 := Lib.hid h2
      clear h2
      go_wp2_with fail
      refine bodyPost_ret (v := .tuple #[]) (by simp [results, Tryz.results84]) rfl ?_
      exact ⟨rfl, Pq.trans hg1 (H2.out.imp fun X _ hX => HP1.out.1 X hX.1 hX.2)⟩
    by_cases hL : L = 0
    · subst hL
      obtain ⟨d1, hs1, hp1, hr1, hg1⟩ := hpm.out
      have HR1 := Lib.hid hr1
      have HP1 := Lib.hid hp1
      have HS1 := Lib.hid hs1
      clear hr1 hp1 hpm hs1
      go_wp2_with fail
      refine (heap_srt g n c d1 A B _ HS1.out HR1.out (by omega) (by omega) (by omega)).mono ?_
      rintro e w2 ⟨rfl, h2⟩
      have H2 := Lib.hid h2
      clear h2
      go_wp2_with fail
      refine bodyPost_ret (v := .tuple #[]) (by simp [results, Tryz.results84]) rfl ?_
      exact ⟨rfl, Pq.trans hg1 (H2.out.imp fun X _ hX => HP1.out.1 X hX.1 hX.2)⟩
    have qL : (L == 0) = false := by simpa using hL
    have hLp : 1 ≤ L := by omega
    clear hL
    go_upto_if 35 with (fail)
    go_cut [3] from 19 to 133 (fun s3 wx => ∃ L2 : Int, s3 = .int .i64 L2 ∧ 0 ≤ L2 ∧ L2 ≤ 9223372036854775807 ∧ Hid (Pq g n (fun X => Fin D a b A B X ∧ Go.Sort.Below ltInt A B X) w wx))
    case first =>
      cases wb
      · obtain ⟨d1, hs1, hp1, hr1, hg1⟩ := hpm.out
        have HR1 := Lib.hid hr1
        have HP1 := Lib.hid hp1
        have HS1 := Lib.hid hs1
        clear hr1 hp1 hpm hs1
        go_wp2_with fail
        refine (break_srt g n c d1 A B _ HS1.out HR1.out (by omega) (by omega) hn).mono ?_
        rintro e w2 ⟨rfl, h2⟩
        have H2 := Lib.hid h2
        clear h2
        go_wp2_with fail
        go_meet
        exact ⟨L - 1, rfl, by omega, by omega, Pq.trans hg1 (H2.out.imp fun X _ hX => ⟨HP1.out.1.perm hX, bl_perm HP1.out.2 (by rw [HS1.out]; omega) hX⟩)⟩
      · go_wp2_with fail
        go_meet
        exact ⟨L, rfl, by omega, by omega, hpm⟩
    case rest =>
      clear hpm qL hLp hL0 hL1
      obtain ⟨L2, rfl, hL2, hL3, hpm⟩ := hcut
      obtain ⟨d1, hs1, hp1, hr1, hg1⟩ := hpm.out
      have HR1 := Lib.hid hr1
      have HP1 := Lib.hid hp1
      have HS1 := Lib.hid hs1
      clear hr1 hp1 hpm hs1
      go_wp2_with fail
      refine (pivot_srt g n c d1.toList A B _ HR1.out (by omega) (by omega) (by omega)).mono ?_
      rintro e w2 ⟨p, t, rfl, hp0, hp1, ht, h2, h3⟩
      have hpm2 : Hid (Pq g n (fun X => Fin D a b A B X ∧ Go.Sort.Below ltInt A B X) w w2) := Lib.hid ⟨d1, HS1.out, HP1.out, h2, hg1.trans h3⟩
      clear h2 h3 HR1 HP1 HS1 hg1
      go_upto_if 50 with (fail)
      go_cut [11, 12] from 19 to 133 (fun s11 s12 wx => ∃ (p2 : Nat) (t2 : Int), s11 = .int .i64 p2 ∧ s12 = .int .i64 t2 ∧ A ≤ p2 ∧ p2 < B ∧ (t2 = 0 ∨ t2 = 1) ∧ Hid (Pq g n (fun X => Fin D a b A B X ∧ Go.Sort.Below ltInt A B X) w wx))
      case first =>
        rcases ht with rfl | rfl | rfl
        · go_wp2_with fail
          go_meet
          exact ⟨p, 0, rfl, rfl, hp0, hp1, by omega, hpm2⟩
        · go_wp2_with fail
          go_meet
          exact ⟨p, 1, rfl, rfl, hp0, hp1, by omega, hpm2⟩
        · obtain ⟨d2, hs2, hd2, hr2, hg2⟩ := hpm2.out
          have HR2 := Lib.hid hr2
          have HD2 := Lib.hid hd2
          have HS2 := Lib.hid hs2
          clear hr2 hd2 hpm2 hs2
          go_wp2_with fail
          refine (reverse_srt g n c d2 A B _ HS2.out HR2.out (by omega) (by omega) (by omega)).mono ?_
          rintro e w3 ⟨rfl, h3⟩
          have H3 := Lib.hid h3
          clear h3
          go_wp2_with fail
          go_meet
          exact ⟨B - 1 - (p - A), 1, by rw [show ((B - 1 - (p - A) : Nat) : Int) = (B : Int) - 1 - ((p : Int) - (A : Int)) by omega], rfl, by omega, by omega, by omega, Pq.trans hg2 (H3.out.imp fun X _ hX => ⟨HD2.out.1.perm hX, bl_perm HD2.out.2 (by rw [HS2.out]; omega) hX⟩)⟩
      case rest =>
        clear hpm2 hp0 hp1 ht
        obtain ⟨p2, t2, rfl, rfl, hp0, hp1, ht, hpm⟩ := hcut
        go_upto_region 15 with (fail)
        go_cut [68] from 19 to 133 (fun s68 wx => ∃ bb : Bool, s68 = .bool bb ∧ Hid (Pq g n (fun X => Fin D a b A B X ∧ Go.Sort.Below ltInt A B X) w wx))
        case first =>
          cases wb <;> cases wp <;> rcases ht with rfl | rfl
          all_goals
            go_wp2_with fail
            go_meet
            exact ⟨_, rfl, hpm⟩
        case rest =>
          clear hpm ht
          obtain ⟨bb, rfl, hpm⟩ := hcut
          cases bb
          · have htok : True := trivial
            go_upto_region 17 with (fail)
            go_cut [87] from 19 to 133 (fun s87 wx => ∃ bb : Bool, s87 = .bool bb ∧ Hid (Pq g n (fun X => Fin D a b A B X ∧ Go.Sort.Below ltInt A B X ∧ (bb = true → ∀ i, A ≤ i → i < B → X[p2]! ≤ X[i]!)) w wx))
            case first =>
              by_cases hA0 : A = 0
              · have q1 : decide ((0 : Int) < (A : Int)) = false := by simp; omega
                have q2 : decide (0 < A) = false := by simp; omega
                have HQ : Hid (Pq g n (fun X => Fin D a b A B X ∧ Go.Sort.Below ltInt A B X ∧ ((0 : Nat) = 1 → ∀ i, A ≤ i → i < B → X[p2]! ≤ X[i]!)) w _) := Lib.hid (hpm.out.imp fun X _ hX => ⟨hX.1, hX.2, fun e => by cases e⟩)
                clear hpm
                go_wp2_with fail
                go_quiet (fail)
                go_wp2_with fail
                go_meet
                exact ⟨false, rfl, (HQ.out.drewN _).imp fun X _ hX => ⟨hX.1, hX.2.1, fun e => by cases e⟩⟩
              · obtain ⟨d3, hs3, hd3, hr3, hg3⟩ := hpm.out
                obtain ⟨m, hm⟩ := Int.eq_ofNat_of_zero_le (show 0 ≤ (A : Int) - 1 by omega)
                obtain ⟨x, hx, hcx⟩ := hr3.get (show m < n by omega)
                obtain ⟨y, hy, hcy⟩ := hr3.get (show p2 < n by omega)
                have w1 : IntKind.i64.wrap ((A : Int) - 1) = (m : Int) := by rw [hm]; exact IntWalk.i64_in _ (by omega)
                have v2 : (0 : Int) ≤ (m : Int) := by omega
                have v3 : (m : Int) < (n : Int) := by omega
                have v4 : (0 : Int) ≤ (p2 : Int) := by omega
                have v5 : (p2 : Int) < (n : Int) := by omega
                have q1 : decide ((0 : Int) < (A : Int)) = true := by simp; omega
                have q2 : decide (0 < A) = true := by simp; omega
                have HQ : Hid (Pq g n (fun X => Fin D a b A B X ∧ Go.Sort.Below ltInt A B X ∧ ((!decide (x < y)) = true → ∀ i, A ≤ i → i < B → X[p2]! ≤ X[i]!)) w _) := Lib.hid ⟨d3, hs3, ⟨hd3.1, hd3.2, fun e i i1 i2 => by
                  have e1 : ¬ x < y := by simpa using e
                  rcases hd3.2 with h0 | h0
                  · exact absurd h0 hA0
                  · have h5 := ge_of (h0 i i1 i2)
                    rw [show A - 1 = m by omega, bang hx] at h5
                    rw [bang hy]; omega⟩, hr3, hg3⟩
                clear hx hy hr3 hd3 hg3 hm hA0 hpm hs3
                go_wp2_with fail
                go_quiet ((go_at_call 110; first | exact less_quiet _ _ | exact less_quiet2 _ _))
                go_wp2_with fail
                go_meet
                exact ⟨_, rfl, HQ.out.drewN _⟩
            case rest =>
              clear hpm
              obtain ⟨bb, rfl, hpm⟩ := hcut
              obtain ⟨d4, hs4, hd4, hr4, hg4⟩ := hpm.out
              have HR4 := Lib.hid hr4
              have HD4 := Lib.hid hd4
              have HS4 := Lib.hid hs4
              clear hr4 hd4 hpm hs4
              cases bb
              · go_wp2_with fail
                refine (part_srt g n c d4 A B p2 _ HS4.out HR4.out (by omega) (by omega) hp0 hp1 (by omega)).mono ?_
                rintro e w5 ⟨r, t5, rfl, hr0, hr1, d5, hs5, hsp, hr5, hg5⟩
                have HR5 := Lib.hid hr5
                have HS5 := Lib.hid hs5
                have HG5 := Lib.hid (hg4.trans hg5)
                have HD5 : Hid (Fin D a b A B d5 ∧ Go.Sort.Below ltInt A B d5 ∧ Split d4 A B d4[p2]! r d5) := Lib.hid ⟨HD4.out.1.perm hsp.perm, bl_perm HD4.out.2.1 (by rw [HS4.out]; omega) hsp.perm, hsp⟩
                clear hr5 hs5 hsp hg5 hg4 HR4 HD4 HS4
                by_cases hlr : r - A < B - r
                · have hlr' : (r : Int) - (A : Int) < (B : Int) - (r : Int) := by omega
                  go_wp2_with fail
                  refine (HI.out (r - A) (by omega) g n c d5 A r L2 _ (Nat.le_refl _) HS5.out HR5.out (bl_sub HD5.out.2.1 (by omega)) (by omega) (by omega) hn hn0 hL2 hL3).mono ?_
                  rintro e w6 ⟨rfl, h6⟩
                  have hpm6 : Hid (Pq g n (fun X => Fin D a b (r + 1) B X ∧ Go.Sort.Below ltInt (r + 1) B X) w w6) := Lib.hid (Pq.trans HG5.out (h6.imp fun X _ hX => fin_left HD5.out.1 HD5.out.2.2 hr0 hr1 (by rw [HS5.out]; omega) hX.1 hX.2))
                  clear h6 HR5 HD5 HG5 HS5
                  go_wp2_with fail
                  go_roundw
                  case rel => first | exact ⟨r + 1, B, L2, _, _, by omega, by omega, by omega, by first | rfl | go_num, by first | rfl | go_num, rfl, hL2, hL3, rfl, rfl, hpm6⟩ | ((repeat apply Exists.intro); exact ⟨⟨r + 1, B, L2, _, _, by omega, by omega, by omega, by first | rfl | go_num, by first | rfl | go_num, rfl, hL2, hL3, rfl, rfl, hpm6⟩, rfl⟩)
                  case measure => simp [intOf] <;> omega
                · have hlr' : (B : Int) - (r : Int) ≤ (r : Int) - (A : Int) := by omega
                  go_wp2_with fail
                  rw [show (r : Int) + 1 = ((r + 1 : Nat) : Int) by omega]
                  refine (HI.out (B - (r + 1)) (by omega) g n c d5 (r + 1) B L2 _ (Nat.le_refl _) HS5.out HR5.out (bl_right HD5.out.2.2) (by omega) (by omega) hn hn0 hL2 hL3).mono ?_
                  rintro e w6 ⟨rfl, h6⟩
                  have hpm6 : Hid (Pq g n (fun X => Fin D a b A r X ∧ Go.Sort.Below ltInt A r X) w w6) := Lib.hid (Pq.trans HG5.out (h6.imp fun X _ hX => fin_right HD5.out.1 HD5.out.2.1 HD5.out.2.2 hr0 hr1 (by rw [HS5.out]; omega) hX.1 hX.2))
                  clear h6 HR5 HD5 HG5 HS5
                  go_wp2_with fail
                  go_roundw
                  case rel => first | exact ⟨A, r, L2, _, _, by omega, by omega, by omega, by first | rfl | go_num, by first | rfl | go_num, rfl, hL2, hL3, rfl, rfl, hpm6⟩ | ((repeat apply Exists.intro); exact ⟨⟨A, r, L2, _, _, by omega, by omega, by omega, by first | rfl | go_num, by first | rfl | go_num, rfl, hL2, hL3, rfl, rfl, hpm6⟩, rfl⟩)
                  case measure => simp [intOf] <;> omega
              · go_wp2_with fail
                refine (partEq_srt g n c d4 A B p2 _ HS4.out HR4.out (by omega) (by omega) hp0 hp1 (by omega)).mono ?_
                rintro e w5 ⟨r, rfl, hr0, hr1, h5⟩
                have hpm5 : Hid (Pq g n (fun X => Fin D a b r B X ∧ Go.Sort.Below ltInt r B X) w w5) := Lib.hid (Pq.trans hg4 (h5.imp fun X hXs hX => fin_eq (HD4.out.1.perm hX.perm) hX (fun k k1 k2 => HD4.out.2.2 (by first | rfl | trivial) k k1 k2) hr0 hr1 (by rw [hXs]; omega)))
                clear h5 HR4 HD4 hg4 HS4
                go_wp2_with fail
                go_roundw
                case rel => first | exact ⟨r, B, L2, _, _, by omega, by omega, by omega, by first | rfl | go_num, by first | rfl | go_num, rfl, hL2, hL3, rfl, rfl, hpm5⟩ | ((repeat apply Exists.intro); exact ⟨⟨r, B, L2, _, _, by omega, by omega, by omega, by first | rfl | go_num, by first | rfl | go_num, rfl, hL2, hL3, rfl, rfl, hpm5⟩, rfl⟩)
                case measure => simp [intOf] <;> omega
          · obtain ⟨d3, hs3, hd3, hr3, hg3⟩ := hpm.out
            have HR3 := Lib.hid hr3
            have HD3 := Lib.hid hd3
            have HS3 := Lib.hid hs3
            clear hr3 hd3 hpm hs3
            go_wp2_with fail
            refine (partial_srt g n c d3 A B _ HS3.out HR3.out (by omega) (by omega) HD3.out.2 (by omega)).mono ?_
            rintro e w3 ⟨t3, rfl, h3⟩
            have HX3 := Lib.hid (Pq.trans hg3 h3)
            clear h3 HR3 hg3
            cases t3
            · have hpm : Hid (Pq g n (fun X => Fin D a b A B X ∧ Go.Sort.Below ltInt A B X) w w3) := Lib.hid (HX3.out.imp fun X _ hX => ⟨HD3.out.1.perm hX.1, bl_perm HD3.out.2 (by rw [HS3.out]; omega) hX.1⟩)
              clear HX3 HD3 HS3
              go_upto_region 17 with (fail)
              go_cut [87] from 19 to 133 (fun s87 wx => ∃ bb : Bool, s87 = .bool bb ∧ Hid (Pq g n (fun X => Fin D a b A B X ∧ Go.Sort.Below ltInt A B X ∧ (bb = true → ∀ i, A ≤ i → i < B → X[p2]! ≤ X[i]!)) w wx))
              case first =>
                by_cases hA0 : A = 0
                · have q1 : decide ((0 : Int) < (A : Int)) = false := by simp; omega
                  have q2 : decide (0 < A) = false := by simp; omega
                  have HQ : Hid (Pq g n (fun X => Fin D a b A B X ∧ Go.Sort.Below ltInt A B X ∧ ((0 : Nat) = 1 → ∀ i, A ≤ i → i < B → X[p2]! ≤ X[i]!)) w _) := Lib.hid (hpm.out.imp fun X _ hX => ⟨hX.1, hX.2, fun e => by cases e⟩)
                  clear hpm
                  go_wp2_with fail
                  go_quiet (fail)
                  go_wp2_with fail
                  go_meet
                  exact ⟨false, rfl, (HQ.out.drewN _).imp fun X _ hX => ⟨hX.1, hX.2.1, fun e => by cases e⟩⟩
                · obtain ⟨d3, hs3, hd3, hr3, hg3⟩ := hpm.out
                  obtain ⟨m, hm⟩ := Int.eq_ofNat_of_zero_le (show 0 ≤ (A : Int) - 1 by omega)
                  obtain ⟨x, hx, hcx⟩ := hr3.get (show m < n by omega)
                  obtain ⟨y, hy, hcy⟩ := hr3.get (show p2 < n by omega)
                  have w1 : IntKind.i64.wrap ((A : Int) - 1) = (m : Int) := by rw [hm]; exact IntWalk.i64_in _ (by omega)
                  have v2 : (0 : Int) ≤ (m : Int) := by omega
                  have v3 : (m : Int) < (n : Int) := by omega
                  have v4 : (0 : Int) ≤ (p2 : Int) := by omega
                  have v5 : (p2 : Int) < (n : Int) := by omega
                  have q1 : decide ((0 : Int) < (A : Int)) = true := by simp; omega
                  have q2 : decide (0 < A) = true := by simp; omega
                  have HQ : Hid (Pq g n (fun X => Fin D a b A B X ∧ Go.Sort.Below ltInt A B X ∧ ((!decide (x < y)) = true → ∀ i, A ≤ i → i < B → X[p2]! ≤ X[i]!)) w _) := Lib.hid ⟨d3, hs3, ⟨hd3.1, hd3.2, fun e i i1 i2 => by
                    have e1 : ¬ x < y := by simpa using e
                    rcases hd3.2 with h0 | h0
                    · exact absurd h0 hA0
                    · have h5 := ge_of (h0 i i1 i2)
                      rw [show A - 1 = m by omega, bang hx] at h5
                      rw [bang hy]; omega⟩, hr3, hg3⟩
                  clear hx hy hr3 hd3 hg3 hm hA0 hpm hs3
                  go_wp2_with fail
                  go_quiet ((go_at_call 110; first | exact less_quiet _ _ | exact less_quiet2 _ _))
                  go_wp2_with fail
                  go_meet
                  exact ⟨_, rfl, HQ.out.drewN _⟩
              case rest =>
                clear hpm
                obtain ⟨bb, rfl, hpm⟩ := hcut
                obtain ⟨d4, hs4, hd4, hr4, hg4⟩ := hpm.out
                have HR4 := Lib.hid hr4
                have HD4 := Lib.hid hd4
                have HS4 := Lib.hid hs4
                clear hr4 hd4 hpm hs4
                cases bb
                · go_wp2_with fail
                  refine (part_srt g n c d4 A B p2 _ HS4.out HR4.out (by omega) (by omega) hp0 hp1 (by omega)).mono ?_
                  rintro e w5 ⟨r, t5, rfl, hr0, hr1, d5, hs5, hsp, hr5, hg5⟩
                  have HR5 := Lib.hid hr5
                  have HS5 := Lib.hid hs5
                  have HG5 := Lib.hid (hg4.trans hg5)
                  have HD5 : Hid (Fin D a b A B d5 ∧ Go.Sort.Below ltInt A B d5 ∧ Split d4 A B d4[p2]! r d5) := Lib.hid ⟨HD4.out.1.perm hsp.perm, bl_perm HD4.out.2.1 (by rw [HS4.out]; omega) hsp.perm, hsp⟩
                  clear hr5 hs5 hsp hg5 hg4 HR4 HD4 HS4
                  by_cases hlr : r - A < B - r
                  · have hlr' : (r : Int) - (A : Int) < (B : Int) - (r : Int) := by omega
                    go_wp2_with fail
                    refine (HI.out (r - A) (by omega) g n c d5 A r L2 _ (Nat.le_refl _) HS5.out HR5.out (bl_sub HD5.out.2.1 (by omega)) (by omega) (by omega) hn hn0 hL2 hL3).mono ?_
                    rintro e w6 ⟨rfl, h6⟩
                    have hpm6 : Hid (Pq g n (fun X => Fin D a b (r + 1) B X ∧ Go.Sort.Below ltInt (r + 1) B X) w w6) := Lib.hid (Pq.trans HG5.out (h6.imp fun X _ hX => fin_left HD5.out.1 HD5.out.2.2 hr0 hr1 (by rw [HS5.out]; omega) hX.1 hX.2))
                    clear h6 HR5 HD5 HG5 HS5
                    go_wp2_with fail
                    go_roundw
                    case rel => first | exact ⟨r + 1, B, L2, _, _, by omega, by omega, by omega, by first | rfl | go_num, by first | rfl | go_num, rfl, hL2, hL3, rfl, rfl, hpm6⟩ | ((repeat apply Exists.intro); exact ⟨⟨r + 1, B, L2, _, _, by omega, by omega, by omega, by first | rfl | go_num, by first | rfl | go_num, rfl, hL2, hL3, rfl, rfl, hpm6⟩, rfl⟩)
                    case measure => simp [intOf] <;> omega
                  · have hlr' : (B : Int) - (r : Int) ≤ (r : Int) - (A : Int) := by omega
                    go_wp2_with fail
                    rw [show (r : Int) + 1 = ((r + 1 : Nat) : Int) by omega]
                    refine (HI.out (B - (r + 1)) (by omega) g n c d5 (r + 1) B L2 _ (Nat.le_refl _) HS5.out HR5.out (bl_right HD5.out.2.2) (by omega) (by omega) hn hn0 hL2 hL3).mono ?_
                    rintro e w6 ⟨rfl, h6⟩
                    have hpm6 : Hid (Pq g n (fun X => Fin D a b A r X ∧ Go.Sort.Below ltInt A r X) w w6) := Lib.hid (Pq.trans HG5.out (h6.imp fun X _ hX => fin_right HD5.out.1 HD5.out.2.1 HD5.out.2.2 hr0 hr1 (by rw [HS5.out]; omega) hX.1 hX.2))
                    clear h6 HR5 HD5 HG5 HS5
                    go_wp2_with fail
                    go_roundw
                    case rel => first | exact ⟨A, r, L2, _, _, by omega, by omega, by omega, by first | rfl | go_num, by first | rfl | go_num, rfl, hL2, hL3, rfl, rfl, hpm6⟩ | ((repeat apply Exists.intro); exact ⟨⟨A, r, L2, _, _, by omega, by omega, by omega, by first | rfl | go_num, by first | rfl | go_num, rfl, hL2, hL3, rfl, rfl, hpm6⟩, rfl⟩)
                    case measure => simp [intOf] <;> omega
                · go_wp2_with fail
                  refine (partEq_srt g n c d4 A B p2 _ HS4.out HR4.out (by omega) (by omega) hp0 hp1 (by omega)).mono ?_
                  rintro e w5 ⟨r, rfl, hr0, hr1, h5⟩
                  have hpm5 : Hid (Pq g n (fun X => Fin D a b r B X ∧ Go.Sort.Below ltInt r B X) w w5) := Lib.hid (Pq.trans hg4 (h5.imp fun X hXs hX => fin_eq (HD4.out.1.perm hX.perm) hX (fun k k1 k2 => HD4.out.2.2 (by first | rfl | trivial) k k1 k2) hr0 hr1 (by rw [hXs]; omega)))
                  clear h5 HR4 HD4 hg4 HS4
                  go_wp2_with fail
                  go_roundw
                  case rel => first | exact ⟨r, B, L2, _, _, by omega, by omega, by omega, by first | rfl | go_num, by first | rfl | go_num, rfl, hL2, hL3, rfl, rfl, hpm5⟩ | ((repeat apply Exists.intro); exact ⟨⟨r, B, L2, _, _, by omega, by omega, by omega, by first | rfl | go_num, by first | rfl | go_num, rfl, hL2, hL3, rfl, rfl, hpm5⟩, rfl⟩)
                  case measure => simp [intOf] <;> omega
            · have HQ : Hid (Pq g n (fun X => PermIn a b D X ∧ SortedIn ltInt a b X) w w3) := Lib.hid (HX3.out.imp fun X _ hX => HD3.out.1 X hX.1 (hX.2 rfl))
              clear HX3 HD3 HS3
              go_wp2_with fail
              refine bodyPost_ret (v := .tuple #[]) (by simp [results, Tryz.results84]) rfl ?_
              exact ⟨rfl, HQ.out⟩
end Go.Proofs.YtbdcdofjcljliaaGreatDoor.So
