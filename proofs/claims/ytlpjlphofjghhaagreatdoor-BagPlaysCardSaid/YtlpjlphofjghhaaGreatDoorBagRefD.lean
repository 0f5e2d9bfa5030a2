/- The document's bag (layer 15): Proved, Swap. -/
import Derived.Test.YtlpjlphofjghhaaGreatDoorBagRefC
namespace Go.Proofs.YtlpjlphofjghhaaGreatDoor.Ba
open Go.ChangeShapes Go.WideShapes Go.ChangeAt Go.RowKit Go.Maps Rw Hi Mt
set_option linter.unusedVariables false

theorem rs_other {α : Type} {enc : α → List Value} {sz : Nat} {w : World} {B : Nat} {A : Option Addr} {n c : Nat} {xs : List α} (h : Rs enc sz w B A n c xs) {p : Addr} {v : Value} (hp : w.cell? p = some v) (hne : ∀ x u, u ∈ enc x → u ≠ v) (u : Value) : Rs enc sz (w.setCell p u) B A n c xs :=
  ⟨h.len, h.cap, h.top, fun hn => by
    obtain ⟨b, o, e, hb, hc⟩ := h.at_ hn
    refine ⟨b, o, e, hb, fun j x hx i u' hi hu => ?_⟩
    have h1 := hc j x hx i u' hi hu
    by_cases e1 : p = ⟨b, o + j * sz + i, none⟩
    · subst e1
      rw [hp] at h1
      injection h1 with h1
      exact absurd h1.symm (hne x u' (List.mem_of_getElem? hu))
    · exact (World.cell?_setCell_other _ _ _ _ e1).trans h1⟩
theorem Rs.more {α : Type} {enc : α → List Value} {sz : Nat} {w : World} {B B' : Nat} {A : Option Addr} {n c : Nat} {xs : List α} (h : Rs enc sz w B A n c xs) (hB : B ≤ B') : Rs enc sz w B' A n c xs :=
  ⟨h.len, h.cap, h.top, fun hn => by
    obtain ⟨b, o, e, hb, hc⟩ := h.at_ hn
    exact ⟨b, o, e, by omega, hc⟩⟩
/-- Where a slice lies another one is stored. -/
theorem Dq.store {K : Nat → Prop} {w : World} {d : Db} {D : List (Int × Ex)} {S : List Int} (h : Dq K w d D S) {p : Addr} {A0 : Option Addr} {n0 c0 : Nat} (hp : w.cell? p = some (.slice A0 n0 c0)) (u : Value) : Dq K (w.setCell p u) d D S :=
  ⟨Rs.more (rs_other h.l hp (fun x u hu e => by simp [enc5] at hu; rcases hu with rfl | rfl | rfl | rfl | rfl <;> cases e) u) (by simp), (h.s.setOther hp (fun x e => by cases e) u).more (by simp), h.fl, h.kl, h.ks⟩
section
variable {K : Nat → Prop} (A A2 : Option Addr) (n c n2 c2 : Nat) (D : List (Int × Ex)) (S : List Int) (w : World)
set_option maxRecDepth 100000 in
set_option maxHeartbeats 1000000 in
theorem rproved_any (id now : Int) (h : Dq K w ⟨A, n, c, A2, n2, c2⟩ D S) (hKK : ∀ g, w.heap.size ≤ g → K g) (hnd : Nd D) (hn : n ≤ 1000) :
    Calls Tryz.prog 14 #[.agg #[.slice A n c, .slice A2 n2 c2], .int .u64 id, .int .u64 now] w fun e w' => ∃ A' c', e = .returned (.tuple #[.agg #[.slice A' n c', .slice A2 n2 c2], .int .i64 (kn D id)]) ∧ Dq K w' ⟨A', n, c', A2, n2, c2⟩ (up D id (exP now)) S ∧ Below w.heap.size w w' := by
  obtain ⟨hb1, hvf, hvr, hsz⟩ := two_boxes A A2 n c n2 c2 w
  have HD := Lib.hid h
  have HKK := Lib.hid hKK
  clear hKK
  have HND := Lib.hid hnd
  have hlen : D.length = n := h.l.len
  clear h hnd
  rcases fx_cases D id with ⟨hfn, hfx⟩ | ⟨k, x, hk, hne, hfx, hfn⟩
  · have ek : kn D id = 9 := by unfold kn; rw [hfn]; rfl
    rw [ek, up_none (fnd_no hfn)]
    clear hfn ek
    go_enter Tryz.func14, Tryz.ntmps14
    go_upto_region 1 with (fail)
    obtain ⟨W1, hW1⟩ : ∃ W1, ((w.alloc (.cells #[.slice A n c, .slice A2 n2 c2] 29)).alloc (.cells #[.slice none 0 0, .slice none 0 0] 29)) = W1 := ⟨_, rfl⟩
    rw [hW1] at hb1 hvf hvr hsz ⊢
    have HF := Lib.hid (rfind_any A A2 n c n2 c2 W1.heap.size D W1 id (HD.out.later hb1).l (Nat.le_refl _) (by omega))
    rw [hfx] at HF
    have HB1 := Lib.hid hb1
    have HVF := Lib.hid hvf
    have HVR := Lib.hid hvr
    obtain ⟨⟨f0, f1⟩, g0, g1⟩ := hvf
    clear hW1 hb1 hvr hfx
    go_wp2_with fail
    refine HF.out.mono ?_
    rintro e w2 ⟨rfl, hb2⟩
    have HB2 := Lib.hid (HB1.out.trans (hb2.mono HB1.out.size))
    have HVF2 := Lib.hid (HVF.out.below hb2 (by omega))
    have HVR2 := Lib.hid (HVR.out.below hb2 (by omega))
    obtain ⟨⟨f0, f1⟩, g0, g1⟩ := HVF2.out
    obtain ⟨⟨r0, r1⟩, z0, z1⟩ := HVR2.out
    have hs2 := hb2.size
    clear hb2 HF HVF HVR
    go_wp2_with fail
    have hfin : Below w.heap.size w ((w2.setCell ⟨w.heap.size + 1, 0, none⟩ (.slice A n c)).setCell ⟨w.heap.size + 1, 1, none⟩ (.slice A2 n2 c2)) :=
      (HB2.out.setCell (p := ⟨w.heap.size + 1, 0, none⟩) (by show w.heap.size ≤ w.heap.size + 1; omega) _).setCell (p := ⟨w.heap.size + 1, 1, none⟩) (by show w.heap.size ≤ w.heap.size + 1; omega) _
    exact bodyPost_ret (v := .tuple #[.agg #[.slice A n c, .slice A2 n2 c2], .int .i64 9]) (by simp [results, Tryz.results14, go_sem, r0, r1]) rfl ⟨_, _, rfl, HD.out.later hfin, hfin⟩
  · have ek : kn D id = 0 := by unfold kn; rw [hfn]; rfl
    rw [ek]
    have q0 : decide ((k : Int) < 0) = false := decide_eq_false (by omega)
    have hkn : k < n := by have := (List.getElem?_eq_some_iff.1 hk).1; omega
    have hkc : k < c := by have : n ≤ c := HD.out.l.cap; omega
    obtain ⟨b, o, x0, wd, bo, si, pr, hA, hbw, ha, c0, c1, c2', c3, c4⟩ := five_at HD.out.l hkn
    have hA : A = some ⟨b, o, none⟩ := hA
    obtain ⟨rfl, rfl⟩ : id = x0 ∧ x = ⟨wd, bo, si, pr⟩ := by
      have h9 := ha.symm.trans hk
      injection h9 with h9
      injection h9 with h9 h10
      exact ⟨h9.symm, h10.symm⟩
    subst hA
    have HU := Lib.hid (up_set HND.out hk (exP now))
    have hk0 : decide ((0 : Int) ≤ (k : Int)) = true := decide_eq_true (by omega)
    clear hfn ek hk hne ha
    go_enter Tryz.func14, Tryz.ntmps14
    go_upto_region 1 with (fail)
    obtain ⟨W1, hW1⟩ : ∃ W1, ((w.alloc (.cells #[.slice (some ⟨b, o, none⟩) n c, .slice A2 n2 c2] 29)).alloc (.cells #[.slice none 0 0, .slice none 0 0] 29)) = W1 := ⟨_, rfl⟩
    rw [hW1] at hb1 hvf hvr hsz ⊢
    have HF := Lib.hid (rfind_any (some ⟨b, o, none⟩) A2 n c n2 c2 W1.heap.size D W1 id (HD.out.later hb1).l (Nat.le_refl _) (by omega))
    rw [hfx] at HF
    have HB1 := Lib.hid hb1
    have HVF := Lib.hid hvf
    have HVR := Lib.hid hvr
    obtain ⟨⟨f0, f1⟩, g0, g1⟩ := hvf
    clear hW1 hb1 hvr hfx
    go_wp2_with fail
    refine HF.out.mono ?_
    rintro e w2 ⟨rfl, hb2⟩
    have HB2 := Lib.hid (HB1.out.trans (hb2.mono HB1.out.size))
    have HVF2 := Lib.hid (HVF.out.below hb2 (by omega))
    have HVR2 := Lib.hid (HVR.out.below hb2 (by omega))
    obtain ⟨⟨f0, f1⟩, g0, g1⟩ := HVF2.out
    obtain ⟨⟨r0, r1⟩, z0, z1⟩ := HVR2.out
    have hs2 := hb2.size
    clear hb2 HF HVF HVR
    have d0 := (HB2.out.cell (p := ⟨b, o + k * 5, none⟩) hbw).trans c0
    have d1 := (HB2.out.cell (p := ⟨b, o + k * 5 + 1, none⟩) hbw).trans c1
    have d2 := (HB2.out.cell (p := ⟨b, o + k * 5 + 2, none⟩) hbw).trans c2'
    have d3 := (HB2.out.cell (p := ⟨b, o + k * 5 + 3, none⟩) hbw).trans c3
    have d4 := (HB2.out.cell (p := ⟨b, o + k * 5 + 4, none⟩) hbw).trans c4
    have hbw2 : b < w2.heap.size := by have := HB2.out.size; omega
    have hl0 : w.heap.size < w2.heap.size := by omega
    have hl1 : w.heap.size + 1 < w2.heap.size := by omega
    clear c0 c1 c2' c3 c4
    go_wp2_with fail
    refine with_fact (fun W' => Below w2.heap.size w2 W') ?_ ?_
    · repeat' (first | exact Below.refl _ _ | apply Below.setCell | apply Below.alloc)
      all_goals (first | exact Nat.le_refl _ | (simp; done) | (simp; omega))
    intro b3
    have HB3 := Lib.hid (HB2.out.trans (b3.mono HB2.out.size))
    have hq : Dq K _ ⟨some ⟨b, o, none⟩, n, c, A2, n2, c2⟩ D S := HD.out.later HB3.out
    refine (rwith_at (some ⟨b, o, none⟩) A2 n c n2 c2 D S _ k (id, exP now ⟨wd, bo, si, pr⟩) hq (fun g hg => HKK.out g (Nat.le_trans HB3.out.size hg)) hkn hn).mono ?_
    rintro e w4 ⟨A', c', rfl, hd4, hb4⟩
    have B24 := Lib.hid (b3.trans (hb4.mono b3.size))
    have HD4 := Lib.hid hd4
    obtain ⟨⟨r0, r1⟩, z0, z1⟩ := HVR2.out.below B24.out (by omega)
    have hs4 := B24.out.size
    clear hb4 hd4 b3 f0 f1 g0 g1 d0 d1 d2 d3 d4
    go_wp2_with fail
    have hfin : Below w.heap.size w ((w4.setCell ⟨w.heap.size + 1, 0, none⟩ (.slice A' n c')).setCell ⟨w.heap.size + 1, 1, none⟩ (.slice A2 n2 c2)) :=
      ((HB2.out.trans (B24.out.mono HB2.out.size)).setCell (p := ⟨w.heap.size + 1, 0, none⟩) (by show w.heap.size ≤ w.heap.size + 1; omega) _).setCell (p := ⟨w.heap.size + 1, 1, none⟩) (by show w.heap.size ≤ w.heap.size + 1; omega) _
    have hd5 := (HD4.out.store r0 (.slice A' n c')).store (p := ⟨w.heap.size + 1, 1, none⟩) (A0 := none) (n0 := 0) (c0 := 0) (by go_simp) (.slice A2 n2 c2)
    rw [HU.out] at hd5
    exact bodyPost_ret (v := .tuple #[.agg #[.slice A' n c', .slice A2 n2 c2], .int .i64 0]) (by simp [results, Tryz.results14, go_sem, r0, r1]) rfl ⟨_, _, rfl, hd5, hfin⟩
set_option maxRecDepth 100000 in
set_option maxHeartbeats 2000000 in
theorem rswap15_any (id old st now : Int) (h : Dq K w ⟨A, n, c, A2, n2, c2⟩ D S) (hKK : ∀ g, w.heap.size ≤ g → K g) (hnd : Nd D) (hn : n ≤ 1000) (hu : ∀ q ∈ D, U64 q.2.word) (ho : U64 old) (hst : -9223372036854775808 ≤ st ∧ st ≤ 9223372036854775807) :
    Calls Tryz.prog 12 #[.agg #[.slice A n c, .slice A2 n2 c2], .int .u64 id, .int .u64 old, .int .i64 st, .int .u64 now] w fun e w' => ∃ A' c', e = .returned (.tuple #[.agg #[.slice A' n c', .slice A2 n2 c2], .int .u64 (bV D id old st), .bool (bK D id old st)]) ∧ Dq K w' ⟨A', n, c', A2, n2, c2⟩ (up D id (exS old st now)) S ∧ Below w.heap.size w w' := by
  obtain ⟨hb1, hvf, hvr, hsz⟩ := two_boxes A A2 n c n2 c2 w
  have HD := Lib.hid h
  have HKK := Lib.hid hKK
  clear hKK
  have HND := Lib.hid hnd
  have HUU := Lib.hid hu
  have HOO := Lib.hid ho
  have HST := Lib.hid hst
  have hlen : D.length = n := h.l.len
  clear h hnd hu ho hst
  rcases fx_cases D id with ⟨hfn, hfx⟩ | ⟨k, x, hk, hne, hfx, hfn⟩
  · have ev : bV D id old st = 0 := by unfold bV; rw [hfn]
    have ek : bK D id old st = false := by unfold bK; rw [hfn]
    rw [ev, ek, up_none (fnd_no hfn)]
    clear hfn ek ev
    go_enter Tryz.func12, Tryz.ntmps12
    go_upto_region 1 with (fail)
    obtain ⟨W1, hW1⟩ : ∃ W1, ((w.alloc (.cells #[.slice A n c, .slice A2 n2 c2] 29)).alloc (.cells #[.slice none 0 0, .slice none 0 0] 29)) = W1 := ⟨_, rfl⟩
    rw [hW1] at hb1 hvf hvr hsz ⊢
    have HF := Lib.hid (rfind_any A A2 n c n2 c2 W1.heap.size D W1 id (HD.out.later hb1).l (Nat.le_refl _) (by omega))
    rw [hfx] at HF
    have HB1 := Lib.hid hb1
    have HVF := Lib.hid hvf
    have HVR := Lib.hid hvr
    obtain ⟨⟨f0, f1⟩, g0, g1⟩ := hvf
    clear hW1 hb1 hvr hfx
    go_wp2_with fail
    refine HF.out.mono ?_
    rintro e w2 ⟨rfl, hb2⟩
    have HB2 := Lib.hid (HB1.out.trans (hb2.mono HB1.out.size))
    have HVF2 := Lib.hid (HVF.out.below hb2 (by omega))
    have HVR2 := Lib.hid (HVR.out.below hb2 (by omega))
    obtain ⟨⟨f0, f1⟩, g0, g1⟩ := HVF2.out
    obtain ⟨⟨r0, r1⟩, z0, z1⟩ := HVR2.out
    have hs2 := hb2.size
    clear hb2 HF HVF HVR
    go_wp2_with fail
    have hfin : Below w.heap.size w ((w2.setCell ⟨w.heap.size + 1, 0, none⟩ (.slice A n c)).setCell ⟨w.heap.size + 1, 1, none⟩ (.slice A2 n2 c2)) :=
      (HB2.out.setCell (p := ⟨w.heap.size + 1, 0, none⟩) (by show w.heap.size ≤ w.heap.size + 1; omega) _).setCell (p := ⟨w.heap.size + 1, 1, none⟩) (by show w.heap.size ≤ w.heap.size + 1; omega) _
    exact bodyPost_ret (v := .tuple #[.agg #[.slice A n c, .slice A2 n2 c2], .int .u64 0, .bool false]) (by simp [results, Tryz.results12, go_sem, r0, r1]) rfl ⟨_, _, rfl, HD.out.later hfin, hfin⟩
  · have ev : bV D id old st = Wd.wSwap x.word old st := by unfold bV; rw [hfn]
    have ek : bK D id old st = Wd.wSwapOk x.word old st := by unfold bK; rw [hfn]
    rw [ev, ek]
    have q0 : decide ((k : Int) < 0) = false := decide_eq_false (by omega)
    have hkn : k < n := by have := (List.getElem?_eq_some_iff.1 hk).1; omega
    have hkc : k < c := by have : n ≤ c := HD.out.l.cap; omega
    have HUW := Lib.hid (HUU.out _ (List.mem_of_getElem? hk))
    obtain ⟨b, o, x0, wd, bo, si, pr, hA, hbw, ha, c0, c1, c2', c3, c4⟩ := five_at HD.out.l hkn
    have hA : A = some ⟨b, o, none⟩ := hA
    obtain ⟨rfl, rfl⟩ : id = x0 ∧ x = ⟨wd, bo, si, pr⟩ := by
      have h9 := ha.symm.trans hk
      injection h9 with h9
      injection h9 with h9 h10
      exact ⟨h9.symm, h10.symm⟩
    subst hA
    have HU := Lib.hid (up_set HND.out hk (exS old st now))
    have hk0 : decide ((0 : Int) ≤ (k : Int)) = true := decide_eq_true (by omega)
    clear hfn ek ev hk hne ha
    go_enter Tryz.func12, Tryz.ntmps12
    go_upto_region 1 with (fail)
    obtain ⟨W1, hW1⟩ : ∃ W1, ((w.alloc (.cells #[.slice (some ⟨b, o, none⟩) n c, .slice A2 n2 c2] 29)).alloc (.cells #[.slice none 0 0, .slice none 0 0] 29)) = W1 := ⟨_, rfl⟩
    rw [hW1] at hb1 hvf hvr hsz ⊢
    have HF := Lib.hid (rfind_any (some ⟨b, o, none⟩) A2 n c n2 c2 W1.heap.size D W1 id (HD.out.later hb1).l (Nat.le_refl _) (by omega))
    rw [hfx] at HF
    have HB1 := Lib.hid hb1
    have HVF := Lib.hid hvf
    have HVR := Lib.hid hvr
    obtain ⟨⟨f0, f1⟩, g0, g1⟩ := hvf
    clear hW1 hb1 hvr hfx
    go_wp2_with fail
    refine HF.out.mono ?_
    rintro e w2 ⟨rfl, hb2⟩
    have HB2 := Lib.hid (HB1.out.trans (hb2.mono HB1.out.size))
    have HVF2 := Lib.hid (HVF.out.below hb2 (by omega))
    have HVR2 := Lib.hid (HVR.out.below hb2 (by omega))
    obtain ⟨⟨f0, f1⟩, g0, g1⟩ := HVF2.out
    obtain ⟨⟨r0, r1⟩, z0, z1⟩ := HVR2.out
    have hs2 := hb2.size
    clear hb2 HF HVF HVR
    have d0 := (HB2.out.cell (p := ⟨b, o + k * 5, none⟩) hbw).trans c0
    have d1 := (HB2.out.cell (p := ⟨b, o + k * 5 + 1, none⟩) hbw).trans c1
    have d2 := (HB2.out.cell (p := ⟨b, o + k * 5 + 2, none⟩) hbw).trans c2'
    have d3 := (HB2.out.cell (p := ⟨b, o + k * 5 + 3, none⟩) hbw).trans c3
    have d4 := (HB2.out.cell (p := ⟨b, o + k * 5 + 4, none⟩) hbw).trans c4
    have hbw2 : b < w2.heap.size := by have := HB2.out.size; omega
    have hl0 : w.heap.size < w2.heap.size := by omega
    have hl1 : w.heap.size + 1 < w2.heap.size := by omega
    clear c0 c1 c2' c3 c4
    go_wp2_with fail
    refine (Wd.rswap_any wd old st _ HOO.out.1 HOO.out.2 HST.out.1 HST.out.2).mono ?_
    rintro e w3 ⟨rfl, rfl⟩
    simp only at HU ⊢
    obtain ⟨V, hV⟩ : ∃ V, Wd.wSwap wd old st = V := ⟨_, rfl⟩
    rw [hV]
    have HV := Lib.hid hV
    clear hV
    cases hk2 : Wd.wSwapOk wd old st with
    | true =>
      by_cases h0 : st = 0
      · have q1 : (st == 0) = true := by simpa using h0
        have HUX : Hid (D.set k (id, ⟨V, bo, now, pr⟩) = up D id (exS old st now)) := Lib.hid (by rw [← HU.out]; unfold exS; rw [if_pos ⟨hk2, h0⟩, HV.out])
        clear h0
        go_wp2_with fail
        refine with_fact (fun W' => Below w2.heap.size w2 W') ?_ ?_
        · repeat' (first | exact Below.refl _ _ | apply Below.setCell | apply Below.alloc)
          all_goals (first | exact Nat.le_refl _ | (simp; done) | (simp; omega))
        intro b3
        have HB3 := Lib.hid (HB2.out.trans (b3.mono HB2.out.size))
        have hq : Dq K _ ⟨some ⟨b, o, none⟩, n, c, A2, n2, c2⟩ D S := HD.out.later HB3.out
        refine (rwith_at (some ⟨b, o, none⟩) A2 n c n2 c2 D S _ k (id, ⟨V, bo, now, pr⟩) hq (fun g hg => HKK.out g (Nat.le_trans HB3.out.size hg)) hkn hn).mono ?_
        rintro e w4 ⟨A', c', rfl, hd4, hb4⟩
        have B24 := Lib.hid (b3.trans (hb4.mono b3.size))
        have HD4 := Lib.hid hd4
        obtain ⟨⟨r0, r1⟩, z0, z1⟩ := HVR2.out.below B24.out (by omega)
        have hs4 := B24.out.size
        clear hb4 hd4 b3 f0 f1 g0 g1 d0 d1 d2 d3 d4
        go_wp2_with fail
        have hfin : Below w.heap.size w ((w4.setCell ⟨w.heap.size + 1, 0, none⟩ (.slice A' n c')).setCell ⟨w.heap.size + 1, 1, none⟩ (.slice A2 n2 c2)) :=
          ((HB2.out.trans (B24.out.mono HB2.out.size)).setCell (p := ⟨w.heap.size + 1, 0, none⟩) (by show w.heap.size ≤ w.heap.size + 1; omega) _).setCell (p := ⟨w.heap.size + 1, 1, none⟩) (by show w.heap.size ≤ w.heap.size + 1; omega) _
        have hd5 := (HD4.out.store r0 (.slice A' n c')).store (p := ⟨w.heap.size + 1, 1, none⟩) (A0 := none) (n0 := 0) (c0 := 0) (by go_simp) (.slice A2 n2 c2)
        rw [HUX.out] at hd5
        exact bodyPost_ret (v := .tuple #[.agg #[.slice A' n c', .slice A2 n2 c2], .int .u64 V, .bool true]) (by simp [results, Tryz.results12, go_sem, r0, r1]) rfl ⟨_, _, (by rw [HV.out, hk2]), hd5, hfin⟩
      · have q1 : (st == 0) = false := by simpa using h0
        have HUX : Hid (D.set k (id, ⟨V, bo, si, pr⟩) = up D id (exS old st now)) := Lib.hid (by rw [← HU.out]; unfold exS; rw [if_neg (fun e => h0 e.2), HV.out])
        clear h0
        go_wp2_with fail
        refine with_fact (fun W' => Below w2.heap.size w2 W') ?_ ?_
        · repeat' (first | exact Below.refl _ _ | apply Below.setCell | apply Below.alloc)
          all_goals (first | exact Nat.le_refl _ | (simp; done) | (simp; omega))
        intro b3
        have HB3 := Lib.hid (HB2.out.trans (b3.mono HB2.out.size))
        have hq : Dq K _ ⟨some ⟨b, o, none⟩, n, c, A2, n2, c2⟩ D S := HD.out.later HB3.out
        refine (rwith_at (some ⟨b, o, none⟩) A2 n c n2 c2 D S _ k (id, ⟨V, bo, si, pr⟩) hq (fun g hg => HKK.out g (Nat.le_trans HB3.out.size hg)) hkn hn).mono ?_
        rintro e w4 ⟨A', c', rfl, hd4, hb4⟩
        have B24 := Lib.hid (b3.trans (hb4.mono b3.size))
        have HD4 := Lib.hid hd4
        obtain ⟨⟨r0, r1⟩, z0, z1⟩ := HVR2.out.below B24.out (by omega)
        have hs4 := B24.out.size
        clear hb4 hd4 b3 f0 f1 g0 g1 d0 d1 d2 d3 d4
        go_wp2_with fail
        have hfin : Below w.heap.size w ((w4.setCell ⟨w.heap.size + 1, 0, none⟩ (.slice A' n c')).setCell ⟨w.heap.size + 1, 1, none⟩ (.slice A2 n2 c2)) :=
          ((HB2.out.trans (B24.out.mono HB2.out.size)).setCell (p := ⟨w.heap.size + 1, 0, none⟩) (by show w.heap.size ≤ w.heap.size + 1; omega) _).setCell (p := ⟨w.heap.size + 1, 1, none⟩) (by show w.heap.size ≤ w.heap.size + 1; omega) _
        have hd5 := (HD4.out.store r0 (.slice A' n c')).store (p := ⟨w.heap.size + 1, 1, none⟩) (A0 := none) (n0 := 0) (c0 := 0) (by go_simp) (.slice A2 n2 c2)
        rw [HUX.out] at hd5
        exact bodyPost_ret (v := .tuple #[.agg #[.slice A' n c', .slice A2 n2 c2], .int .u64 V, .bool true]) (by simp [results, Tryz.results12, go_sem, r0, r1]) rfl ⟨_, _, (by rw [HV.out, hk2]), hd5, hfin⟩
    | false =>
      have HUX : Hid (D.set k (id, ⟨V, bo, si, pr⟩) = up D id (exS old st now)) := Lib.hid (by rw [← HU.out]; unfold exS; rw [if_neg (fun e => by rw [hk2] at e; cases e.1), HV.out])
      go_wp2_with fail
      refine with_fact (fun W' => Below w2.heap.size w2 W') ?_ ?_
      · repeat' (first | exact Below.refl _ _ | apply Below.setCell | apply Below.alloc)
        all_goals (first | exact Nat.le_refl _ | (simp; done) | (simp; omega))
      intro b3
      have HB3 := Lib.hid (HB2.out.trans (b3.mono HB2.out.size))
      have hq : Dq K _ ⟨some ⟨b, o, none⟩, n, c, A2, n2, c2⟩ D S := HD.out.later HB3.out
      refine (rwith_at (some ⟨b, o, none⟩) A2 n c n2 c2 D S _ k (id, ⟨V, bo, si, pr⟩) hq (fun g hg => HKK.out g (Nat.le_trans HB3.out.size hg)) hkn hn).mono ?_
      rintro e w4 ⟨A', c', rfl, hd4, hb4⟩
      have B24 := Lib.hid (b3.trans (hb4.mono b3.size))
      have HD4 := Lib.hid hd4
      obtain ⟨⟨r0, r1⟩, z0, z1⟩ := HVR2.out.below B24.out (by omega)
      have hs4 := B24.out.size
      clear hb4 hd4 b3 f0 f1 g0 g1 d0 d1 d2 d3 d4
      go_wp2_with fail
      have hfin : Below w.heap.size w ((w4.setCell ⟨w.heap.size + 1, 0, none⟩ (.slice A' n c')).setCell ⟨w.heap.size + 1, 1, none⟩ (.slice A2 n2 c2)) :=
        ((HB2.out.trans (B24.out.mono HB2.out.size)).setCell (p := ⟨w.heap.size + 1, 0, none⟩) (by show w.heap.size ≤ w.heap.size + 1; omega) _).setCell (p := ⟨w.heap.size + 1, 1, none⟩) (by show w.heap.size ≤ w.heap.size + 1; omega) _
      have hd5 := (HD4.out.store r0 (.slice A' n c')).store (p := ⟨w.heap.size + 1, 1, none⟩) (A0 := none) (n0 := 0) (c0 := 0) (by go_simp) (.slice A2 n2 c2)
      rw [HUX.out] at hd5
      exact bodyPost_ret (v := .tuple #[.agg #[.slice A' n c', .slice A2 n2 c2], .int .u64 V, .bool false]) (by simp [results, Tryz.results12, go_sem, r0, r1]) rfl ⟨_, _, (by rw [HV.out, hk2]), hd5, hfin⟩
end
end Go.Proofs.YtlpjlphofjghhaaGreatDoor.Ba
