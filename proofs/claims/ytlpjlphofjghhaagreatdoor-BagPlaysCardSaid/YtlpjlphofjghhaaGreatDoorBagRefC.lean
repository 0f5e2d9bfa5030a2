/- The document's bag (layer 15): Publish, Unlist, Proved, Swap. -/
import Derived.Test.YtlpjlphofjghhaaGreatDoorBagRefB
import Derived.Test.YtlpjlphofjghhaaGreatDoorBagG
namespace Go.Proofs.YtlpjlphofjghhaaGreatDoor.Ba
open Go.ChangeShapes Go.WideShapes Go.ChangeAt Go.RowKit Go.Maps Rw Hi Mt
set_option linter.unusedVariables false

/-- Two cells of a block that may be stored into. -/
def Vb (w : World) (g : Nat) (a b : Value) : Prop := (w.cell? ⟨g, 0, none⟩ = some a ∧ w.cell? ⟨g, 1, none⟩ = some b) ∧ w.frozen? ⟨g, 0, none⟩ = false ∧ w.frozen? ⟨g, 1, none⟩ = false
theorem Vb.below {w w' : World} {g B : Nat} {a b : Value} (h : Vb w g a b) (hb : Below B w w') (hg : g < B) : Vb w' g a b := by
  obtain ⟨⟨h0, h1⟩, f0, f1⟩ := h
  exact ⟨⟨(hb.cell (p := ⟨g, 0, none⟩) hg).trans h0, (hb.cell (p := ⟨g, 1, none⟩) hg).trans h1⟩, (hb.frozen (p := ⟨g, 0, none⟩) hg).trans f0, (hb.frozen (p := ⟨g, 1, none⟩) hg).trans f1⟩
theorem two_boxes (A A2 : Option Addr) (n c n2 c2 : Nat) (w : World) : Below w.heap.size w ((w.alloc (.cells #[.slice A n c, .slice A2 n2 c2] 29)).alloc (.cells #[.slice none 0 0, .slice none 0 0] 29)) ∧
    Vb ((w.alloc (.cells #[.slice A n c, .slice A2 n2 c2] 29)).alloc (.cells #[.slice none 0 0, .slice none 0 0] 29)) w.heap.size (.slice A n c) (.slice A2 n2 c2) ∧
    Vb ((w.alloc (.cells #[.slice A n c, .slice A2 n2 c2] 29)).alloc (.cells #[.slice none 0 0, .slice none 0 0] 29)) (w.heap.size + 1) (.slice none 0 0) (.slice none 0 0) ∧
    w.heap.size + 2 ≤ ((w.alloc (.cells #[.slice A n c, .slice A2 n2 c2] 29)).alloc (.cells #[.slice none 0 0, .slice none 0 0] 29)).heap.size := by
  refine ⟨((Below.refl _ _).alloc (Nat.le_refl _) _).alloc (by simp) _, ⟨⟨?_, ?_⟩, ?_, ?_⟩, ⟨⟨?_, ?_⟩, ?_, ?_⟩, by simp⟩ <;> go_simp
section
variable {K : Nat → Prop} (A A2 : Option Addr) (n c n2 c2 : Nat) (D : List (Int × Ex)) (S : List Int) (w : World)
set_option maxRecDepth 100000 in
set_option maxHeartbeats 1000000 in
theorem rpublish_any (id : Int) (h : Dq K w ⟨A, n, c, A2, n2, c2⟩ D S) (hKK : ∀ g, w.heap.size ≤ g → K g) (hn : n ≤ 1000) (hn2 : n2 ≤ 1000) :
    Calls Tryz.prog 15 #[.agg #[.slice A n c, .slice A2 n2 c2], .int .u64 id] w fun e w' => ∃ A' n' c', e = .returned (.tuple #[.agg #[.slice A n c, .slice A' n' c'], .int .i64 (kn D id)]) ∧ Dq K w' ⟨A, n, c, A', n', c'⟩ D (if (fnd D id).isSome then Sn.sWith S id else S) ∧ Below w.heap.size w w' := by
  obtain ⟨hb1, hvf, hvr, hsz⟩ := two_boxes A A2 n c n2 c2 w
  have HD := Lib.hid h
  have HKK := Lib.hid hKK
  clear h hKK
  rcases fx_cases D id with ⟨hfn, hfx⟩ | ⟨k, x, hk, hne, hfx, hfn⟩
  · have ek : kn D id = 9 := by unfold kn; rw [hfn]; rfl
    have es : (fnd D id).isSome = false := by rw [hfn]; rfl
    rw [ek, es]
    clear hfn ek es
    go_enter Tryz.func15, Tryz.ntmps15
    go_upto_region 1 with (fail)
    obtain ⟨W1, hW1⟩ : ∃ W1, ((w.alloc (.cells #[.slice A n c, .slice A2 n2 c2] 29)).alloc (.cells #[.slice none 0 0, .slice none 0 0] 29)) = W1 := ⟨_, rfl⟩
    rw [hW1] at hb1 hvf hvr hsz ⊢
    have HF := Lib.hid (rfind_any A A2 n c n2 c2 W1.heap.size D W1 id (HD.out.later hb1).l (Nat.le_refl _) (by omega))
    rw [hfx] at HF
    have HB1 := Lib.hid hb1
    have HVF := Lib.hid hvf
    have HVR := Lib.hid hvr
    obtain ⟨⟨f0, f1⟩, g0, g1⟩ := hvf
    clear hW1 hb1 hvr
    clear hfx
    go_wp2_with fail
    refine HF.out.mono ?_
    rintro e w2 ⟨rfl, hb2⟩
    have HB2 := Lib.hid (HB1.out.trans (hb2.mono HB1.out.size))
    obtain ⟨⟨f0, f1⟩, g0, g1⟩ := HVF.out.below hb2 (by omega)
    obtain ⟨⟨r0, r1⟩, z0, z1⟩ := HVR.out.below hb2 (by omega)
    have hs2 := hb2.size
    clear hb2 HF HVF HVR
    go_wp2_with fail
    have hfin : Below w.heap.size w ((w2.setCell ⟨w.heap.size + 1, 0, none⟩ (.slice A n c)).setCell ⟨w.heap.size + 1, 1, none⟩ (.slice A2 n2 c2)) :=
      (HB2.out.setCell (p := ⟨w.heap.size + 1, 0, none⟩) (by show w.heap.size ≤ w.heap.size + 1; omega) _).setCell (p := ⟨w.heap.size + 1, 1, none⟩) (by show w.heap.size ≤ w.heap.size + 1; omega) _
    exact bodyPost_ret (v := .tuple #[.agg #[.slice A n c, .slice A2 n2 c2], .int .i64 9]) (by simp [results, Tryz.results15, go_sem, r0, r1]) rfl ⟨_, _, _, rfl, HD.out.later hfin, hfin⟩
  · have ek : kn D id = 0 := by unfold kn; rw [hfn]; rfl
    have es : (fnd D id).isSome = true := by rw [hfn]; rfl
    rw [ek, es]
    have q0 : decide ((k : Int) < 0) = false := decide_eq_false (by omega)
    clear hfn ek es hk hne
    go_enter Tryz.func15, Tryz.ntmps15
    go_upto_region 1 with (fail)
    obtain ⟨W1, hW1⟩ : ∃ W1, ((w.alloc (.cells #[.slice A n c, .slice A2 n2 c2] 29)).alloc (.cells #[.slice none 0 0, .slice none 0 0] 29)) = W1 := ⟨_, rfl⟩
    rw [hW1] at hb1 hvf hvr hsz ⊢
    have HF := Lib.hid (rfind_any A A2 n c n2 c2 W1.heap.size D W1 id (HD.out.later hb1).l (Nat.le_refl _) (by omega))
    rw [hfx] at HF
    have HB1 := Lib.hid hb1
    have HVF := Lib.hid hvf
    have HVR := Lib.hid hvr
    obtain ⟨⟨f0, f1⟩, g0, g1⟩ := hvf
    clear hW1 hb1 hvr
    clear hfx
    go_wp2_with fail
    refine HF.out.mono ?_
    rintro e w2 ⟨rfl, hb2⟩
    have HB2 := Lib.hid (HB1.out.trans (hb2.mono HB1.out.size))
    have HVF2 := Lib.hid (HVF.out.below hb2 (by omega))
    have HVR2 := Lib.hid (HVR.out.below hb2 (by omega))
    obtain ⟨⟨f0, f1⟩, g0, g1⟩ := HVF2.out
    have hs2 := hb2.size
    clear hb2 HF HVF HVR
    go_wp2_with fail
    refine (Sn.rwithK_any A2 n2 c2 S id w2 (HD.out.later HB2.out).s (by omega) HD.out.ks (fun g hg => HKK.out g (Nat.le_trans HB2.out.size hg))).mono ?_
    rintro e w3 ⟨A', n', c', rfl, hr3, hk3, hb3⟩
    have HK3 := Lib.hid hk3
    clear hk3
    have HB3 := Lib.hid (HB2.out.trans (hb3.mono HB2.out.size))
    have HR3 := Lib.hid hr3
    obtain ⟨⟨f0, f1⟩, g0, g1⟩ := HVF2.out.below hb3 (by omega)
    obtain ⟨⟨r0, r1⟩, z0, z1⟩ := HVR2.out.below hb3 (by omega)
    have hs3 := hb3.size
    clear hb3 hr3 HVF2 HVR2
    go_wp2_with fail
    have hf1 := HB3.out.setCell (p := ⟨w.heap.size, 1, none⟩) (Nat.le_refl _) (.slice A' n' c')
    have hf2 := hf1.setCell (p := ⟨w.heap.size + 1, 0, none⟩) (by show w.heap.size ≤ w.heap.size + 1; omega) (.slice A n c)
    have hf3 := hf2.setCell (p := ⟨w.heap.size + 1, 1, none⟩) (by show w.heap.size ≤ w.heap.size + 1; omega) (.slice A' n' c')
    have hr4 : Rd (Value.int .u64) (((w3.setCell ⟨w.heap.size, 1, none⟩ (.slice A' n' c')).setCell ⟨w.heap.size + 1, 0, none⟩ (.slice A n c)).setCell ⟨w.heap.size + 1, 1, none⟩ (.slice A' n' c')) (((w3.setCell ⟨w.heap.size, 1, none⟩ (.slice A' n' c')).setCell ⟨w.heap.size + 1, 0, none⟩ (.slice A n c)).setCell ⟨w.heap.size + 1, 1, none⟩ (.slice A' n' c')).heap.size A' n' c' (Sn.sWith S id) := by
      have p1 := HR3.out.setOther (p := ⟨w.heap.size, 1, none⟩) f1 (fun x e => by cases e) (.slice A' n' c')
      have p2 := p1.setOther (p := ⟨w.heap.size + 1, 0, none⟩) (v := .slice none 0 0) (by go_simp) (fun x e => by cases e) (.slice A n c)
      have p3 := p2.setOther (p := ⟨w.heap.size + 1, 1, none⟩) (v := .slice none 0 0) (by go_simp) (fun x e => by cases e) (.slice A' n' c')
      exact p3.more (by simp)
    exact bodyPost_ret (v := .tuple #[.agg #[.slice A n c, .slice A' n' c'], .int .i64 0]) (by simp [results, Tryz.results15, go_sem, r0, r1]) rfl ⟨_, _, _, rfl, ⟨(HD.out.later hf3).l, hr4, HD.out.fl, HD.out.kl, HK3.out⟩, hf3⟩
set_option maxRecDepth 100000 in
set_option maxHeartbeats 1000000 in
theorem runlist_any (id : Int) (h : Dq K w ⟨A, n, c, A2, n2, c2⟩ D S) (hKK : ∀ g, w.heap.size ≤ g → K g) (hn : n ≤ 1000) (hn2 : n2 ≤ 1000) :
    Calls Tryz.prog 17 #[.agg #[.slice A n c, .slice A2 n2 c2], .int .u64 id] w fun e w' => ∃ A' n' c', e = .returned (.tuple #[.agg #[.slice A n c, .slice A' n' c'], .int .i64 (kn D id)]) ∧ Dq K w' ⟨A, n, c, A', n', c'⟩ D (if (fnd D id).isSome then Sn.sWithout S id else S) ∧ Below w.heap.size w w' := by
  obtain ⟨hb1, hvf, hvr, hsz⟩ := two_boxes A A2 n c n2 c2 w
  have HD := Lib.hid h
  have HKK := Lib.hid hKK
  clear h hKK
  rcases fx_cases D id with ⟨hfn, hfx⟩ | ⟨k, x, hk, hne, hfx, hfn⟩
  · have ek : kn D id = 9 := by unfold kn; rw [hfn]; rfl
    have es : (fnd D id).isSome = false := by rw [hfn]; rfl
    rw [ek, es]
    clear hfn ek es
    go_enter Tryz.func17, Tryz.ntmps17
    go_upto_region 1 with (fail)
    obtain ⟨W1, hW1⟩ : ∃ W1, ((w.alloc (.cells #[.slice A n c, .slice A2 n2 c2] 29)).alloc (.cells #[.slice none 0 0, .slice none 0 0] 29)) = W1 := ⟨_, rfl⟩
    rw [hW1] at hb1 hvf hvr hsz ⊢
    have HF := Lib.hid (rfind_any A A2 n c n2 c2 W1.heap.size D W1 id (HD.out.later hb1).l (Nat.le_refl _) (by omega))
    rw [hfx] at HF
    have HB1 := Lib.hid hb1
    have HVF := Lib.hid hvf
    have HVR := Lib.hid hvr
    obtain ⟨⟨f0, f1⟩, g0, g1⟩ := hvf
    clear hW1 hb1 hvr
    clear hfx
    go_wp2_with fail
    refine HF.out.mono ?_
    rintro e w2 ⟨rfl, hb2⟩
    have HB2 := Lib.hid (HB1.out.trans (hb2.mono HB1.out.size))
    obtain ⟨⟨f0, f1⟩, g0, g1⟩ := HVF.out.below hb2 (by omega)
    obtain ⟨⟨r0, r1⟩, z0, z1⟩ := HVR.out.below hb2 (by omega)
    have hs2 := hb2.size
    clear hb2 HF HVF HVR
    go_wp2_with fail
    have hfin : Below w.heap.size w ((w2.setCell ⟨w.heap.size + 1, 0, none⟩ (.slice A n c)).setCell ⟨w.heap.size + 1, 1, none⟩ (.slice A2 n2 c2)) :=
      (HB2.out.setCell (p := ⟨w.heap.size + 1, 0, none⟩) (by show w.heap.size ≤ w.heap.size + 1; omega) _).setCell (p := ⟨w.heap.size + 1, 1, none⟩) (by show w.heap.size ≤ w.heap.size + 1; omega) _
    exact bodyPost_ret (v := .tuple #[.agg #[.slice A n c, .slice A2 n2 c2], .int .i64 9]) (by simp [results, Tryz.results17, go_sem, r0, r1]) rfl ⟨_, _, _, rfl, HD.out.later hfin, hfin⟩
  · have ek : kn D id = 0 := by unfold kn; rw [hfn]; rfl
    have es : (fnd D id).isSome = true := by rw [hfn]; rfl
    rw [ek, es]
    have q0 : decide ((k : Int) < 0) = false := decide_eq_false (by omega)
    clear hfn ek es hk hne
    go_enter Tryz.func17, Tryz.ntmps17
    go_upto_region 1 with (fail)
    obtain ⟨W1, hW1⟩ : ∃ W1, ((w.alloc (.cells #[.slice A n c, .slice A2 n2 c2] 29)).alloc (.cells #[.slice none 0 0, .slice none 0 0] 29)) = W1 := ⟨_, rfl⟩
    rw [hW1] at hb1 hvf hvr hsz ⊢
    have HF := Lib.hid (rfind_any A A2 n c n2 c2 W1.heap.size D W1 id (HD.out.later hb1).l (Nat.le_refl _) (by omega))
    rw [hfx] at HF
    have HB1 := Lib.hid hb1
    have HVF := Lib.hid hvf
    have HVR := Lib.hid hvr
    obtain ⟨⟨f0, f1⟩, g0, g1⟩ := hvf
    clear hW1 hb1 hvr
    clear hfx
    go_wp2_with fail
    refine HF.out.mono ?_
    rintro e w2 ⟨rfl, hb2⟩
    have HB2 := Lib.hid (HB1.out.trans (hb2.mono HB1.out.size))
    have HVF2 := Lib.hid (HVF.out.below hb2 (by omega))
    have HVR2 := Lib.hid (HVR.out.below hb2 (by omega))
    obtain ⟨⟨f0, f1⟩, g0, g1⟩ := HVF2.out
    have hs2 := hb2.size
    clear hb2 HF HVF HVR
    go_wp2_with fail
    refine (Sn.rwithoutK_any (K := K) A2 n2 c2 S id w2 (HD.out.later HB2.out).s (by omega) (fun g hg => HKK.out g (Nat.le_trans HB2.out.size hg))).mono ?_
    rintro e w3 ⟨A', n', c', rfl, hr3, hk3, hb3⟩
    have HK3 := Lib.hid hk3
    clear hk3
    have HB3 := Lib.hid (HB2.out.trans (hb3.mono HB2.out.size))
    have HR3 := Lib.hid hr3
    obtain ⟨⟨f0, f1⟩, g0, g1⟩ := HVF2.out.below hb3 (by omega)
    obtain ⟨⟨r0, r1⟩, z0, z1⟩ := HVR2.out.below hb3 (by omega)
    have hs3 := hb3.size
    clear hb3 hr3 HVF2 HVR2
    go_wp2_with fail
    have hf1 := HB3.out.setCell (p := ⟨w.heap.size, 1, none⟩) (Nat.le_refl _) (.slice A' n' c')
    have hf2 := hf1.setCell (p := ⟨w.heap.size + 1, 0, none⟩) (by show w.heap.size ≤ w.heap.size + 1; omega) (.slice A n c)
    have hf3 := hf2.setCell (p := ⟨w.heap.size + 1, 1, none⟩) (by show w.heap.size ≤ w.heap.size + 1; omega) (.slice A' n' c')
    have hr4 : Rd (Value.int .u64) (((w3.setCell ⟨w.heap.size, 1, none⟩ (.slice A' n' c')).setCell ⟨w.heap.size + 1, 0, none⟩ (.slice A n c)).setCell ⟨w.heap.size + 1, 1, none⟩ (.slice A' n' c')) (((w3.setCell ⟨w.heap.size, 1, none⟩ (.slice A' n' c')).setCell ⟨w.heap.size + 1, 0, none⟩ (.slice A n c)).setCell ⟨w.heap.size + 1, 1, none⟩ (.slice A' n' c')).heap.size A' n' c' (Sn.sWithout S id) := by
      have p1 := HR3.out.setOther (p := ⟨w.heap.size, 1, none⟩) f1 (fun x e => by cases e) (.slice A' n' c')
      have p2 := p1.setOther (p := ⟨w.heap.size + 1, 0, none⟩) (v := .slice none 0 0) (by go_simp) (fun x e => by cases e) (.slice A n c)
      have p3 := p2.setOther (p := ⟨w.heap.size + 1, 1, none⟩) (v := .slice none 0 0) (by go_simp) (fun x e => by cases e) (.slice A' n' c')
      exact p3.more (by simp)
    exact bodyPost_ret (v := .tuple #[.agg #[.slice A n c, .slice A' n' c'], .int .i64 0]) (by simp [results, Tryz.results17, go_sem, r0, r1]) rfl ⟨_, _, _, rfl, ⟨(HD.out.later hf3).l, hr4, HD.out.fl, HD.out.kl, HK3.out⟩, hf3⟩
end
end Go.Proofs.YtlpjlphofjghhaaGreatDoor.Ba
