/- A part of the claim: the texts BagRef BagRefB BagRefC BagRefD. -/
import Derived.Test.YthmdiaingolfnaaGreatDoorZGBag
import Derived.Test.YthmdiaingolfnaaGreatDoorZBase5
import Derived.Test.YthmdiaingolfnaaGreatDoorZGRef
import Derived.Test.YthmdiaingolfnaaGreatDoorZBase1
import Derived.Test.YthmdiaingolfnaaGreatDoorZGBagG
import Derived.Test.YthmdiaingolfnaaGreatDoorZGAw
import Derived.RangeFuncSeq
namespace Go.Proofs.YthmdiaingolfnaaGreatDoor.Ba
open Go.ChangeShapes Go.WideShapes Go.ChangeAt Go.RowKit Go.Maps Rw Hi Mt
set_option linter.unusedVariables false
def enc5 (a : Int × Ex) : List Value := [.int .u64 a.1, .int .u64 a.2.word, .int .u64 a.2.born, .int .u64 a.2.since, .int .u64 a.2.proved]
theorem enc5_len (a : Int × Ex) : (enc5 a).length = 5 := rfl
theorem enc5_one (y : Int × Ex) : ∀ u ∈ enc5 y, u.oneCell' = true := by intro u hu; simp [enc5] at hu; rcases hu with rfl | rfl | rfl | rfl | rfl <;> rfl
theorem info_entry : (Tryz.prog.info? 179).map (fun i => (i.zero, i.size, i.bytes)) = some (some (.agg #[.int .u64 0, .int .u64 0, .int .u64 0, .int .u64 0, .int .u64 0]), 5, 40) := by kernel_rfl
abbrev Rb (w : World) (B : Nat) (A : Option Addr) (n c : Nat) (l : List (Int × Ex)) : Prop := Rs enc5 5 w B A n c l
theorem five_at {w : World} {B : Nat} {A : Option Addr} {n c : Nat} {l : List (Int × Ex)} (h : Rb w B A n c l) {k : Nat} (hk : k < n) :
    ∃ b o x wd bo si pr, A = some ⟨b, o, none⟩ ∧ b < B ∧ l[k]? = some (x, ⟨wd, bo, si, pr⟩) ∧ w.cell? ⟨b, o + k * 5, none⟩ = some (.int .u64 x) ∧ w.cell? ⟨b, o + k * 5 + 1, none⟩ = some (.int .u64 wd) ∧ w.cell? ⟨b, o + k * 5 + 2, none⟩ = some (.int .u64 bo) ∧ w.cell? ⟨b, o + k * 5 + 3, none⟩ = some (.int .u64 si) ∧ w.cell? ⟨b, o + k * 5 + 4, none⟩ = some (.int .u64 pr) := by
  obtain ⟨b, o, ⟨x, wd, bo, si, pr⟩, hA, hb, hx, hc⟩ := h.get hk
  exact ⟨b, o, x, wd, bo, si, pr, hA, hb, hx, hc 0 _ (by omega) rfl, hc 1 _ (by omega) rfl, hc 2 _ (by omega) rfl, hc 3 _ (by omega) rfl, hc 4 _ (by omega) rfl⟩
section
variable {β : Type}
def fx (D : List (Int × β)) (id : Int) : Int := match D.findIdx? (fun a => a.1 == id) with
  | some i => (i : Int)
  | none => -1
theorem fx_hit {D : List (Int × β)} {id : Int} {k : Nat} {y : β} (h : ∀ a ∈ D.take k, a.1 ≠ id) (hk : D[k]? = some (id, y)) : fx D id = k := by
  have : D.findIdx? (fun a => a.1 == id) = some k := by
    obtain ⟨hl, e⟩ := List.getElem?_eq_some_iff.1 hk
    rw [List.findIdx?_eq_some_iff_getElem]
    refine ⟨hl, by rw [e]; simp, fun j hj => ?_⟩
    have := h D[j] (List.mem_take_iff_getElem.2 ⟨j, by omega, rfl⟩)
    simpa using this
  unfold fx; rw [this]
theorem fx_miss {D : List (Int × β)} {id : Int} (h : ∀ a ∈ D, a.1 ≠ id) : fx D id = -1 := by
  have : D.findIdx? (fun a => a.1 == id) = none := by
    rw [List.findIdx?_eq_none_iff]
    intro a ha
    simpa using h a ha
  unfold fx; rw [this]
theorem take_ne {D : List (Int × β)} {id : Int} {k : Nat} {a : Int × β} (h : ∀ a ∈ D.take k, a.1 ≠ id) (hk : D[k]? = some a) (hne : a.1 ≠ id) : ∀ a ∈ D.take (k + 1), a.1 ≠ id := by
  obtain ⟨hl, rfl⟩ := List.getElem?_eq_some_iff.1 hk
  intro b hb
  rw [List.take_succ_eq_append_getElem hl] at hb
  rcases List.mem_append.1 hb with hb | hb
  · exact h b hb
  · rw [List.mem_singleton.1 hb]; exact hne
theorem fx_cases (D : List (Int × β)) (id : Int) : (fnd D id = none ∧ fx D id = -1) ∨ ∃ (k : Nat) (y : β), D[k]? = some (id, y) ∧ (∀ a ∈ D.take k, a.1 ≠ id) ∧ fx D id = k ∧ fnd D id = some y := by
  by_cases h : ∀ a ∈ D, a.1 ≠ id
  · refine .inl ⟨?_, fx_miss h⟩
    refine fnd_none fun hm => ?_
    obtain ⟨a, ha, e⟩ := List.mem_map.1 hm
    exact h a ha e
  · cases hf : D.findIdx? (fun a => a.1 == id) with
    | none =>
      rw [List.findIdx?_eq_none_iff] at hf
      exact absurd (fun a ha => by simpa using hf a ha) h
    | some k =>
      rw [List.findIdx?_eq_some_iff_getElem] at hf
      obtain ⟨hl, h1, h2⟩ := hf
      refine .inr ⟨k, D[k].2, ?_, fun a ha => ?_, ?_, ?_⟩
      · rw [List.getElem?_eq_getElem hl]
        have : D[k].1 = id := by simpa using h1
        rw [← this]
      · obtain ⟨j, hj, rfl⟩ := List.mem_take_iff_getElem.1 ha
        have := h2 j (by omega)
        simpa using this
      · unfold fx
        rw [List.findIdx?_eq_some_iff_getElem.2 ⟨hl, h1, h2⟩]
      · unfold fnd
        have hp : D.find? (fun a => a.1 == id) = some D[k] := List.find?_eq_some_iff_getElem.2 ⟨h1, k, hl, rfl, fun j hj => by simpa using h2 j hj⟩
        rw [hp]; rfl
end
section
variable (A A2 : Option Addr) (n c n2 c2 B : Nat) (D : List (Int × Ex)) (w : World)
set_option maxRecDepth 100000 in
set_option maxHeartbeats 2000000 in
theorem rfind_any (id : Int) (h : Rb w B A n c D) (hB : B ≤ w.heap.size) (hn : n ≤ 100000) :
    Calls Tryz.prog 83 #[.agg #[.slice A n c, .slice A2 n2 c2], .int .u64 id] w fun e w' => e = .returned (.int .i64 (fx D id)) ∧ Below w.heap.size w w' := by
  have HR := Lib.hid h
  have HLEN := Lib.hid h.len
  have b0 := Lib.hid ((Below.refl w.heap.size w).alloc (Nat.le_refl _) (.cells #[.slice A n c, .slice A2 n2 c2] 56))
  clear h
  go_enter Tryz.func83, Tryz.ntmps83
  go_wp2_with fail
  go_loopw [5, 6, 10] (fun s5 s6 i wr => ∃ k : Nat, k ≤ n ∧ i = .int .i64 k ∧ Hid (∀ a ∈ D.take k, a.1 ≠ id) ∧ Below w.heap.size w wr) (fun _ _ i _ => n - (intOf i).toNat)
  case atStart => exact ⟨0, Nat.zero_le _, rfl, Lib.hid (fun a ha => by simp at ha), b0.out⟩
  case round =>
    obtain ⟨k, hk, rfl, hno, hbr⟩ := hrel
    by_cases hlt : k < n
    · obtain ⟨b, o, x, wd, bo, si, pr, rfl, hb, ha, c0, c1, c2', c3, c4⟩ := five_at HR.out hlt
      have d0 := (hbr.cell (p := ⟨b, o + k * 5, none⟩) (by simp only; omega)).trans c0
      have d1 := (hbr.cell (p := ⟨b, o + k * 5 + 1, none⟩) (by simp only; omega)).trans c1
      have d2 := (hbr.cell (p := ⟨b, o + k * 5 + 2, none⟩) (by simp only; omega)).trans c2'
      have d3 := (hbr.cell (p := ⟨b, o + k * 5 + 3, none⟩) (by simp only; omega)).trans c3
      have d4 := (hbr.cell (p := ⟨b, o + k * 5 + 4, none⟩) (by simp only; omega)).trans c4
      have HAA := Lib.hid ha
      have hbs := hbr.size
      have HB2 := Lib.hid (hbr.alloc hbs (.cells #[.int .u64 x, .int .u64 wd, .int .u64 bo, .int .u64 si, .int .u64 pr] 179))
      clear c0 c1 c2' c3 c4 ha hbr
      by_cases hx : x = id
      · subst hx
        have HF := Lib.hid (fx_hit hno.out HAA.out)
        go_wp2_with fail
        go_ret
        exact ⟨by rw [HF.out]; rfl, HB2.out⟩
      · have e1 : (x == id) = false := by simpa using hx
        have HN2 := Lib.hid (take_ne hno.out HAA.out hx)
        clear hx
        go_wp2_with fail
        go_roundw
        case rel => exact ⟨k + 1, by omega, by go_num, HN2, HB2.out⟩
        case measure => simp [intOf]; omega
    · have HF : Hid (fx D id = -1) := Lib.hid (fx_miss (by
        have h9 := hno.out
        rw [List.take_of_length_le (by have := HLEN.out; omega)] at h9
        exact h9))
      go_wp2_with fail
      go_ret
      exact ⟨by rw [HF.out]; rfl, hbr⟩
end
end Go.Proofs.YthmdiaingolfnaaGreatDoor.Ba
namespace Go.Proofs.YthmdiaingolfnaaGreatDoor.Ba
open Go.ChangeShapes Go.WideShapes Go.ChangeAt Go.RowKit Go.Maps Rw Hi Mt
set_option linter.unusedVariables false
structure Db where
  A : Option Addr
  n : Nat
  c : Nat
  A2 : Option Addr
  n2 : Nat
  c2 : Nat
abbrev Db.val (d : Db) : Value := .agg #[.slice d.A d.n d.c, .slice d.A2 d.n2 d.c2]
def Flt (A : Option Addr) (c : Nat) : Prop := (A = none ∧ c = 0) ∨ ∃ b o, A = some ⟨b, o, none⟩
structure Dq (K : Nat → Prop) (w : World) (d : Db) (D : List (Int × Ex)) (S : List Int) : Prop where
  l : Rb w w.heap.size d.A d.n d.c D
  s : Rd (Value.int .u64) w w.heap.size d.A2 d.n2 d.c2 S
  fl : Flt d.A d.c
  kl : Kn K d.n d.A
  ks : Kn K d.n2 d.A2
theorem Dq.later {K : Nat → Prop} {w w' : World} {d : Db} {D : List (Int × Ex)} {S : List Int} (h : Dq K w d D S) (hb : Below w.heap.size w w') : Dq K w' d D S := ⟨h.l.later hb, h.s.later hb, h.fl, h.kl, h.ks⟩
theorem own_flt {w : World} {base : Nat} {e : TypeId} {sz n c : Nat} {A : Option Addr} {xs : List Value} (h : w.ownsRow base e sz (.slice A n c) n xs) : Flt A c := by
  rcases h.2 with ⟨h1, _⟩ | ⟨g, cap, cur, h1, _⟩
  · injection h1 with h1 _ h2; exact .inl ⟨h1, h2⟩
  · injection h1 with h1 _ h2; exact .inr ⟨g, 0, h1⟩
section
variable {K : Nat → Prop} (A A2 : Option Addr) (n c n2 c2 : Nat) (D : List (Int × Ex)) (S : List Int) (w : World)
end
end Go.Proofs.YthmdiaingolfnaaGreatDoor.Ba
namespace Go.Proofs.YthmdiaingolfnaaGreatDoor.Ba
open Go.ChangeShapes Go.WideShapes Go.ChangeAt Go.RowKit Go.Maps Rw Hi Mt
set_option linter.unusedVariables false
def Vb (w : World) (g : Nat) (a b : Value) : Prop := (w.cell? ⟨g, 0, none⟩ = some a ∧ w.cell? ⟨g, 1, none⟩ = some b) ∧ w.frozen? ⟨g, 0, none⟩ = false ∧ w.frozen? ⟨g, 1, none⟩ = false
theorem Vb.below {w w' : World} {g B : Nat} {a b : Value} (h : Vb w g a b) (hb : Below B w w') (hg : g < B) : Vb w' g a b := by
  obtain ⟨⟨h0, h1⟩, f0, f1⟩ := h
  exact ⟨⟨(hb.cell (p := ⟨g, 0, none⟩) hg).trans h0, (hb.cell (p := ⟨g, 1, none⟩) hg).trans h1⟩, (hb.frozen (p := ⟨g, 0, none⟩) hg).trans f0, (hb.frozen (p := ⟨g, 1, none⟩) hg).trans f1⟩
theorem two_boxes (A A2 : Option Addr) (n c n2 c2 : Nat) (w : World) : Below w.heap.size w ((w.alloc (.cells #[.slice A n c, .slice A2 n2 c2] 56)).alloc (.cells #[.slice none 0 0, .slice none 0 0] 56)) ∧
    Vb ((w.alloc (.cells #[.slice A n c, .slice A2 n2 c2] 56)).alloc (.cells #[.slice none 0 0, .slice none 0 0] 56)) w.heap.size (.slice A n c) (.slice A2 n2 c2) ∧
    Vb ((w.alloc (.cells #[.slice A n c, .slice A2 n2 c2] 56)).alloc (.cells #[.slice none 0 0, .slice none 0 0] 56)) (w.heap.size + 1) (.slice none 0 0) (.slice none 0 0) ∧
    w.heap.size + 2 ≤ ((w.alloc (.cells #[.slice A n c, .slice A2 n2 c2] 56)).alloc (.cells #[.slice none 0 0, .slice none 0 0] 56)).heap.size := by
  refine ⟨((Below.refl _ _).alloc (Nat.le_refl _) _).alloc (by simp) _, ⟨⟨?_, ?_⟩, ?_, ?_⟩, ⟨⟨?_, ?_⟩, ?_, ?_⟩, by simp⟩ <;> go_simp
section
variable {K : Nat → Prop} (A A2 : Option Addr) (n c n2 c2 : Nat) (D : List (Int × Ex)) (S : List Int) (w : World)
set_option maxRecDepth 100000 in
set_option maxHeartbeats 1000000 in
theorem rpublish_any (id : Int) (h : Dq K w ⟨A, n, c, A2, n2, c2⟩ D S) (hKK : ∀ g, w.heap.size ≤ g → K g) (hn : n ≤ 1000) (hn2 : n2 ≤ 1000) :
    Calls Tryz.prog 85 #[.agg #[.slice A n c, .slice A2 n2 c2], .int .u64 id] w fun e w' => ∃ A' n' c', e = .returned (.tuple #[.agg #[.slice A n c, .slice A' n' c'], .int .i64 (kn D id)]) ∧ Dq K w' ⟨A, n, c, A', n', c'⟩ D (if (fnd D id).isSome then Sn.sWith S id else S) ∧ Below w.heap.size w w' := by
  obtain ⟨hb1, hvf, hvr, hsz⟩ := two_boxes A A2 n c n2 c2 w
  have HD := Lib.hid h
  have HKK := Lib.hid hKK
  clear h hKK
  rcases fx_cases D id with ⟨hfn, hfx⟩ | ⟨k, x, hk, hne, hfx, hfn⟩
  · have ek : kn D id = 9 := by unfold kn; rw [hfn]; rfl
    have es : (fnd D id).isSome = false := by rw [hfn]; rfl
    rw [ek, es]
    clear hfn ek es
    go_enter Tryz.func85, Tryz.ntmps85
    go_upto_region 1 with (fail)
    obtain ⟨W1, hW1⟩ : ∃ W1, ((w.alloc (.cells #[.slice A n c, .slice A2 n2 c2] 56)).alloc (.cells #[.slice none 0 0, .slice none 0 0] 56)) = W1 := ⟨_, rfl⟩
    rw [hW1] at hb1 hvf hvr hsz ⊢
    have HF := Lib.hid (rfind_any A A2 n c n2 c2 W1.heap.size D W1 id (HD.out.later hb1).l (Nat.le_refl _) (by omega))
    rw [hfx] at HF
    have HB1 := Lib.hid hb1
    have HVF := Lib.hid hvf
    have HVR := Lib.hid hvr
    obtain ⟨⟨f0, f1⟩, g0, g1⟩ := hvf
    clear hW1 hb1 hvr
    clear hfx
    go_wp2_with fail
    refine HF.out.mono ?_
    rintro e w2 ⟨rfl, hb2⟩
    have HB2 := Lib.hid (HB1.out.trans (hb2.mono HB1.out.size))
    obtain ⟨⟨f0, f1⟩, g0, g1⟩ := HVF.out.below hb2 (by omega)
    obtain ⟨⟨r0, r1⟩, z0, z1⟩ := HVR.out.below hb2 (by omega)
    have hs2 := hb2.size
    clear hb2 HF HVF HVR
    go_wp2_with fail
    have hfin : Below w.heap.size w ((w2.setCell ⟨w.heap.size + 1, 0, none⟩ (.slice A n c)).setCell ⟨w.heap.size + 1, 1, none⟩ (.slice A2 n2 c2)) :=
      (HB2.out.setCell (p := ⟨w.heap.size + 1, 0, none⟩) (by show w.heap.size ≤ w.heap.size + 1; omega) _).setCell (p := ⟨w.heap.size + 1, 1, none⟩) (by show w.heap.size ≤ w.heap.size + 1; omega) _
    exact bodyPost_ret (v := .tuple #[.agg #[.slice A n c, .slice A2 n2 c2], .int .i64 9]) (by simp [results, Tryz.results85, go_sem, r0, r1]) rfl ⟨_, _, _, rfl, HD.out.later hfin, hfin⟩
  · have ek : kn D id = 0 := by unfold kn; rw [hfn]; rfl
    have es : (fnd D id).isSome = true := by rw [hfn]; rfl
    rw [ek, es]
    have q0 : decide ((k : Int) < 0) = false := decide_eq_false (by omega)
    clear hfn ek es hk hne
    go_enter Tryz.func85, Tryz.ntmps85
    go_upto_region 1 with (fail)
    obtain ⟨W1, hW1⟩ : ∃ W1, ((w.alloc (.cells #[.slice A n c, .slice A2 n2 c2] 56)).alloc (.cells #[.slice none 0 0, .slice none 0 0] 56)) = W1 := ⟨_, rfl⟩
    rw [hW1] at hb1 hvf hvr hsz ⊢
    have HF := Lib.hid (rfind_any A A2 n c n2 c2 W1.heap.size D W1 id (HD.out.later hb1).l (Nat.le_refl _) (by omega))
    rw [hfx] at HF
    have HB1 := Lib.hid hb1
    have HVF := Lib.hid hvf
    have HVR := Lib.hid hvr
    obtain ⟨⟨f0, f1⟩, g0, g1⟩ := hvf
    clear hW1 hb1 hvr
    clear hfx
    go_wp2_with fail
    refine HF.out.mono ?_
    rintro e w2 ⟨rfl, hb2⟩
    have HB2 := Lib.hid (HB1.out.trans (hb2.mono HB1.out.size))
    have HVF2 := Lib.hid (HVF.out.below hb2 (by omega))
    have HVR2 := Lib.hid (HVR.out.below hb2 (by omega))
    obtain ⟨⟨f0, f1⟩, g0, g1⟩ := HVF2.out
    have hs2 := hb2.size
    clear hb2 HF HVF HVR
    go_wp2_with fail
    refine (Sn.rwithK_any A2 n2 c2 S id w2 (HD.out.later HB2.out).s (by omega) HD.out.ks (fun g hg => HKK.out g (Nat.le_trans HB2.out.size hg))).mono ?_
    rintro e w3 ⟨A', n', c', rfl, hr3, hk3, hb3⟩
    have HK3 := Lib.hid hk3
    clear hk3
    have HB3 := Lib.hid (HB2.out.trans (hb3.mono HB2.out.size))
    have HR3 := Lib.hid hr3
    obtain ⟨⟨f0, f1⟩, g0, g1⟩ := HVF2.out.below hb3 (by omega)
    obtain ⟨⟨r0, r1⟩, z0, z1⟩ := HVR2.out.below hb3 (by omega)
    have hs3 := hb3.size
    clear hb3 hr3 HVF2 HVR2
    go_wp2_with fail
    have hf1 := HB3.out.setCell (p := ⟨w.heap.size, 1, none⟩) (Nat.le_refl _) (.slice A' n' c')
    have hf2 := hf1.setCell (p := ⟨w.heap.size + 1, 0, none⟩) (by show w.heap.size ≤ w.heap.size + 1; omega) (.slice A n c)
    have hf3 := hf2.setCell (p := ⟨w.heap.size + 1, 1, none⟩) (by show w.heap.size ≤ w.heap.size + 1; omega) (.slice A' n' c')
    have hr4 : Rd (Value.int .u64) (((w3.setCell ⟨w.heap.size, 1, none⟩ (.slice A' n' c')).setCell ⟨w.heap.size + 1, 0, none⟩ (.slice A n c)).setCell ⟨w.heap.size + 1, 1, none⟩ (.slice A' n' c')) (((w3.setCell ⟨w.heap.size, 1, none⟩ (.slice A' n' c')).setCell ⟨w.heap.size + 1, 0, none⟩ (.slice A n c)).setCell ⟨w.heap.size + 1, 1, none⟩ (.slice A' n' c')).heap.size A' n' c' (Sn.sWith S id) := by
      have p1 := HR3.out.setOther (p := ⟨w.heap.size, 1, none⟩) f1 (fun x e => by cases e) (.slice A' n' c')
      have p2 := p1.setOther (p := ⟨w.heap.size + 1, 0, none⟩) (v := .slice none 0 0) (by go_simp) (fun x e => by cases e) (.slice A n c)
      have p3 := p2.setOther (p := ⟨w.heap.size + 1, 1, none⟩) (v := .slice none 0 0) (by go_simp) (fun x e => by cases e) (.slice A' n' c')
      exact p3.more (by simp)
    exact bodyPost_ret (v := .tuple #[.agg #[.slice A n c, .slice A' n' c'], .int .i64 0]) (by simp [results, Tryz.results85, go_sem, r0, r1]) rfl ⟨_, _, _, rfl, ⟨(HD.out.later hf3).l, hr4, HD.out.fl, HD.out.kl, HK3.out⟩, hf3⟩
end
end Go.Proofs.YthmdiaingolfnaaGreatDoor.Ba
namespace Go.Proofs.YthmdiaingolfnaaGreatDoor.Ba
open Go.ChangeShapes Go.WideShapes Go.ChangeAt Go.RowKit Go.Maps Rw Hi Mt
set_option linter.unusedVariables false
theorem rs_other {α : Type} {enc : α → List Value} {sz : Nat} {w : World} {B : Nat} {A : Option Addr} {n c : Nat} {xs : List α} (h : Rs enc sz w B A n c xs) {p : Addr} {v : Value} (hp : w.cell? p = some v) (hne : ∀ x u, u ∈ enc x → u ≠ v) (u : Value) : Rs enc sz (w.setCell p u) B A n c xs :=
  ⟨h.len, h.cap, h.top, fun hn => by
    obtain ⟨b, o, e, hb, hc⟩ := h.at_ hn
    refine ⟨b, o, e, hb, fun j x hx i u' hi hu => ?_⟩
    have h1 := hc j x hx i u' hi hu
    by_cases e1 : p = ⟨b, o + j * sz + i, none⟩
    · subst e1
      rw [hp] at h1
      injection h1 with h1
      exact absurd h1.symm (hne x u' (List.mem_of_getElem? hu))
    · exact (World.cell?_setCell_other _ _ _ _ e1).trans h1⟩
theorem Rs.more {α : Type} {enc : α → List Value} {sz : Nat} {w : World} {B B' : Nat} {A : Option Addr} {n c : Nat} {xs : List α} (h : Rs enc sz w B A n c xs) (hB : B ≤ B') : Rs enc sz w B' A n c xs :=
  ⟨h.len, h.cap, h.top, fun hn => by
    obtain ⟨b, o, e, hb, hc⟩ := h.at_ hn
    exact ⟨b, o, e, by omega, hc⟩⟩
theorem Dq.store {K : Nat → Prop} {w : World} {d : Db} {D : List (Int × Ex)} {S : List Int} (h : Dq K w d D S) {p : Addr} {A0 : Option Addr} {n0 c0 : Nat} (hp : w.cell? p = some (.slice A0 n0 c0)) (u : Value) : Dq K (w.setCell p u) d D S :=
  ⟨Rs.more (rs_other h.l hp (fun x u hu e => by simp [enc5] at hu; rcases hu with rfl | rfl | rfl | rfl | rfl <;> cases e) u) (by simp), (h.s.setOther hp (fun x e => by cases e) u).more (by simp), h.fl, h.kl, h.ks⟩
section
variable {K : Nat → Prop} (A A2 : Option Addr) (n c n2 c2 : Nat) (D : List (Int × Ex)) (S : List Int) (w : World)
end
end Go.Proofs.YthmdiaingolfnaaGreatDoor.Ba
