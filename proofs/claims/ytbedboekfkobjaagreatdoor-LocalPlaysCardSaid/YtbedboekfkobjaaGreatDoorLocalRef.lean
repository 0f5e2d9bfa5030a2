/- The document's lists of layer 12: a slice of slices. -/
import Derived.Test.YtbedboekfkobjaaGreatDoorAwake12
namespace Go.Proofs.YtbedboekfkobjaaGreatDoor.Lc
open Go.ChangeShapes Go.WideShapes Go.ChangeAt Go.RowKit Rw Hi Sl
set_option linter.unusedVariables false

structure Sv where
  A : Option Addr
  n : Nat
  c : Nat
def encS (s : Sv) : Value := .slice s.A s.n s.c
theorem one_s (s : Sv) : (encS s).oneCell' = true := rfl
theorem info_s : (Tryz.prog.info? 56).map (fun i => (i.zero, i.size, i.bytes)) = some (some (.slice none 0 0), 1, 24) := by kernel_rfl
/-- The document's lists: 8 slices in a row, none of all this in block p. -/
structure Dc (w : World) (p : Nat) (A : Option Addr) (c : Nat) (vs : List Sv) (L : Nat → List Int) : Prop where
  rd : Rd encS w w.heap.size A 8 c vs
  bl : ∀ g, (Value.slice A 8 c).ownBlock = some g → g ≠ p
  el : ∀ i s, vs[i]? = some s → Rd (Value.int .u64) w w.heap.size s.A s.n s.c (L i) ∧ ∀ g, (Value.slice s.A s.n s.c).ownBlock = some g → g < w.heap.size ∧ g ≠ p
  len : ∀ i, i < 8 → (L i).length ≤ 4
section
variable {w w' : World} {p : Nat} {A : Option Addr} {c : Nat} {vs : List Sv} {L : Nat → List Int}
theorem Dc.later (h : Dc w p A c vs L) (hb : Below w.heap.size w w') : Dc w' p A c vs L :=
  ⟨h.rd.later hb, h.bl, fun i s hs => ⟨(h.el i s hs).1.later hb, fun g hg => ⟨Nat.lt_of_lt_of_le ((h.el i s hs).2 g hg).1 hb.size, ((h.el i s hs).2 g hg).2⟩⟩, h.len⟩
theorem Dc.fr (h : Dc w p A c vs L) (hf : Fr (some p) none w w') : Dc w' p A c vs L := by
  refine ⟨⟨h.rd.len, h.rd.cap, h.rd.top, fun hn => ?_⟩, h.bl, fun i s hs => ⟨rd_fr (h.el i s hs).1 hf (fun g hg => ((h.el i s hs).2 g hg).2), fun g hg => ⟨Nat.lt_of_lt_of_le ((h.el i s hs).2 g hg).1 hf.size, ((h.el i s hs).2 g hg).2⟩⟩, h.len⟩
  obtain ⟨b, o, e, hb, hc⟩ := h.rd.at_ hn
  subst e
  exact ⟨b, o, rfl, Nat.lt_of_lt_of_le hb hf.size, fun j x hx => (hf.cell (p := ⟨b, o + j, none⟩) hb (fun e => h.bl b rfl (by injection e)) (fun e => by cases e)).trans (hc j x hx)⟩
/-- Another block, that is new. -/
theorem Dc.turn {p' : Nat} (h : Dc w p A c vs L) (hb : Below w.heap.size w w') (hp : w.heap.size ≤ p') : Dc w' p' A c vs L := by
  have h' := h.later hb
  refine ⟨h'.rd, fun g hg e => ?_, fun i s hs => ⟨(h'.el i s hs).1, fun g hg => ⟨((h'.el i s hs).2 g hg).1, fun e => ?_⟩⟩, h.len⟩
  · obtain ⟨b, o, eA, hb2, _⟩ := h.rd.at_ (by omega)
    subst eA
    injection hg with hg
    have : b = g := hg
    omega
  · have := ((h.el i s hs).2 g hg).1
    omega
theorem Dc.same {L' : Nat → List Int} (h : Dc w p A c vs L) (he : ∀ i, i < 8 → L' i = L i) : Dc w p A c vs L' :=
  ⟨h.rd, h.bl, fun i s hs => by
    have hi : i < 8 := by have := (List.getElem?_eq_some_iff.1 hs).1; have := h.rd.len; omega
    rw [he i hi]; exact h.el i s hs, fun i hi => by rw [he i hi]; exact h.len i hi⟩
theorem Dc.get (h : Dc w p A c vs L) {i : Nat} (hi : i < 8) : ∃ b o s, A = some ⟨b, o, none⟩ ∧ b < w.heap.size ∧ vs[i]? = some s ∧ w.cell? ⟨b, o + i, none⟩ = some (.slice s.A s.n s.c) ∧ Rd (Value.int .u64) w w.heap.size s.A s.n s.c (L i) ∧ s.n ≤ 4 := by
  obtain ⟨b, o, s, h1, h2, h3, h4⟩ := h.rd.get hi
  have h5 := (h.el i s h3).1
  exact ⟨b, o, s, h1, h2, h3, h4, h5, by rw [← h5.len]; exact h.len i hi⟩
end
set_option maxRecDepth 100000 in
set_option maxHeartbeats 2000000 in
theorem with_any (w : World) (p i : Nat) (A : Option Addr) (c : Nat) (vs : List Sv) (L : Nat → List Int) (A1 : Option Addr) (n1 c1 : Nat) (xs : List Int) (h : Dc w p A c vs L) (hp : p < w.heap.size) (hi : i < 8) (hr : Rd (Value.int .u64) w w.heap.size A1 n1 c1 xs) (hx : ∀ g, (Value.slice A1 n1 c1).ownBlock = some g → g < w.heap.size ∧ g ≠ p) (hl : xs.length ≤ 4) :
    Calls Tryz.prog 51 #[.slice A 8 c, .int .i64 i, .slice A1 n1 c1] w fun e w' => ∃ A' c' vs', e = .returned (.slice A' 8 c') ∧ Dc w' p A' c' vs' (upd L i xs) ∧ Below w.heap.size w w' := by
  obtain ⟨i0, hi0, hz0, hz1, hz2⟩ := info_parts info_s
  have HD := Lib.hid h
  have HR := Lib.hid hr
  have HX := Lib.hid hx
  have HRD := Lib.hid h.rd
  have hi8 : (i : Int) < 8 := by omega
  clear h hr hx
  go_enter Tryz.func51, Tryz.ntmps51
  go_wp2_with (
    at_builtin
    refine append_rd _ rfl _ _ 66 rfl w.heap.size 56 i0 (.slice none 0 0) 24 Tryz.underlying66 hi0 hz0 hz1 hz2 rfl (.slice none 0 0) 0 [] rfl (World.ownsRow_nil _ _ _ _) w.heap.size A 8 c vs rfl HRD.out one_s 8 (Nat.zero_add _) (vs.map encS) rfl (by unfold maxLen; omega) (by omega) (Nat.le_refl _) ?_
    intro A2 c2 w2 ho2 hg2 hat2
    refine Hid.out ?_)
  refine Lib.hid ?_
  have hb2 : Below w.heap.size w w2 := (Below.refl _ _).grown hg2 (Nat.le_refl _) (fun j hj => by cases hj)
  obtain ⟨g, rfl⟩ : ∃ g, A2 = some ⟨g, 0, none⟩ := by
    rcases ho2.2 with ⟨h', _⟩ | ⟨g, cap, cur, h', _⟩
    · injection h' with _ h2 _; omega
    · injection h' with h1 _ _; exact ⟨g, h1⟩
  have hgl := ho2.lt g rfl
  have hrd2 := Rd.own_rd ho2
  have hcap := hrd2.cap
  have htop := hrd2.top
  obtain ⟨b2, o2, z, e2, _, hz, hcz⟩ := hrd2.get hi
  injection e2 with e2
  injection e2 with e3 e4
  subst e3 e4
  rw [Nat.zero_add] at hcz
  have hfz := ho2.frozenAt i
  obtain ⟨q1, q2⟩ := ho2.stored i (.slice A1 n1 c1)
  rw [show (vs.map encS).set i (.slice A1 n1 c1) = (vs.set i ⟨A1, n1, c1⟩).map encS by rw [List.map_set]; rfl] at q1
  have hb3 : Below w.heap.size w (w2.setCell ⟨g, i, none⟩ (.slice A1 n1 c1)) := hb2.setCell hgl.1 _
  have hD2 := HD.out.later hb3
  have hres : Dc (w2.setCell ⟨g, i, none⟩ (.slice A1 n1 c1)) p (some ⟨g, 0, none⟩) c2 (vs.set i ⟨A1, n1, c1⟩) (upd L i xs) := by
    refine ⟨Rd.own_rd q1, fun g' hg' => ?_, fun j s hs => ?_, fun j hj => ?_⟩
    · injection hg' with hg'
      have e : g = g' := hg'
      omega
    · by_cases e : i = j
      · subst e
        rw [List.getElem?_set_self (by rw [HD.out.rd.len]; exact hi)] at hs
        injection hs with hs
        subst hs
        rw [upd_same]
        exact ⟨HR.out.later hb3, fun g' hg' => ⟨Nat.lt_of_lt_of_le (HX.out g' hg').1 hb3.size, (HX.out g' hg').2⟩⟩
      · rw [List.getElem?_set_ne e] at hs
        rw [upd_ne _ _ (fun e2 => e e2.symm)]
        exact hD2.el j s hs
    · by_cases e : j = i
      · subst e; rw [upd_same]; exact hl
      · rw [upd_ne _ _ e]; exact HD.out.len j hj
  have HRES := Lib.hid hres
  have HB3 := Lib.hid hb3
  clear ho2 hg2 hat2 hb2 hrd2 q1 q2 hb3 hD2 hres hz HRD
  go_wp2_with fail
  go_ret
  exact ⟨_, _, rfl, ⟨_, HRES.out⟩, HB3.out⟩

theorem rput_out (A : Option Addr) (c : Nat) (t id : Int) (w : World) (h : t < 0 ∨ 8 ≤ t) :
    Calls Tryz.prog 36 #[.slice A 8 c, .int .i64 t, .int .u64 id] w fun e w' => e = .returned (.tuple #[.slice A 8 c, .int .i64 2]) ∧ w = w' := by
  by_cases h0 : t < 0
  · have d0 : decide (t < 0) = true := decide_eq_true h0
    go_enter Tryz.func36, Tryz.ntmps36
    go_wp2_with fail
    go_ret2
    exact ⟨rfl, rfl⟩
  · have d0 : decide (t < 0) = false := decide_eq_false h0
    have d7 : decide ((7 : Int) < t) = true := decide_eq_true (by omega)
    go_enter Tryz.func36, Tryz.ntmps36
    go_wp2_with fail
    go_ret2
    exact ⟨rfl, rfl⟩
set_option maxRecDepth 100000 in
set_option maxHeartbeats 2000000 in
theorem rput_in (w : World) (p i : Nat) (A : Option Addr) (c : Nat) (vs : List Sv) (L : Nat → List Int) (id : Int) (h : Dc w p A c vs L) (hp : p < w.heap.size) (hi : i < 8) :
    Calls Tryz.prog 36 #[.slice A 8 c, .int .i64 i, .int .u64 id] w fun e w' => ∃ A' c' vs', e = .returned (.tuple #[.slice A' 8 c', .int .i64 0]) ∧ Dc w' p A' c' vs' (upd L i (last4 (L i ++ [id]))) ∧ Below w.heap.size w w' := by
  obtain ⟨i0, hi0, hz0, hz1, hz2⟩ := info_parts info_u64
  obtain ⟨b, o, s, rfl, hb, hs, hc, hr, hn4⟩ := h.get hi
  obtain ⟨A1, n1, c1⟩ := s
  simp only at hc hr hn4
  have hcap := h.rd.cap
  have htop := h.rd.top
  have HD := Lib.hid h
  have HR := Lib.hid hr
  have HL := Lib.hid hr.len
  have hi8 : (i : Int) < 8 := by omega
  have d0 : decide ((i : Int) < 0) = false := decide_eq_false (by omega)
  have d7 : decide ((7 : Int) < (i : Int)) = false := decide_eq_false (by omega)
  have d7' : decide (7 < i) = false := decide_eq_false (by omega)
  clear h hr hs
  go_enter Tryz.func36, Tryz.ntmps36
  go_wp2_with (
    at_builtin
    refine append_rd _ rfl _ _ 56 rfl w.heap.size 27 i0 (.int .u64 0) 8 Tryz.underlying56 hi0 hz0 hz1 hz2 rfl (.slice none 0 0) 0 [] rfl (World.ownsRow_nil _ _ _ _) w.heap.size A1 n1 c1 (L i) rfl HR.out one_u64 n1 (Nat.zero_add _) ((L i).map (Value.int .u64)) rfl (by unfold maxLen; omega) (by omega) (Nat.le_refl _) ?_
    intro A2 c2 w2 ho2 hg2 hat2
    refine Hid.out ?_)
  refine Lib.hid ?_
  have hb2 : Below w.heap.size w w2 := (Below.refl _ _).grown hg2 (Nat.le_refl _) (fun j hj => by cases hj)
  have hs2 := hb2.size
  have B2 := Lib.hid (hb2.alloc hs2 (.cells #[.int .u64 id] 27))
  have HO2 := Lib.hid (ho2.alloc (.cells #[.int .u64 id] 27))
  have hrd : Rd (Value.int .u64) (w2.alloc (.cells #[.int .u64 id] 27)) (w2.heap.size + 1) (some ⟨w2.heap.size, 0, none⟩) 1 1 [id] := rd_one w2 id 27
  have HRD := Lib.hid hrd
  clear ho2 hg2 hat2 hb2 hrd
  go_wp2_with (
    at_builtin
    refine append_rd _ rfl _ _ 56 rfl w.heap.size 27 i0 (.int .u64 0) 8 Tryz.underlying56 hi0 hz0 hz1 hz2 rfl (.slice A2 n1 c2) n1 _ rfl HO2.out _ _ 1 1 [id] rfl HRD.out one_u64 (n1 + 1) rfl ((L i ++ [id]).map (Value.int .u64)) (by simp) (by unfold maxLen; omega) (by omega) (by simp; omega) ?_
    intro A3 c3 w3 ho3 hg3 hat3
    refine Hid.out ?_)
  refine Lib.hid ?_
  have hb3 : Below w.heap.size w w3 := B2.out.grown hg3 (by simp; omega) (fun j hj => (HO2.out.lt j hj).1)
  have hlt := ho3.lt
  obtain ⟨g, rfl⟩ : ∃ g, A3 = some ⟨g, 0, none⟩ := by
    rcases ho3.2 with ⟨h', _⟩ | ⟨g, cap, cur, h', _⟩
    · injection h' with _ h2 _; omega
    · injection h' with h1 _ _; exact ⟨g, h1⟩
  have hgl := hlt g rfl
  have hr3 := Rd.own_rd ho3
  have hcap3 := hr3.cap
  have htop3 := hr3.top
  have hp3 : p < w3.heap.size := Nat.lt_of_lt_of_le hp hb3.size
  have D3 := Lib.hid (HD.out.later hb3)
  have R3 := Lib.hid hr3
  have B3 := Lib.hid hb3
  clear ho3 hg3 hat3 hb3 hlt hr3 HO2 HRD B2 HD HR
  by_cases h4 : n1 = 4
  · subst h4
    have hl4 : last4 (L i ++ [id]) = (L i ++ [id]).drop 1 := by unfold last4; rw [List.length_append, HL.out]; rfl
    have hbk := R3.out.back (i := 1) (by omega) rfl (A' := some ⟨g, 1, none⟩) (fun _ => by rw [Nat.zero_add])
    have HBK := Lib.hid hbk
    have HL4 := Lib.hid hl4
    have hc31 : ¬ c3 = 1 := by omega
    have hc1 : 1 ≤ c3 := by omega
    clear hbk hl4
    go_wp2_with fail
    refine (with_any w3 p i _ c vs L (some ⟨g, 1, none⟩) 4 (c3 - 1) _ D3.out hp3 hi HBK.out (fun g' hg' => by injection hg' with hg'; have e : g = g' := hg'; omega) (by simp [HL.out])).mono ?_
    rw [← HL4.out]
    rintro e w4 ⟨A4, c4, vs4, rfl, hd4, hb4⟩
    have D4 := Lib.hid hd4
    clear hd4
    go_wp2_with fail
    go_ret2
    exact ⟨A4, c4, vs4, rfl, D4.out, B3.out.trans (hb4.mono B3.out.size)⟩
  · have hl4 : last4 (L i ++ [id]) = L i ++ [id] := last4_short (by rw [List.length_append, HL.out]; simp; omega)
    have HL4 := Lib.hid hl4
    have d5 : decide ((4 : Int) < (n1 : Int) + 1) = false := decide_eq_false (by omega)
    have d5' : decide (4 < n1 + 1) = false := decide_eq_false (by omega)
    clear hl4
    go_wp2_with fail
    refine (with_any w3 p i _ c vs L (some ⟨g, 0, none⟩) (n1 + 1) c3 _ D3.out hp3 hi R3.out (fun g' hg' => by injection hg' with hg'; have e : g = g' := hg'; omega) (by rw [List.length_append, HL.out]; simp; omega)).mono ?_
    rw [← HL4.out]
    rintro e w4 ⟨A4, c4, vs4, rfl, hd4, hb4⟩
    have D4 := Lib.hid hd4
    clear hd4
    go_wp2_with fail
    go_ret2
    exact ⟨A4, c4, vs4, rfl, D4.out, B3.out.trans (hb4.mono B3.out.size)⟩

theorem rtake_out (A : Option Addr) (c : Nat) (t : Int) (w : World) (h : t < 0 ∨ 8 ≤ t) :
    Calls Tryz.prog 35 #[.slice A 8 c, .int .i64 t] w fun e w' => e = .returned (.tuple #[.slice A 8 c, .int .u64 0, .bool false]) ∧ w = w' := by
  by_cases h0 : t < 0
  · have d0 : decide (t < 0) = true := decide_eq_true h0
    go_enter Tryz.func35, Tryz.ntmps35
    go_wp2_with fail
    go_ret3
    exact ⟨rfl, rfl⟩
  · have d0 : decide (t < 0) = false := decide_eq_false h0
    have d7 : decide ((7 : Int) < t) = true := decide_eq_true (by omega)
    go_enter Tryz.func35, Tryz.ntmps35
    go_wp2_with fail
    go_ret3
    exact ⟨rfl, rfl⟩
theorem rtake_empty (w : World) (p i : Nat) (A : Option Addr) (c : Nat) (vs : List Sv) (L : Nat → List Int) (h : Dc w p A c vs L) (hi : i < 8) (he : L i = []) :
    Calls Tryz.prog 35 #[.slice A 8 c, .int .i64 i] w fun e w' => e = .returned (.tuple #[.slice A 8 c, .int .u64 0, .bool false]) ∧ w = w' := by
  obtain ⟨b, o, s, rfl, hb, hs, hc, hr, hn4⟩ := h.get hi
  obtain ⟨A1, n1, c1⟩ := s
  simp only at hc hr hn4
  have hn0 : n1 = 0 := by rw [← hr.len, he]; rfl
  subst hn0
  have hi8 : (i : Int) < 8 := by omega
  have d0 : decide ((i : Int) < 0) = false := decide_eq_false (by omega)
  have d7 : decide ((7 : Int) < (i : Int)) = false := decide_eq_false (by omega)
  have d7' : decide (7 < i) = false := decide_eq_false (by omega)
  clear h hr hs
  go_enter Tryz.func35, Tryz.ntmps35
  go_wp2_with fail
  go_ret3
  exact ⟨rfl, rfl⟩
end Go.Proofs.YtbedboekfkobjaaGreatDoor.Lc
