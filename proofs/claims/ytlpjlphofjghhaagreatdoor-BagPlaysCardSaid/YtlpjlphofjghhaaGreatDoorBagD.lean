/- Layer 15 (bag): contracts of Publish, Unlist, Count. -/
import Derived.Test.YtlpjlphofjghhaaGreatDoorBagC
namespace Go.Proofs.YtlpjlphofjghhaaGreatDoor.Ba
open Go Go.ChangeShapes Go.WideShapes Go.ChangeAt Go.RowKit Go.Maps Rw Hi Mt
set_option linter.unusedVariables false

section
variable {C R : Nat → Prop} (w : World) (p a : Nat) (L : List (Int × En)) (S : List Int) (id : Int)
theorem Bt.list_put {w w1 : World} {p a : Nat} {L : List (Int × En)} {S S' : List Int} (h : Bt C R w p a L S) (hb : Below w.heap.size w w1) {A' : Option Addr} {n' c' : Nat} (hr : Rd (Value.int .u64) w1 w1.heap.size A' n' c' S') (hnd : S'.Nodup) (hus : Sn.U64s S')
    (hs : 0 < n' → ∀ b o, A' = some ⟨b, o, none⟩ → R b) : Bt C R (w1.setCell ⟨p, 1, none⟩ (.slice A' n' c')) p a L S' := by
  have h1 := h.later hb
  obtain ⟨A, n, c, r1, -, -⟩ := h1.row
  have hpa2 : p ≠ a := fun e => h1.mo.no_cell 0 _ (e ▸ h1.c0)
  have hpa := hpa2.symm
  have hne : ∀ x, Value.int .u64 x ≠ Value.slice A n c := fun x e => by cases e
  have hh : ∀ g, g ≠ p → (w1.setCell ⟨p, 1, none⟩ (.slice A' n' c')).heap[g]? = w1.heap[g]? := fun g hg => heap_setCell_other w1 ⟨p, 1, none⟩ g _ hg
  refine ⟨(World.cell?_setCell_other _ _ _ _ (fun e => by injection e with _ e _; omega)).trans h1.c0, by simpa using h1.f1, ⟨A', n', c', World.cell?_setCell_same _ _ _ r1, ?_, hs⟩, hnd, hus, h1.mo.setCell hpa _, fun q hq => ?_, h1.ap, h1.ri, h1.ui, h1.ip, h1.ia, h1.cr⟩
  · have := hr.setOther (p := ⟨p, 1, none⟩) r1 hne (.slice A' n' c')
    simpa using this
  · have hq' := h1.en q hq
    exact hq'.blk (hh _ (fun e => by have h2 := h1.c0; rw [← e, hq'.k0] at h2; cases h2)) (hh _ (fun e => by have h2 := h1.c0; rw [← e, hq'.kc] at h2; cases h2))
theorem publish_nil : Calls Tryz.prog 11 #[.pointer none, .int .u64 id] w fun e w' => e = .returned (.int .i64 1) ∧ w = w' := by
  go_enter Tryz.func11, Tryz.ntmps11
  go_wp2_with fail
  refine (wrong_nil _ id).mono ?_
  rintro e w1 ⟨rfl, rfl⟩
  go_wp2_with fail
  go_ret
  exact ⟨rfl, rfl⟩
theorem publish_miss (h : Bt C R w p a L S) (hid : U64 id) (hf : fnd L id = none) : Calls Tryz.prog 11 #[ptr p, .int .u64 id] w fun e w' => e = .returned (.int .i64 9) ∧ w = w' := by
  have H := Lib.hid (wrong_any w p a L S id h hid)
  rw [hf] at H
  clear h hid hf
  go_enter Tryz.func11, Tryz.ntmps11
  go_wp2_with fail
  refine H.out.mono ?_
  rintro e w1 ⟨rfl, rfl⟩
  go_wp2_with fail
  go_ret
  exact ⟨rfl, rfl⟩
set_option maxHeartbeats 1000000 in
theorem publish_hit (h : Bt C R w p a L S) (hid : U64 id) {x : En} (hf : fnd L id = some x) (hl : S.length ≤ 1000000) : Calls Tryz.prog 11 #[ptr p, .int .u64 id] w fun e w' => e = .returned (.int .i64 0) ∧ Bt (cut w C) (ext w R) w' p a L (Sn.sWith S id) ∧ Fz C w w' := by
  have H := Lib.hid (wrong_any w p a L S id h hid)
  rw [hf] at H
  obtain ⟨A, n, c, c1, h2, h3⟩ := h.row
  have HSN := Lib.hid (show Sn.Snap w w.heap.size (.agg #[.slice A n c]) S from ⟨⟨A, n, c, rfl, h2⟩, h.nd, h.us⟩)
  have f1 := h.f1
  have H3 := Lib.hid h3
  have HRD := Lib.hid h2
  have HK := Lib.hid h
  have HI := Lib.hid hid
  clear h hid hf h2 h3
  go_enter Tryz.func11, Tryz.ntmps11
  go_wp2_with fail
  refine H.out.mono ?_
  rintro e w1 ⟨rfl, rfl⟩
  go_wp2_with fail
  refine (Sn.with2_any _ S id w HSN.out (by omega) HI.out).mono ?_
  rintro e w2 ⟨u, rfl, hsn, hb, hfr⟩
  obtain ⟨⟨A2, n2, c2, rfl, hr2⟩, hnd2, hok2⟩ := hsn
  have hlt := Lw.lt_heap c1
  have k1 := (hb.cell (p := ⟨p, 1, none⟩) hlt).trans c1
  have kf := (hb.frozen (p := ⟨p, 1, none⟩) hlt).trans f1
  have hsep : 0 < n2 → ∀ b o, A2 = some ⟨b, o, none⟩ → ext w R b := by
    rcases hfr with e | ⟨A9, n9, c9, e, h9⟩
    · injection e with e; injection e with e; injection e with e; injection e with e1 e2 e3; subst e1 e2; exact fun hn b o e => by obtain ⟨b', o', e', hb', _⟩ := HRD.out.at_ hn; have h9 := H3.out hn b o e; rw [e] at e'; injection e' with e'; injection e' with e3 _; exact .inl ⟨by omega, h9⟩
    · injection e with e; injection e with e; injection e with e; injection e with e1 e2 e3; subst e1 e2
      intro _ b o hA
      exact .inr (h9 b o hA)
  have HP := Lib.hid (HK.out.cutC.list_put hb hr2 hnd2 hok2 hsep)
  have HB := Lib.hid hb
  clear hb hsep hr2 hnd2 hok2 hfr c1 f1
  go_wp2_with fail
  go_ret
  exact ⟨rfl, HP.out, (Fz.of_below HB.out).trans (Fz.of_set _ HK.out.ip)⟩
theorem unlist_nil : Calls Tryz.prog 16 #[.pointer none, .int .u64 id] w fun e w' => e = .returned (.int .i64 1) ∧ w = w' := by
  go_enter Tryz.func16, Tryz.ntmps16
  go_wp2_with fail
  refine (wrong_nil _ id).mono ?_
  rintro e w1 ⟨rfl, rfl⟩
  go_wp2_with fail
  go_ret
  exact ⟨rfl, rfl⟩
theorem unlist_miss (h : Bt C R w p a L S) (hid : U64 id) (hf : fnd L id = none) : Calls Tryz.prog 16 #[ptr p, .int .u64 id] w fun e w' => e = .returned (.int .i64 9) ∧ w = w' := by
  have H := Lib.hid (wrong_any w p a L S id h hid)
  rw [hf] at H
  clear h hid hf
  go_enter Tryz.func16, Tryz.ntmps16
  go_wp2_with fail
  refine H.out.mono ?_
  rintro e w1 ⟨rfl, rfl⟩
  go_wp2_with fail
  go_ret
  exact ⟨rfl, rfl⟩
set_option maxHeartbeats 1000000 in
theorem unlist_hit (h : Bt C R w p a L S) (hid : U64 id) {x : En} (hf : fnd L id = some x) (hl : S.length ≤ 1000000) : Calls Tryz.prog 16 #[ptr p, .int .u64 id] w fun e w' => e = .returned (.int .i64 0) ∧ Bt (cut w C) (ext w R) w' p a L (Sn.sWithout S id) ∧ Fz C w w' := by
  have H := Lib.hid (wrong_any w p a L S id h hid)
  rw [hf] at H
  obtain ⟨A, n, c, c1, h2, h3⟩ := h.row
  have HSN := Lib.hid (show Sn.Snap w w.heap.size (.agg #[.slice A n c]) S from ⟨⟨A, n, c, rfl, h2⟩, h.nd, h.us⟩)
  have f1 := h.f1
  have H3 := Lib.hid h3
  have HRD := Lib.hid h2
  have HK := Lib.hid h
  clear h hid hf h2 h3
  go_enter Tryz.func16, Tryz.ntmps16
  go_wp2_with fail
  refine H.out.mono ?_
  rintro e w1 ⟨rfl, rfl⟩
  go_wp2_with fail
  refine (Sn.without2_any _ S id w HSN.out (by omega)).mono ?_
  rintro e w2 ⟨u, rfl, hsn, hb, hfr⟩
  obtain ⟨⟨A2, n2, c2, rfl, hr2⟩, hnd2, hok2⟩ := hsn
  have hlt := Lw.lt_heap c1
  have k1 := (hb.cell (p := ⟨p, 1, none⟩) hlt).trans c1
  have kf := (hb.frozen (p := ⟨p, 1, none⟩) hlt).trans f1
  have hsep : 0 < n2 → ∀ b o, A2 = some ⟨b, o, none⟩ → ext w R b := by
    rcases hfr with e | ⟨A9, n9, c9, e, h9⟩
    · injection e with e; injection e with e; injection e with e; injection e with e1 e2 e3; subst e1 e2; exact fun hn b o e => by obtain ⟨b', o', e', hb', _⟩ := HRD.out.at_ hn; have h9 := H3.out hn b o e; rw [e] at e'; injection e' with e'; injection e' with e3 _; exact .inl ⟨by omega, h9⟩
    · injection e with e; injection e with e; injection e with e; injection e with e1 e2 e3; subst e1 e2
      intro _ b o hA
      exact .inr (h9 b o hA)
  have HP := Lib.hid (HK.out.cutC.list_put hb hr2 hnd2 hok2 hsep)
  have HB := Lib.hid hb
  clear hb hsep hr2 hnd2 hok2 hfr c1 f1
  go_wp2_with fail
  go_ret
  exact ⟨rfl, HP.out, (Fz.of_below HB.out).trans (Fz.of_set _ HK.out.ip)⟩
theorem count_nil (st : Int) : Calls Tryz.prog 42 #[.pointer none, .int .i64 st] w fun e w' => e = .returned (.int .i64 0) ∧ w = w' := by
  go_enter Tryz.func42, Tryz.ntmps42
  go_wp2_with fail
  go_ret
  exact ⟨rfl, rfl⟩
/-- How many of these are in a state. -/
def cnt (D : List (Int × Ex)) (st : Int) : Nat := (D.filter (fun q => q.2.word % 4 == st)).length
theorem bl_hit {L : List (Int × En)} {y : Int} {q : Option Nat} (h : (y, q) ∈ bl L) : ∃ x, (y, x) ∈ L ∧ q = some x.e := by
  obtain ⟨r, hr, e⟩ := List.mem_map.1 h
  injection e with e1 e2
  exact ⟨r.2, by rw [← e1]; exact hr, e2.symm⟩
theorem wo_map {β γ : Type} (L : List (Int × β)) (g : β → γ) (k : Int) : wo (L.map fun q => (q.1, g q.2)) k = (wo L k).map fun q => (q.1, g q.2) := by
  unfold wo; rw [List.filter_map]; rfl
theorem nextP {w : World} {ops : Array Oper} {rest : List Oper} {o : Oper} {ac : Act} {Q : Exit → Act → World → Prop} (hg : o.guard = none) (it : Operand) (hop : o.op = Op.next it false) (b r : Nat) (l left : List (Int × En)) (hit : ac.eval it = .pointer (some ⟨r, 0, none⟩)) (h : Rg Tryz.prog 30 eP w b r (bl l) (bl left))
    (hDone : left = [] → wpList Tryz.prog ops Q rest (ac.put o.dst (.tuple #[.bool false])) w)
    (hMore : ∀ y (x : En) w', (y, x) ∈ left → U64 y → Rg Tryz.prog 30 eP w' b r (bl l) (bl (wo left y)) → w'.rangeLeft b r < w.rangeLeft b r → w.grownBy w' (some r) → w'.heap.size = w.heap.size →
      (Instr.entry (.pointer (some ⟨r, 0, none⟩))).run Tryz.prog w' = .ok (.tuple #[.int .u64 y, .pointer (some ⟨x.e, 0, none⟩)]) w' → wpList Tryz.prog ops Q rest (ac.put o.dst (.tuple #[.bool true, .int .u64 y, .pointer (some ⟨x.e, 0, none⟩)])) w') : wpList Tryz.prog ops Q (o :: rest) ac w :=
  next1 w hg it hop 30 Tryz.underlying30 b r (bl l) (bl left) hit h (fun h0 => hDone (by simpa [bl] using h0)) fun y q w' h1 h2 h3 h4 h5 h6 h7 => by
    obtain ⟨x, hx, rfl⟩ := bl_hit h1
    rw [wo_map left (fun x : En => some x.e) y] at h3
    exact hMore y x w' hx h2 h3 h4 h5 h6 h7
set_option maxHeartbeats 1000000 in
theorem countT_any (h : Bt C R w p a L S) (st : Int) (hL : L.length ≤ 1000) : Calls Tryz.prog 42 #[ptr p, .int .i64 st] w fun e w' => e = .returned (.int .i64 (cnt (ab L) st)) ∧ Below w.heap.size w w' := by
  have c0 := h.c0
  have hlt := h.lt
  have HK := Lib.hid h
  clear h
  go_enter Tryz.func42, Tryz.ntmps42
  go_wp2_with (at_range; refine range1 _ rfl _ 108 rfl 30 113 Tryz.underlying30 Tryz.underlying108 a (bl L) rfl HK.out.mo ?_; intro w0 hrg0 hg0 hs0)
  go_frame
  have hb0 : Below w.heap.size w w0 := (Below.refl _ w).grown hg0 (Nat.le_refl _) (fun g hg => by cases hg)
  clear hg0
  go_loopw [5] (fun v wr => ∃ (left seen : List (Int × En)), v = .int .i64 (cnt (ab seen) st) ∧ Rg Tryz.prog 30 eP wr a w.heap.size (bl L) (bl left) ∧ w.heap.size + 1 ≤ wr.heap.size ∧ Hid (Below w.heap.size w wr ∧ (seen ++ left).Perm L))
    (fun _ wr => wr.rangeLeft a w.heap.size)
  case atStart => exact ⟨L, [], rfl, hrg0, by omega, hb0, List.Perm.refl _⟩
  case round =>
    clear hrg0 hb0
    obtain ⟨left, seen, rfl, hrg, hsz, hh⟩ := hrel
    have hcl : cnt (ab seen) st ≤ 1000 := by
      have h1 := hh.out.2.length_eq
      have h2 : cnt (ab seen) st ≤ (ab seen).length := List.length_filter_le _ _
      simp at h1 h2; omega
    go_wp2_with (at_next; refine nextP rfl _ rfl a w.heap.size L left rfl hrg ?_ ?_)
    · intro hl0
      subst hl0
      go_wp2_with fail
      go_ret
      have hp := hh.out.2
      rw [List.append_nil] at hp
      have h9 : cnt (ab seen) st = cnt (ab L) st := ((hp.map _).filter _).length_eq
      exact ⟨by rw [← h9]; rfl, hh.out.1⟩
    · intro y x w1 hx hy0 hy1 hrg1' hlt1 hg1 hs1 hen
      have hB1 := hh.out.1.grown hg1 (by omega) (fun g hg => by injection hg with hg; omega)
      have hxL : (y, x) ∈ L := hh.out.2.mem_iff.1 (List.mem_append_right _ hx)
      have hok := (HK.out.en _ hxL).blk (hB1.block _ (HK.out.en _ hxL).lt.1) (hB1.block _ (HK.out.en _ hxL).lt.2)
      have k0 := hok.k0
      have kc := hok.kc
      have uw := hok.uw
      have HB1 := Lib.hid hB1
      have hnd : Nd left := by
        have h1 := hrg.ndl
        unfold Nd at h1 ⊢
        rw [bl_keys] at h1; exact h1
      have HND := Lib.hid hnd
      have HX := Lib.hid hx
      have HP := Lib.hid hh.out.2
      have HLT := Lib.hid hlt1
      clear hrg hg1 hx hxL hh hnd hlt1 hB1 hok
      go_wp2_with fail
      refine (Wd.load_any _ _ _ kc).mono ?_
      rintro e w2 ⟨rfl, rfl⟩
      go_wp2_with fail
      refine (Wd.state_any _ _ uw.1 uw.2).mono ?_
      rintro e w2 ⟨rfl, rfl⟩
      cases hP : x.word % 4 == st with
      | true =>
        have HPP := Lib.hid hP
        have hi1 : IntKind.i64.wrap ((cnt (ab seen) st : Int) + 1) = (cnt (ab seen) st : Int) + 1 := by rw [IntKind.wrap_i64]; omega
        go_wp2_with fail
        go_roundw
        case rel =>
          refine ⟨wo left y, seen ++ [(y, x)], ?_, hrg1', by omega, HB1.out, ?_⟩
          · have : cnt (ab (seen ++ [(y, x)])) st = cnt (ab seen) st + 1 := by simp [cnt, ab, HPP.out]
            rw [this]; go_num
          · rw [List.append_assoc]
            exact (List.Perm.append_left seen (perm_wo HND.out HX.out).symm).trans HP.out
        case measure => exact HLT.out
      | false =>
        have HPP := Lib.hid hP
        go_wp2_with fail
        go_roundw
        case rel =>
          refine ⟨wo left y, seen ++ [(y, x)], ?_, hrg1', by omega, HB1.out, ?_⟩
          · have : cnt (ab (seen ++ [(y, x)])) st = cnt (ab seen) st := by simp [cnt, ab, HPP.out]
            rw [this]
          · rw [List.append_assoc]
            exact (List.Perm.append_left seen (perm_wo HND.out HX.out).symm).trans HP.out
        case measure => exact HLT.out
end
end Go.Proofs.YtlpjlphofjghhaaGreatDoor.Ba
