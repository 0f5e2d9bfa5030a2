/- Layer 15 (bag): Clone. -/
import Derived.Test.YtlpjlphofjghhaaGreatDoorBagE
import Derived.RangeFuncSeq
namespace Go.Proofs.YtlpjlphofjghhaaGreatDoor.Ba
open Go Go.ChangeShapes Go.WideShapes Go.ChangeAt Go.RowKit Go.Maps Rw Hi Mt
set_option linter.unusedVariables false

theorem ris_eq {β : Type} {a b : List (Int × β)} (hp : a.Perm b) (ha : Ris a) (hb : Ris b) : a = b :=
  hp.eq_of_pairwise (fun x y _ _ h1 h2 => absurd (Int.lt_trans h1 h2) (Int.lt_irrefl _)) ha hb
/-- A block without cells turned, which is none of the bag's. -/
theorem Bt.side {C R : Nat → Prop} {w w' : World} {p a r : Nat} {L : List (Int × En)} {S : List Int} (h : Bt C R w p a L S) (hg : w.grownBy w' (some r)) (hr : ∀ o v, w.cell? ⟨r, o, none⟩ ≠ some v) (hC : ¬ C r) : Bt C R w' p a L S := by
  have hk : ∀ g, g < w.heap.size → g ≠ r → w'.heap[g]? = w.heap[g]? := fun g h1 h2 => hg.block g h1 (fun e => h2 (by injection e))
  have hp := hk p h.lt.1 (fun e => hC (e ▸ h.ip))
  obtain ⟨A, n, c, h1, h2, h3⟩ := h.row
  refine ⟨(World.cell?_of_block hp).trans h.c0, (World.frozen?_of_block hp).trans h.f1, ⟨A, n, c, (World.cell?_of_block hp).trans h1, rd_blk h2 hg.size fun hn b o e => ?_, h3⟩, h.nd, h.us, h.mo.block (hk a h.lt.2 (fun e => hC (e ▸ h.ia))), fun q hq => ?_, h.ap, h.ri, h.ui, h.ip, h.ia, h.cr⟩
  · obtain ⟨b', o', e', hb, hc⟩ := h2.at_ hn
    rw [e] at e'; injection e' with e'; injection e' with e1 e2 _
    refine hk b (by omega) (fun e3 => ?_)
    have := hc 0 _ (List.getElem?_eq_getElem (by rw [h2.len]; exact hn))
    rw [← e1, e3] at this
    exact hr _ _ this
  · have hq' := h.en q hq
    exact hq'.blk (hk _ hq'.lt.1 (fun e => hC (e ▸ hq'.ie))) (hk _ hq'.lt.2 (fun e => hC (e ▸ hq'.ic)))
theorem rgp_no_cell {P : Program} {k : TypeId} {w : World} {b r : Nat} {l left : List (Int × Option Nat)} (h : Rg P k eP w b r l left) (o : Nat) (v : Value) : w.cell? ⟨r, o, none⟩ ≠ some v := fun hc => by
  obtain ⟨⟨D, lf, cnt, h1, h2, h3⟩, h4, h5, h6⟩ := h
  obtain ⟨o1, e1, f1⟩ := h1.iter_walk
  obtain ⟨o2, e2, f2⟩ := not_walk_of_cell hc
  have e2 : w.heap[r]? = some o2 := e2
  rw [e1] at e2
  injection e2 with e2
  rw [e2, f2] at f1
  cases f1
theorem grown_below {w w' : World} (h : Below w.heap.size w w') : w.grownBy w' none := ⟨h.os, h.tape, h.output, h.size, fun k hk _ => h.block k hk⟩
theorem not_seen {seen left L : List (Int × En)} {y : Int} {x : En} (hp : (seen ++ left).Perm L) (hL : Ris L) (hx : (y, x) ∈ left) : y ∉ seen.map Prod.fst := by
  have h1 := hL.nd.perm hp.symm
  unfold Nd at h1
  rw [List.map_append, List.nodup_append] at h1
  intro h2
  exact h1.2.2 y h2 y (List.mem_map.2 ⟨_, hx, rfl⟩) rfl
set_option maxRecDepth 100000 in
set_option maxHeartbeats 4000000 in
theorem cloneT_any {C R : Nat → Prop} (w : World) (p a : Nat) (L : List (Int × En)) (S : List Int) (h : Bt C R w p a L S) (hL : L.length ≤ 1000) :
    Calls Tryz.prog 8 #[ptr p] w fun e w' => ∃ (p' a' : Nat) (L' : List (Int × En)), e = .returned (ptr p') ∧ ab L' = ab L ∧ Bt (fresh w) (cut w R) w' p' a' L' S ∧ Below w.heap.size w w' := by
  have HK := Lib.hid h
  have hlt := h.lt
  have c0 := h.c0
  obtain ⟨A, n, c, r1, r2, r3⟩ := h.row
  have HR2 := Lib.hid r2
  have HR3 := Lib.hid r3
  have HR1 := Lib.hid r1
  clear h r1 r2 r3
  go_enter Tryz.func8, Tryz.ntmps8
  go_wp2_with fail
  refine (new_any w).mono ?_
  rintro e w1 ⟨rfl, hn1, hb1⟩
  obtain ⟨p', hp'⟩ : ∃ q, w.heap.size + 1 = q := ⟨_, rfl⟩
  obtain ⟨a', ha'⟩ : ∃ q, w.heap.size = q := ⟨_, rfl⟩
  have hn2 := hn1
  rw [hp'] at hn2 ⊢
  have d0 := (hb1.cell (p := ⟨p, 0, none⟩) hlt.1).trans c0
  have HM1 := Lib.hid (HK.out.mo.later hb1)
  have hn3 : Bt (fresh w) (cut w R) w1 p' w.heap.size [] [] := hn2.mono (fun _ _ h => h) (fun _ _ h => h.elim) (fun g h1 h2 => by have h1 : w.heap.size ≤ g := h1; have := h2.1; omega)
  have hp1 := hn3.lt.1
  have HN1 := Lib.hid hn3
  have HB1 := Lib.hid hb1
  have hs1 := hb1.size
  clear hn1 hn2 hn3 hb1
  go_wp2_with (at_range; refine range1 _ rfl _ 108 rfl 30 113 Tryz.underlying30 Tryz.underlying108 a (bl L) rfl HM1.out ?_; intro w0 hrg0 hg0 hs0)
  go_frame
  have hb0 : Below w1.heap.size w1 w0 := (Below.refl _ w1).grown hg0 (Nat.le_refl _) (fun g hg => by cases hg)
  obtain ⟨r, hr⟩ : ∃ r, w1.heap.size = r := ⟨_, rfl⟩
  rw [hr] at hrg0 ⊢
  have hrw : w.heap.size < r := by omega
  have HB0 := Lib.hid (HB1.out.trans (hb0.mono hs1))
  have HN0' := Lib.hid ((HN1.out.mono (D := fun g => fresh w g ∧ g ≠ r) (T := cut w R) (fun g hg hc => ⟨hc, by omega⟩) (fun _ _ h => h) (fun g h1 h2 => HN1.out.cr g h1.1 h2)).later hb0)
  clear hg0 HN1 HB1
  go_loopw [] (fun wr => ∃ (left seen L2 : List (Int × En)), Rg Tryz.prog 30 eP wr a r (bl L) (bl left) ∧ Hid (Bt (fun g => fresh w g ∧ g ≠ r) (cut w R) wr p' a' L2 []) ∧ Hid ((ab L2).Perm (ab seen)) ∧ Hid (Below w.heap.size w wr ∧ (seen ++ left).Perm L) ∧ r < wr.heap.size)
    (fun wr => wr.rangeLeft a r)
  case atStart => exact ⟨L, [], [], hrg0, ha' ▸ HN0', Lib.hid (List.Perm.refl _), Lib.hid ⟨HB0.out, List.Perm.refl _⟩, by omega⟩
  case round =>
    clear hrg0 HB0 HN0' hb0 d0
    obtain ⟨left, seen, L2, hrg, HN, HP, hh, hrs⟩ := hrel
    go_wp2_with (at_next; refine nextP rfl _ rfl a r L left rfl hrg ?_ ?_)
    · intro hl0
      have hpp := hh.out.2
      rw [hl0, List.append_nil] at hpp
      have HE : Hid (ab L2 = ab L) := Lib.hid (ris_eq (HP.out.trans (hpp.map _)) (by rw [ris_keys]; have := ris_keys.1 HN.out.ri; simpa [ab, Function.comp_def] using this) (by rw [ris_keys]; have := ris_keys.1 HK.out.ri; simpa [ab, Function.comp_def] using this))
      have HBW := Lib.hid hh.out.1
      have e1 := (hh.out.1.cell (p := ⟨p, 1, none⟩) hlt.1).trans HR1.out
      have e2 := HN.out.c0
      have e3 := HN.out.f1
      have HLP := Lib.hid ((HN.out.mono (D := fresh w) (T := cut w R) (fun _ _ h => h.1) (fun _ _ h => h) (fun g h1 h2 => by have h1 : w.heap.size ≤ g := h1; have := h2.1; omega)).list_put (Below.refl _ wr) (HR2.out.later hh.out.1) HK.out.nd HK.out.us (fun hn b o e => by
        obtain ⟨b', o', e', hb', _⟩ := HR2.out.at_ hn
        have h9 := HR3.out hn b o e
        rw [e] at e'; injection e' with e'; injection e' with e3 _
        exact ⟨by omega, h9⟩))
      obtain ⟨A0, n0, c0', e4, -, -⟩ := HN.out.row
      clear hrg hpp hh HP
      go_wp2_with fail
      go_ret
      exact ⟨p', a', L2, rfl, HE.out, HLP.out, HBW.out.setCell (p := ⟨p', 1, none⟩) (by show w.heap.size ≤ p'; omega) _⟩
    · intro y x w2 hx hy0 hy1 hrg1 hlt1 hg1 hs2 hen
      have hnc : ∀ o v, wr.cell? ⟨r, o, none⟩ ≠ some v := fun o v => rgp_no_cell hrg o v
      have hnd : Nd left := by
        have h1 := hrg.ndl
        unfold Nd at h1 ⊢
        rw [bl_keys] at h1; exact h1
      have HND := Lib.hid hnd
      have HX := Lib.hid hx
      have HN2 := Lib.hid (HN.out.side hg1 hnc (fun e => e.2 rfl))
      have HBW := Lib.hid (hh.out.1.grown hg1 hh.out.1.size (fun j hj => by injection hj with hj; omega))
      have hPP := hh.out.2
      have hxL : (y, x) ∈ L := hPP.mem_iff.1 (List.mem_append_right _ hx)
      have hok := HK.out.en _ hxL
      have hll := hok.lt
      have hws := HBW.out.size
      have HL : Hid (x.e < w2.heap.size ∧ x.c < w2.heap.size) := Lib.hid ⟨Nat.lt_of_lt_of_le hll.1 hws, Nat.lt_of_lt_of_le hll.2 hws⟩
      have K0 := Lib.hid ((HBW.out.cell (p := ⟨x.e, 0, none⟩) hll.1).trans hok.k0)
      have K1 := Lib.hid ((HBW.out.cell (p := ⟨x.e, 1, none⟩) hll.1).trans hok.k1)
      have K2 := Lib.hid ((HBW.out.cell (p := ⟨x.e, 2, none⟩) hll.1).trans hok.k2)
      have K3 := Lib.hid ((HBW.out.cell (p := ⟨x.e, 3, none⟩) hll.1).trans hok.k3)
      have KC := Lib.hid ((HBW.out.cell (p := ⟨x.c, 0, none⟩) hll.2).trans hok.kc)
      have HU := Lib.hid (And.intro hok.uw (And.intro hok.ub (And.intro hok.us hok.up_)))
      have HP' := Lib.hid HN2.out.lt.1
      have KP := Lib.hid HN2.out.c0
      have HM := Lib.hid HN2.out.mo
      have HI : Hid (U64 y) := Lib.hid ⟨hy0, hy1⟩
      have hL2 : L2.length ≤ 1000 := by
        have h1 := HP.out.length_eq
        have h2 := hPP.length_eq
        simp [ab] at h1 h2; omega
      have HLEN : Hid ((bl L2).length < 4611686018427387904) := Lib.hid (by simp [bl]; omega)
      have hno : fnd L2 y = none := fnd_none (fun hm => not_seen hPP HK.out.ri hx (by
        have h1 : y ∈ (ab L2).map Prod.fst := by simpa [ab, Function.comp_def] using hm
        have h2 := (HP.out.map Prod.fst).mem_iff.1 h1
        simpa [ab, Function.comp_def] using h2))
      have HNO := Lib.hid hno
      have HLT := Lib.hid hlt1
      have HRG := Lib.hid hrg1
      have HPP := Lib.hid hPP
      have hr2 : r < w2.heap.size := by omega
      clear hrg hrg1 hg1 hx hnc hnd hxL hok hll hno hPP hlt1 hh HN hs2
      go_wp2_with fail
      have HS : Hid (Below w2.heap.size w2 w2.drew) := Lib.hid (Below.refl _ _).drew
      have HB0 : Hid (Below w2.heap.size w2 w2) := Lib.hid (Below.refl _ _)
      refine reg_start 24 (fun w' => Below w2.heap.size w2 w') (by kernel_rfl) (by kernel_rfl) ?_
      intro hTT
      have HTT := Lib.hid hTT
      clear hTT
      refine reg_load 0 HTT.out rfl (by kernel_rfl) (by decide) (fun _ _ _ _ h => h) HS.out rfl ?_
      apply Exists.intro
      refine ⟨fun w' hw => by (go_simp; exact rfl), ?_⟩
      refine reg_load 1 HTT.out rfl (by kernel_rfl) (by decide) (fun _ _ _ _ h => h) HS.out rfl ?_
      apply Exists.intro
      refine ⟨fun w' hw => by (go_simp; exact rfl), ?_⟩
      refine reg_load 2 HTT.out rfl (by kernel_rfl) (by decide) (fun _ _ _ _ h => h) HS.out rfl ?_
      apply Exists.intro
      refine ⟨fun w' hw => by (go_simp; exact rfl), ?_⟩
      refine reg_load 3 HTT.out rfl (by kernel_rfl) (by decide) (fun _ _ _ _ h => h) HS.out rfl ?_
      apply Exists.intro
      refine ⟨fun w' hw => by (have k := (hw.cell (p := ⟨p', 0, none⟩) HP'.out).trans KP.out; go_simp; exact rfl), ?_⟩
      refine reg_load 4 HTT.out rfl (by kernel_rfl) (by decide) (fun _ _ _ _ h => h) HS.out rfl ?_
      apply Exists.intro
      refine ⟨fun w' hw => by (go_simp; exact rfl), ?_⟩
      refine reg_load 5 HTT.out rfl (by kernel_rfl) (by decide) (fun _ _ _ _ h => h) HS.out rfl ?_
      apply Exists.intro
      refine ⟨fun w' hw => by (go_simp; exact rfl), ?_⟩
      refine reg_load 6 HTT.out rfl (by kernel_rfl) (by decide) (fun _ _ _ _ h => h) HS.out rfl ?_
      apply Exists.intro
      refine ⟨fun w' hw => by (go_simp; exact rfl), ?_⟩
      refine reg_load 7 HTT.out rfl (by kernel_rfl) (by decide) (fun _ _ _ _ h => h) HS.out rfl ?_
      apply Exists.intro
      refine ⟨fun w' hw => by (go_simp; exact rfl), ?_⟩
      refine reg_load 8 HTT.out rfl (by kernel_rfl) (by decide) (fun _ _ _ _ h => h) HS.out rfl ?_
      apply Exists.intro
      refine ⟨fun w' hw => by (have k := (hw.cell (p := ⟨x.e, 0, none⟩) HL.out.1).trans K0.out; go_simp; exact rfl), ?_⟩
      refine reg_load 10 HTT.out rfl (by kernel_rfl) (by decide) (fun _ _ _ _ h => h) HS.out rfl ?_
      apply Exists.intro
      refine ⟨fun w' hw => by (go_simp; exact rfl), ?_⟩
      refine reg_load 11 HTT.out rfl (by kernel_rfl) (by decide) (fun _ _ _ _ h => h) HS.out rfl ?_
      apply Exists.intro
      refine ⟨fun w' hw => by (go_simp; exact rfl), ?_⟩
      refine reg_load 12 HTT.out rfl (by kernel_rfl) (by decide) (fun _ _ _ _ h => h) HS.out rfl ?_
      apply Exists.intro
      refine ⟨fun w' hw => by (go_simp; exact rfl), ?_⟩
      refine reg_load 13 HTT.out rfl (by kernel_rfl) (by decide) (fun _ _ _ _ h => h) HS.out rfl ?_
      apply Exists.intro
      refine ⟨fun w' hw => by (have k := (hw.cell (p := ⟨x.e, 1, none⟩) HL.out.1).trans K1.out; go_simp; exact rfl), ?_⟩
      refine reg_load 14 HTT.out rfl (by kernel_rfl) (by decide) (fun _ _ _ _ h => h) HS.out rfl ?_
      apply Exists.intro
      refine ⟨fun w' hw => by (go_simp; exact rfl), ?_⟩
      refine reg_load 15 HTT.out rfl (by kernel_rfl) (by decide) (fun _ _ _ _ h => h) HS.out rfl ?_
      apply Exists.intro
      refine ⟨fun w' hw => by (go_simp; exact rfl), ?_⟩
      refine reg_load 16 HTT.out rfl (by kernel_rfl) (by decide) (fun _ _ _ _ h => h) HS.out rfl ?_
      apply Exists.intro
      refine ⟨fun w' hw => by (go_simp; exact rfl), ?_⟩
      refine reg_load 17 HTT.out rfl (by kernel_rfl) (by decide) (fun _ _ _ _ h => h) HS.out rfl ?_
      apply Exists.intro
      refine ⟨fun w' hw => by (have k := (hw.cell (p := ⟨x.e, 2, none⟩) HL.out.1).trans K2.out; go_simp; exact rfl), ?_⟩
      refine reg_load 18 HTT.out rfl (by kernel_rfl) (by decide) (fun _ _ _ _ h => h) HS.out rfl ?_
      apply Exists.intro
      refine ⟨fun w' hw => by (go_simp; exact rfl), ?_⟩
      refine reg_load 19 HTT.out rfl (by kernel_rfl) (by decide) (fun _ _ _ _ h => h) HS.out rfl ?_
      apply Exists.intro
      refine ⟨fun w' hw => by (go_simp; exact rfl), ?_⟩
      refine reg_load 20 HTT.out rfl (by kernel_rfl) (by decide) (fun _ _ _ _ h => h) HS.out rfl ?_
      apply Exists.intro
      refine ⟨fun w' hw => by (go_simp; exact rfl), ?_⟩
      refine reg_load 21 HTT.out rfl (by kernel_rfl) (by decide) (fun _ _ _ _ h => h) HS.out rfl ?_
      apply Exists.intro
      refine ⟨fun w' hw => by (have k := (hw.cell (p := ⟨x.e, 3, none⟩) HL.out.1).trans K3.out; go_simp; exact rfl), ?_⟩
      refine reg_only 9 rfl (by kernel_rfl) rfl ?_
      unfold Oper.wp
      go_simp
      refine (Wd.clone_any _ _ _ ((HS.out.cell (p := ⟨x.c, 0, none⟩) HL.out.2).trans KC.out)).mono ?_
      rintro e w9 ⟨rfl, rfl⟩
      refine and_keep (by (repeat' (first | exact HS.out | exact HB0.out | exact Below.refl _ _ | apply Below.setCell | apply Below.drew | apply Below.alloc)); all_goals (first | exact Nat.le_refl _ | omega | (simp; done) | (simp; omega))) ?_
      intro hS
      clear HS
      have HS := Lib.hid hS
      clear hS
      refine reg_load 22 HTT.out rfl (by kernel_rfl) (by decide) (fun _ _ _ _ h => h) HS.out rfl ?_
      apply Exists.intro
      refine ⟨fun w' hw => by (go_simp; exact rfl), ?_⟩
      refine reg_only 23 rfl (by kernel_rfl) rfl ?_
      unfold Oper.wp
      go_simp
      refine and_keep (by (repeat' (first | exact HS.out | exact HB0.out | exact Below.refl _ _ | apply Below.setCell | apply Below.drew | apply Below.alloc)); all_goals (first | exact Nat.le_refl _ | omega | (simp; done) | (simp; omega))) ?_
      intro hS
      clear HS
      have HS := Lib.hid hS
      clear hS
      refine reg_only 24 rfl (by kernel_rfl) rfl ?_
      unfold Oper.wp
      go_simp
      obtain ⟨w3, hrun, hM3, hg3⟩ := run_put (E := eP) ((w2.alloc (.cells #[.int .u64 x.word] 196)).alloc (.cells #[ptr w2.heap.size, .int .u64 x.born, .int .u64 x.since, .int .u64 x.proved] 116)).drew Tryz.underlying30 Tryz.underlying108 (HM.out.later HS.out) HLEN.out HI.out (some (w2.heap.size + 1))
      have hrun' : (Instr.mapUpdate 108 (.map (some a')) (.int .u64 y) (.pointer (some ⟨w2.heap.size + 1, 0, none⟩))).run Tryz.prog ((w2.alloc (.cells #[.int .u64 x.word] 196)).alloc (.cells #[.pointer (some ⟨w2.heap.size, 0, none⟩), .int .u64 x.born, .int .u64 x.since, .int .u64 x.proved] 116)).drew = .ok () w3 := hrun
      rw [hrun']
      go_simp
      refine reg_done (by kernel_rfl) ?_
      have HM3 := Lib.hid hM3
      have HG3 := Lib.hid hg3
      clear hrun hrun' hM3 hg3
      have hw := HG3.out
      have hgA := grown_below HS.out
      have hra : some r ≠ some a' := fun e => by injection e with e; omega
      have haa : some a ≠ some a' := fun e => by injection e with e; omega
      have hrgA := HRG.out.kept hgA (by simp) (by simp)
      have hrg3 := hrgA.kept hw haa hra
      have hl3 : w3.rangeLeft a r = w2.rangeLeft a r := by rw [hrgA.left_kept hw haa hra, HRG.out.left_kept hgA (by simp) (by simp)]
      have ne1 : ∀ g, w2.heap.size ≤ g → some g ≠ some a' := fun g hg e => by injection e with e; omega
      have c1 : ∀ i v, ((w2.alloc (.cells #[.int .u64 x.word] 196)).alloc (.cells #[ptr w2.heap.size, .int .u64 x.born, .int .u64 x.since, .int .u64 x.proved] 116)).drew.cell? ⟨w2.heap.size + 1, i, none⟩ = some v → w3.cell? ⟨w2.heap.size + 1, i, none⟩ = some v := fun i v hv => hw.cell hv (ne1 _ (by show w2.heap.size ≤ w2.heap.size + 1; omega))
      have hok3 : Ok (ext w2 (fun g => fresh w g ∧ g ≠ r)) w3 ⟨w2.heap.size + 1, w2.heap.size, x.word, x.born, x.since, x.proved⟩ :=
        ⟨c1 0 _ (by go_simp), c1 1 _ (by go_simp), c1 2 _ (by go_simp), c1 3 _ (by go_simp), hw.cell (a := ⟨w2.heap.size, 0, none⟩) (by go_simp) (ne1 _ (Nat.le_refl _)),
          (World.frozen?_of_block (hw.block _ (by simp) (ne1 _ (by show w2.heap.size ≤ w2.heap.size + 1; omega)))).trans (by go_simp), (World.frozen?_of_block (hw.block _ (by simp) (ne1 _ (by show w2.heap.size ≤ w2.heap.size + 1; omega)))).trans (by go_simp), (World.frozen?_of_block (hw.block _ (by simp; omega) (ne1 _ (Nat.le_refl _)))).trans (by go_simp),
          .inr (by show w2.heap.size ≤ w2.heap.size + 1; omega), .inr (Nat.le_refl _), HU.out.1, HU.out.2.1, HU.out.2.2.1, HU.out.2.2.2⟩
      have hbt := HN2.out.enter HNO.out HI.out HS.out _ hok3 (by show w2.heap.size ≤ w2.heap.size + 1; omega) (Nat.le_refl _) HM3.out hw
      have hbt' := hbt.mono (D := fun g => fresh w g ∧ g ≠ r) (T := cut w R) (fun g _ hc => by
        rcases hc with hc | hc
        · exact hc.2
        · exact ⟨Nat.le_trans hws hc, by omega⟩) (fun g _ h => h.2) (fun g h1 h2 => by have h1 : w.heap.size ≤ g := h1.1; have := h2.1; omega)
      have hp3 : (ab (ins L2 y ⟨w2.heap.size + 1, w2.heap.size, x.word, x.born, x.since, x.proved⟩)).Perm (ab (seen ++ [(y, x)])) := by
        have h1 := (ins_perm (id := y) HN2.out.ri (fnd_no HNO.out) (⟨w2.heap.size + 1, w2.heap.size, x.word, x.born, x.since, x.proved⟩ : En)).map (fun q => (q.1, q.2.x))
        refine h1.symm.trans ?_
        have h2 : ab (seen ++ [(y, x)]) = ab seen ++ [(y, x.x)] := by simp [ab]
        rw [h2]
        exact (List.Perm.cons (y, x.x) HP.out).trans (List.perm_append_singleton (y, x.x) (ab seen)).symm
      have hbw3 : Below w.heap.size w w3 := (HBW.out.trans (HS.out.mono hws)).grown hw (Nat.le_trans hws HS.out.size) (fun j hj => by injection hj with hj; omega)
      have hs3 : r < w3.heap.size := Nat.lt_of_lt_of_le hr2 (Nat.le_trans HS.out.size hw.size)
      have HBT := Lib.hid hbt'
      have HP3 := Lib.hid hp3
      have HBW3 := Lib.hid hbw3
      have HRG3 := Lib.hid hrg3
      have HL3 := Lib.hid hl3
      clear hbt hbt' hp3 hbw3 hrg3 hl3 hrgA hgA hok3 c1 ne1 hw
      go_wp2_with fail
      go_roundw
      case rel => exact ⟨wo left y, seen ++ [(y, x)], _, HRG3.out, HBT, HP3, Lib.hid ⟨HBW3.out, by rw [List.append_assoc]; exact (List.Perm.append_left seen (perm_wo HND.out HX.out).symm).trans HPP.out⟩, hs3⟩
      case measure => rw [HL3.out]; exact HLT.out
theorem bclone_any {C R : Nat → Prop} (w : World) (p a : Nat) (D : List (Int × Ex)) (S : List Int) (h : Bx C R w p a D S) (hL : D.length ≤ 1000) :
    Calls Tryz.prog 8 #[ptr p] w fun e w' => ∃ p' a' : Nat, e = .returned (ptr p') ∧ Bx (fresh w) (cut w R) w' p' a' D S ∧ Below w.heap.size w w' := by
  obtain ⟨L, h, rfl⟩ := h
  refine (cloneT_any w p a L S h (by simpa [ab] using hL)).mono ?_
  rintro e w' ⟨p', a', L', rfl, hL', hb, hw⟩
  exact ⟨p', a', rfl, ⟨L', hb, hL'⟩, hw⟩
end Go.Proofs.YtlpjlphofjghhaaGreatDoor.Ba
