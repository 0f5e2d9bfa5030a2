/- A book's clone (layer 14). -/
import Derived.Test.YtbdcdofjcljliaaGreatDoorLease
import Derived.Test.YtbdcdofjcljliaaGreatDoorMapCloneL
import Derived.Test.YtbdcdofjcljliaaGreatDoorBase4
import Derived.Test.YtbdcdofjcljliaaGreatDoorBase1
namespace Go.Proofs.YtbdcdofjcljliaaGreatDoor.Le
open Go.ChangeShapes Go.WideShapes Go.ChangeAt Go.RowKit Go.Maps Go.Shelf Rw Hi Mt
set_option linter.unusedVariables false

theorem mcloneL (w : World) (m : Nat) (L : List (Int × Ls)) (h : ML w m L) :
    Calls Tryz.prog 21 #[.map (some m)] w fun e w' => e = .returned (.map (some w.heap.size)) ∧ ML w' w.heap.size L ∧ Below w.heap.size w w' := by
  obtain ⟨⟨D, ⟨es, clock, hb, F, hs, hD⟩, ht⟩, hn⟩ := h
  refine (AnyW.maps_Clone Sf.mlLays m es clock w hb).mono ?_
  rintro e w' ⟨rfl, rfl⟩
  exact ⟨rfl, ⟨⟨D, ⟨es, clock, (MapKept.heap_alloc w _).1, F, hs, hD⟩, ht⟩, hn⟩, (Below.refl _ w).alloc (Nat.le_refl _) _⟩
theorem mcloneM (w : World) (m : Nat) (L : List (Int × Bool)) (h : MB w m L) :
    Calls Tryz.prog 22 #[.map (some m)] w fun e w' => e = .returned (.map (some w.heap.size)) ∧ MB w' w.heap.size L ∧ Below w.heap.size w w' := by
  obtain ⟨⟨D, ⟨es, clock, hb, F, hs, hD⟩, ht⟩, hn⟩ := h
  refine (AnyW.maps_Clone Sf.mbLays m es clock w hb).mono ?_
  rintro e w' ⟨rfl, rfl⟩
  exact ⟨rfl, ⟨⟨D, ⟨es, clock, (MapKept.heap_alloc w _).1, F, hs, hD⟩, ht⟩, hn⟩, (Below.refl _ w).alloc (Nat.le_refl _) _⟩
set_option maxRecDepth 100000 in
set_option maxHeartbeats 1000000 in
theorem clone_book (w : World) (x : At) (leak : Int) (L : List (Int × Ls)) (M : List (Int × Bool)) (T : List (Int × Int)) (h : Bk w x leak L M T) :
    Calls Tryz.prog 6 #[ptr x.p] w fun e w' => ∃ x' : At, e = .returned (ptr x'.p) ∧ Bk w' x' leak L M T ∧ Below w.heap.size w w' ∧ w.heap.size ≤ x'.p ∧ w.heap.size ≤ x'.a ∧ w.heap.size ≤ x'.b ∧ w.heap.size ≤ x'.q ∧ w.heap.size ≤ x'.m := by
  have HK := Lib.hid h
  have HP := Lib.hid h.lt.1
  have HC0 := Lib.hid h.c0
  have HC1 := Lib.hid h.c1
  have HC2 := Lib.hid h.c2
  have HC3 := Lib.hid h.c3
  clear h
  go_enter Tryz.func6, Tryz.ntmps6
  go_wp2_with fail
  have HS : Hid (Below w.heap.size w w.drew) := Lib.hid (Below.refl _ _).drew
  refine reg_start 22 (fun w' => Below w.heap.size w w') (by kernel_rfl) (by kernel_rfl) ?_
  intro hTT
  have HTT := Lib.hid hTT
  clear hTT
  refine reg_load 0 HTT.out rfl (by kernel_rfl) (by decide) (fun _ _ _ _ h => h) HS.out rfl ?_
  apply Exists.intro
  refine ⟨fun w' hw => by (go_simp; exact rfl), ?_⟩
  refine reg_load 1 HTT.out rfl (by kernel_rfl) (by decide) (fun _ _ _ _ h => h) HS.out rfl ?_
  apply Exists.intro
  refine ⟨fun w' hw => by (go_simp; exact rfl), ?_⟩
  refine reg_load 2 HTT.out rfl (by kernel_rfl) (by decide) (fun _ _ _ _ h => h) HS.out rfl ?_
  apply Exists.intro
  refine ⟨fun w' hw => by (go_simp; exact rfl), ?_⟩
  refine reg_load 3 HTT.out rfl (by kernel_rfl) (by decide) (fun _ _ _ _ h => h) HS.out rfl ?_
  apply Exists.intro
  refine ⟨fun w' hw => by (have k0 := (hw.cell (p := ⟨x.p, 0, none⟩) HP.out).trans HC0.out; go_simp; exact rfl), ?_⟩
  refine reg_load 4 HTT.out rfl (by kernel_rfl) (by decide) (fun _ _ _ _ h => h) HS.out rfl ?_
  apply Exists.intro
  refine ⟨fun w' hw => by (go_simp; exact rfl), ?_⟩
  refine reg_load 5 HTT.out rfl (by kernel_rfl) (by decide) (fun _ _ _ _ h => h) HS.out rfl ?_
  apply Exists.intro
  refine ⟨fun w' hw => by (go_simp; exact rfl), ?_⟩
  refine reg_load 6 HTT.out rfl (by kernel_rfl) (by decide) (fun _ _ _ _ h => h) HS.out rfl ?_
  apply Exists.intro
  refine ⟨fun w' hw => by (go_simp; exact rfl), ?_⟩
  refine reg_load 7 HTT.out rfl (by kernel_rfl) (by decide) (fun _ _ _ _ h => h) HS.out rfl ?_
  apply Exists.intro
  refine ⟨fun w' hw => by (have k0 := (hw.cell (p := ⟨x.p, 1, none⟩) HP.out).trans HC1.out; go_simp; exact rfl), ?_⟩
  refine reg_load 9 HTT.out rfl (by kernel_rfl) (by decide) (fun _ _ _ _ h => h) HS.out rfl ?_
  apply Exists.intro
  refine ⟨fun w' hw => by (go_simp; exact rfl), ?_⟩
  refine reg_load 10 HTT.out rfl (by kernel_rfl) (by decide) (fun _ _ _ _ h => h) HS.out rfl ?_
  apply Exists.intro
  refine ⟨fun w' hw => by (go_simp; exact rfl), ?_⟩
  refine reg_load 11 HTT.out rfl (by kernel_rfl) (by decide) (fun _ _ _ _ h => h) HS.out rfl ?_
  apply Exists.intro
  refine ⟨fun w' hw => by (go_simp; exact rfl), ?_⟩
  refine reg_load 12 HTT.out rfl (by kernel_rfl) (by decide) (fun _ _ _ _ h => h) HS.out rfl ?_
  apply Exists.intro
  refine ⟨fun w' hw => by (have k0 := (hw.cell (p := ⟨x.p, 2, none⟩) HP.out).trans HC2.out; go_simp; exact rfl), ?_⟩
  refine reg_load 14 HTT.out rfl (by kernel_rfl) (by decide) (fun _ _ _ _ h => h) HS.out rfl ?_
  apply Exists.intro
  refine ⟨fun w' hw => by (go_simp; exact rfl), ?_⟩
  refine reg_load 15 HTT.out rfl (by kernel_rfl) (by decide) (fun _ _ _ _ h => h) HS.out rfl ?_
  apply Exists.intro
  refine ⟨fun w' hw => by (go_simp; exact rfl), ?_⟩
  refine reg_load 16 HTT.out rfl (by kernel_rfl) (by decide) (fun _ _ _ _ h => h) HS.out rfl ?_
  apply Exists.intro
  refine ⟨fun w' hw => by (go_simp; exact rfl), ?_⟩
  refine reg_load 17 HTT.out rfl (by kernel_rfl) (by decide) (fun _ _ _ _ h => h) HS.out rfl ?_
  apply Exists.intro
  refine ⟨fun w' hw => by (have k0 := (hw.cell (p := ⟨x.p, 3, none⟩) HP.out).trans HC3.out; go_simp; exact rfl), ?_⟩
  refine reg_only 8 rfl (by kernel_rfl) rfl ?_
  unfold Oper.wp
  go_simp
  refine (mcloneL _ x.a L (HK.out.leases.later HS.out)).mono ?_
  rintro e w1 ⟨rfl, hl1, hb1⟩
  have HS1 := Lib.hid (HS.out.trans (hb1.mono HS.out.size))
  have HL1 := Lib.hid hl1
  obtain ⟨a1, ha1⟩ : ∃ a, w.drew.heap.size = a := ⟨_, rfl⟩
  have HA1 := Lib.hid ha1
  clear hl1 hb1 ha1
  refine ⟨HS1.out, ?_⟩
  refine reg_only 13 rfl (by kernel_rfl) rfl ?_
  unfold Oper.wp
  go_simp
  refine (mcloneM _ x.b M (HK.out.marks.later HS1.out)).mono ?_
  rintro e w2 ⟨rfl, hm2, hb2⟩
  have HS2 := Lib.hid (HS1.out.trans (hb2.mono HS1.out.size))
  have HL2 := Lib.hid (HL1.out.later hb2)
  have HM2 := Lib.hid hm2
  clear hm2 hb2
  refine ⟨HS2.out, ?_⟩
  refine reg_only 18 rfl (by kernel_rfl) rfl ?_
  unfold Oper.wp
  go_simp
  refine (Wl.clone_any _ x.q x.m T (HK.out.later HS2.out).wheel).mono ?_
  rintro e w3 ⟨rfl, ht3, hb3, hs3⟩
  have HS := Lib.hid (HS2.out.trans (hb3.mono HS2.out.size))
  have HL3 := Lib.hid (HL2.out.later hb3)
  have HM3 := Lib.hid (HM2.out.later hb3)
  have HT3 := Lib.hid ht3
  have HZ3 := Lib.hid hs3
  clear ht3 hb3 hs3
  refine ⟨HS.out, ?_⟩
  refine reg_load 19 HTT.out rfl (by kernel_rfl) (by decide) (fun _ _ _ _ h => h) HS.out rfl ?_
  apply Exists.intro
  refine ⟨fun w' hw => by (go_simp; exact rfl), ?_⟩
  refine reg_only 20 rfl (by kernel_rfl) rfl ?_
  unfold Oper.wp
  go_simp
  have hb4 : Below w3.heap.size w3 (w3.alloc (.cells #[.int .u64 leak, .map (some w.drew.heap.size), .map (some w1.heap.size), .pointer (some ⟨w2.heap.size + 1, 0, none⟩)] 54)) := (Below.refl _ _).alloc (Nat.le_refl _) _
  have HS4 := Lib.hid (HS.out.trans (hb4.mono HS.out.size))
  refine ⟨HS4.out, ?_⟩
  have HOLD := HS
  clear HS
  have HS := HS4
  refine reg_load 21 HTT.out rfl (by kernel_rfl) (by decide) (fun _ _ _ _ h => h) HS.out rfl ?_
  apply Exists.intro
  refine ⟨fun w' hw => by (go_simp; exact rfl), ?_⟩
  refine reg_done (by kernel_rfl) ?_
  have l1 := HL1.out.lt
  have l2 := HM2.out.lt
  have l3 := HZ3.out
  have z0 : w.drew.heap.size = w.heap.size := rfl
  have z1 := HS1.out.size
  have z2 := HS2.out.size
  have z3 := HOLD.out.size
  have HBK : Hid (Bk (w3.alloc (.cells #[.int .u64 leak, .map (some w.drew.heap.size), .map (some w1.heap.size), .pointer (some ⟨w2.heap.size + 1, 0, none⟩)] 54)) ⟨w3.heap.size, w.drew.heap.size, w1.heap.size, w2.heap.size + 1, w2.heap.size⟩ leak L M T) := Lib.hid
    ⟨by go_simp, by go_simp, by go_simp, by go_simp, HL3.out.later hb4, HM3.out.later hb4, ⟨(hb4.cell (p := ⟨w2.heap.size + 1, 0, none⟩) (by show w2.heap.size + 1 < w3.heap.size; omega)).trans HT3.out.cell, HT3.out.own.block (hb4.block _ (by omega)), HT3.out.tms⟩, by show w.drew.heap.size ≠ w1.heap.size; omega, by show w.drew.heap.size ≠ w2.heap.size; omega, by show w1.heap.size ≠ w2.heap.size; omega⟩
  go_wp2_with fail
  go_ret
  exact ⟨⟨w3.heap.size, w.drew.heap.size, w1.heap.size, w2.heap.size + 1, w2.heap.size⟩, rfl, HBK.out, HS4.out, z3, Nat.le_refl _, z1, by show w.heap.size ≤ w2.heap.size + 1; omega, z2⟩
end Go.Proofs.YtbdcdofjcljliaaGreatDoor.Le
