/- Does a book tell what the document's tells? (layer 14) -/
import Derived.Test.YtbdcdofjcljliaaGreatDoorLeaseU
import Derived.Test.YtbdcdofjcljliaaGreatDoorLeaseC
import Derived.Test.YtbdcdofjcljliaaGreatDoorLeaseRefB
import Derived.Test.YtbdcdofjcljliaaGreatDoorBase1
import Derived.Test.YtbdcdofjcljliaaGreatDoorBase5
import Derived.Deep.CutRange
import Derived.Deep.CutBlock
namespace Go.Proofs.YtbdcdofjcljliaaGreatDoor.Le
open Go.ChangeShapes Go.WideShapes Go.ChangeAt Go.RowKit Go.Deep Go.Maps Rw Hi Mt
set_option linter.unusedVariables false

section
variable (w : World) (x : At) (leak : Int) (D : List (Int × Ls)) (M : List (Int × Bool)) (T : List (Int × Int))
theorem heldU (th : Int) (m : Nat) (h : Bk w x leak D M T) (hs : Sd D) (hl : D.length ≤ 200) (hm : (D.filter (fun a => a.2.thread == th)).length = m) :
    Calls Tryz.prog 36 #[ptr x.p, .int .i64 th] w fun e w' => ∃ (A : Option Addr) (c : Nat), e = .returned (.slice A m c) ∧ Rd (Value.int .u64) w' w'.heap.size A m c ((D.filter (fun a => a.2.thread == th)).map Prod.fst) ∧ Below w.heap.size w w' := by
  refine (held_any w x leak D M T th h hl).mono ?_
  rintro e w' ⟨A, c, ks, rfl, hp, hr, hd, hb⟩
  have e := rise_same hs _ hp hr
  have e2 : ks.length = m := by rw [e, List.length_map, hm]
  rw [e] at hd
  rw [e2]
  rw [List.length_map, hm] at hd
  exact ⟨A, c, rfl, hd, hb⟩
theorem flaggedU (m : Nat) (h : Bk w x leak D M T) (hs : Sd D) (hl : D.length ≤ 200) (hm : (D.filter (fun a => a.2.flag)).length = m) :
    Calls Tryz.prog 40 #[ptr x.p] w fun e w' => ∃ (A : Option Addr) (c : Nat), e = .returned (.slice A m c) ∧ Rd (Value.int .u64) w' w'.heap.size A m c ((D.filter (fun a => a.2.flag)).map Prod.fst) ∧ Below w.heap.size w w' := by
  refine (flagged_any w x leak D M T h hl).mono ?_
  rintro e w' ⟨A, c, ks, rfl, hp, hr, hd, hb⟩
  have e := rise_same hs _ hp hr
  have e2 : ks.length = m := by rw [e, List.length_map, hm]
  rw [e] at hd
  rw [e2]
  rw [List.length_map, hm] at hd
  exact ⟨A, c, rfl, hd, hb⟩
end
theorem same_any (A A' : Option Addr) (n c c' : Nat) (xs : List Int) (B B' : Nat) (w : World) (h : Rd (Value.int .u64) w B A n c xs) (h' : Rd (Value.int .u64) w B' A' n c' xs) :
    Calls Tryz.prog 16 #[.slice A n c, .slice A' n c'] w fun e w' => e = .returned (.bool true) ∧ Below w.heap.size w w' :=
  (Sl.equal_any A A' n c n c' xs xs B B' w h h').mono fun e w' ⟨h1, q, h2⟩ => ⟨by rw [h1, decide_eq_true rfl], h2 ▸ below_drewN (Below.refl _ _) q⟩
set_option maxRecDepth 100000 in
set_option maxHeartbeats 4000000 in
theorem told_any (w : World) (x : At) (leak : Int) (A A2 A3 : Option Addr) (n c n2 c2 n3 c3 : Nat) (D : List (Int × Ls)) (M : List Int) (T : List (Int × Int)) (id th : Int) (h : Bk w x leak D (mk M) T) (hd : Dk w ⟨A, n, c, A2, n2, c2, A3, n3, c3⟩ D M T) (hs : Sd D) (hid : U64 id) (hl : D.length ≤ 200) (hM : M.length ≤ 1000) (hT : T.length ≤ 1000) :
    Calls Tryz.prog 18 #[ptr x.p, .agg #[.int .u64 leak, .slice A n c, .slice A2 n2 c2, .slice A3 n3 c3], .int .u64 id, .int .i64 th] w fun e w' => e = .returned (.bool true) ∧ Below w.heap.size w w' := by
  obtain ⟨⟨t, s, f⟩, hq⟩ : ∃ q, (fnd D id).getD Z0 = q := ⟨_, rfl⟩
  obtain ⟨bb, hbb⟩ : ∃ b, (fnd D id).isSome = b := ⟨_, rfl⟩
  have HK := Lib.hid h
  have HD := Lib.hid hd
  have HSD := Lib.hid hs
  have HQ := Lib.hid hq
  have HBB := Lib.hid hbb
  have HDL : Hid (D.length = n) := Lib.hid hd.l.len
  have HML : Hid (M.length = n2) := Lib.hid hd.m.len
  have HTL : Hid (T.length = n3) := Lib.hid hd.t.len
  have hn : n ≤ 200 := by have := HDL.out; omega
  have hn2 : n2 ≤ 1000 := by have := HML.out; omega
  have hn3 : n3 ≤ 1000 := by have := HTL.out; omega
  have HL200 := Lib.hid hl
  have B0 : Hid (Below w.heap.size w (w.alloc (.cells #[.int .u64 leak, .slice A n c, .slice A2 n2 c2, .slice A3 n3 c3] 31))) := Lib.hid ((Below.refl _ _).alloc (Nat.le_refl _) _)
  have V0 := Lib.hid (V4.new w 31 (.int .u64 leak) (.slice A n c) (.slice A2 n2 c2) (.slice A3 n3 c3))
  have hs0 : (w.alloc (.cells #[.int .u64 leak, .slice A n c, .slice A2 n2 c2, .slice A3 n3 c3] 31)).heap.size = w.heap.size + 1 := by simp
  clear h hd hs hq hbb hl hM hT
  go_enter Tryz.func18, Tryz.ntmps18
  go_upto_region 1 with (fail)
  generalize (w.alloc (.cells #[.int .u64 leak, .slice A n c, .slice A2 n2 c2, .slice A3 n3 c3] 31)) = W0 at *
  go_wp2_with fail
  refine (holder_any _ x leak D (mk M) T id (HK.out.later B0.out) hid t s f bb HQ.out HBB.out).mono ?_
  rintro e w1 ⟨rfl, hb1⟩
  have B1 := Lib.hid (B0.out.trans (hb1.mono B0.out.size))
  have V1 := Lib.hid (V0.out.below hb1 (by omega))
  have hs1 : w.heap.size + 1 ≤ w1.heap.size := by have := hb1.size; omega
  clear hb1 B0 V0 hs0
  go_wp2_with fail
  refine (since_any _ x leak D (mk M) T id (HK.out.later B1.out) hid t s f bb HQ.out HBB.out).mono ?_
  rintro e w2 ⟨rfl, hb2⟩
  have B2 := Lib.hid (B1.out.trans (hb2.mono B1.out.size))
  have V2 := Lib.hid (V1.out.below hb2 (by omega))
  have hs2 : w.heap.size + 1 ≤ w2.heap.size := by have := hb2.size; omega
  clear hb2 B1 V1 hs1
  go_upto_region 4 with (fail)
  have B3 : Hid (Below w.heap.size w (w2.alloc (.cells #[.int .u64 0, .int .i64 0, .int .u64 0, .bool false] 69))) := Lib.hid (B2.out.alloc (by omega) _)
  have X3 := Lib.hid (V4.new w2 69 (.int .u64 0) (.int .i64 0) (.int .u64 0) (.bool false))
  have V3 : Hid (V4 (w2.alloc (.cells #[.int .u64 0, .int .i64 0, .int .u64 0, .bool false] 69)) w.heap.size (.int .u64 leak) (.slice A n c) (.slice A2 n2 c2) (.slice A3 n3 c3)) := Lib.hid (V2.out.below ((Below.refl w2.heap.size w2).alloc (Nat.le_refl _) _) (by omega))
  have hs3 : (w2.alloc (.cells #[.int .u64 0, .int .i64 0, .int .u64 0, .bool false] 69)).heap.size = w2.heap.size + 1 := by simp
  clear B2 V2
  generalize (w2.alloc (.cells #[.int .u64 0, .int .i64 0, .int .u64 0, .bool false] 69)) = W3 at *
  generalize w2.heap.size = r at *
  obtain ⟨⟨f0, f1, f2, f3⟩, g0, g1, g2, g3⟩ := V3.out
  go_wp2_with fail
  refine (rfind_any leak A A2 A3 n c n2 c2 n3 c3 w.heap.size D W3 id (HD.out.l.below B3.out) (by omega) (by omega)).mono ?_
  rintro e w4 ⟨rfl, hb4⟩
  have B4 := Lib.hid (B3.out.trans (hb4.mono B3.out.size))
  have V4' := Lib.hid (V3.out.below hb4 (by omega))
  have X4 := Lib.hid (X3.out.below hb4 (by omega))
  have hs4 : r + 1 ≤ w4.heap.size := by have := hb4.size; omega
  obtain ⟨i, hi⟩ : ∃ i, fx D id = i := ⟨_, rfl⟩
  have HI := Lib.hid hi
  rw [hi]
  have hi0 : decide ((0 : Int) ≤ i) = bb := by
    have hb9 := HBB.out
    rcases fx_cases D id with ⟨e1, e2⟩ | ⟨k, y, _, _, e2, e1⟩
    · rw [e1] at hb9; rw [← hi, e2, ← hb9]; rfl
    · rw [e1] at hb9; rw [← hi, e2, ← hb9]; exact decide_eq_true (by omega)
  have HI0 := Lib.hid hi0
  clear hb4 B3 V3 X3 f0 f1 f2 f3 g0 g1 g2 g3 hi hs3
  go_upto_if 31 with (fail)
  go_cut [] from 32 to 36 (fun wx => ∃ xi : Int, Hid (Below w.heap.size w wx) ∧ Hid (V4 wx w.heap.size (.int .u64 leak) (.slice A n c) (.slice A2 n2 c2) (.slice A3 n3 c3)) ∧ Hid (V4 wx r (.int .u64 xi) (.int .i64 t) (.int .u64 s) (.bool f)) ∧ r + 1 ≤ wx.heap.size)
  case first =>
    cases bb with
    | false =>
      have hz : t = 0 ∧ s = 0 ∧ f = false := by
        have h1 := HQ.out
        have h2 : fnd D id = none := by
          cases hc : fnd D id with
          | none => rfl
          | some y => have h3 := HBB.out; rw [hc] at h3; cases h3
        rw [h2] at h1
        have h1 : Z0 = (⟨t, s, f⟩ : Ls) := h1
        injection h1 with e1 e2 e3
        exact ⟨e1.symm, e2.symm, e3.symm⟩
      obtain ⟨rfl, rfl, rfl⟩ := hz
      go_wp2_with fail
      go_meet
      case rel => exact ⟨0, B4, V4', X4, hs4⟩
    | true =>
      obtain ⟨k, hk, rfl⟩ : ∃ k : Nat, D[k]? = some (id, ⟨t, s, f⟩) ∧ i = (k : Int) := by
        rcases fx_cases D id with ⟨e1, e2⟩ | ⟨k, y, h1, _, e2, e1⟩
        · have h3 := HBB.out; rw [e1] at h3; cases h3
        · have h4 := HQ.out; rw [e1] at h4
          have h4 : y = ⟨t, s, f⟩ := h4
          exact ⟨k, by rw [← h4]; exact h1, by rw [← e2]; exact HI.out.symm⟩
      have hkn : k < n := by have := (List.getElem?_eq_some_iff.1 hk).1; have := HDL.out; omega
      have hnc : n ≤ c := HD.out.l.cap
      obtain ⟨b, o, x', t', s', f', rfl, hb, ha, c0, c1, c2', c3'⟩ := four_at HD.out.l hkn
      have e9 := ha.symm.trans hk
      injection e9 with e9
      injection e9 with e9 e10
      injection e10 with e10 e11 e12
      subst e9 e10 e11 e12
      have d0 := (B4.out.cell (p := ⟨b, o + k * 4, none⟩) hb).trans c0
      have d1 := (B4.out.cell (p := ⟨b, o + k * 4 + 1, none⟩) hb).trans c1
      have d2 := (B4.out.cell (p := ⟨b, o + k * 4 + 2, none⟩) hb).trans c2'
      have d3 := (B4.out.cell (p := ⟨b, o + k * 4 + 3, none⟩) hb).trans c3'
      clear c0 c1 c2' c3' ha hk
      obtain ⟨⟨f0, f1, f2, f3⟩, g0, g1, g2, g3⟩ := V4'.out
      obtain ⟨⟨x0, x1, x2, x3⟩, y0, y1, y2, y3⟩ := X4.out
      have q0 : (0 : Int) ≤ (k : Int) := by omega
      have q1 : (k : Int) < (n : Int) := by omega
      have hrw : w.heap.size < r := by omega
      go_wp2_with fail
      go_meet
      case rel =>
        refine ⟨x', ?_, ?_, ?_, by simp; omega⟩
        · refine Lib.hid ?_
          repeat' (first | exact B4.out | apply Below.setCell | apply below_drewN | apply Below.drew | apply Below.alloc)
          all_goals (first | (simp; done) | (simp; omega))
        · exact Lib.hid ⟨⟨by go_simp, by go_simp, by go_simp, by go_simp⟩, by go_simp, by go_simp, by go_simp, by go_simp⟩
        · exact Lib.hid ⟨⟨by go_simp, by go_simp, by go_simp, by go_simp⟩, by go_simp, by go_simp, by go_simp, by go_simp⟩
  case rest =>
    obtain ⟨xi, HB, HV, HX, hsz⟩ := hcut
    clear B4 V4' X4 hs4
    generalize wc = W at *
    have HKW := Lib.hid (HK.out.later HB.out)
    have HDW := Lib.hid (HD.out.later HB.out)
    have HRW : Hid (r < W.heap.size) := Lib.hid (by omega)
    have HGW : Hid (w.heap.size < W.heap.size) := Lib.hid (by omega)
    obtain ⟨m1, hm1⟩ : ∃ m, (D.filter (fun a => a.2.thread == th)).length = m := ⟨_, rfl⟩
    obtain ⟨m2, hm2⟩ : ∃ m, (D.filter (fun a => a.2.flag)).length = m := ⟨_, rfl⟩
    obtain ⟨mb, hmb⟩ : ∃ b, decide (id ∈ M) = b := ⟨_, rfl⟩
    have HM1 := Lib.hid hm1
    have HM2 := Lib.hid hm2
    have HMB := Lib.hid hmb
    have HMF : Hid ((fnd (mk M) id).getD false = mb) := Lib.hid (by rw [mk_fnd, hmb])
    clear hm1 hm2 hmb hsz
    have HS : Hid (Below W.heap.size W W.drew) := Lib.hid (Below.refl _ _).drew
    go_wp2_with fail
    refine reg_start 63 (fun w' => Below W.heap.size W w') (by kernel_rfl) (by kernel_rfl) ?_
    intro hTT
    have HTT := Lib.hid hTT
    clear hTT
    refine reg_load 0 HTT.out rfl (by kernel_rfl) (by decide) (fun _ _ _ _ h => h) HS.out rfl ?_
    apply Exists.intro
    refine ⟨fun w' hw => by (go_simp; exact rfl), ?_⟩
    refine reg_load 1 HTT.out rfl (by kernel_rfl) (by decide) (fun _ _ _ _ h => h) HS.out rfl ?_
    apply Exists.intro
    refine ⟨fun w' hw => by (go_simp; exact rfl), ?_⟩
    refine reg_load 2 HTT.out rfl (by kernel_rfl) (by decide) (fun _ _ _ _ h => h) HS.out rfl ?_
    apply Exists.intro
    refine ⟨fun w' hw => by (have k0 := (hw.cell (p := ⟨r, 1, none⟩) HRW.out).trans HX.out.1.2.1; go_simp; exact rfl), ?_⟩
    refine reg_load 3 HTT.out rfl (by kernel_rfl) (by decide) (fun _ _ _ _ h => h) HS.out rfl ?_
    apply Exists.intro
    refine ⟨fun w' hw => by (go_simp; exact rfl), ?_⟩
    refine reg_load 4 HTT.out rfl (by kernel_rfl) (by decide) (fun _ _ _ _ h => h) HS.out rfl ?_
    apply Exists.intro
    refine ⟨fun w' hw => by (go_simp; exact rfl), ?_⟩
    refine reg_load 5 HTT.out rfl (by kernel_rfl) (by decide) (fun _ _ _ _ h => h) HS.out (wanted_yes (g := 4) (p := true) (d := 41) rfl (by kernel_rfl) (at_eq (sz_put (sz_put (sz_put (sz_put ((Nat.lt_of_lt_of_eq (m := 99) (by decide) rfl)))))))) ?_
    apply Exists.intro
    refine ⟨fun w' hw => by (go_simp; exact rfl), ?_⟩
    refine reg_load 6 HTT.out rfl (by kernel_rfl) (by decide) (fun _ _ _ _ h => h) HS.out (wanted_yes (g := 4) (p := true) (d := 41) rfl (by kernel_rfl) (at_ne (by decide) (at_eq (sz_put (sz_put (sz_put (sz_put ((Nat.lt_of_lt_of_eq (m := 99) (by decide) rfl))))))))) ?_
    apply Exists.intro
    refine ⟨fun w' hw => by (go_simp; exact rfl), ?_⟩
    refine reg_load 7 HTT.out rfl (by kernel_rfl) (by decide) (fun _ _ _ _ h => h) HS.out (wanted_yes (g := 4) (p := true) (d := 41) rfl (by kernel_rfl) (at_ne (by decide) (at_ne (by decide) (at_eq (sz_put (sz_put (sz_put (sz_put ((Nat.lt_of_lt_of_eq (m := 99) (by decide) rfl)))))))))) ?_
    apply Exists.intro
    refine ⟨fun w' hw => by (have k0 := (hw.cell (p := ⟨r, 2, none⟩) HRW.out).trans HX.out.1.2.2.1; go_simp; exact rfl), ?_⟩
    refine reg_load 8 HTT.out rfl (by kernel_rfl) (by decide) (fun _ _ _ _ h => h) HS.out (wanted_yes (g := 4) (p := true) (d := 41) rfl (by kernel_rfl) (at_ne (by decide) (at_ne (by decide) (at_ne (by decide) (at_eq (sz_put (sz_put (sz_put (sz_put ((Nat.lt_of_lt_of_eq (m := 99) (by decide) rfl))))))))))) ?_
    apply Exists.intro
    refine ⟨fun w' hw => by (go_simp; exact rfl), ?_⟩
    refine reg_load 9 HTT.out rfl (by kernel_rfl) (by decide) (fun _ _ _ _ h => h) HS.out rfl ?_
    apply Exists.intro
    refine ⟨fun w' hw => by (go_simp; exact rfl), ?_⟩
    refine reg_load 10 HTT.out rfl (by kernel_rfl) (by decide) (fun _ _ _ _ h => h) HS.out rfl ?_
    apply Exists.intro
    refine ⟨fun w' hw => by (go_simp; exact rfl), ?_⟩
    refine reg_load 11 HTT.out rfl (by kernel_rfl) (by decide) (fun _ _ _ _ h => h) HS.out (wanted_yes (g := 10) (p := true) (d := 47) rfl (by kernel_rfl) (at_eq (sz_put (sz_put (sz_put (sz_put (sz_put (sz_put (sz_put (sz_put (sz_put (sz_put ((Nat.lt_of_lt_of_eq (m := 99) (by decide) rfl)))))))))))))) ?_
    apply Exists.intro
    refine ⟨fun w' hw => by (go_simp; exact rfl), ?_⟩
    refine reg_load 12 HTT.out rfl (by kernel_rfl) (by decide) (fun _ _ _ _ h => h) HS.out (wanted_yes (g := 10) (p := true) (d := 47) rfl (by kernel_rfl) (at_ne (by decide) (at_eq (sz_put (sz_put (sz_put (sz_put (sz_put (sz_put (sz_put (sz_put (sz_put (sz_put ((Nat.lt_of_lt_of_eq (m := 99) (by decide) rfl))))))))))))))) ?_
    apply Exists.intro
    refine ⟨fun w' hw => by (go_simp; exact rfl), ?_⟩
    refine reg_load 13 HTT.out rfl (by kernel_rfl) (by decide) (fun _ _ _ _ h => h) HS.out (wanted_yes (g := 10) (p := true) (d := 47) rfl (by kernel_rfl) (at_ne (by decide) (at_ne (by decide) (at_eq (sz_put (sz_put (sz_put (sz_put (sz_put (sz_put (sz_put (sz_put (sz_put (sz_put ((Nat.lt_of_lt_of_eq (m := 99) (by decide) rfl)))))))))))))))) ?_
    apply Exists.intro
    refine ⟨fun w' hw => by (have q9 := HI0.out; go_simp; exact rfl), ?_⟩
    refine reg_load 14 HTT.out rfl (by kernel_rfl) (by decide) (fun _ _ _ _ h => h) HS.out (wanted_yes (g := 10) (p := true) (d := 47) rfl (by kernel_rfl) (at_ne (by decide) (at_ne (by decide) (at_ne (by decide) (at_eq (sz_put (sz_put (sz_put (sz_put (sz_put (sz_put (sz_put (sz_put (sz_put (sz_put ((Nat.lt_of_lt_of_eq (m := 99) (by decide) rfl))))))))))))))))) ?_
    apply Exists.intro
    refine ⟨fun w' hw => by (go_simp; exact rfl), ?_⟩
    refine reg_load 15 HTT.out rfl (by kernel_rfl) (by decide) (fun _ _ _ _ h => h) HS.out rfl ?_
    apply Exists.intro
    refine ⟨fun w' hw => by (go_simp; exact rfl), ?_⟩
    refine reg_load 16 HTT.out rfl (by kernel_rfl) (by decide) (fun _ _ _ _ h => h) HS.out rfl ?_
    apply Exists.intro
    refine ⟨fun w' hw => by (go_simp; exact rfl), ?_⟩
    refine reg_load 17 HTT.out rfl (by kernel_rfl) (by decide) (fun _ _ _ _ h => h) HS.out (wanted_yes (g := 16) (p := true) (d := 53) rfl (by kernel_rfl) (at_eq (sz_put (sz_put (sz_put (sz_put (sz_put (sz_put (sz_put (sz_put (sz_put (sz_put (sz_put (sz_put (sz_put (sz_put (sz_put (sz_put ((Nat.lt_of_lt_of_eq (m := 99) (by decide) rfl)))))))))))))))))))) ?_
    apply Exists.intro
    refine ⟨fun w' hw => by (go_simp; exact rfl), ?_⟩
    refine reg_load 18 HTT.out rfl (by kernel_rfl) (by decide) (fun _ _ _ _ h => h) HS.out (wanted_yes (g := 16) (p := true) (d := 53) rfl (by kernel_rfl) (at_ne (by decide) (at_eq (sz_put (sz_put (sz_put (sz_put (sz_put (sz_put (sz_put (sz_put (sz_put (sz_put (sz_put (sz_put (sz_put (sz_put (sz_put (sz_put ((Nat.lt_of_lt_of_eq (m := 99) (by decide) rfl))))))))))))))))))))) ?_
    apply Exists.intro
    refine ⟨fun w' hw => by (go_simp; exact rfl), ?_⟩
    refine reg_load 19 HTT.out rfl (by kernel_rfl) (by decide) (fun _ _ _ _ h => h) HS.out (wanted_yes (g := 16) (p := true) (d := 53) rfl (by kernel_rfl) (at_ne (by decide) (at_ne (by decide) (at_eq (sz_put (sz_put (sz_put (sz_put (sz_put (sz_put (sz_put (sz_put (sz_put (sz_put (sz_put (sz_put (sz_put (sz_put (sz_put (sz_put ((Nat.lt_of_lt_of_eq (m := 99) (by decide) rfl)))))))))))))))))))))) ?_
    apply Exists.intro
    refine ⟨fun w' hw => by (go_simp; exact rfl), ?_⟩
    refine reg_load 20 HTT.out rfl (by kernel_rfl) (by decide) (fun _ _ _ _ h => h) HS.out rfl ?_
    apply Exists.intro
    refine ⟨fun w' hw => by (go_simp; exact rfl), ?_⟩
    refine reg_load 21 HTT.out rfl (by kernel_rfl) (by decide) (fun _ _ _ _ h => h) HS.out rfl ?_
    apply Exists.intro
    refine ⟨fun w' hw => by (go_simp; exact rfl), ?_⟩
    refine reg_load 22 HTT.out rfl (by kernel_rfl) (by decide) (fun _ _ _ _ h => h) HS.out (wanted_yes (g := 21) (p := true) (d := 58) rfl (by kernel_rfl) (at_eq (sz_put (sz_put (sz_put (sz_put (sz_put (sz_put (sz_put (sz_put (sz_put (sz_put (sz_put (sz_put (sz_put (sz_put (sz_put (sz_put (sz_put (sz_put (sz_put (sz_put (sz_put ((Nat.lt_of_lt_of_eq (m := 99) (by decide) rfl))))))))))))))))))))))))) ?_
    apply Exists.intro
    refine ⟨fun w' hw => by (go_simp; exact rfl), ?_⟩
    refine reg_load 23 HTT.out rfl (by kernel_rfl) (by decide) (fun _ _ _ _ h => h) HS.out (wanted_yes (g := 21) (p := true) (d := 58) rfl (by kernel_rfl) (at_ne (by decide) (at_eq (sz_put (sz_put (sz_put (sz_put (sz_put (sz_put (sz_put (sz_put (sz_put (sz_put (sz_put (sz_put (sz_put (sz_put (sz_put (sz_put (sz_put (sz_put (sz_put (sz_put (sz_put ((Nat.lt_of_lt_of_eq (m := 99) (by decide) rfl)))))))))))))))))))))))))) ?_
    apply Exists.intro
    refine ⟨fun w' hw => by (go_simp; exact rfl), ?_⟩
    refine reg_load 25 HTT.out rfl (by kernel_rfl) (by decide) (fun _ _ _ _ h => h) HS.out (wanted_yes (g := 21) (p := true) (d := 58) rfl (by kernel_rfl) (at_ne (by decide) (at_ne (by decide) (at_eq (sz_put (sz_put (sz_put (sz_put (sz_put (sz_put (sz_put (sz_put (sz_put (sz_put (sz_put (sz_put (sz_put (sz_put (sz_put (sz_put (sz_put (sz_put (sz_put (sz_put (sz_put ((Nat.lt_of_lt_of_eq (m := 99) (by decide) rfl))))))))))))))))))))))))))) ?_
    apply Exists.intro
    refine ⟨fun w' hw => by (have k0 := (hw.cell (p := ⟨w.heap.size, 0, none⟩) HGW.out).trans HV.out.1.1; have k1 := (hw.cell (p := ⟨w.heap.size, 1, none⟩) HGW.out).trans HV.out.1.2.1; have k2 := (hw.cell (p := ⟨w.heap.size, 2, none⟩) HGW.out).trans HV.out.1.2.2.1; have k3 := (hw.cell (p := ⟨w.heap.size, 3, none⟩) HGW.out).trans HV.out.1.2.2.2; go_simp; exact rfl), ?_⟩
    refine reg_load 26 HTT.out rfl (by kernel_rfl) (by decide) (fun _ _ _ _ h => h) HS.out (wanted_yes (g := 21) (p := true) (d := 58) rfl (by kernel_rfl) (at_ne (by decide) (at_ne (by decide) (at_ne (by decide) (at_eq (sz_put (sz_put (sz_put (sz_put (sz_put (sz_put (sz_put (sz_put (sz_put (sz_put (sz_put (sz_put (sz_put (sz_put (sz_put (sz_put (sz_put (sz_put (sz_put (sz_put (sz_put ((Nat.lt_of_lt_of_eq (m := 99) (by decide) rfl)))))))))))))))))))))))))))) ?_
    apply Exists.intro
    refine ⟨fun w' hw => by (go_simp; exact rfl), ?_⟩
    refine reg_only 24 rfl (by kernel_rfl) (wanted_yes (g := 21) (p := true) (d := 58) rfl (by kernel_rfl) (at_ne (by decide) (at_ne (by decide) (at_ne (by decide) (at_ne (by decide) (at_eq (sz_put (sz_put (sz_put (sz_put (sz_put (sz_put (sz_put (sz_put (sz_put (sz_put (sz_put (sz_put (sz_put (sz_put (sz_put (sz_put (sz_put (sz_put (sz_put (sz_put (sz_put ((Nat.lt_of_lt_of_eq (m := 99) (by decide) rfl))))))))))))))))))))))))))))) ?_
    unfold Oper.wp
    go_simp
    refine (heldU _ x leak D (mk M) T th m1 (HKW.out.later HS.out) HSD.out HL200.out HM1.out).mono ?_
    rintro e w10 ⟨A10, c10, rfl, hr10, hb10⟩
    have HS' := Lib.hid (HS.out.trans (hb10.mono HS.out.size))
    have R10 := Lib.hid hr10
    clear hb10 hr10 HS
    have HS := HS'
    clear HS'
    refine ⟨HS.out, ?_⟩
    refine reg_only 27 rfl (by kernel_rfl) (wanted_yes (g := 21) (p := true) (d := 58) rfl (by kernel_rfl) (rfl)) ?_
    unfold Oper.wp
    go_simp
    refine (rheld_any leak A A2 A3 n c n2 c2 n3 c3 _ D _ th (HDW.out.later HS.out).l (Nat.le_refl _) (by omega)).mono ?_
    rintro e w11 ⟨A11, c11, rfl, ho11, hb11⟩
    rw [HM1.out] at ho11 ⊢
    have HS' := Lib.hid (HS.out.trans (hb11.mono HS.out.size))
    have R11 := Lib.hid (R10.out.later hb11)
    have R12 := Lib.hid (Rd.own_rd (xs := (D.filter (fun a => a.2.thread == th)).map Prod.fst) ho11)
    clear hb11 ho11 R10 HS
    have HS := HS'
    clear HS'
    refine ⟨HS.out, ?_⟩
    refine reg_only 28 rfl (by kernel_rfl) (wanted_yes (g := 21) (p := true) (d := 58) rfl (by kernel_rfl) (rfl)) ?_
    unfold Oper.wp
    go_simp
    refine (same_any A10 A11 m1 c10 c11 _ _ _ _ R11.out R12.out).mono ?_
    rintro e w12 ⟨rfl, hb12⟩
    have HS' := Lib.hid (HS.out.trans (hb12.mono HS.out.size))
    clear hb12 R11 R12 HS
    have HS := HS'
    clear HS'
    refine ⟨HS.out, ?_⟩
    refine reg_load 29 HTT.out rfl (by kernel_rfl) (by decide) (fun _ _ _ _ h => h) HS.out rfl ?_
    apply Exists.intro
    refine ⟨fun w' hw => by (go_simp; exact rfl), ?_⟩
    refine reg_load 30 HTT.out rfl (by kernel_rfl) (by decide) (fun _ _ _ _ h => h) HS.out rfl ?_
    apply Exists.intro
    refine ⟨fun w' hw => by (go_simp; exact rfl), ?_⟩
    refine reg_load 31 HTT.out rfl (by kernel_rfl) (by decide) (fun _ _ _ _ h => h) HS.out (wanted_yes (g := 30) (p := true) (d := 67) rfl (by kernel_rfl) (at_eq (sz_put ((Nat.lt_of_lt_of_eq (m := 99) (by decide) rfl))))) ?_
    apply Exists.intro
    refine ⟨fun w' hw => by (go_simp; exact rfl), ?_⟩
    refine reg_load 32 HTT.out rfl (by kernel_rfl) (by decide) (fun _ _ _ _ h => h) HS.out (wanted_yes (g := 30) (p := true) (d := 67) rfl (by kernel_rfl) (at_ne (by decide) (at_eq (sz_put ((Nat.lt_of_lt_of_eq (m := 99) (by decide) rfl)))))) ?_
    apply Exists.intro
    refine ⟨fun w' hw => by (go_simp; exact rfl), ?_⟩
    refine reg_load 34 HTT.out rfl (by kernel_rfl) (by decide) (fun _ _ _ _ h => h) HS.out (wanted_yes (g := 30) (p := true) (d := 67) rfl (by kernel_rfl) (at_ne (by decide) (at_ne (by decide) (at_eq (sz_put ((Nat.lt_of_lt_of_eq (m := 99) (by decide) rfl))))))) ?_
    apply Exists.intro
    refine ⟨fun w' hw => by (have k0 := (hw.cell (p := ⟨w.heap.size, 0, none⟩) HGW.out).trans HV.out.1.1; have k1 := (hw.cell (p := ⟨w.heap.size, 1, none⟩) HGW.out).trans HV.out.1.2.1; have k2 := (hw.cell (p := ⟨w.heap.size, 2, none⟩) HGW.out).trans HV.out.1.2.2.1; have k3 := (hw.cell (p := ⟨w.heap.size, 3, none⟩) HGW.out).trans HV.out.1.2.2.2; go_simp; exact rfl), ?_⟩
    refine reg_load 35 HTT.out rfl (by kernel_rfl) (by decide) (fun _ _ _ _ h => h) HS.out (wanted_yes (g := 30) (p := true) (d := 67) rfl (by kernel_rfl) (at_ne (by decide) (at_ne (by decide) (at_ne (by decide) (at_eq (sz_put ((Nat.lt_of_lt_of_eq (m := 99) (by decide) rfl)))))))) ?_
    apply Exists.intro
    refine ⟨fun w' hw => by (go_simp; exact rfl), ?_⟩
    refine reg_only 33 rfl (by kernel_rfl) (wanted_yes (g := 30) (p := true) (d := 67) rfl (by kernel_rfl) (at_ne (by decide) (at_ne (by decide) (at_ne (by decide) (at_ne (by decide) (at_eq (sz_put ((Nat.lt_of_lt_of_eq (m := 99) (by decide) rfl))))))))) ?_
    unfold Oper.wp
    go_simp
    refine (marked_any _ x leak D (mk M) T id (HKW.out.later HS.out) hid mb HMF.out).mono ?_
    rintro e w13 ⟨rfl, rfl⟩
    refine ⟨HS.out, ?_⟩
    refine reg_only 36 rfl (by kernel_rfl) (wanted_yes (g := 30) (p := true) (d := 67) rfl (by kernel_rfl) (rfl)) ?_
    unfold Oper.wp
    go_simp
    refine (rmarked_any leak A A2 A3 n c n2 c2 n3 c3 _ _ id M (HDW.out.later HS.out).m (Nat.le_refl _) (by omega)).mono ?_
    rintro e w14 ⟨rfl, hb14⟩
    rw [HMB.out]
    have HS' := Lib.hid (HS.out.trans (hb14.mono HS.out.size))
    clear hb14 HS
    have HS := HS'
    clear HS'
    refine ⟨HS.out, ?_⟩
    refine reg_load 37 HTT.out rfl (by kernel_rfl) (by decide) (fun _ _ _ _ h => h) HS.out (wanted_yes (g := 30) (p := true) (d := 67) rfl (by kernel_rfl) (rfl)) ?_
    apply Exists.intro
    refine ⟨fun w' hw => by (go_simp; exact rfl), ?_⟩
    refine reg_load 38 HTT.out rfl (by kernel_rfl) (by decide) (fun _ _ _ _ h => h) HS.out rfl ?_
    apply Exists.intro
    refine ⟨fun w' hw => by (go_simp; exact rfl), ?_⟩
    refine reg_load 39 HTT.out rfl (by kernel_rfl) (by decide) (fun _ _ _ _ h => h) HS.out rfl ?_
    apply Exists.intro
    refine ⟨fun w' hw => by (go_simp; exact rfl), ?_⟩
    refine reg_load 40 HTT.out rfl (by kernel_rfl) (by decide) (fun _ _ _ _ h => h) HS.out (wanted_yes (g := 39) (p := true) (d := 76) rfl (by kernel_rfl) (at_eq (sz_put (sz_put ((Nat.lt_of_lt_of_eq (m := 99) (by decide) rfl)))))) ?_
    apply Exists.intro
    refine ⟨fun w' hw => by (go_simp; exact rfl), ?_⟩
    refine reg_load 42 HTT.out rfl (by kernel_rfl) (by decide) (fun _ _ _ _ h => h) HS.out (wanted_yes (g := 39) (p := true) (d := 76) rfl (by kernel_rfl) (at_ne (by decide) (at_eq (sz_put (sz_put ((Nat.lt_of_lt_of_eq (m := 99) (by decide) rfl))))))) ?_
    apply Exists.intro
    refine ⟨fun w' hw => by (have k0 := (hw.cell (p := ⟨w.heap.size, 0, none⟩) HGW.out).trans HV.out.1.1; have k1 := (hw.cell (p := ⟨w.heap.size, 1, none⟩) HGW.out).trans HV.out.1.2.1; have k2 := (hw.cell (p := ⟨w.heap.size, 2, none⟩) HGW.out).trans HV.out.1.2.2.1; have k3 := (hw.cell (p := ⟨w.heap.size, 3, none⟩) HGW.out).trans HV.out.1.2.2.2; go_simp; exact rfl), ?_⟩
    refine reg_only 41 rfl (by kernel_rfl) (wanted_yes (g := 39) (p := true) (d := 76) rfl (by kernel_rfl) (at_ne (by decide) (at_ne (by decide) (at_eq (sz_put (sz_put ((Nat.lt_of_lt_of_eq (m := 99) (by decide) rfl)))))))) ?_
    unfold Oper.wp
    go_simp
    refine (flaggedU _ x leak D (mk M) T m2 (HKW.out.later HS.out) HSD.out HL200.out HM2.out).mono ?_
    rintro e w15 ⟨A15, c15, rfl, hr15, hb15⟩
    have HS' := Lib.hid (HS.out.trans (hb15.mono HS.out.size))
    have R15 := Lib.hid hr15
    clear hb15 hr15 HS
    have HS := HS'
    clear HS'
    refine ⟨HS.out, ?_⟩
    refine reg_only 43 rfl (by kernel_rfl) (wanted_yes (g := 39) (p := true) (d := 76) rfl (by kernel_rfl) (rfl)) ?_
    unfold Oper.wp
    go_simp
    refine (rflagged_any leak A A2 A3 n c n2 c2 n3 c3 _ D _ (HDW.out.later HS.out).l (Nat.le_refl _) (by omega)).mono ?_
    rintro e w16 ⟨A16, c16, rfl, ho16, hb16⟩
    rw [HM2.out] at ho16 ⊢
    have HS' := Lib.hid (HS.out.trans (hb16.mono HS.out.size))
    have R16 := Lib.hid (R15.out.later hb16)
    have R17 := Lib.hid (Rd.own_rd (xs := (D.filter (fun a => a.2.flag)).map Prod.fst) ho16)
    clear hb16 ho16 R15 HS
    have HS := HS'
    clear HS'
    refine ⟨HS.out, ?_⟩
    refine reg_only 44 rfl (by kernel_rfl) (wanted_yes (g := 39) (p := true) (d := 76) rfl (by kernel_rfl) (rfl)) ?_
    unfold Oper.wp
    go_simp
    refine (same_any A15 A16 m2 c15 c16 _ _ _ _ R16.out R17.out).mono ?_
    rintro e w17 ⟨rfl, hb17⟩
    have HS' := Lib.hid (HS.out.trans (hb17.mono HS.out.size))
    clear hb17 R16 R17 HS
    have HS := HS'
    clear HS'
    refine ⟨HS.out, ?_⟩
    refine reg_load 45 HTT.out rfl (by kernel_rfl) (by decide) (fun _ _ _ _ h => h) HS.out rfl ?_
    apply Exists.intro
    refine ⟨fun w' hw => by (go_simp; exact rfl), ?_⟩
    refine reg_load 46 HTT.out rfl (by kernel_rfl) (by decide) (fun _ _ _ _ h => h) HS.out rfl ?_
    apply Exists.intro
    refine ⟨fun w' hw => by (go_simp; exact rfl), ?_⟩
    refine reg_load 47 HTT.out rfl (by kernel_rfl) (by decide) (fun _ _ _ _ h => h) HS.out (wanted_yes (g := 46) (p := true) (d := 83) rfl (by kernel_rfl) (at_eq (sz_put ((Nat.lt_of_lt_of_eq (m := 99) (by decide) rfl))))) ?_
    apply Exists.intro
    refine ⟨fun w' hw => by (go_simp; exact rfl), ?_⟩
    refine reg_load 49 HTT.out rfl (by kernel_rfl) (by decide) (fun _ _ _ _ h => h) HS.out (wanted_yes (g := 46) (p := true) (d := 83) rfl (by kernel_rfl) (at_ne (by decide) (at_eq (sz_put ((Nat.lt_of_lt_of_eq (m := 99) (by decide) rfl)))))) ?_
    apply Exists.intro
    refine ⟨fun w' hw => by (go_simp; exact rfl), ?_⟩
    refine reg_load 50 HTT.out rfl (by kernel_rfl) (by decide) (fun _ _ _ _ h => h) HS.out (wanted_yes (g := 46) (p := true) (d := 83) rfl (by kernel_rfl) (at_ne (by decide) (at_ne (by decide) (at_eq (sz_put ((Nat.lt_of_lt_of_eq (m := 99) (by decide) rfl))))))) ?_
    apply Exists.intro
    refine ⟨fun w' hw => by (have k3 := (hw.cell (p := ⟨w.heap.size, 3, none⟩) HGW.out).trans HV.out.1.2.2.2; go_simp; exact rfl), ?_⟩
    refine reg_load 51 HTT.out rfl (by kernel_rfl) (by decide) (fun _ _ _ _ h => h) HS.out (wanted_yes (g := 46) (p := true) (d := 83) rfl (by kernel_rfl) (at_ne (by decide) (at_ne (by decide) (at_ne (by decide) (at_eq (sz_put ((Nat.lt_of_lt_of_eq (m := 99) (by decide) rfl)))))))) ?_
    apply Exists.intro
    refine ⟨fun w' hw => by (go_simp; exact rfl), ?_⟩
    refine reg_only 48 rfl (by kernel_rfl) (wanted_yes (g := 46) (p := true) (d := 83) rfl (by kernel_rfl) (at_ne (by decide) (at_ne (by decide) (at_ne (by decide) (at_ne (by decide) (at_eq (sz_put ((Nat.lt_of_lt_of_eq (m := 99) (by decide) rfl))))))))) ?_
    unfold Oper.wp
    go_simp
    refine (timers_any _ x leak D (mk M) T (HKW.out.later HS.out)).mono ?_
    rintro e w18 ⟨rfl, rfl⟩
    rw [HTL.out]
    refine ⟨HS.out, ?_⟩
    refine reg_load 52 HTT.out rfl (by kernel_rfl) (by decide) (fun _ _ _ _ h => h) HS.out (wanted_yes (g := 46) (p := true) (d := 83) rfl (by kernel_rfl) (rfl)) ?_
    apply Exists.intro
    refine ⟨fun w' hw => by (go_simp; exact rfl), ?_⟩
    refine reg_load 53 HTT.out rfl (by kernel_rfl) (by decide) (fun _ _ _ _ h => h) HS.out rfl ?_
    apply Exists.intro
    refine ⟨fun w' hw => by (go_simp; exact rfl), ?_⟩
    refine reg_load 54 HTT.out rfl (by kernel_rfl) (by decide) (fun _ _ _ _ h => h) HS.out rfl ?_
    apply Exists.intro
    refine ⟨fun w' hw => by (go_simp; exact rfl), ?_⟩
    refine reg_load 55 HTT.out rfl (by kernel_rfl) (by decide) (fun _ _ _ _ h => h) HS.out (wanted_yes (g := 54) (p := true) (d := 91) rfl (by kernel_rfl) (at_eq (sz_put (sz_put ((Nat.lt_of_lt_of_eq (m := 99) (by decide) rfl)))))) ?_
    apply Exists.intro
    refine ⟨fun w' hw => by (go_simp; exact rfl), ?_⟩
    refine reg_load 57 HTT.out rfl (by kernel_rfl) (by decide) (fun _ _ _ _ h => h) HS.out (wanted_yes (g := 54) (p := true) (d := 91) rfl (by kernel_rfl) (at_ne (by decide) (at_eq (sz_put (sz_put ((Nat.lt_of_lt_of_eq (m := 99) (by decide) rfl))))))) ?_
    apply Exists.intro
    refine ⟨fun w' hw => by (go_simp; exact rfl), ?_⟩
    refine reg_load 58 HTT.out rfl (by kernel_rfl) (by decide) (fun _ _ _ _ h => h) HS.out (wanted_yes (g := 54) (p := true) (d := 91) rfl (by kernel_rfl) (at_ne (by decide) (at_ne (by decide) (at_eq (sz_put (sz_put ((Nat.lt_of_lt_of_eq (m := 99) (by decide) rfl)))))))) ?_
    apply Exists.intro
    refine ⟨fun w' hw => by (have k1 := (hw.cell (p := ⟨w.heap.size, 1, none⟩) HGW.out).trans HV.out.1.2.1; go_simp; exact rfl), ?_⟩
    refine reg_load 59 HTT.out rfl (by kernel_rfl) (by decide) (fun _ _ _ _ h => h) HS.out (wanted_yes (g := 54) (p := true) (d := 91) rfl (by kernel_rfl) (at_ne (by decide) (at_ne (by decide) (at_ne (by decide) (at_eq (sz_put (sz_put ((Nat.lt_of_lt_of_eq (m := 99) (by decide) rfl))))))))) ?_
    apply Exists.intro
    refine ⟨fun w' hw => by (go_simp; exact rfl), ?_⟩
    refine reg_only 56 rfl (by kernel_rfl) (wanted_yes (g := 54) (p := true) (d := 91) rfl (by kernel_rfl) (at_ne (by decide) (at_ne (by decide) (at_ne (by decide) (at_ne (by decide) (at_eq (sz_put (sz_put ((Nat.lt_of_lt_of_eq (m := 99) (by decide) rfl)))))))))) ?_
    unfold Oper.wp
    go_simp
    refine (len_any _ x leak D (mk M) T (HKW.out.later HS.out)).mono ?_
    rintro e w19 ⟨rfl, rfl⟩
    rw [HDL.out]
    refine ⟨HS.out, ?_⟩
    refine reg_load 60 HTT.out rfl (by kernel_rfl) (by decide) (fun _ _ _ _ h => h) HS.out (wanted_yes (g := 54) (p := true) (d := 91) rfl (by kernel_rfl) (rfl)) ?_
    apply Exists.intro
    refine ⟨fun w' hw => by (go_simp; exact rfl), ?_⟩
    refine reg_load 61 HTT.out rfl (by kernel_rfl) (by decide) (fun _ _ _ _ h => h) HS.out rfl ?_
    apply Exists.intro
    refine ⟨fun w' hw => by (go_simp; exact rfl), ?_⟩
    refine reg_load 62 HTT.out rfl (by kernel_rfl) (by decide) (fun _ _ _ _ h => h) HS.out rfl ?_
    apply Exists.intro
    refine ⟨fun w' hw => by (go_simp; exact rfl), ?_⟩
    refine reg_done (by kernel_rfl) ?_
    have HZ := Lib.hid (HB.out.trans (HS.out.mono HB.out.size))
    clear HS
    go_wp2_with fail
    go_ret
    exact ⟨rfl, HZ.out⟩
end Go.Proofs.YtbdcdofjcljliaaGreatDoor.Le
