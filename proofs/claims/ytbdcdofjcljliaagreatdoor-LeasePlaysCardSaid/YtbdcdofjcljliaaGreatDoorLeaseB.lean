/- Layer 14 (lease): contracts of New, Begin; of a nil book. -/
import Derived.Test.YtbdcdofjcljliaaGreatDoorLease
namespace Go.Proofs.YtbdcdofjcljliaaGreatDoor.Le
open Go.ChangeShapes Go.WideShapes Go.ChangeAt Go.RowKit Go.Maps Rw Hi Mt Ck
set_option linter.unusedVariables false

set_option maxRecDepth 100000 in
theorem new_any (w : World) (leak : Int) :
    Calls Tryz.prog 5 #[.int .u64 leak] w fun e w' => ∃ x, e = .returned (ptr x.p) ∧ Bk w' x leak [] [] [] ∧ Below w.heap.size w w' ∧ w.heap.size ≤ x.p ∧ w.heap.size ≤ x.a ∧ w.heap.size ≤ x.b ∧ w.heap.size ≤ x.q ∧ w.heap.size ≤ x.m := by
  have hmm := @run_makeMap Tryz.prog
  go_enter Tryz.func5, Tryz.ntmps5
  go_wp2_with fail
  refine (Wl.new_any _).mono ?_
  rintro e w1 ⟨rfl, hwh, hb1, hs1⟩
  have b0 : Below w.heap.size w ((w.alloc (.map #[] 0)).alloc (.map #[] 0)) := ((Below.refl _ w).alloc (Nat.le_refl _) _).alloc (by simp) _
  simp at hb1 hs1 hwh
  have m1 : ML w1 w.heap.size [] := ((Mo.made w Tryz.prog 22 eL).alloc _).below hb1 (by omega)
  have m2 : MB w1 (w.heap.size + 1) [] := by
    have h := Mo.made (w.alloc (.map #[] 0)) Tryz.prog 22 eB
    simp at h
    exact h.below hb1 (by omega)
  have HW := Lib.hid hwh
  have HM1 := Lib.hid m1
  have HM2 := Lib.hid m2
  have HB := Lib.hid (b0.trans (hb1.mono (by omega)))
  have HS1 := Lib.hid hs1
  clear hwh m1 m2 b0 hb1 hs1
  go_wp2_with fail
  go_ret
  have hs1 := HS1.out
  refine ⟨⟨w1.heap.size, w.heap.size, w.heap.size + 1, w.heap.size + 3, w.heap.size + 2⟩, rfl, ⟨by go_simp, by go_simp, by go_simp, by go_simp, HM1.out.alloc _, HM2.out.alloc _, HW.out.later ((Below.refl _ _).alloc (Nat.le_refl _) _), by simp, by simp, by simp⟩, HB.out.alloc (by omega) _, by simp; omega, by simp, by simp, by simp, by simp⟩

section
variable (w : World) (x : At) (leak : Int) (L : List (Int × Ls)) (M : List (Int × Bool)) (T : List (Int × Int)) (id th now : Int)
theorem begin_range (h : Bk w x leak L M T) (ht : th < 0 ∨ 8 ≤ th) :
    Calls Tryz.prog 7 #[ptr x.p, .int .u64 id, .int .i64 th, .int .u64 now] w fun e w' => e = .returned (.int .i64 2) ∧ w = w' := by
  by_cases h0 : th < 0
  · have q1 : decide (th < 0) = true := decide_eq_true h0
    clear h ht h0
    go_enter Tryz.func7, Tryz.ntmps7
    go_wp2_with fail
    go_ret
    exact ⟨rfl, rfl⟩
  · have q1 : decide (th < 0) = false := decide_eq_false h0
    have q2 : decide (8 ≤ th) = true := decide_eq_true (by omega)
    clear h ht h0
    go_enter Tryz.func7, Tryz.ntmps7
    go_wp2_with fail
    go_ret
    exact ⟨rfl, rfl⟩
set_option maxRecDepth 100000 in
theorem begin_had (h : Bk w x leak L M T) (hid : U64 id) (h0 : 0 ≤ th) (h8 : th < 8) (hb : (fnd L id).isSome = true) :
    Calls Tryz.prog 7 #[ptr x.p, .int .u64 id, .int .i64 th, .int .u64 now] w fun e w' => e = .returned (.int .i64 10) ∧ Below w.heap.size w w' := by
  have q1 : decide (th < 0) = false := decide_eq_false (by omega)
  have q2 : decide (8 ≤ th) = false := decide_eq_false (by omega)
  obtain ⟨⟨t, s, f⟩, hq⟩ : ∃ q, (fnd L id).getD Z0 = q := ⟨_, rfl⟩
  have c1 := h.c1
  have HK := Lib.hid h
  have HI := Lib.hid hid
  have HQ := Lib.hid hq
  have HB := Lib.hid hb
  clear h hid hq hb h0 h8
  go_enter Tryz.func7, Tryz.ntmps7
  go_wp2_with (at_lookup; refine lookL _ rfl _ _ rfl x.a L rfl HK.out.leases id HI.out rfl t s f true HQ.out HB.out ?_)
  go_ret
  exact ⟨rfl, (Below.refl _ _).alloc (Nat.le_refl _) _⟩
set_option maxRecDepth 100000 in
theorem begin_full (h : Bk w x leak L M T) (hid : U64 id) (h0 : 0 ≤ th) (h8 : th < 8) (hb : (fnd L id).isSome = false) (hl : 1024 ≤ L.length) :
    Calls Tryz.prog 7 #[ptr x.p, .int .u64 id, .int .i64 th, .int .u64 now] w fun e w' => e = .returned (.int .i64 11) ∧ Below w.heap.size w w' := by
  have q1 : decide (th < 0) = false := decide_eq_false (by omega)
  have q2 : decide (8 ≤ th) = false := decide_eq_false (by omega)
  obtain ⟨⟨t, s, f⟩, hq⟩ : ∃ q, (fnd L id).getD Z0 = q := ⟨_, rfl⟩
  have c1 := h.c1
  have hlp := h.lt.1
  have HK := Lib.hid h
  have HI := Lib.hid hid
  have HQ := Lib.hid hq
  have HB := Lib.hid hb
  have q3 : decide ((1024 : Int) ≤ (L.length : Int)) = true := decide_eq_true (by omega)
  have hll : ∀ o, ∀ ty, (Builtin.len_ #[49] ty #[.map (some x.a)]).run Tryz.prog (w.alloc o) = .ok (.int .i64 L.length) (w.alloc o) := fun o ty => run_len (E := eL) _ Tryz.underlying49 (h.leases.alloc o) ty
  clear h hid hq hb h0 h8
  go_enter Tryz.func7, Tryz.ntmps7
  go_wp2_with (at_lookup; refine lookL _ rfl _ _ rfl x.a L rfl HK.out.leases id HI.out rfl t s f false HQ.out HB.out ?_)
  go_ret
  exact ⟨rfl, (Below.refl _ _).alloc (Nat.le_refl _) _⟩
set_option maxRecDepth 100000 in
theorem begin_no_leak (h : Bk w x 0 L M T) (hid : U64 id) (h0 : 0 ≤ th) (h8 : th < 8) (hb : (fnd L id).isSome = false) (hl : L.length < 1024) :
    Calls Tryz.prog 7 #[ptr x.p, .int .u64 id, .int .i64 th, .int .u64 now] w fun e w' => e = .returned (.int .i64 0) ∧ Bk w' x 0 ((id, ⟨th, now, false⟩) :: wo L id) M T ∧ Fr (some x.a) (some x.m) w w' := by
  have q1 : decide (th < 0) = false := decide_eq_false (by omega)
  have q2 : decide (8 ≤ th) = false := decide_eq_false (by omega)
  obtain ⟨⟨t, s, f⟩, hq⟩ : ∃ q, (fnd L id).getD Z0 = q := ⟨_, rfl⟩
  have c1 := h.c1
  have hlp := h.lt.1
  have HK := Lib.hid h
  have HI := Lib.hid hid
  have HQ := Lib.hid hq
  have HB := Lib.hid hb
  have q3 : decide ((1024 : Int) ≤ (L.length : Int)) = false := decide_eq_false (by omega)
  have hll : ∀ o, ∀ ty, (Builtin.len_ #[49] ty #[.map (some x.a)]).run Tryz.prog (w.alloc o) = .ok (.int .i64 L.length) (w.alloc o) := fun o ty => run_len (E := eL) _ Tryz.underlying49 (h.leases.alloc o) ty
  clear h hid hq hb h0 h8
  go_enter Tryz.func7, Tryz.ntmps7
  go_wp2_with (first
    | (at_lookup; refine lookL _ rfl _ _ rfl x.a L rfl HK.out.leases id HI.out rfl t s f false HQ.out HB.out ?_)
    | (at_mapUpdate; refine put1 _ rfl _ _ _ 49 rfl 22 57 Tryz.underlying22 Tryz.underlying49 x.a L rfl (HK.out.leases.alloc _) (by omega) id HI.out rfl (⟨th, now, false⟩ : Ls) rfl ?_; intro w2 hL2 hg2; have k2 := (HK.out.later ((Below.refl _ w).alloc (Nat.le_refl _) _)).turnL hg2 hL2; have d0 := k2.c0; have HK2 := Lib.hid k2; have HG2 := Lib.hid hg2; clear k2 hL2 hg2 hll))
  go_ret
  exact ⟨rfl, HK2.out, Fr.tr (fr_below ((Below.refl _ w).alloc (Nat.le_refl _) _)) (fr_grown1 HG2.out)⟩
set_option maxRecDepth 100000 in
theorem begin_leak (h : Bk w x leak L M T) (hid : U64 id) (hnow : U64 now) (hlk : U64 leak) (hlk0 : leak ≠ 0) (h0 : 0 ≤ th) (h8 : th < 8) (hb : (fnd L id).isSome = false) (hl : L.length < 1024) (hT : T.length ≤ 1024) :
    Calls Tryz.prog 7 #[ptr x.p, .int .u64 id, .int .i64 th, .int .u64 now] w fun e w' => e = .returned (.int .i64 0) ∧ Bk w' x leak ((id, ⟨th, now, false⟩) :: wo L id) M (Wl.arm T id (cAdd now leak)) ∧ Fr (some x.a) (some x.m) w w' := by
  have q1 : decide (th < 0) = false := decide_eq_false (by omega)
  have q2 : decide (8 ≤ th) = false := decide_eq_false (by omega)
  obtain ⟨⟨t, s, f⟩, hq⟩ : ∃ q, (fnd L id).getD Z0 = q := ⟨_, rfl⟩
  have c1 := h.c1
  have hlp := h.lt.1
  have hpm := h.pm
  have HK := Lib.hid h
  have HI := Lib.hid hid
  have HN := Lib.hid hnow
  have HL := Lib.hid hlk
  have HQ := Lib.hid hq
  have HB := Lib.hid hb
  have q3 : decide ((1024 : Int) ≤ (L.length : Int)) = false := decide_eq_false (by omega)
  have q4 : (leak != 0) = true := by simpa using hlk0
  have hll : ∀ o, ∀ ty, (Builtin.len_ #[49] ty #[.map (some x.a)]).run Tryz.prog (w.alloc o) = .ok (.int .i64 L.length) (w.alloc o) := fun o ty => run_len (E := eL) _ Tryz.underlying49 (h.leases.alloc o) ty
  clear h hid hnow hlk hlk0 hq hb h0 h8
  go_enter Tryz.func7, Tryz.ntmps7
  go_wp2_with (first
    | (at_lookup; refine lookL _ rfl _ _ rfl x.a L rfl HK.out.leases id HI.out rfl t s f false HQ.out HB.out ?_)
    | (at_mapUpdate; refine put1 _ rfl _ _ _ 49 rfl 22 57 Tryz.underlying22 Tryz.underlying49 x.a L rfl (HK.out.leases.alloc _) (by omega) id HI.out rfl (⟨th, now, false⟩ : Ls) rfl ?_; intro w2 hL2 hg2; have k2 := (HK.out.later ((Below.refl _ w).alloc (Nat.le_refl _) _)).turnL hg2 hL2; have d0 := k2.c0; have d3 := k2.c3; have HK2 := Lib.hid k2; have HG2 := Lib.hid hg2; clear k2 hL2 hg2 hll))
  refine reg_start 12 (fun w' => w'.cell? ⟨x.p, 0, none⟩ = some (.int .u64 leak) ∧ w'.cell? ⟨x.p, 3, none⟩ = some (.pointer (some ⟨x.q, 0, none⟩))) (by kernel_rfl) (by kernel_rfl) ?_
  intro hTT
  have HR := Lib.hid hTT
  clear hTT
  refine reg_load 0 HR.out rfl (by kernel_rfl) (by decide) (fun _ _ _ _ h => h) ⟨d0, d3⟩ rfl ?_
  apply Exists.intro
  refine ⟨fun w' hw => by (obtain ⟨hw0, hw3⟩ := hw; go_simp; exact rfl), ?_⟩
  refine reg_load 1 HR.out rfl (by kernel_rfl) (by decide) (fun _ _ _ _ h => h) ⟨d0, d3⟩ rfl ?_
  apply Exists.intro
  refine ⟨fun w' hw => by (obtain ⟨hw0, hw3⟩ := hw; go_simp; exact rfl), ?_⟩
  refine reg_load 2 HR.out rfl (by kernel_rfl) (by decide) (fun _ _ _ _ h => h) ⟨d0, d3⟩ rfl ?_
  apply Exists.intro
  refine ⟨fun w' hw => by (obtain ⟨hw0, hw3⟩ := hw; go_simp; exact rfl), ?_⟩
  refine reg_load 3 HR.out rfl (by kernel_rfl) (by decide) (fun _ _ _ _ h => h) ⟨d0, d3⟩ rfl ?_
  apply Exists.intro
  refine ⟨fun w' hw => by (obtain ⟨hw0, hw3⟩ := hw; go_simp; exact rfl), ?_⟩
  refine reg_load 4 HR.out rfl (by kernel_rfl) (by decide) (fun _ _ _ _ h => h) ⟨d0, d3⟩ rfl ?_
  apply Exists.intro
  refine ⟨fun w' hw => by (obtain ⟨hw0, hw3⟩ := hw; go_simp; exact rfl), ?_⟩
  refine reg_load 5 HR.out rfl (by kernel_rfl) (by decide) (fun _ _ _ _ h => h) ⟨d0, d3⟩ rfl ?_
  apply Exists.intro
  refine ⟨fun w' hw => by (obtain ⟨hw0, hw3⟩ := hw; go_simp; exact rfl), ?_⟩
  refine reg_load 6 HR.out rfl (by kernel_rfl) (by decide) (fun _ _ _ _ h => h) ⟨d0, d3⟩ rfl ?_
  apply Exists.intro
  refine ⟨fun w' hw => by (obtain ⟨hw0, hw3⟩ := hw; go_simp; exact rfl), ?_⟩
  refine reg_load 7 HR.out rfl (by kernel_rfl) (by decide) (fun _ _ _ _ h => h) ⟨d0, d3⟩ rfl ?_
  apply Exists.intro
  refine ⟨fun w' hw => by (obtain ⟨hw0, hw3⟩ := hw; go_simp; exact rfl), ?_⟩
  refine reg_load 8 HR.out rfl (by kernel_rfl) (by decide) (fun _ _ _ _ h => h) ⟨d0, d3⟩ rfl ?_
  apply Exists.intro
  refine ⟨fun w' hw => by (obtain ⟨hw0, hw3⟩ := hw; go_simp; exact rfl), ?_⟩
  refine reg_load 9 HR.out rfl (by kernel_rfl) (by decide) (fun _ _ _ _ h => h) ⟨d0, d3⟩ rfl ?_
  apply Exists.intro
  refine ⟨fun w' hw => by (obtain ⟨hw0, hw3⟩ := hw; go_simp; exact rfl), ?_⟩
  refine reg_only 10 rfl (by kernel_rfl) rfl ?_
  unfold Oper.wp
  go_simp
  refine (Ck.add_any now leak _ HN.out.1 HN.out.2 HL.out.1 HL.out.2).mono ?_
  rintro e w3 ⟨rfl, rfl⟩
  refine ⟨⟨d0, d3⟩, ?_⟩
  refine reg_only 11 rfl (by kernel_rfl) rfl ?_
  unfold Oper.wp
  go_simp
  refine (Wl.arm_any w2.drew x.q x.m T id (cAdd now leak) (HK2.out.wheel.later ((Below.refl _ _).drew)) HI.out ⟨cAdd_lo _ _ HN.out.1 HL.out.1, cAdd_u _ _⟩ hT).mono ?_
  rintro e w3 ⟨rfl, hw3, hg3⟩
  have k3 := (HK2.out.later ((Below.refl _ _).drew)).turnT hg3 hw3
  have HK3 := Lib.hid k3
  refine ⟨⟨k3.c0, k3.c3⟩, ?_⟩
  have HG3 := Lib.hid hg3
  clear k3 hw3 hg3
  refine reg_done (by kernel_rfl) ?_
  go_wp2_with fail
  go_ret
  exact ⟨rfl, HK3.out, Fr.tr (fr_below ((Below.refl _ w).alloc (Nat.le_refl _) _)) (Fr.tr (fr_grown1 HG2.out) (Fr.tr (fr_below ((Below.refl _ _).drew)) (fr_grown2 HG3.out)))⟩
end

/-! ### A nil book -/
theorem begin_nil (w : World) (id th now : Int) : Calls Tryz.prog 7 #[.pointer none, .int .u64 id, .int .i64 th, .int .u64 now] w fun e w' => e = .returned (.int .i64 1) ∧ w = w' := by
  go_enter Tryz.func7, Tryz.ntmps7
  go_wp2
  go_ret
  exact ⟨rfl, rfl⟩
theorem wrong_nil (w : World) (id th : Int) : Calls Tryz.prog 27 #[.pointer none, .int .u64 id, .int .i64 th] w fun e w' => e = .returned (.int .i64 1) ∧ w = w' := by
  go_enter Tryz.func27, Tryz.ntmps27
  go_wp2
  go_ret
  exact ⟨rfl, rfl⟩
theorem end_nil (w : World) (id th : Int) : Calls Tryz.prog 9 #[.pointer none, .int .u64 id, .int .i64 th] w fun e w' => e = .returned (.int .i64 1) ∧ w = w' := by
  go_enter Tryz.func9, Tryz.ntmps9
  go_wp2_with fail
  refine (wrong_nil _ _ _).mono ?_
  rintro e w1 ⟨rfl, rfl⟩
  go_wp2_with fail
  go_ret
  exact ⟨rfl, rfl⟩
theorem mark_nil (w : World) (id th : Int) : Calls Tryz.prog 11 #[.pointer none, .int .u64 id, .int .i64 th] w fun e w' => e = .returned (.int .i64 1) ∧ w = w' := by
  go_enter Tryz.func11, Tryz.ntmps11
  go_wp2_with fail
  refine (wrong_nil _ _ _).mono ?_
  rintro e w1 ⟨rfl, rfl⟩
  go_wp2_with fail
  go_ret
  exact ⟨rfl, rfl⟩
theorem forget_nil (w : World) (id : Int) : Calls Tryz.prog 13 #[.pointer none, .int .u64 id] w fun e w' => e = .returned (.tuple #[]) ∧ w = w' := by
  go_enter Tryz.func13, Tryz.ntmps13
  go_wp2
  exact bodyPost_end (v := .tuple #[]) (by simp [results, Tryz.results13]) rfl ⟨rfl, rfl⟩
theorem of_nil (w : World) (id : Int) : Calls Tryz.prog 55 #[.pointer none, .int .u64 id] w fun e w' => e = .returned (.tuple #[.agg #[.int .i64 0, .int .u64 0, .bool false], .bool false]) ∧ Below w.heap.size w w' := by
  go_enter Tryz.func55, Tryz.ntmps55
  go_wp2_with fail
  refine bodyPost_ret (v := .tuple #[.agg #[.int .i64 0, .int .u64 0, .bool false], .bool false]) ?_ rfl ⟨rfl, ?_⟩
  · simp [results, Tryz.results55, go_sem]
  · exact (((((Below.refl _ _).alloc (Nat.le_refl _) _))))
theorem holder_nil (w : World) (id : Int) : Calls Tryz.prog 34 #[.pointer none, .int .u64 id] w fun e w' => e = .returned (.tuple #[.int .i64 0, .bool false]) ∧ Below w.heap.size w w' := by
  go_enter Tryz.func34, Tryz.ntmps34
  go_wp2_with fail
  refine (of_nil _ _).mono ?_
  rintro e w1 ⟨rfl, hb1⟩
  go_wp2_with fail
  go_ret2
  exact ⟨rfl, hb1.alloc hb1.size _⟩
theorem since_nil (w : World) (id : Int) : Calls Tryz.prog 35 #[.pointer none, .int .u64 id] w fun e w' => e = .returned (.tuple #[.int .u64 0, .bool false]) ∧ Below w.heap.size w w' := by
  go_enter Tryz.func35, Tryz.ntmps35
  go_wp2_with fail
  refine (of_nil _ _).mono ?_
  rintro e w1 ⟨rfl, hb1⟩
  go_wp2_with fail
  go_ret2
  exact ⟨rfl, hb1.alloc hb1.size _⟩
theorem marked_nil (w : World) (id : Int) : Calls Tryz.prog 38 #[.pointer none, .int .u64 id] w fun e w' => e = .returned (.bool false) ∧ w = w' := by
  go_enter Tryz.func38, Tryz.ntmps38
  go_wp2
  go_ret
  exact ⟨rfl, rfl⟩
theorem where_nil (w : World) (v : Value) : Calls Tryz.prog 56 #[.pointer none, v] w fun e w' => e = .returned (.slice none 0 0) ∧ w = w' := by
  go_enter Tryz.func56, Tryz.ntmps56
  go_wp2
  go_ret
  exact ⟨rfl, rfl⟩
theorem held_nil (w : World) (th : Int) : Calls Tryz.prog 36 #[.pointer none, .int .i64 th] w fun e w' => e = .returned (.slice none 0 0) ∧ Below w.heap.size w w' := by
  go_enter Tryz.func36, Tryz.ntmps36
  go_wp2_with fail
  refine (where_nil _ _).mono ?_
  rintro e w1 ⟨rfl, rfl⟩
  go_wp2_with fail
  go_ret
  exact ⟨rfl, (Below.refl _ _).alloc (Nat.le_refl _) _⟩
theorem flagged_nil (w : World) : Calls Tryz.prog 40 #[.pointer none] w fun e w' => e = .returned (.slice none 0 0) ∧ w = w' := by
  go_enter Tryz.func40, Tryz.ntmps40
  go_wp2_with fail
  refine (where_nil _ _).mono ?_
  rintro e w1 ⟨rfl, rfl⟩
  go_wp2_with fail
  go_ret
  exact ⟨rfl, rfl⟩
theorem leaks_nil (w : World) (now : Int) : Calls Tryz.prog 8 #[.pointer none, .int .u64 now] w fun e w' => e = .returned (.slice none 0 0) ∧ w = w' := by
  go_enter Tryz.func8, Tryz.ntmps8
  go_wp2
  go_ret
  exact ⟨rfl, rfl⟩
theorem timers_nil (w : World) : Calls Tryz.prog 42 #[.pointer none] w fun e w' => e = .returned (.int .i64 0) ∧ w = w' := by
  go_enter Tryz.func42, Tryz.ntmps42
  go_wp2
  go_ret
  exact ⟨rfl, rfl⟩
theorem len_nil (w : World) : Calls Tryz.prog 43 #[.pointer none] w fun e w' => e = .returned (.int .i64 0) ∧ w = w' := by
  go_enter Tryz.func43, Tryz.ntmps43
  go_wp2
  go_ret
  exact ⟨rfl, rfl⟩
theorem clone_nil (w : World) : Calls Tryz.prog 6 #[.pointer none] w fun e w' => e = .returned (.pointer none) ∧ w = w' := by
  go_enter Tryz.func6, Tryz.ntmps6
  go_wp2
  go_ret
  exact ⟨rfl, rfl⟩
end Go.Proofs.YtbdcdofjcljliaaGreatDoor.Le
