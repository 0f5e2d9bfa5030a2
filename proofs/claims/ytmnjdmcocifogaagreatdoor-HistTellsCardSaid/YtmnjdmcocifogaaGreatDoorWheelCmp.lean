/- The order by which a wheel sorts what is due: contracts of cmp.Compare, cmp.Or, and of the closure. -/
import Derived.Test.YtmnjdmcocifogaaGreatDoorWheelArm
import Derived.Test.YtmnjdmcocifogaaGreatDoorSortFuncU
namespace Go.Proofs.YtmnjdmcocifogaaGreatDoor.Wl
open Go.ChangeShapes Go.WideShapes Go.ChangeAt Go.RowKit Go.Maps Rw Sl Sn Ck Go.Sort
set_option linter.unusedVariables false

theorem isnan_any (x : Int) (w : World) : Calls Tryz.prog 138 #[.int .u64 x] w fun e w' => e = .returned (.bool false) ∧ w = w' := by
  go_enter Tryz.func138, Tryz.ntmps138
  go_wp2
  go_ret
  exact ⟨by simp, rfl⟩
def cmpI (x y : Int) : Int := if x < y then -1 else if y < x then 1 else 0
theorem compare_any (x y : Int) (w : World) : Calls Tryz.prog 133 #[.int .u64 x, .int .u64 y] w fun e w' => e = .returned (.int .i64 (cmpI x y)) ∧ w = w' := by
  rcases Int.lt_trichotomy x y with h | h | h
  · have e1 : cmpI x y = -1 := by unfold cmpI; rw [if_pos h]
    rw [e1]
    clear e1
    go_enter Tryz.func133, Tryz.ntmps133
    go_wp2_with (first | (go_at_call 138; refine (isnan_any _ _).mono ?_; rintro e w' ⟨rfl, rfl⟩))
    go_ret
    exact ⟨rfl, rfl⟩
  · subst h
    have e1 : cmpI x x = 0 := by unfold cmpI; simp
    rw [e1]
    clear e1
    go_enter Tryz.func133, Tryz.ntmps133
    go_wp2_with (first | (go_at_call 138; refine (isnan_any _ _).mono ?_; rintro e w' ⟨rfl, rfl⟩))
    go_ret
    exact ⟨rfl, rfl⟩
  · have e1 : cmpI x y = 1 := by unfold cmpI; rw [if_neg (by omega), if_pos h]
    have h2 : ¬ x < y := by omega
    have h3 : decide (x < y) = false := decide_eq_false h2
    rw [e1]
    clear e1 h2
    go_enter Tryz.func133, Tryz.ntmps133
    go_wp2_with (first | (go_at_call 138; refine (isnan_any _ _).mono ?_; rintro e w' ⟨rfl, rfl⟩))
    go_ret
    exact ⟨rfl, rfl⟩
/-- The first that isn't 0. -/
def orI (a b : Int) : Int := if a = 0 then b else a
theorem or_any (g : Nat) (a b : Int) (w : World) (h0 : w.cell? ⟨g, 0, none⟩ = some (.int .i64 a)) (h1 : w.cell? ⟨g, 1, none⟩ = some (.int .i64 b)) :
    Calls Tryz.prog 132 #[.slice (some ⟨g, 0, none⟩) 2 2] w fun e w' => e = .returned (.int .i64 (orI a b)) ∧ w = w' := by
  by_cases ha : a = 0
  · subst ha
    have e1 : orI 0 b = b := by unfold orI; simp
    rw [e1]
    clear e1
    by_cases hb : b = 0
    · subst hb
      go_enter Tryz.func132, Tryz.ntmps132
      go_wp2_with fail
      refine wp_loop_rounds 3 ?_
      rw [rounds_succ]
      go_wp2_with fail
      rw [rounds_succ]
      go_wp2_with fail
      rw [rounds_succ]
      go_wp2_with fail
      go_ret
      exact ⟨rfl, rfl⟩
    · have hq : (b != 0) = true := by simpa using hb
      clear hb
      go_enter Tryz.func132, Tryz.ntmps132
      go_wp2_with fail
      refine wp_loop_rounds 3 ?_
      rw [rounds_succ]
      go_wp2_with fail
      rw [rounds_succ]
      go_wp2_with fail
      go_ret
      exact ⟨rfl, rfl⟩
  · have e1 : orI a b = a := by unfold orI; rw [if_neg ha]
    have hq : (a != 0) = true := by simpa using ha
    rw [e1]
    clear e1 ha
    go_enter Tryz.func132, Tryz.ntmps132
    go_wp2_with fail
    refine wp_loop_rounds 3 ?_
    rw [rounds_succ]
    go_wp2_with fail
    go_ret
    exact ⟨rfl, rfl⟩

theorem look_run {w : World} {b n : Nat} {D : DataW Unit} {l : List (Int × Int)} {k : Int} (hk : 0 ≤ k ∧ k ≤ 18446744073709551615) (ho : w.ownsMap Tryz.prog 23 (plainElem Tryz.prog 23) b n D) (ht : Tel D l) (tms : Tms l) :
    (Instr.lookup 177 (.map (some b)) (.int .u64 k) false).run Tryz.prog w = .ok (.int .u64 (Wl.tick l k)) w := by
  obtain ⟨c, hrun, hat, -⟩ := ho.lookup_int law Tryz.underlying177 Tryz.underlying23 (zeroE _) (key64 hk)
  rw [ht.tick tms k] at hat
  obtain rfl := lit_inj hat
  exact hrun

theorem grow_one (w : World) (o : Obj) : (w.alloc o).drew = grow (w.drewN 1) #[o] := by
  rw [← alloc_eq_grow]; rfl
/-- By ticks, and then by keys. -/
def cf (l : List (Int × Int)) (x y : Int) : Int := orI (cmpI (Wl.tick l x) (Wl.tick l y)) (cmpI x y)

set_option maxRecDepth 100000 in
set_option maxHeartbeats 4000000 in
theorem clo_any (w : World) (q p m n : Nat) (D : DataW Unit) (l : List (Int × Int)) (x y : Int) (hx : 0 ≤ x ∧ x ≤ 18446744073709551615) (hy : 0 ≤ y ∧ y ≤ 18446744073709551615)
    (hq : w.cell? ⟨q, 0, none⟩ = some (.pointer (some ⟨p, 0, none⟩))) (hp : w.cell? ⟨p, 0, none⟩ = some (.map (some m))) (ho : w.ownsMap Tryz.prog 23 (plainElem Tryz.prog 23) m n D) (ht : Tel D l) (tms : Tms l) :
    Calls Tryz.prog 131 #[.int .u64 x, .int .u64 y, .pointer (some ⟨q, 0, none⟩)] w fun e w' => e = .returned (.int .i64 (cf l x y)) ∧ ∃ a os, w' = grow (w.drewN a) os := by
  have HX := Lib.hid hx
  have HY := Lib.hid hy
  have HT := Lib.hid ht
  have HM := Lib.hid tms
  have HO := Lib.hid ho
  clear hx hy ht tms ho
  go_enter Tryz.func131, Tryz.ntmps131
  go_wp2_with fail
  refine reg_start 16 (fun w' => w'.cell? ⟨q, 0, none⟩ = some (.pointer (some ⟨p, 0, none⟩)) ∧ w'.cell? ⟨p, 0, none⟩ = some (.map (some m)) ∧ w'.ownsMap Tryz.prog 23 (plainElem Tryz.prog 23) m n D) (by kernel_rfl) (by kernel_rfl) ?_
  intro hT
  have HR := Lib.hid hT
  clear hT
  have hS : (fun w' : World => w'.cell? ⟨q, 0, none⟩ = some (.pointer (some ⟨p, 0, none⟩)) ∧ w'.cell? ⟨p, 0, none⟩ = some (.map (some m)) ∧ w'.ownsMap Tryz.prog 23 (plainElem Tryz.prog 23) m n D) w.drew := ⟨hq, hp, HO.out.drew⟩
  have HS := Lib.hid hS
  clear hS
  refine reg_load 0 HR.out rfl (by kernel_rfl) (by decide) (fun _ _ _ _ h => h) HS.out rfl ?_
  apply Exists.intro
  refine ⟨fun w' hw => by (obtain ⟨h1, h2, h3⟩ := hw; go_simp; exact rfl), ?_⟩
  refine reg_load 1 HR.out rfl (by kernel_rfl) (by decide) (fun _ _ _ _ h => h) HS.out rfl ?_
  apply Exists.intro
  refine ⟨fun w' hw => by (obtain ⟨h1, h2, h3⟩ := hw; go_simp; exact rfl), ?_⟩
  refine reg_load 2 HR.out rfl (by kernel_rfl) (by decide) (fun _ _ _ _ h => h) HS.out rfl ?_
  apply Exists.intro
  refine ⟨fun w' hw => by (obtain ⟨h1, h2, h3⟩ := hw; go_simp; exact rfl), ?_⟩
  refine reg_load 3 HR.out rfl (by kernel_rfl) (by decide) (fun _ _ _ _ h => h) HS.out rfl ?_
  apply Exists.intro
  refine ⟨fun w' hw => by (obtain ⟨h1, h2, h3⟩ := hw; go_simp; exact rfl), ?_⟩
  refine reg_load 4 HR.out rfl (by kernel_rfl) (by decide) (fun _ _ _ _ h => h) HS.out rfl ?_
  apply Exists.intro
  refine ⟨fun w' hw => by (obtain ⟨h1, h2, h3⟩ := hw; go_simp; exact rfl), ?_⟩
  refine reg_load 5 HR.out rfl (by kernel_rfl) (by decide) (fun _ _ _ _ h => h) HS.out rfl ?_
  apply Exists.intro
  refine ⟨fun w' hw => by (obtain ⟨h1, h2, h3⟩ := hw; have hl := look_run HX.out h3 HT.out HM.out; go_simp; exact rfl), ?_⟩
  refine reg_load 6 HR.out rfl (by kernel_rfl) (by decide) (fun _ _ _ _ h => h) HS.out rfl ?_
  apply Exists.intro
  refine ⟨fun w' hw => by (obtain ⟨h1, h2, h3⟩ := hw; go_simp; exact rfl), ?_⟩
  refine reg_load 7 HR.out rfl (by kernel_rfl) (by decide) (fun _ _ _ _ h => h) HS.out rfl ?_
  apply Exists.intro
  refine ⟨fun w' hw => by (obtain ⟨h1, h2, h3⟩ := hw; go_simp; exact rfl), ?_⟩
  refine reg_load 8 HR.out rfl (by kernel_rfl) (by decide) (fun _ _ _ _ h => h) HS.out rfl ?_
  apply Exists.intro
  refine ⟨fun w' hw => by (obtain ⟨h1, h2, h3⟩ := hw; go_simp; exact rfl), ?_⟩
  refine reg_load 9 HR.out rfl (by kernel_rfl) (by decide) (fun _ _ _ _ h => h) HS.out rfl ?_
  apply Exists.intro
  refine ⟨fun w' hw => by (obtain ⟨h1, h2, h3⟩ := hw; go_simp; exact rfl), ?_⟩
  refine reg_load 10 HR.out rfl (by kernel_rfl) (by decide) (fun _ _ _ _ h => h) HS.out rfl ?_
  apply Exists.intro
  refine ⟨fun w' hw => by (obtain ⟨h1, h2, h3⟩ := hw; go_simp; exact rfl), ?_⟩
  refine reg_load 11 HR.out rfl (by kernel_rfl) (by decide) (fun _ _ _ _ h => h) HS.out rfl ?_
  apply Exists.intro
  refine ⟨fun w' hw => by (obtain ⟨h1, h2, h3⟩ := hw; have hl := look_run HY.out h3 HT.out HM.out; go_simp; exact rfl), ?_⟩
  refine reg_load 13 HR.out rfl (by kernel_rfl) (by decide) (fun _ _ _ _ h => h) HS.out rfl ?_
  apply Exists.intro
  refine ⟨fun w' hw => by (obtain ⟨h1, h2, h3⟩ := hw; go_simp; exact rfl), ?_⟩
  refine reg_load 14 HR.out rfl (by kernel_rfl) (by decide) (fun _ _ _ _ h => h) HS.out rfl ?_
  apply Exists.intro
  refine ⟨fun w' hw => by (obtain ⟨h1, h2, h3⟩ := hw; go_simp; exact rfl), ?_⟩
  refine reg_only 12 rfl (by kernel_rfl) rfl ?_
  unfold Oper.wp
  go_simp
  refine (compare_any _ _ _).mono ?_
  rintro e w1 ⟨rfl, rfl⟩
  refine ⟨HS.out, ?_⟩
  refine reg_only 15 rfl (by kernel_rfl) rfl ?_
  unfold Oper.wp
  go_simp
  refine (compare_any _ _ _).mono ?_
  rintro e w1 ⟨rfl, rfl⟩
  refine ⟨HS.out, ?_⟩
  refine reg_only 16 rfl (by kernel_rfl) rfl ?_
  unfold Oper.wp
  go_simp
  refine reg_only 17 rfl (by kernel_rfl) rfl ?_
  unfold Oper.wp
  go_simp
  refine (or_any _ (cmpI (Wl.tick l x) (Wl.tick l y)) (cmpI x y) _ (by go_simp) (by go_simp)).mono ?_
  rintro e w1 ⟨rfl, rfl⟩
  go_simp
  refine reg_only 18 rfl (by kernel_rfl) rfl ?_
  unfold Oper.wp
  go_simp
  refine reg_done (by kernel_rfl) ?_
  go_wp2_with fail
  go_ret
  exact ⟨rfl, 1, _, grow_one w _⟩

/-! ### The sort of nothing -/
theorem ins0_any (p : Option Addr) (cap : Nat) (fv : Value) (w : World) :
    Calls Tryz.prog 141 #[.slice p 0 cap, .int .i64 0, .int .i64 0, fv] w fun e w' => e = .returned (.tuple #[]) ∧ w = w' := by
  go_enter Tryz.func141, Tryz.ntmps141
  go_wp2
  refine wp_loop_rounds 1 ?_
  rw [rounds_succ]
  go_wp2
  go_end0
  exact ⟨rfl, rfl⟩
theorem pdq0_any (p : Option Addr) (cap : Nat) (lim : Int) (fv : Value) (w : World) :
    Calls Tryz.prog 137 #[.slice p 0 cap, .int .i64 0, .int .i64 0, .int .i64 lim, fv] w fun e w' => e = .returned (.tuple #[]) ∧ w = w' := by
  go_enter Tryz.func137, Tryz.ntmps137
  go_wp2
  refine wp_loop_rounds 1 ?_
  rw [rounds_succ]
  go_wp2_with (go_at_call 141; refine (ins0_any _ _ _ _).mono ?_; rintro e w' ⟨rfl, rfl⟩)
  (try simp only [Exit.inBlock, Exit.then])
  refine bodyPost_ret (results_none rfl _ _ _) rfl ?_
  exact ⟨rfl, rfl⟩
theorem blen_any (n : Nat) (w : World) (h : n ≤ 9223372036854775807) : Calls Tryz.prog 60 #[.int .u64 n] w fun e w' => e = .returned (.int .i64 (Lib.bitLen n)) ∧ w = w' := by
  have h := Any.bits_Len (SlLaysF0.n15.bits (P := Tryz.prog) (ρ := Sf.suRen) { Sf.suLays with }) (n : Int) w (by omega) (by omega)
  exact h.mono fun e w' ⟨h1, h2⟩ => ⟨by simpa using h1, h2.symm⟩
theorem sort0_any (p : Option Addr) (cap : Nat) (fv : Value) (w : World) :
    Calls Tryz.prog 130 #[.slice p 0 cap, fv] w fun e w' => e = .returned (.tuple #[]) ∧ w = w' := by
  have hl := fun w => blen_any 0 w (by omega)
  simp only [Int.natCast_zero] at hl
  go_enter Tryz.func130, Tryz.ntmps130
  go_wp2_with (first | (go_at_call 60; refine (hl _).mono ?_; rintro e w' ⟨rfl, rfl⟩) | (go_at_call 137; refine (pdq0_any _ _ _ _ _).mono ?_; rintro e w' ⟨rfl, rfl⟩))
  go_end0
  exact ⟨rfl, rfl⟩
end Go.Proofs.YtmnjdmcocifogaaGreatDoor.Wl
