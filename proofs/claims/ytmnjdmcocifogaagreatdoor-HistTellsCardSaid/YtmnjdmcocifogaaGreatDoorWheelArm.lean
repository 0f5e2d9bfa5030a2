/- The contract of a wheel's Arm. -/
import Derived.Test.YtmnjdmcocifogaaGreatDoorWheel
namespace Go.Proofs.YtmnjdmcocifogaaGreatDoor.Wl
open Go.ChangeShapes Go.WideShapes Go.ChangeAt Go.RowKit Go.Maps Rw Sl Sn Ck
set_option linter.unusedVariables false

theorem cut_add {t : Int} : cAdd t 0 = cut t := by unfold cAdd cut; simp

theorem grown_two (w : World) (a b : Obj) (row : Option Nat) : w.grownBy ((w.alloc a).alloc b).drew row :=
  ⟨rfl, rfl, rfl, by simp; omega, fun k hk _ => (Below.heap_alloc (w.alloc a) b k (by simp; omega)).trans (Below.heap_alloc w a k hk)⟩
/-- The number that Arm answers. -/
def armE (l : List (Int × Int)) (k : Int) : Int := if full l k then 11 else 0

set_option maxRecDepth 100000 in
set_option maxHeartbeats 2000000 in
theorem arm_put (w : World) (p m : Nat) (l : List (Int × Int)) (k t : Int) (h : Wh w p m l) (hk : 0 ≤ k ∧ k ≤ 18446744073709551615) (ht : 0 ≤ t ∧ t ≤ 18446744073709551615) (hl : l.length ≤ 1024) (hf : full l k = false) :
    Calls Tryz.prog 122 #[.pointer (some ⟨p, 0, none⟩), .int .u64 k, .int .u64 t] w fun e w' => e = .returned (.int .i64 0) ∧ Wh w' p m (ins (k, cut t) (wo l k)) ∧ w.grownBy w' (some m) := by
  have H := Lib.hid h
  obtain ⟨hc, ⟨D, ho, htel⟩, tms⟩ := h
  have hlen : ∀ ty, (Builtin.len_ #[177] ty #[.map (some m)]).run Tryz.prog w = .ok (.int .i64 l.length) w := fun ty => by rw [ho.len Tryz.underlying177 ty, htel.size]
  have hpl := H.out.lt.1
  have hml := H.out.lt.2
  have hne := H.out.ne
  have HT := Lib.hid htel
  have HM := Lib.hid tms
  have HK := Lib.hid hk
  have HA := Lib.hid ht
  have HO := Lib.hid ho
  have HF := Lib.hid hf
  clear htel tms hk ht hf
  by_cases hin : k ∈ l.map Prod.fst
  · have hd : decide (k ∈ l.map Prod.fst) = true := decide_eq_true hin
    clear hin
    go_enter Tryz.func122, Tryz.ntmps122
    go_wp2_with (at_lookup; refine look_ok _ rfl _ _ rfl m l.length D l k HK.out rfl ho HT.out HM.out rfl ?_)
    refine reg_start 8 (fun w' => w'.cell? ⟨p, 0, none⟩ = some (.map (some m))) (by kernel_rfl) (by kernel_rfl) ?_
    intro hT
    have HR := Lib.hid hT
    clear hT hlen
    refine reg_load 0 HR.out rfl (by kernel_rfl) (by decide) (fun _ _ _ _ h => h) hc rfl ?_
    apply Exists.intro
    refine ⟨fun w' hw => by (go_simp; exact rfl), ?_⟩
    refine reg_load 1 HR.out rfl (by kernel_rfl) (by decide) (fun _ _ _ _ h => h) hc rfl ?_
    apply Exists.intro
    refine ⟨fun w' hw => by (go_simp; exact rfl), ?_⟩
    refine reg_load 2 HR.out rfl (by kernel_rfl) (by decide) (fun _ _ _ _ h => h) hc rfl ?_
    apply Exists.intro
    refine ⟨fun w' hw => by (go_simp; exact rfl), ?_⟩
    refine reg_load 3 HR.out rfl (by kernel_rfl) (by decide) (fun _ _ _ _ h => h) hc rfl ?_
    apply Exists.intro
    refine ⟨fun w' hw => by (go_simp; exact rfl), ?_⟩
    refine reg_load 4 HR.out rfl (by kernel_rfl) (by decide) (fun _ _ _ _ h => h) hc rfl ?_
    apply Exists.intro
    refine ⟨fun w' hw => by (go_simp; exact rfl), ?_⟩
    refine reg_load 5 HR.out rfl (by kernel_rfl) (by decide) (fun _ _ _ _ h => h) hc rfl ?_
    apply Exists.intro
    refine ⟨fun w' hw => by (go_simp; exact rfl), ?_⟩
    refine reg_only 6 rfl (by kernel_rfl) rfl ?_
    unfold Oper.wp
    go_simp
    refine (Ck.at_any _ _ HA.out.1 HA.out.2).mono ?_
    rintro e w1 ⟨rfl, rfl⟩
    have hc1 := alloc_cell (w := w.drew) (a := ⟨p, 0, none⟩) hc (bx (cAdd t 0))
    refine ⟨hc1, ?_⟩
    refine reg_only 7 rfl (by kernel_rfl) rfl ?_
    unfold Oper.wp
    go_simp
    refine (Ck.now_any _ _).mono ?_
    rintro e w1 ⟨rfl, rfl⟩
    have hc2 := alloc_cell hc1 (bx (cAdd t 0))
    refine ⟨hc2, ?_⟩
    refine reg_only 8 rfl (by kernel_rfl) rfl ?_
    unfold Oper.wp
    go_simp
    obtain ⟨w3, hrun, ho3, hg3⟩ := ((ho.alloc (bx (cAdd t 0))).alloc (bx (cAdd t 0))).drew.update law Tryz.underlying177 (by unfold maxLen; omega) (key64 HK.out) (plainElem_int Tryz.underlying23 (wf64 (k := cAdd t 0) ⟨cAdd_lo _ _ HA.out.1 (by omega), cAdd_u _ _⟩))
    rw [hrun]
    go_simp
    refine reg_done (by kernel_rfl) ?_
    have hgw : w.grownBy w3 (some m) := World.grownBy.andThen (grown_two w (bx (cAdd t 0)) (bx (cAdd t 0)) (some m)) hg3 (fun j hj => .inr hj)
    rw [cut_add] at ho3
    have HG := Lib.hid (H.out.turned hgw (Mw.mk ho3 (HT.out.put HM.out (ho.tidy law) k (cut t))) (HM.out.put HK.out (cut_ok HA.out.1)))
    have HGW := Lib.hid hgw
    clear hgw hg3 ho3 hrun hc hc1 hc2
    go_wp2
    go_ret
    exact ⟨rfl, HG.out, HGW.out⟩
  · have hd : decide (k ∈ l.map Prod.fst) = false := decide_eq_false hin
    have hlt : l.length < 1024 := by
      have := HF.out
      rw [full_new hin] at this
      simpa using this
    clear hin
    go_enter Tryz.func122, Tryz.ntmps122
    go_wp2_with (at_lookup; refine look_ok _ rfl _ _ rfl m l.length D l k HK.out rfl ho HT.out HM.out rfl ?_)
    refine reg_start 8 (fun w' => w'.cell? ⟨p, 0, none⟩ = some (.map (some m))) (by kernel_rfl) (by kernel_rfl) ?_
    intro hT
    have HR := Lib.hid hT
    clear hT hlen
    refine reg_load 0 HR.out rfl (by kernel_rfl) (by decide) (fun _ _ _ _ h => h) hc rfl ?_
    apply Exists.intro
    refine ⟨fun w' hw => by (go_simp; exact rfl), ?_⟩
    refine reg_load 1 HR.out rfl (by kernel_rfl) (by decide) (fun _ _ _ _ h => h) hc rfl ?_
    apply Exists.intro
    refine ⟨fun w' hw => by (go_simp; exact rfl), ?_⟩
    refine reg_load 2 HR.out rfl (by kernel_rfl) (by decide) (fun _ _ _ _ h => h) hc rfl ?_
    apply Exists.intro
    refine ⟨fun w' hw => by (go_simp; exact rfl), ?_⟩
    refine reg_load 3 HR.out rfl (by kernel_rfl) (by decide) (fun _ _ _ _ h => h) hc rfl ?_
    apply Exists.intro
    refine ⟨fun w' hw => by (go_simp; exact rfl), ?_⟩
    refine reg_load 4 HR.out rfl (by kernel_rfl) (by decide) (fun _ _ _ _ h => h) hc rfl ?_
    apply Exists.intro
    refine ⟨fun w' hw => by (go_simp; exact rfl), ?_⟩
    refine reg_load 5 HR.out rfl (by kernel_rfl) (by decide) (fun _ _ _ _ h => h) hc rfl ?_
    apply Exists.intro
    refine ⟨fun w' hw => by (go_simp; exact rfl), ?_⟩
    refine reg_only 6 rfl (by kernel_rfl) rfl ?_
    unfold Oper.wp
    go_simp
    refine (Ck.at_any _ _ HA.out.1 HA.out.2).mono ?_
    rintro e w1 ⟨rfl, rfl⟩
    have hc1 := alloc_cell (w := w.drew) (a := ⟨p, 0, none⟩) hc (bx (cAdd t 0))
    refine ⟨hc1, ?_⟩
    refine reg_only 7 rfl (by kernel_rfl) rfl ?_
    unfold Oper.wp
    go_simp
    refine (Ck.now_any _ _).mono ?_
    rintro e w1 ⟨rfl, rfl⟩
    have hc2 := alloc_cell hc1 (bx (cAdd t 0))
    refine ⟨hc2, ?_⟩
    refine reg_only 8 rfl (by kernel_rfl) rfl ?_
    unfold Oper.wp
    go_simp
    obtain ⟨w3, hrun, ho3, hg3⟩ := ((ho.alloc (bx (cAdd t 0))).alloc (bx (cAdd t 0))).drew.update law Tryz.underlying177 (by unfold maxLen; omega) (key64 HK.out) (plainElem_int Tryz.underlying23 (wf64 (k := cAdd t 0) ⟨cAdd_lo _ _ HA.out.1 (by omega), cAdd_u _ _⟩))
    rw [hrun]
    go_simp
    refine reg_done (by kernel_rfl) ?_
    have hgw : w.grownBy w3 (some m) := World.grownBy.andThen (grown_two w (bx (cAdd t 0)) (bx (cAdd t 0)) (some m)) hg3 (fun j hj => .inr hj)
    rw [cut_add] at ho3
    have HG := Lib.hid (H.out.turned hgw (Mw.mk ho3 (HT.out.put HM.out (ho.tidy law) k (cut t))) (HM.out.put HK.out (cut_ok HA.out.1)))
    have HGW := Lib.hid hgw
    clear hgw hg3 ho3 hrun hc hc1 hc2
    go_wp2
    go_ret
    exact ⟨rfl, HG.out, HGW.out⟩

set_option maxRecDepth 100000 in
theorem arm_full (w : World) (p m : Nat) (l : List (Int × Int)) (k t : Int) (h : Wh w p m l) (hk : 0 ≤ k ∧ k ≤ 18446744073709551615) (hl : l.length ≤ 1024) (hf : full l k = true) :
    Calls Tryz.prog 122 #[.pointer (some ⟨p, 0, none⟩), .int .u64 k, .int .u64 t] w fun e w' => e = .returned (.int .i64 11) ∧ w = w' := by
  have H := Lib.hid h
  obtain ⟨hc, ⟨D, ho, htel⟩, tms⟩ := h
  have hin : k ∉ l.map Prod.fst := fun hin => by rw [full_has tms.nd hin hl] at hf; cases hf
  rw [full_new hin] at hf
  have hfl : 1024 ≤ l.length := by simpa using hf
  have hlen : ∀ ty, (Builtin.len_ #[177] ty #[.map (some m)]).run Tryz.prog w = .ok (.int .i64 l.length) w := fun ty => by rw [ho.len Tryz.underlying177 ty, htel.size]
  have hd : decide (k ∈ l.map Prod.fst) = false := decide_eq_false hin
  have HT := Lib.hid htel
  have HM := Lib.hid tms
  have HK := Lib.hid hk
  clear htel tms hk hf hin
  go_enter Tryz.func122, Tryz.ntmps122
  go_wp2_with (at_lookup; refine look_ok _ rfl _ _ rfl m l.length D l k HK.out rfl ho HT.out HM.out rfl ?_)
  go_ret
  exact ⟨rfl, rfl⟩
theorem arm_nil (w : World) (k t : Int) :
    Calls Tryz.prog 122 #[.pointer none, .int .u64 k, .int .u64 t] w fun e w' => e = .returned (.int .i64 1) ∧ w = w' := by
  go_enter Tryz.func122, Tryz.ntmps122
  go_wp2
  go_ret
  exact ⟨rfl, rfl⟩
theorem arm_any (w : World) (p m : Nat) (l : List (Int × Int)) (k t : Int) (h : Wh w p m l) (hk : 0 ≤ k ∧ k ≤ 18446744073709551615) (ht : 0 ≤ t ∧ t ≤ 18446744073709551615) (hl : l.length ≤ 1024) :
    Calls Tryz.prog 122 #[.pointer (some ⟨p, 0, none⟩), .int .u64 k, .int .u64 t] w fun e w' => e = .returned (.int .i64 (armE l k)) ∧ Wh w' p m (arm l k t) ∧ w.grownBy w' (some m) := by
  unfold armE arm
  cases hf : full l k with
  | true => exact (arm_full w p m l k t h hk hl hf).mono fun e w' ⟨h1, h2⟩ => ⟨h1, by subst h2; exact h, by subst h2; exact World.grownBy.refl _ _⟩
  | false => exact arm_put w p m l k t h hk ht hl hf
end Go.Proofs.YtmnjdmcocifogaaGreatDoor.Wl
