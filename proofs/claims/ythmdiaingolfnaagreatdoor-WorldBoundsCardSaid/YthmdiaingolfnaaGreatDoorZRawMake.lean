/- A part of the claim: the texts RawMake. -/
import Derived.Test.YthmdiaingolfnaaGreatDoorZConfCheck
import Derived.Test.YthmdiaingolfnaaGreatDoorZBase1
import Derived.Deep.CutRange
import Derived.Deep.MidRow
namespace Go.Proofs.YthmdiaingolfnaaGreatDoor.Cn
open Go Go.ChangeShapes Go.WideShapes Go.ChangeAt Go.RowKit Rw
set_option linter.unusedVariables false
theorem under_c : Tryz.prog.underlying 30 = some (Tryz.prog.underlying 30).get! := by kernel_rfl
theorem row_c : ((Tryz.prog.underlying 30).get!).isRow = true := by kernel_rfl
theorem res_c {fn : Func} {p : Tmp} (tmps : Array Value) (w : World) (g : Nat) (v : Value) (h : fn.results = #[.cell p 30]) (hp : tmps.getD p undef = .pointer (some ⟨g, 0, none⟩)) (hr : (loadVar 30 ⟨g, 0, none⟩).run Tryz.prog w = .ok v w) : (results fn tmps).run Tryz.prog w = .ok v w := by
  have hp' : tmps[p]?.getD undef = .pointer (some ⟨g, 0, none⟩) := by simpa using hp
  simp [results, h, hp', asAddr, hr]
theorem low_cells {B : Nat} (g : Nat) (hg : B ≤ g) : ∀ (vs : List Value) (o : Nat) (w0 w : World), Below B w0 w → Below B w0 (w.setCells g o vs)
  | [], _, _, _, h => h
  | v :: r, o, w0, w, h => by
    rw [World.setCells]
    exact low_cells g hg r (o + 1) w0 _ (h.setCell (p := ⟨g, o, none⟩) hg v)
abbrev Cf.raw (c : Cf) : Value := .agg #[.int .i64 c.max, .int .i64 c.min, .int .u64 c.idle, .int .u64 c.life, .int .u64 c.keep, .int .u64 c.leak, .int .u64 c.var]
set_option maxRecDepth 100000 in
set_option maxHeartbeats 4000000 in
theorem make_any (c : Cf) (hc : c.ok) (w : World) :
    Calls Tryz.prog 6 #[c.raw] w fun e w' => e = .returned c.v ∧ Below w.heap.size w w' := by
  have hv := hc.var
  have r0 : ((w.alloc (.cells #[.int .i64 c.max, .int .i64 c.min, .int .u64 c.idle, .int .u64 c.life, .int .u64 c.keep, .int .u64 c.leak, .int .u64 c.var] 24)).alloc (.cells #[.int .i64 0, .int .i64 0, .int .u64 0, .int .u64 0, .int .u64 0, .int .u64 0, .float .f64 0] 30)).cell? ⟨w.heap.size, 0, none⟩ = some (.int .i64 c.max) := by go_simp
  have r1 : ((w.alloc (.cells #[.int .i64 c.max, .int .i64 c.min, .int .u64 c.idle, .int .u64 c.life, .int .u64 c.keep, .int .u64 c.leak, .int .u64 c.var] 24)).alloc (.cells #[.int .i64 0, .int .i64 0, .int .u64 0, .int .u64 0, .int .u64 0, .int .u64 0, .float .f64 0] 30)).cell? ⟨w.heap.size, 1, none⟩ = some (.int .i64 c.min) := by go_simp
  have r2 : ((w.alloc (.cells #[.int .i64 c.max, .int .i64 c.min, .int .u64 c.idle, .int .u64 c.life, .int .u64 c.keep, .int .u64 c.leak, .int .u64 c.var] 24)).alloc (.cells #[.int .i64 0, .int .i64 0, .int .u64 0, .int .u64 0, .int .u64 0, .int .u64 0, .float .f64 0] 30)).cell? ⟨w.heap.size, 2, none⟩ = some (.int .u64 c.idle) := by go_simp
  have r3 : ((w.alloc (.cells #[.int .i64 c.max, .int .i64 c.min, .int .u64 c.idle, .int .u64 c.life, .int .u64 c.keep, .int .u64 c.leak, .int .u64 c.var] 24)).alloc (.cells #[.int .i64 0, .int .i64 0, .int .u64 0, .int .u64 0, .int .u64 0, .int .u64 0, .float .f64 0] 30)).cell? ⟨w.heap.size, 3, none⟩ = some (.int .u64 c.life) := by go_simp
  have r4 : ((w.alloc (.cells #[.int .i64 c.max, .int .i64 c.min, .int .u64 c.idle, .int .u64 c.life, .int .u64 c.keep, .int .u64 c.leak, .int .u64 c.var] 24)).alloc (.cells #[.int .i64 0, .int .i64 0, .int .u64 0, .int .u64 0, .int .u64 0, .int .u64 0, .float .f64 0] 30)).cell? ⟨w.heap.size, 4, none⟩ = some (.int .u64 c.keep) := by go_simp
  have r5 : ((w.alloc (.cells #[.int .i64 c.max, .int .i64 c.min, .int .u64 c.idle, .int .u64 c.life, .int .u64 c.keep, .int .u64 c.leak, .int .u64 c.var] 24)).alloc (.cells #[.int .i64 0, .int .i64 0, .int .u64 0, .int .u64 0, .int .u64 0, .int .u64 0, .float .f64 0] 30)).cell? ⟨w.heap.size, 5, none⟩ = some (.int .u64 c.leak) := by go_simp
  have r6 : ((w.alloc (.cells #[.int .i64 c.max, .int .i64 c.min, .int .u64 c.idle, .int .u64 c.life, .int .u64 c.keep, .int .u64 c.leak, .int .u64 c.var] 24)).alloc (.cells #[.int .i64 0, .int .i64 0, .int .u64 0, .int .u64 0, .int .u64 0, .int .u64 0, .float .f64 0] 30)).cell? ⟨w.heap.size, 6, none⟩ = some (.int .u64 c.var) := by go_simp
  have hb : Below w.heap.size w ((w.alloc (.cells #[.int .i64 c.max, .int .i64 c.min, .int .u64 c.idle, .int .u64 c.life, .int .u64 c.keep, .int .u64 c.leak, .int .u64 c.var] 24)).alloc (.cells #[.int .i64 0, .int .i64 0, .int .u64 0, .int .u64 0, .int .u64 0, .int .u64 0, .float .f64 0] 30)) := ((Below.refl _ _).alloc (Nat.le_refl _) _).alloc (by simp) _
  have y0 : ((w.alloc (.cells #[.int .i64 c.max, .int .i64 c.min, .int .u64 c.idle, .int .u64 c.life, .int .u64 c.keep, .int .u64 c.leak, .int .u64 c.var] 24)).alloc (.cells #[.int .i64 0, .int .i64 0, .int .u64 0, .int .u64 0, .int .u64 0, .int .u64 0, .float .f64 0] 30)).cell? ⟨w.heap.size + 1, 0, none⟩ = some (.int .i64 0) := by go_simp
  have g0 : ((w.alloc (.cells #[.int .i64 c.max, .int .i64 c.min, .int .u64 c.idle, .int .u64 c.life, .int .u64 c.keep, .int .u64 c.leak, .int .u64 c.var] 24)).alloc (.cells #[.int .i64 0, .int .i64 0, .int .u64 0, .int .u64 0, .int .u64 0, .int .u64 0, .float .f64 0] 30)).frozen? ⟨w.heap.size + 1, 0, none⟩ = false := by go_simp
  have y1 : ((w.alloc (.cells #[.int .i64 c.max, .int .i64 c.min, .int .u64 c.idle, .int .u64 c.life, .int .u64 c.keep, .int .u64 c.leak, .int .u64 c.var] 24)).alloc (.cells #[.int .i64 0, .int .i64 0, .int .u64 0, .int .u64 0, .int .u64 0, .int .u64 0, .float .f64 0] 30)).cell? ⟨w.heap.size + 1, 1, none⟩ = some (.int .i64 0) := by go_simp
  have g1 : ((w.alloc (.cells #[.int .i64 c.max, .int .i64 c.min, .int .u64 c.idle, .int .u64 c.life, .int .u64 c.keep, .int .u64 c.leak, .int .u64 c.var] 24)).alloc (.cells #[.int .i64 0, .int .i64 0, .int .u64 0, .int .u64 0, .int .u64 0, .int .u64 0, .float .f64 0] 30)).frozen? ⟨w.heap.size + 1, 1, none⟩ = false := by go_simp
  have y2 : ((w.alloc (.cells #[.int .i64 c.max, .int .i64 c.min, .int .u64 c.idle, .int .u64 c.life, .int .u64 c.keep, .int .u64 c.leak, .int .u64 c.var] 24)).alloc (.cells #[.int .i64 0, .int .i64 0, .int .u64 0, .int .u64 0, .int .u64 0, .int .u64 0, .float .f64 0] 30)).cell? ⟨w.heap.size + 1, 2, none⟩ = some (.int .u64 0) := by go_simp
  have g2 : ((w.alloc (.cells #[.int .i64 c.max, .int .i64 c.min, .int .u64 c.idle, .int .u64 c.life, .int .u64 c.keep, .int .u64 c.leak, .int .u64 c.var] 24)).alloc (.cells #[.int .i64 0, .int .i64 0, .int .u64 0, .int .u64 0, .int .u64 0, .int .u64 0, .float .f64 0] 30)).frozen? ⟨w.heap.size + 1, 2, none⟩ = false := by go_simp
  have y3 : ((w.alloc (.cells #[.int .i64 c.max, .int .i64 c.min, .int .u64 c.idle, .int .u64 c.life, .int .u64 c.keep, .int .u64 c.leak, .int .u64 c.var] 24)).alloc (.cells #[.int .i64 0, .int .i64 0, .int .u64 0, .int .u64 0, .int .u64 0, .int .u64 0, .float .f64 0] 30)).cell? ⟨w.heap.size + 1, 3, none⟩ = some (.int .u64 0) := by go_simp
  have g3 : ((w.alloc (.cells #[.int .i64 c.max, .int .i64 c.min, .int .u64 c.idle, .int .u64 c.life, .int .u64 c.keep, .int .u64 c.leak, .int .u64 c.var] 24)).alloc (.cells #[.int .i64 0, .int .i64 0, .int .u64 0, .int .u64 0, .int .u64 0, .int .u64 0, .float .f64 0] 30)).frozen? ⟨w.heap.size + 1, 3, none⟩ = false := by go_simp
  have y4 : ((w.alloc (.cells #[.int .i64 c.max, .int .i64 c.min, .int .u64 c.idle, .int .u64 c.life, .int .u64 c.keep, .int .u64 c.leak, .int .u64 c.var] 24)).alloc (.cells #[.int .i64 0, .int .i64 0, .int .u64 0, .int .u64 0, .int .u64 0, .int .u64 0, .float .f64 0] 30)).cell? ⟨w.heap.size + 1, 4, none⟩ = some (.int .u64 0) := by go_simp
  have g4 : ((w.alloc (.cells #[.int .i64 c.max, .int .i64 c.min, .int .u64 c.idle, .int .u64 c.life, .int .u64 c.keep, .int .u64 c.leak, .int .u64 c.var] 24)).alloc (.cells #[.int .i64 0, .int .i64 0, .int .u64 0, .int .u64 0, .int .u64 0, .int .u64 0, .float .f64 0] 30)).frozen? ⟨w.heap.size + 1, 4, none⟩ = false := by go_simp
  have y5 : ((w.alloc (.cells #[.int .i64 c.max, .int .i64 c.min, .int .u64 c.idle, .int .u64 c.life, .int .u64 c.keep, .int .u64 c.leak, .int .u64 c.var] 24)).alloc (.cells #[.int .i64 0, .int .i64 0, .int .u64 0, .int .u64 0, .int .u64 0, .int .u64 0, .float .f64 0] 30)).cell? ⟨w.heap.size + 1, 5, none⟩ = some (.int .u64 0) := by go_simp
  have g5 : ((w.alloc (.cells #[.int .i64 c.max, .int .i64 c.min, .int .u64 c.idle, .int .u64 c.life, .int .u64 c.keep, .int .u64 c.leak, .int .u64 c.var] 24)).alloc (.cells #[.int .i64 0, .int .i64 0, .int .u64 0, .int .u64 0, .int .u64 0, .int .u64 0, .float .f64 0] 30)).frozen? ⟨w.heap.size + 1, 5, none⟩ = false := by go_simp
  have y6 : ((w.alloc (.cells #[.int .i64 c.max, .int .i64 c.min, .int .u64 c.idle, .int .u64 c.life, .int .u64 c.keep, .int .u64 c.leak, .int .u64 c.var] 24)).alloc (.cells #[.int .i64 0, .int .i64 0, .int .u64 0, .int .u64 0, .int .u64 0, .int .u64 0, .float .f64 0] 30)).cell? ⟨w.heap.size + 1, 6, none⟩ = some (.float .f64 0) := by go_simp
  have g6 : ((w.alloc (.cells #[.int .i64 c.max, .int .i64 c.min, .int .u64 c.idle, .int .u64 c.life, .int .u64 c.keep, .int .u64 c.leak, .int .u64 c.var] 24)).alloc (.cells #[.int .i64 0, .int .i64 0, .int .u64 0, .int .u64 0, .int .u64 0, .int .u64 0, .float .f64 0] 30)).frozen? ⟨w.heap.size + 1, 6, none⟩ = false := by go_simp
  have hf := fun w' => Fl.fbits_run w' (c.var : Int)
  obtain ⟨W1, hW1⟩ : ∃ W1, ((w.alloc (.cells #[.int .i64 c.max, .int .i64 c.min, .int .u64 c.idle, .int .u64 c.life, .int .u64 c.keep, .int .u64 c.leak, .int .u64 c.var] 24)).alloc (.cells #[.int .i64 0, .int .i64 0, .int .u64 0, .int .u64 0, .int .u64 0, .int .u64 0, .float .f64 0] 30)) = W1 := ⟨_, rfl⟩
  rw [hW1] at r0 r1 r2 r3 r4 r5 r6 y0 g0 y1 g1 y2 g2 y3 g3 y4 g4 y5 g5 y6 g6 hb
  have HB := Lib.hid hb
  clear hb
  go_enter Tryz.func6, Tryz.ntmps6
  go_upto_region 1 with (fail)
  clear hW1
  generalize hq : w.heap.size = q at *
  have HT : Hid (W1.drew.there (q + 1) 0 7) := Lib.hid (fun j hj => by
    rw [Nat.zero_add]
    match j, hj with
    | 0, _ => exact ⟨by simp [y0], by simpa using g0⟩
    | 1, _ => exact ⟨by simp [y1], by simpa using g1⟩
    | 2, _ => exact ⟨by simp [y2], by simpa using g2⟩
    | 3, _ => exact ⟨by simp [y3], by simpa using g3⟩
    | 4, _ => exact ⟨by simp [y4], by simpa using g4⟩
    | 5, _ => exact ⟨by simp [y5], by simpa using g5⟩
    | 6, _ => exact ⟨by simp [y6], by simpa using g6⟩)
  clear y0 y1 y2 y3 y4 y5 y6 g0 g1 g2 g3 g4 g5 g6
  go_wp2_with fail
  have HS : Hid (W1.drew.cell? ⟨q, 0, none⟩ = some (.int .i64 c.max) ∧ W1.drew.cell? ⟨q, 1, none⟩ = some (.int .i64 c.min) ∧ W1.drew.cell? ⟨q, 2, none⟩ = some (.int .u64 c.idle) ∧ W1.drew.cell? ⟨q, 3, none⟩ = some (.int .u64 c.life) ∧ W1.drew.cell? ⟨q, 4, none⟩ = some (.int .u64 c.keep) ∧ W1.drew.cell? ⟨q, 5, none⟩ = some (.int .u64 c.leak) ∧ W1.drew.cell? ⟨q, 6, none⟩ = some (.int .u64 c.var)) := Lib.hid ⟨by simpa using r0, by simpa using r1, by simpa using r2, by simpa using r3, by simpa using r4, by simpa using r5, by simpa using r6⟩
  refine reg_start 16 (fun w' => w'.cell? ⟨q, 0, none⟩ = some (.int .i64 c.max) ∧ w'.cell? ⟨q, 1, none⟩ = some (.int .i64 c.min) ∧ w'.cell? ⟨q, 2, none⟩ = some (.int .u64 c.idle) ∧ w'.cell? ⟨q, 3, none⟩ = some (.int .u64 c.life) ∧ w'.cell? ⟨q, 4, none⟩ = some (.int .u64 c.keep) ∧ w'.cell? ⟨q, 5, none⟩ = some (.int .u64 c.leak) ∧ w'.cell? ⟨q, 6, none⟩ = some (.int .u64 c.var)) (by kernel_rfl) (by kernel_rfl) ?_
  intro hTT
  have HTT := Lib.hid hTT
  clear hTT
  refine reg_load 0 HTT.out rfl (by kernel_rfl) (by decide) (fun _ _ _ _ h => h) HS.out rfl ?_
  apply Exists.intro
  refine ⟨fun w' hw => by (go_simp; exact rfl), ?_⟩
  refine reg_load 1 HTT.out rfl (by kernel_rfl) (by decide) (fun _ _ _ _ h => h) HS.out rfl ?_
  apply Exists.intro
  refine ⟨fun w' hw => by (obtain ⟨k0, k1, k2, k3, k4, k5, k6⟩ := hw; go_simp; exact rfl), ?_⟩
  refine reg_load 2 HTT.out rfl (by kernel_rfl) (by decide) (fun _ _ _ _ h => h) HS.out rfl ?_
  apply Exists.intro
  refine ⟨fun w' hw => by (go_simp; exact rfl), ?_⟩
  refine reg_load 3 HTT.out rfl (by kernel_rfl) (by decide) (fun _ _ _ _ h => h) HS.out rfl ?_
  apply Exists.intro
  refine ⟨fun w' hw => by (obtain ⟨k0, k1, k2, k3, k4, k5, k6⟩ := hw; go_simp; exact rfl), ?_⟩
  refine reg_load 4 HTT.out rfl (by kernel_rfl) (by decide) (fun _ _ _ _ h => h) HS.out rfl ?_
  apply Exists.intro
  refine ⟨fun w' hw => by (go_simp; exact rfl), ?_⟩
  refine reg_load 5 HTT.out rfl (by kernel_rfl) (by decide) (fun _ _ _ _ h => h) HS.out rfl ?_
  apply Exists.intro
  refine ⟨fun w' hw => by (obtain ⟨k0, k1, k2, k3, k4, k5, k6⟩ := hw; go_simp; exact rfl), ?_⟩
  refine reg_load 6 HTT.out rfl (by kernel_rfl) (by decide) (fun _ _ _ _ h => h) HS.out rfl ?_
  apply Exists.intro
  refine ⟨fun w' hw => by (go_simp; exact rfl), ?_⟩
  refine reg_load 7 HTT.out rfl (by kernel_rfl) (by decide) (fun _ _ _ _ h => h) HS.out rfl ?_
  apply Exists.intro
  refine ⟨fun w' hw => by (obtain ⟨k0, k1, k2, k3, k4, k5, k6⟩ := hw; go_simp; exact rfl), ?_⟩
  refine reg_load 8 HTT.out rfl (by kernel_rfl) (by decide) (fun _ _ _ _ h => h) HS.out rfl ?_
  apply Exists.intro
  refine ⟨fun w' hw => by (go_simp; exact rfl), ?_⟩
  refine reg_load 9 HTT.out rfl (by kernel_rfl) (by decide) (fun _ _ _ _ h => h) HS.out rfl ?_
  apply Exists.intro
  refine ⟨fun w' hw => by (obtain ⟨k0, k1, k2, k3, k4, k5, k6⟩ := hw; go_simp; exact rfl), ?_⟩
  refine reg_load 10 HTT.out rfl (by kernel_rfl) (by decide) (fun _ _ _ _ h => h) HS.out rfl ?_
  apply Exists.intro
  refine ⟨fun w' hw => by (go_simp; exact rfl), ?_⟩
  refine reg_load 11 HTT.out rfl (by kernel_rfl) (by decide) (fun _ _ _ _ h => h) HS.out rfl ?_
  apply Exists.intro
  refine ⟨fun w' hw => by (obtain ⟨k0, k1, k2, k3, k4, k5, k6⟩ := hw; go_simp; exact rfl), ?_⟩
  refine reg_load 12 HTT.out rfl (by kernel_rfl) (by decide) (fun _ _ _ _ h => h) HS.out rfl ?_
  apply Exists.intro
  refine ⟨fun w' hw => by (go_simp; exact rfl), ?_⟩
  refine reg_load 13 HTT.out rfl (by kernel_rfl) (by decide) (fun _ _ _ _ h => h) HS.out rfl ?_
  apply Exists.intro
  refine ⟨fun w' hw => by (obtain ⟨k0, k1, k2, k3, k4, k5, k6⟩ := hw; go_simp; exact rfl), ?_⟩
  refine reg_only 14 rfl (by kernel_rfl) rfl ?_
  unfold Oper.wp
  go_simp
  refine reg_load 15 HTT.out rfl (by kernel_rfl) (by decide) (fun _ _ _ _ h => h) HS.out rfl ?_
  apply Exists.intro
  refine ⟨fun w' hw => by (go_simp; exact rfl), ?_⟩
  refine reg_only 16 rfl (by kernel_rfl) rfl ?_
  refine wp_store_mid 30 _ _ rfl (q + 1) 0 #[.int .i64 c.max, .int .i64 c.min, .int .u64 c.idle, .int .u64 c.life, .int .u64 c.keep, .int .u64 c.leak, .float .f64 c.var] rfl rfl HT.out (by kernel_rfl) (by kernel_rfl) ?_
  refine ⟨fun e => absurd e (by decide), ?_⟩
  have HR := Lib.hid (World.rangeAt_setCells_same W1.drew (q + 1) 0 [.int .i64 c.max, .int .i64 c.min, .int .u64 c.idle, .int .u64 c.life, .int .u64 c.keep, .int .u64 c.leak, .float .f64 c.var] HT.out)
  have HB9 : Hid (Below q w (W1.drew.setCells (q + 1) 0 [.int .i64 c.max, .int .i64 c.min, .int .u64 c.idle, .int .u64 c.life, .int .u64 c.keep, .int .u64 c.leak, .float .f64 c.var])) := Lib.hid (low_cells (q + 1) (by omega) _ 0 w _ HB.out.drew)
  generalize (W1.drew.setCells (q + 1) 0 [.int .i64 c.max, .int .i64 c.min, .int .u64 c.idle, .int .u64 c.life, .int .u64 c.keep, .int .u64 c.leak, .float .f64 c.var]) = W9 at *
  refine reg_done (by kernel_rfl) ?_
  go_wp2_with fail
  have hr := run_loadVar_mid (P := Tryz.prog) W9 (q + 1) 0 30 _ _ HR.out under_c row_c (by kernel_rfl)
  refine bodyPost_ret (v := c.v) (res_c _ _ _ _ Tryz.results6 rfl hr) rfl ⟨rfl, by rw [hq]; exact HB9.out⟩
end Go.Proofs.YthmdiaingolfnaaGreatDoor.Cn
