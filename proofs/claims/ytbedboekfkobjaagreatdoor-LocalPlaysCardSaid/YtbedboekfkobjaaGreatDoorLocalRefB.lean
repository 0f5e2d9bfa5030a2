/- The document's Take and New of layer 12. -/
import Derived.Test.YtbedboekfkobjaaGreatDoorLocalRef
namespace Go.Proofs.YtbedboekfkobjaaGreatDoor.Lc
open Go.ChangeShapes Go.WideShapes Go.ChangeAt Go.RowKit Rw Hi Sl
set_option linter.unusedVariables false

set_option maxRecDepth 100000 in
set_option maxHeartbeats 2000000 in
theorem rtake_some (w : World) (p i : Nat) (A : Option Addr) (c : Nat) (vs : List Sv) (L : Nat → List Int) (xs : List Int) (x : Int) (h : Dc w p A c vs L) (hp : p < w.heap.size) (hi : i < 8) (he : L i = xs ++ [x]) :
    Calls Tryz.prog 35 #[.slice A 8 c, .int .i64 i] w fun e w' => ∃ A' c' vs', e = .returned (.tuple #[.slice A' 8 c', .int .u64 x, .bool true]) ∧ Dc w' p A' c' vs' (upd L i xs) ∧ Below w.heap.size w w' := by
  obtain ⟨b, o, s, rfl, hb, hs, hc, hr, hn4⟩ := h.get hi
  have hx := (h.el i s hs).2
  obtain ⟨A1, n1, c1⟩ := s
  simp only at hc hr hn4 hx
  have hlen := hr.len
  rw [he] at hlen
  obtain ⟨m, hm⟩ : ∃ m, xs.length = m := ⟨_, rfl⟩
  simp only [List.length_append, List.length_cons, List.length_nil, hm] at hlen
  obtain ⟨b1, o1, y, rfl, hb1, hy, cy⟩ := hr.get (k := m) (by omega)
  have hyx : y = x := by
    rw [he, List.getElem?_append_right (by omega), hm, Nat.sub_self] at hy
    injection hy with hy
    exact hy.symm
  subst hyx
  have hfr := hr.front (i := m) (by omega)
  rw [he, List.take_append_of_le_length (by omega), List.take_of_length_le (by omega)] at hfr
  have hcap1 := hr.cap
  have htop1 := hr.top
  have hcap := h.rd.cap
  have htop := h.rd.top
  have hmn : m < n1 := by omega
  have hmc : m ≤ c1 := by omega
  have hsub : (n1 : Int) - 1 = (m : Int) := by omega
  have hwm : IntKind.i64.wrap (m : Int) = (m : Int) := by rw [IntKind.wrap_i64]; omega
  have hmz : ((n1 : Int) == 0) = false := beq_eq_false_iff_ne.2 (by omega)
  have hmz' : (n1 == 0) = false := beq_eq_false_iff_ne.2 (by omega)
  have hx4 : xs.length ≤ 4 := by omega
  have HX4 := Lib.hid hx4
  have HD := Lib.hid h
  have HF := Lib.hid hfr
  have HX : Hid (∀ g, (Value.slice (some ⟨b1, o1, none⟩) m c1).ownBlock = some g → g < w.heap.size ∧ g ≠ p) := Lib.hid hx
  have hi8 : (i : Int) < 8 := by omega
  have d0 : decide ((i : Int) < 0) = false := decide_eq_false (by omega)
  have d7 : decide ((7 : Int) < (i : Int)) = false := decide_eq_false (by omega)
  have d7' : decide (7 < i) = false := decide_eq_false (by omega)
  clear h hr hs hx hy hfr he hm hlen hx4
  go_enter Tryz.func35, Tryz.ntmps35
  go_wp2_with fail
  refine reg_start 21 (fun w' => Below w.heap.size w w') (by kernel_rfl) (by kernel_rfl) ?_
  intro hTT
  have HTT := Lib.hid hTT
  have HS := Lib.hid (show Below w.heap.size w w.drew from (Below.refl _ _).drew)
  clear hTT
  refine reg_load 0 HTT.out rfl (by kernel_rfl) (by decide) (fun _ _ _ _ h => h) HS.out rfl ?_
  apply Exists.intro
  refine ⟨fun w' hw => by (go_simp; exact rfl), ?_⟩
  refine reg_load 1 HTT.out rfl (by kernel_rfl) (by decide) (fun _ _ _ _ h => h) HS.out rfl ?_
  apply Exists.intro
  refine ⟨fun w' hw => by (go_simp; exact rfl), ?_⟩
  refine reg_load 2 HTT.out rfl (by kernel_rfl) (by decide) (fun _ _ _ _ h => h) HS.out rfl ?_
  apply Exists.intro
  refine ⟨fun w' hw => by (go_simp; exact rfl), ?_⟩
  refine reg_load 3 HTT.out rfl (by kernel_rfl) (by decide) (fun _ _ _ _ h => h) HS.out rfl ?_
  apply Exists.intro
  refine ⟨fun w' hw => by (go_simp; exact rfl), ?_⟩
  refine reg_load 4 HTT.out rfl (by kernel_rfl) (by decide) (fun _ _ _ _ h => h) HS.out rfl ?_
  apply Exists.intro
  refine ⟨fun w' hw => by (go_simp; exact rfl), ?_⟩
  refine reg_load 5 HTT.out rfl (by kernel_rfl) (by decide) (fun _ _ _ _ h => h) HS.out rfl ?_
  apply Exists.intro
  refine ⟨fun w' hw => by (have k0 := (hw.cell (p := ⟨b, o + i, none⟩) hb).trans hc; go_simp; exact rfl), ?_⟩
  refine reg_load 6 HTT.out rfl (by kernel_rfl) (by decide) (fun _ _ _ _ h => h) HS.out rfl ?_
  apply Exists.intro
  refine ⟨fun w' hw => by (go_simp; exact rfl), ?_⟩
  refine reg_load 7 HTT.out rfl (by kernel_rfl) (by decide) (fun _ _ _ _ h => h) HS.out rfl ?_
  apply Exists.intro
  refine ⟨fun w' hw => by (go_simp; exact rfl), ?_⟩
  refine reg_load 8 HTT.out rfl (by kernel_rfl) (by decide) (fun _ _ _ _ h => h) HS.out rfl ?_
  apply Exists.intro
  refine ⟨fun w' hw => by (go_simp; exact rfl), ?_⟩
  refine reg_load 10 HTT.out rfl (by kernel_rfl) (by decide) (fun _ _ _ _ h => h) HS.out rfl ?_
  apply Exists.intro
  refine ⟨fun w' hw => by (go_simp; exact rfl), ?_⟩
  refine reg_load 11 HTT.out rfl (by kernel_rfl) (by decide) (fun _ _ _ _ h => h) HS.out rfl ?_
  apply Exists.intro
  refine ⟨fun w' hw => by (go_simp; exact rfl), ?_⟩
  refine reg_load 12 HTT.out rfl (by kernel_rfl) (by decide) (fun _ _ _ _ h => h) HS.out rfl ?_
  apply Exists.intro
  refine ⟨fun w' hw => by (go_simp; exact rfl), ?_⟩
  refine reg_load 13 HTT.out rfl (by kernel_rfl) (by decide) (fun _ _ _ _ h => h) HS.out rfl ?_
  apply Exists.intro
  refine ⟨fun w' hw => by (have k0 := (hw.cell (p := ⟨b, o + i, none⟩) hb).trans hc; go_simp; exact rfl), ?_⟩
  refine reg_load 14 HTT.out rfl (by kernel_rfl) (by decide) (fun _ _ _ _ h => h) HS.out rfl ?_
  apply Exists.intro
  refine ⟨fun w' hw => by (go_simp; exact rfl), ?_⟩
  refine reg_load 15 HTT.out rfl (by kernel_rfl) (by decide) (fun _ _ _ _ h => h) HS.out rfl ?_
  apply Exists.intro
  refine ⟨fun w' hw => by (go_simp; exact rfl), ?_⟩
  refine reg_load 16 HTT.out rfl (by kernel_rfl) (by decide) (fun _ _ _ _ h => h) HS.out rfl ?_
  apply Exists.intro
  refine ⟨fun w' hw => by (go_simp; exact rfl), ?_⟩
  refine reg_load 17 HTT.out rfl (by kernel_rfl) (by decide) (fun _ _ _ _ h => h) HS.out rfl ?_
  apply Exists.intro
  refine ⟨fun w' hw => by (have k0 := (hw.cell (p := ⟨b1, o1 + m, none⟩) hb1).trans cy; go_simp; exact rfl), ?_⟩
  refine reg_only 9 rfl (by kernel_rfl) rfl ?_
  unfold Oper.wp
  go_simp
  refine (with_any _ p i _ c vs L (some ⟨b1, o1, none⟩) m c1 xs (HD.out.later HS.out) (Nat.lt_of_lt_of_le hp HS.out.size) hi (HF.out.later HS.out) (fun g hg => ⟨Nat.lt_of_lt_of_le (HX.out g hg).1 HS.out.size, (HX.out g hg).2⟩) HX4.out).mono ?_
  rintro e w2 ⟨A2, c2, vs2, rfl, hd2, hb2⟩
  have D2 := Lib.hid hd2
  have HS2 := Lib.hid (HS.out.trans (hb2.mono HS.out.size))
  clear hd2 hb2 HS HD HF HX HX4
  refine ⟨HS2.out, ?_⟩
  refine reg_only 18 rfl (by kernel_rfl) rfl ?_
  unfold Oper.wp
  go_simp
  refine ⟨HS2.out, ?_⟩
  refine reg_only 19 rfl (by kernel_rfl) rfl ?_
  unfold Oper.wp
  go_simp
  refine ⟨HS2.out, ?_⟩
  refine reg_only 20 rfl (by kernel_rfl) rfl ?_
  unfold Oper.wp
  go_simp
  refine ⟨HS2.out, ?_⟩
  refine reg_done (by kernel_rfl) ?_
  go_wp2_with fail
  go_ret3
  exact ⟨A2, c2, vs2, rfl, D2.out, HS2.out⟩
theorem rnew_any (w : World) (p : Nat) (hp : p < w.heap.size) :
    Calls Tryz.prog 31 #[] w fun e w' => ∃ A c vs, e = .returned (.slice A 8 c) ∧ Dc w' p A c vs (fun _ => []) ∧ Below w.heap.size w w' := by
  obtain ⟨i0, hi0, hz0, hz1, hz2⟩ := info_parts info_s
  obtain ⟨w1, hrun, hown, hg⟩ := run_make_full (P := Tryz.prog) w w.heap.size 66 56 i0 (.slice none 0 0) 1 Tryz.underlying66 hi0 hz0 hz1 .i64 .i64 8 (by omega) (by unfold maxLen; omega) (Nat.le_refl _)
  have hrun2 : (Instr.makeSlice 66 (.int .i64 8) (.int .i64 8)).run Tryz.prog w = .ok (.slice (some ⟨w.heap.size, 0, none⟩) 8 8) w1 := hrun
  have hmc : (madeCells (Value.slice none 0 0).cells (8 * 1)).toList = (List.replicate 8 (⟨none, 0, 0⟩ : Sv)).map encS := toList_madeCells_one _ 8
  rw [hmc] at hown
  have hb : Below w.heap.size w w1 := (Below.refl _ _).grown hg (Nat.le_refl _) (fun j hj => by cases hj)
  have hD : Dc w1 p (some ⟨w.heap.size, 0, none⟩) 8 (List.replicate 8 ⟨none, 0, 0⟩) (fun _ => []) := by
    refine ⟨Rd.own_rd hown, fun g hg => ?_, fun i s hs => ?_, fun i hi => by simp⟩
    · injection hg with hg
      have e : w.heap.size = g := hg
      omega
    · have := List.getElem?_eq_some_iff.1 hs
      obtain ⟨h1, h2⟩ := this
      rw [List.getElem_replicate] at h2
      subst h2
      exact ⟨Rd.nil_, fun g hg => by cases hg⟩
  have HD := Lib.hid hD
  have HB := Lib.hid hb
  clear hrun hown hg hmc hb hD
  go_enter Tryz.func31, Tryz.ntmps31
  go_wp2_with fail
  go_ret
  exact ⟨_, _, _, rfl, HD.out, HB.out⟩
end Go.Proofs.YtbedboekfkobjaaGreatDoor.Lc
