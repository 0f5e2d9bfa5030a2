/- A part of the claim: the texts GiveKeepsProof. -/
import Derived.Test.YthmdiaingolfnaaGreatDoorZKeepsFacts
import Derived.Test.YthmdiaingolfnaaGreatDoorCards
import Derived.Test.YthmdiaingolfnaaGreatDoorTie
import Derived.Test.YthmdiaingolfnaaGreatDoorZGKeeps
import Derived.Test.YthmdiaingolfnaaGreatDoorZBase1
import Derived.WalkKit
import Derived.ProofKit
import Derived.OpenShut
import Derived.Deep.DeepHandedRow
import Derived.Lib.LaidTab
import Derived.LaidMore
import Derived.Lay
namespace Go.Proofs.YthmdiaingolfnaaGreatDoor.giveKeeps
open Go.ChangeShapes Go.WideShapes Go.ChangeAt Go.RowKit Go.Deep
set_option linter.unusedVariables false
theorem table {W : World} (h : laidMetH Tryz.prog Rows.giveKeepsRow.laid W) : Tb.Tabs W := by
  rw [MakeChecks.laidMetH_plain _ _ _ (by as_aux_lemma => kernel_rfl)] at h
  exact Tb.tabs_of h (List.mem_of_getElem? at0) (List.mem_of_getElem? at2) (List.mem_of_getElem? at1)
set_option maxRecDepth 100000 in
theorem walk (H : Type) (enc : TypeId × Value → H) (W : World) (base : Nat) (v0 v1 v2 v3 v4 : Value) (d0 d1 d2 d3 d4 : DataW H) (p0 p1 p2 p3 p4 : List MemPlace) (hT : Tb.Tabs W)
    (k0 : Value.okWide Tryz.prog W .any base 5 v0)
    (k1 : Value.okWide Tryz.prog W .any base 79 v1)
    (k2 : Value.okWide Tryz.prog W .any base 79 v2)
    (k3 : Value.okWide Tryz.prog W .any base 4 v3)
    (k4 : Value.okWide Tryz.prog W .any base 5 v4)
    (h0 : DataW.Trod enc Tryz.prog W 0 (fun _ => true) true 5 v0 d0 p0)
    (h1 : DataW.Trod enc Tryz.prog W 0 (fun _ => true) true 79 v1 d1 p1)
    (h2 : DataW.Trod enc Tryz.prog W 0 (fun _ => true) true 79 v2 d2 p2)
    (h3 : DataW.Trod enc Tryz.prog W 0 (fun _ => true) true 4 v3 d3 p3)
    (h4 : DataW.Trod enc Tryz.prog W 0 (fun _ => true) true 5 v4 d4 p4)
    : Calls Tryz.prog 4 #[v0, v1, v2, v3, v4] W fun e w' => e = .returned (.bool true) ∧ Below W.heap.size W w' := by
  obtain ⟨n, rfl, rfl, rfl, hn⟩ := open_int Tryz.underlying5 k0 h0
  obtain ⟨A, nw, c, xs, rfl, hr, hw⟩ := Rw.Rd.open_ Tryz.underlying79 Tryz.underlying5 (by kernel_rfl) k1 h1
  obtain ⟨A', nm, c', ys, rfl, hr', hw'⟩ := Rw.Rd.open_ Tryz.underlying79 Tryz.underlying5 (by kernel_rfl) k2 h2
  obtain ⟨b, rfl, rfl, rfl⟩ := open_bool Tryz.underlying4 k3 h3
  obtain ⟨z, rfl, rfl, rfl, hz⟩ := open_int Tryz.underlying5 k4 h4
  by_cases hl : nw ≤ 5 ∧ nm ≤ 5
  · exact Wo.keeps_any W hT n z (Wd.lo_u8 hn) (Wd.lo_u8 hz) A A' nw c nm c' xs ys hr hr' (fun y hy => Wd.lo_u8 (hw y hy)) (fun y hy => Wd.lo_u8 (hw' y hy)) hl.1 hl.2 b
  · exact Wo.keeps_long W hT n z A A' nw c nm c' b (by have := hr.cap; have := hr.top; omega) (by have := hr'.cap; have := hr'.top; omega) (by omega)
set_option maxRecDepth 100000 in
theorem contract (H : Type) (enc : TypeId × Value → H) (W : World) (base : Nat) (args : Array Value) (ds gs : List (DataW H)) (before : List MemPlace)
    (hval : ∀ (j : Nat) t v, Tryz.f4.params[j]? = some t → args[j]? = some v → Value.okWide Tryz.prog W .any base t v)
    (hW : DataW.Whole enc Tryz.prog Tryz.f4.params.toList Rows.giveKeepsSpec.vars false W args.toList ds gs before) (hL : laidMetH Tryz.prog Rows.giveKeepsRow.laid W) :
    Calls Tryz.prog 4 args W fun e W' => ∃ v, e = .returned v ∧ Rows.giveKeepsSpec.post enc Tryz.prog Tryz.f4 false true false false W args v W' := by
  have hW' := hW
  obtain ⟨p, q, hA0, hV, rfl, hfz, hnd⟩ := hW
  have hA : DataW.TrodAll enc Tryz.prog W 0 (fun _ => true) true Tryz.f4.params.toList args.toList ds p := hA0
  rw [Tryz.params4] at hA hval
  obtain ⟨v0, vs0, d0, ds0, p0, q0, hargs, rfl, rfl, h0, r0⟩ := trodAll_cons hA
  obtain ⟨v1, vs1, d1, ds1, p1, q1, rfl, rfl, rfl, h1, r1⟩ := trodAll_cons r0
  obtain ⟨v2, vs2, d2, ds2, p2, q2, rfl, rfl, rfl, h2, r2⟩ := trodAll_cons r1
  obtain ⟨v3, vs3, d3, ds3, p3, q3, rfl, rfl, rfl, h3, r3⟩ := trodAll_cons r2
  obtain ⟨v4, vs4, d4, ds4, p4, q4, rfl, rfl, rfl, h4, r4⟩ := trodAll_cons r3
  obtain ⟨rfl, rfl, rfl⟩ := trodAll_nil r4
  obtain rfl : args = #[v0, v1, v2, v3, v4] := by cases args; simp_all
  obtain ⟨rfl, rfl⟩ := trodVars_none hV
  refine (walk H enc W base v0 v1 v2 v3 v4 d0 d1 d2 d3 d4 p0 p1 p2 p3 p4 (table hL) (hval 0 _ v0 rfl rfl) (hval 1 _ v1 rfl rfl) (hval 2 _ v2 rfl rfl) (hval 3 _ v3 rfl rfl) (hval 4 _ v4 rfl rfl) h0 h1 h2 h3 h4).mono fun e W' ⟨he, hb⟩ => ?_
  subst he
  exact ⟨_, rfl, Lw.law_post laidOut (by kernel_rfl) (by kernel_rfl) Tryz.underlying4 rfl rfl hW' hb⟩
set_option maxRecDepth 100000 in
theorem lifted (os : Os) (started : os.Started) (H : Type) (enc : TypeId × Value → H) (F : Stop.Interp) :
    ReturnsInHanded {} Tryz.checked os 4 .any ((OpenSpec.ofChange Rows.giveKeepsSpec).preRow enc Tryz.prog Tryz.f4 Rows.giveKeepsRow.domain false Rows.giveKeepsRow.laid) (((OpenSpec.ofChange Rows.giveKeepsSpec).at F).post enc Tryz.prog Tryz.f4 false true false false) := by
  refine returnsInHanded_of_row (C := Tryz.checked) (s := OpenSpec.ofChange Rows.giveKeepsSpec) own started (by as_aux_lemma => kernel_rfl) Tryz.func4
    ⟨(World.laidAll Tryz.prog os Rows.giveKeepsRow.laid), fun _ _ => 0, ⟨#[], #[.int .u8 0, .slice none 0 0, .slice none 0 0, .bool false, .int .u8 0], []⟩, World.laidAll_os _ _ _, World.shaped_of_ZipB (zip1 os) (zip2 os), (Input.okWide_of_okWideB (base := 0) (okw os)).1, (Input.okWide_of_okWideB (okw os)).2,
      OpenSpec.preRow_of_cond 8 (reads _ enc) conds (fun k hk => by cases hk) (sized _ enc) (by rw [MakeChecks.laidMetH_plain _ _ _ (by as_aux_lemma => kernel_rfl)]; exact laid_met os), by
      simp only [Assume.holds]
      exact ⟨by simp, by simp, fun _ => Modest.zero, by simp, by simp⟩⟩ ?_
  intro W base args ds gs before hval hW _ _ _ hL _ _
  exact contract H enc W base args ds gs before hval hW hL
set_option maxHeartbeats 4000000 in
theorem said : Rows.GiveKeepsSaid :=
  OpenClaim.holds_of_cond 4 Tryz.f4 rfl rfl rfl rfl rfl rfl rfl ⟨rfl, rfl, rfl, rfl, rfl⟩ rfl rfl rfl rfl rfl (by as_aux_lemma => kernel_rfl) Tryz.func4 facts
    (of_decide_eq_true (by as_aux_lemma => kernel_rfl)) (by unfold Func.isWrapper; first | (rw [if_pos (by decide +kernel)]; kernel_rfl) | (rw [if_neg (by decide +kernel)]; exact ⟨rfl, rfl⟩))
    (fun os started H enc _ F => by rw [OpenClaim.pre_eq_preRow]; exact lifted os started H enc F)
theorem plain (f : FuncId) (fn : Func) (hf : Tryz.pinned.checked.prog.funcNamed "hackney/hackneylaw17.GiveKeeps" = some f) (hfn : Tryz.pinned.checked.prog.funcs[f]? = some fn) :
    true = Tryz.pinned.checked.prog.looks [] ∧ ∀ (j : Nat) t, fn.params[j]? = some t → Tryz.pinned.checked.prog.wantsStandIn t = false := by
  obtain rfl : f = 4 := Option.some.inj ((show Tryz.prog.funcNamed "hackney/hackneylaw17.GiveKeeps" = some 4 by kernel_rfl).symm.trans hf) |>.symm
  obtain rfl : fn = Tryz.f4 := (Option.some.inj (Tryz.func4.symm.trans hfn)).symm
  refine ⟨by kernel_rfl, fun j t ht => ?_⟩
  rw [Tryz.params4] at ht
  have hm : t ∈ ([5, 79, 79, 4, 5] : List Nat) := by simpa using Array.mem_of_getElem? ht
  have hall : (([5, 79, 79, 4, 5] : List Nat).all fun u => !Tryz.prog.wantsStandIn u) = true := by kernel_rfl
  exact (show Tryz.prog.wantsStandIn t = false by simpa using List.all_eq_true.1 hall t hm)
theorem proved : Rows.GiveKeepsCardSaid :=
  Claim7.holds_tied_plain_at .later [] _ _ _ _ said (fun _ h => by cases h) (by as_aux_lemma => kernel_rfl) (fun _ h => by cases h) giveKeeps_row_tie rfl ⟨rfl, rfl⟩ (by as_aux_lemma => kernel_rfl) rfl plain (by as_aux_lemma => kernel_rfl)
#print axioms proved
end Go.Proofs.YthmdiaingolfnaaGreatDoor.giveKeeps
