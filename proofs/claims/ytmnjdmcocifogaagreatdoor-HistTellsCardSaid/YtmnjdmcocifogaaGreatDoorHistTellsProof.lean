/- It is proved that hackneylaw09.HistTells returns true for every input, and that each argument reads afterwards as it read before: the tied card: what the listed package-level variables (tables of the standard library) hold at the start is what the program's own text lays. Conditions: none beyond the given row and card. -/
import Derived.Test.YtmnjdmcocifogaaGreatDoorCards
import Derived.Test.YtmnjdmcocifogaaGreatDoorTie
import Derived.Test.YtmnjdmcocifogaaGreatDoorHistTellsWalk
import Derived.Test.YtmnjdmcocifogaaGreatDoorLaw
import Derived.WalkKit
import Derived.ProofKit
import Derived.OpenShut
import Derived.Deep.DeepHandedRow
import Derived.Lib.LaidTab
import Derived.LaidMore
namespace Go.Proofs.YtmnjdmcocifogaaGreatDoor.Hi
section
open Go.ChangeShapes Go.WideShapes Go.ChangeAt Go.RowKit Go.Deep Rw Tx
set_option maxRecDepth 100000 in
theorem open_ev {H : Type} {enc : TypeId × Value → H} {W : World} {base b0 : Nat} {sp : Nat → Bool} {held : Bool} {v : Value} {d : DataW H} {p : List MemPlace}
    (k0 : Value.okWide Tryz.prog W .any b0 26 v) (h0 : DataW.Trod enc Tryz.prog W base sp held 26 v d p) :
    ∃ e : Ev, v = .agg #[.int .u64 e.step, .int .i64 e.thread, .int .i64 e.kind, .int .i64 e.op, .int .u64 e.id, .int .i64 e.err] ∧ e.ok := by
  have k1 : Tryz.prog.cellsOf 23 = 1 := by kernel_rfl
  have k2 : Tryz.prog.cellsOf 3 = 1 := by kernel_rfl
  have k3 : Tryz.prog.cellsOf 24 = 1 := by kernel_rfl
  obtain ⟨cs, rfl, hn⟩ := okWide_struct Tryz.underlying26 k0
  obtain ⟨fuel, hf⟩ := h0
  obtain ⟨xs, n, _, -, hl, hlen, hf⟩ := DataW.trod_struct Tryz.underlying26 hf
  have hcs : cs.size = 6 := hn.trans (by kernel_rfl)
  have hsome : ∀ i, i < 6 → ∃ y, xs[i]? = some y := fun i hi => ⟨xs[i]'(by rw [hlen]; exact hi), List.getElem?_eq_getElem (by rw [hlen]; exact hi)⟩
  obtain ⟨l⟩ := cs
  match l, hcs, hf with
  | [a0, a1, a2, a3, a4, a5], _, hf =>
    obtain ⟨y0, g0⟩ := hsome 0 (by decide)
    have q0 := hf 0 _ rfl
    rw [g0] at q0
    obtain ⟨z0, e0, -, u0⟩ := DataW.trod_int Tryz.underlying23 q0
    simp [Value.cells, k1] at e0
    obtain ⟨y1, g1⟩ := hsome 1 (by decide)
    have q1 := hf 1 _ rfl
    rw [g1] at q1
    obtain ⟨z1, e1, -, u1⟩ := DataW.trod_int Tryz.underlying3 q1
    simp [Value.cells, k2] at e1
    obtain ⟨y2, g2⟩ := hsome 2 (by decide)
    have q2 := hf 2 _ rfl
    rw [g2] at q2
    obtain ⟨z2, e2, -, u2⟩ := DataW.trod_int Tryz.underlying3 q2
    simp [Value.cells, k2] at e2
    obtain ⟨y3, g3⟩ := hsome 3 (by decide)
    have q3 := hf 3 _ rfl
    rw [g3] at q3
    obtain ⟨z3, e3, -, u3⟩ := DataW.trod_int Tryz.underlying3 q3
    simp [Value.cells, k2] at e3
    obtain ⟨y4, g4⟩ := hsome 4 (by decide)
    have q4 := hf 4 _ rfl
    rw [g4] at q4
    obtain ⟨z4, e4, -, u4⟩ := DataW.trod_int Tryz.underlying23 q4
    simp [Value.cells, k1] at e4
    obtain ⟨y5, g5⟩ := hsome 5 (by decide)
    have q5 := hf 5 _ rfl
    rw [g5] at q5
    obtain ⟨z5, e5, -, u5⟩ := DataW.trod_int Tryz.underlying24 q5
    simp [Value.cells, k3] at e5
    subst e0 e1 e2 e3 e4 e5
    exact ⟨⟨z0, z1, z2, z3, z4, z5⟩, rfl, ⟨Wd.lo_u64 u0, lo_i64 u1, lo_i64 u2, lo_i64 u3, Wd.lo_u64 u4, lo_i64 u5⟩⟩
end
end Go.Proofs.YtmnjdmcocifogaaGreatDoor.Hi
namespace Go.Proofs.YtmnjdmcocifogaaGreatDoor.histTells
open Go.ChangeShapes Go.WideShapes Go.ChangeAt Go.RowKit Go.Deep
set_option linter.unusedVariables false

theorem own : ownKnob Tryz.prog.godebug = none := by kernel_rfl
theorem laidOut : laidOutB Tryz.prog = true := by kernel_rfl
theorem tail {x : String × DataW Unit} {r : List (String × DataW Unit)} {W : World} (h : laidMet Tryz.prog (x :: r) W) : laidMet Tryz.prog r W := by
  obtain ⟨ps, ⟨g0, t0, cs0, f0, p0, q0, hg0, ht0, hv0, hd0, hr, rfl⟩, hn, hc⟩ := h
  exact ⟨q0, hr, (List.nodup_append.1 hn).2.1, fun b off hm => hc b off (List.mem_append.2 (.inr hm))⟩
theorem table {W : World} (h : laidMetH Tryz.prog Rows.histTellsRow.laid W) : Tx.Tab W := by
  have h1 : laidMet Tryz.prog [("math/bits.deBruijn32tab", Rows.laid_math_bits_deBruijn32tab), ("math/bits.deBruijn64tab", Rows.laid_math_bits_deBruijn64tab), ("internal/strconv.uint64pow10", Lib.tabData .u64 Lib.pow10Tab)] W := h
  exact Lib.tabIs_of_head (rest := []) (g := 0) (t := 150) (e := 23) (n := 20) (by kernel_rfl) (by kernel_rfl) Tryz.underlying150 Tryz.underlying23 (by kernel_rfl) (by kernel_rfl) (tail (tail h1))

set_option maxRecDepth 100000 in
/-- The arguments opened. -/
theorem walk (H : Type) (enc : TypeId × Value → H) (W : World) (base : Nat) (v0 v1 : Value) (d0 d1 : DataW H) (p0 p1 : List MemPlace) (hT : Tx.Tab W)
    (k0 : Value.okWide Tryz.prog W .any base 22 v0)
    (k1 : Value.okWide Tryz.prog W .any base 26 v1)
    (h0 : DataW.Trod enc Tryz.prog W 0 (fun _ => true) true 22 v0 d0 p0)
    (h1 : DataW.Trod enc Tryz.prog W 0 (fun _ => true) true 26 v1 d1 p1)
    : Calls Tryz.prog 3 #[v0, v1] W fun e w' => e = .returned (.bool true) ∧ Below W.heap.size W w' := by
  obtain ⟨A, n, c, xs, rfl, hr, hok⟩ := Hi.open_evs k0 h0
  obtain ⟨e, rfl, hek⟩ := Hi.open_ev k1 h1
  by_cases hl : n ≤ 100
  · exact Hi.tells_any A n c xs e W hT hr hl hok hek
  · exact Hi.tells_long A n c e W hT (by have := hr.cap; have := hr.top; omega) (by omega)

set_option maxRecDepth 100000 in
theorem contract (H : Type) (enc : TypeId × Value → H) (W : World) (base : Nat) (args : Array Value) (ds gs : List (DataW H)) (before : List MemPlace)
    (hval : ∀ (j : Nat) t v, Tryz.f3.params[j]? = some t → args[j]? = some v → Value.okWide Tryz.prog W .any base t v)
    (hW : DataW.Whole enc Tryz.prog Tryz.f3.params.toList Rows.histTellsSpec.vars false W args.toList ds gs before) (hL : laidMetH Tryz.prog Rows.histTellsRow.laid W) :
    Calls Tryz.prog 3 args W fun e W' => ∃ v, e = .returned v ∧ Rows.histTellsSpec.post enc Tryz.prog Tryz.f3 false true false false W args v W' := by
  have hW' := hW
  obtain ⟨p, q, hA0, hV, rfl, hfz, hnd⟩ := hW
  have hA : DataW.TrodAll enc Tryz.prog W 0 (fun _ => true) true Tryz.f3.params.toList args.toList ds p := hA0
  rw [Tryz.params3] at hA hval
  obtain ⟨v0, vs0, d0, ds0, p0, q0, hargs, rfl, rfl, h0, r0⟩ := trodAll_cons hA
  obtain ⟨v1, vs1, d1, ds1, p1, q1, rfl, rfl, rfl, h1, r1⟩ := trodAll_cons r0
  obtain ⟨rfl, rfl, rfl⟩ := trodAll_nil r1
  obtain rfl : args = #[v0, v1] := by cases args; simp_all
  obtain ⟨rfl, rfl⟩ := trodVars_none hV
  refine (walk H enc W base v0 v1 d0 d1 p0 p1 (table hL) (hval 0 _ v0 rfl rfl) (hval 1 _ v1 rfl rfl) h0 h1).mono fun e W' ⟨he, hb⟩ => ?_
  subst he
  exact ⟨_, rfl, Lw.law_post laidOut (by kernel_rfl) (by kernel_rfl) Tryz.underlying4 rfl rfl hW' hb⟩

theorem laid_met (os : Os) : laidMet Tryz.prog Rows.histTellsRow.laid ((World.doorLaid Tryz.prog 24 os).forCall (fun _ _ => 0) ⟨#[], #[.slice none 0 0, .agg #[.int .u64 0, .int .i64 0, .int .i64 0, .int .i64 0, .int .u64 0, .int .i64 0]], []⟩).memory :=
  laidMet_of_run' 8 (by kernel_rfl) (by kernel_rfl)
theorem reads (os : Os) {H : Type} (enc : TypeId × Value → H) : ∃ places, DataW.whole enc Tryz.prog ((World.doorLaid Tryz.prog 24 os).forCall (fun _ _ => 0) ⟨#[], #[.slice none 0 0, .agg #[.int .u64 0, .int .i64 0, .int .i64 0, .int .i64 0, .int .u64 0, .int .i64 0]], []⟩).memory Tryz.f3.params.toList Rows.histTellsSpec.vars false (#[.slice none 0 0, .agg #[.int .u64 0, .int .i64 0, .int .i64 0, .int .i64 0, .int .u64 0, .int .i64 0]] : Array Value).toList 8 = some ([.nil, .agg [.lit (.int .u64 0), .lit (.int .i64 0), .lit (.int .i64 0), .lit (.int .i64 0), .lit (.int .u64 0), .lit (.int .i64 0)]], [], places) :=
  ⟨[], by kernel_rfl⟩

set_option maxRecDepth 100000 in
theorem lifted (os : Os) (started : os.Started) (H : Type) (enc : TypeId × Value → H) (F : Stop.Interp) :
    ReturnsInHanded {} Tryz.checked os 3 .any ((OpenSpec.ofChange Rows.histTellsSpec).preRow enc Tryz.prog Tryz.f3 Rows.histTellsRow.domain false Rows.histTellsRow.laid) (((OpenSpec.ofChange Rows.histTellsSpec).at F).post enc Tryz.prog Tryz.f3 false true false false) := by
  obtain ⟨places, hx⟩ := reads os enc
  refine returnsInHanded_of_row (C := Tryz.checked) (s := OpenSpec.ofChange Rows.histTellsSpec) own started (by kernel_rfl) Tryz.func3
    (witness_row_at (enc := enc) (C := Tryz.checked) false (World.doorLaid Tryz.prog 24 os) #[.slice none 0 0, .agg #[.int .u64 0, .int .i64 0, .int .i64 0, .int .i64 0, .int .u64 0, .int .i64 0]] rfl (by kernel_rfl) (by kernel_rfl) (by kernel_rfl)
      (OpenSpec.preRow_of_cond 8 hx (by kernel_rfl) (fun k hk => by cases hk) (by kernel_rfl) (laid_met os))) ?_
  intro W base args ds gs before hval hW _ _ _ hL _ _
  exact contract H enc W base args ds gs before hval hW hL

theorem said : Rows.HistTellsSaid :=
  OpenClaim.holds_of_cond 3 Tryz.f3 rfl rfl rfl rfl rfl rfl rfl ⟨rfl, rfl, rfl, rfl, rfl⟩ rfl rfl rfl rfl rfl (by kernel_rfl) Tryz.func3 (by kernel_rfl)
    (of_decide_eq_true (by kernel_rfl)) (by unfold Func.isWrapper; first | (rw [if_pos (by decide +kernel)]; kernel_rfl) | (rw [if_neg (by decide +kernel)]; exact ⟨rfl, rfl⟩))
    (fun os started H enc _ F => by rw [OpenClaim.pre_eq_preRow]; exact lifted os started H enc F)

/-- No parameter wants a stand-in; the program's looks are the card's. -/
theorem plain (f : FuncId) (fn : Func) (hf : Tryz.pinned.checked.prog.funcNamed "hackney/hackneylaw09.HistTells" = some f) (hfn : Tryz.pinned.checked.prog.funcs[f]? = some fn) :
    true = Tryz.pinned.checked.prog.looks [] ∧ ∀ (j : Nat) t, fn.params[j]? = some t → Tryz.pinned.checked.prog.wantsStandIn t = false := by
  obtain rfl : f = 3 := Option.some.inj ((show Tryz.prog.funcNamed "hackney/hackneylaw09.HistTells" = some 3 by kernel_rfl).symm.trans hf) |>.symm
  obtain rfl : fn = Tryz.f3 := (Option.some.inj (Tryz.func3.symm.trans hfn)).symm
  refine ⟨by kernel_rfl, fun j t ht => ?_⟩
  rw [Tryz.params3] at ht
  have hm : t ∈ ([22, 26] : List Nat) := by simpa using Array.mem_of_getElem? ht
  have hall : (([22, 26] : List Nat).all fun u => !Tryz.prog.wantsStandIn u) = true := by kernel_rfl
  exact (show Tryz.prog.wantsStandIn t = false by simpa using List.all_eq_true.1 hall t hm)

theorem proved : Rows.HistTellsCardSaid :=
  Claim7.holds_tied_plain_at .later [] _ _ _ _ said (fun _ h => by cases h) (by kernel_rfl) (fun _ h => by cases h) histTells_row_tie rfl ⟨rfl, rfl⟩ (by kernel_rfl) rfl plain (by kernel_rfl)
#print axioms proved
end Go.Proofs.YtmnjdmcocifogaaGreatDoor.histTells
