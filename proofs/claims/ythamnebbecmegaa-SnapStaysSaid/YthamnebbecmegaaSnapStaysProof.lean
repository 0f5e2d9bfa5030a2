/- It is proved that hackneylaw03.SnapStays returns true for every input, and that each argument reads afterwards as it read before. Conditions: none beyond the given row. -/
import Derived.Test.YthamnebbecmegaaRows
import Derived.Test.YthamnebbecmegaaSnapStaysWalk
import Derived.Test.YthamnebbecmegaaLaw
import Derived.WalkKit
import Derived.ProofKit
import Derived.OpenShut
namespace Go.Proofs.Ythamnebbecmegaa.snapStays
open Go.ChangeShapes Go.WideShapes Go.ChangeAt Go.RowKit Go.Deep
set_option linter.unusedVariables false

theorem own : ownKnob Try.prog.godebug = none := by kernel_rfl
theorem laidOut : laidOutB Try.prog = true := by kernel_rfl

set_option maxRecDepth 100000 in
/-- The arguments opened. -/
theorem walk (H : Type) (enc : TypeId × Value → H) (W : World) (base : Nat) (v0 v1 : Value) (d0 d1 : DataW H) (p0 p1 : List MemPlace)
    (k0 : Value.okWide Try.prog W .any base 22 v0)
    (k1 : Value.okWide Try.prog W .any base 23 v1)
    (h0 : DataW.Trod enc Try.prog W 0 (fun _ => true) true 22 v0 d0 p0)
    (h1 : DataW.Trod enc Try.prog W 0 (fun _ => true) true 23 v1 d1 p1)
    : Calls Try.prog 3 #[v0, v1] W fun e w' => e = .returned (.bool true) ∧ Below W.heap.size W w' := by
  obtain ⟨A, n, c, xs, rfl, hr, hw⟩ := Rw.Rd.open_ Try.underlying22 Try.underlying31 (by kernel_rfl) k0 h0
  have hu : Sn.U64s xs := fun x hx => Wd.lo_u64 (hw x hx)
  have hnc : n ≤ 9223372036854775807 := by have := hr.cap; have := hr.top; omega
  rcases Lw.slice_structs Try.underlying23 Try.underlying33 (by kernel_rfl) (by kernel_rfl) k1 h1 with rfl | ⟨a, len, cap, rfl, hl, hm, hc⟩
  · by_cases hn : n ≤ 100
    · exact Sn.stays_any A n c xs 0 0 0 0 none (fun _ => 0) (fun _ => true) W hr hu hn (by omega) (by omega) (by omega) (by omega) (by omega)
    · exact Sn.stays_long A none n 0 c 0 W hnc (by omega) (.inl (by omega))
  · unfold maxLen at hm
    by_cases hn : 100 < n ∨ (n ≤ 100 ∧ 60 < len)
    · exact Sn.stays_long A (some a) n len c cap W hnc (by omega) hn
    by_cases h00 : len = 0
    · subst h00
      exact Sn.stays_any A n c xs 0 0 0 cap (some a) (fun _ => 0) (fun _ => true) W hr hu (by omega) (by omega) (by omega) (by omega) (by omega) (by omega)
    have hs : a.spot = none := by
      obtain ⟨x, y, n, hx, _⟩ := hc 0 (by omega) 0 _ rfl
      exact Lw.spot_none (a := a) hx
    have hall : ∀ i, ∃ q : Int × Bool, i < len → (W.cell? ⟨a.block, a.off + i * 2, none⟩ = some (.int .u64 q.1) ∧ W.cell? ⟨a.block, a.off + i * 2 + 1, none⟩ = some (.bool q.2)) ∧ (0 ≤ q.1 ∧ q.1 ≤ 18446744073709551615) := by
      intro i
      by_cases hi : i < len
      · obtain ⟨x0, y0, n0, c0, t0⟩ := hc i hi 0 _ rfl
        obtain ⟨x1, y1, n1, c1, t1⟩ := hc i hi 1 _ rfl
        obtain ⟨z0, e0, -, w0⟩ := DataW.trod_int Try.underlying31 t0
        obtain ⟨z1, e1, -⟩ := DataW.trod_bool Try.underlying4 t1
        simp only [List.cons.injEq, and_true] at e0 e1
        subst e0 e1
        rw [Lw.add_eq hs] at c0 c1
        exact ⟨(z0, z1), fun _ => ⟨⟨c0, c1⟩, Wd.lo_u64 w0⟩⟩
      · exact ⟨(0, true), fun h => absurd h hi⟩
    obtain ⟨Q, hQ⟩ := Classical.axiomOfChoice hall
    have hblk : a.block < W.heap.size := Lw.lt_heap (a := ⟨a.block, a.off + 0 * 2, none⟩) (hQ 0 (by omega)).1.1
    exact Sn.stays_any A n c xs a.block a.off len cap (some a) (fun i => (Q i).1) (fun i => (Q i).2) W hr hu (by omega) (by omega)
      (fun _ => by cases a; simp at hs; subst hs; rfl) (fun _ => hblk) (fun i hi => (hQ i hi).1) (fun i hi => (hQ i hi).2)

set_option maxRecDepth 100000 in
theorem lifted (os : Os) (started : os.Started) (H : Type) (enc : TypeId × Value → H) :
    ReturnsInHanded {} Try.checked os 3 .any (Rows.snapStaysSpec.pre6 enc Try.prog Try.f3 Rows.snapStaysRow.domain false) (Rows.snapStaysSpec.post enc Try.prog Try.f3 false true false false) := by
  refine returnsInHanded_of_change (C := Try.checked) own started (by kernel_rfl) Try.func3
    (ChangeSpec.witness6 (enc := enc) (C := Try.checked) false ⟨#[], #[.slice none 0 0, .slice none 0 0], []⟩ 8 (by kernel_rfl) (by kernel_rfl) (by kernel_rfl) (by kernel_rfl)) ?_
  intro W base args ds gs before hval0 hW hcnd _
  have hval : ∀ (j : Nat) t v, Try.f3.params[j]? = some t → args[j]? = some v → Value.okWide Try.prog W .any base t v := hval0
  have hW' := hW
  obtain ⟨p, q, hA0, hV, rfl, hfz, hnd⟩ := hW
  have hA : DataW.TrodAll enc Try.prog W 0 (fun _ => true) true Try.f3.params.toList args.toList ds p := hA0
  rw [Try.params3] at hA hval
  obtain ⟨v0, vs0, d0, ds0, p0, q0, hargs, rfl, rfl, h0, r0⟩ := trodAll_cons hA
  obtain ⟨v1, vs1, d1, ds1, p1, q1, rfl, rfl, rfl, h1, r1⟩ := trodAll_cons r0
  obtain ⟨rfl, rfl, rfl⟩ := trodAll_nil r1
  obtain rfl : args = #[v0, v1] := by cases args; simp_all
  obtain ⟨rfl, rfl⟩ := trodVars_none hV
  refine (walk H enc W base v0 v1 d0 d1 p0 p1 (hval 0 _ v0 rfl rfl) (hval 1 _ v1 rfl rfl) h0 h1).mono fun e W' ⟨he, hb⟩ => ?_
  subst he
  exact ⟨_, rfl, Lw.law_post laidOut (by kernel_rfl) (by kernel_rfl) Try.underlying4 rfl rfl hW' hb⟩

theorem over : Rows.snapStaysRow.holds Try.pinned (OpenSpec.ofChange Rows.snapStaysSpec) :=
  OpenClaim.holds_of_wide 3 Try.f3 rfl rfl rfl rfl rfl rfl rfl ⟨rfl, rfl, rfl, rfl, rfl⟩ rfl rfl rfl rfl rfl (by kernel_rfl) Try.func3 (by kernel_rfl)
    (of_decide_eq_true (by kernel_rfl)) (by unfold Func.isWrapper; first | (rw [if_pos (by decide +kernel)]; kernel_rfl) | (rw [if_neg (by decide +kernel)]; exact ⟨rfl, rfl⟩))
    (fun os started H enc _ => lifted os started H enc)

theorem proved : Rows.SnapStaysSaid :=
  over
#print axioms proved
end Go.Proofs.Ythamnebbecmegaa.snapStays
