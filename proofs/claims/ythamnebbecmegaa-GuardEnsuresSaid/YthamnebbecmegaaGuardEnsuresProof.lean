/- It is proved that hackneylaw07.GuardEnsures returns true for every input, and that each argument reads afterwards as it read before. Conditions: none beyond the given row. -/
import Derived.Test.YthamnebbecmegaaRows
import Derived.Test.YthamnebbecmegaaGuardEnsuresWalk
import Derived.Test.YthamnebbecmegaaLaw
import Derived.WalkKit
import Derived.ProofKit
import Derived.OpenShut
namespace Go.Proofs.Ythamnebbecmegaa.guardEnsures
open Go.ChangeShapes Go.WideShapes Go.ChangeAt Go.RowKit Go.Deep
set_option linter.unusedVariables false

theorem own : ownKnob Try.prog.godebug = none := by kernel_rfl
theorem laidOut : laidOutB Try.prog = true := by kernel_rfl

set_option maxRecDepth 100000 in
/-- The arguments opened. -/
theorem walk (H : Type) (enc : TypeId × Value → H) (W : World) (base : Nat) (v0 : Value) (d0 : DataW H) (p0 : List MemPlace)
    (k0 : Value.okWide Try.prog W .any base 66 v0)
    (h0 : DataW.Trod enc Try.prog W 0 (fun _ => true) true 66 v0 d0 p0)
    : Calls Try.prog 7 #[v0] W fun e w' => e = .returned (.bool true) ∧ Below W.heap.size W w' := by
  have hgo : ∀ (ab ao n c : Nat) (A : Option Addr) (D C : Nat → Int) (S : Nat → ByteArray) (hn : n ≤ 9223372036854775807) (hA : 0 < n → A = some ⟨ab, ao, none⟩) (hab : 0 < n → ab < W.heap.size)
      (hc : ∀ j, j < n → W.cell? ⟨ab, ao + j * 3, none⟩ = some (.int .u8 (D j)) ∧ W.cell? ⟨ab, ao + j * 3 + 1, none⟩ = some (.int .u8 (C j)) ∧ W.cell? ⟨ab, ao + j * 3 + 2, none⟩ = some (.string (S j)))
      (hK : ∀ j, j < n → (0 ≤ D j ∧ D j ≤ 255) ∧ (0 ≤ C j ∧ C j ≤ 255)),
      Calls Try.prog 7 #[.slice A n c] W fun e w' => e = .returned (.bool true) ∧ Below W.heap.size W w' := by
    intro ab ao n c A D C S hn hA hab hc hK
    by_cases hl : 30 < n
    · exact Gd.ensures_long A n c W hn hl
    · exact Gd.ensures_any ab ao n c A D C S W (by omega) hA hab hc hK
  rcases Lw.slice_structs Try.underlying66 Try.underlying69 (by kernel_rfl) (by kernel_rfl) k0 h0 with rfl | ⟨ad, len, cap, rfl, hl, hm, hc⟩
  · exact hgo 0 0 0 0 none (fun _ => 0) (fun _ => 0) (fun _ => ByteArray.empty) (by omega) (by omega) (by omega) (by omega) (by omega)
  · unfold maxLen at hm
    by_cases h00 : len = 0
    · subst h00
      exact hgo 0 0 0 cap (some ad) (fun _ => 0) (fun _ => 0) (fun _ => ByteArray.empty) (by omega) (by omega) (by omega) (by omega) (by omega)
    have hs : ad.spot = none := by
      obtain ⟨x, y, n, hx, _⟩ := hc 0 (by omega) 0 _ rfl
      exact Lw.spot_none (a := ad) hx
    have hall : ∀ i, ∃ q : Int × Int × ByteArray, i < len → (W.cell? ⟨ad.block, ad.off + i * 3, none⟩ = some (.int .u8 q.1) ∧ W.cell? ⟨ad.block, ad.off + i * 3 + 1, none⟩ = some (.int .u8 q.2.1) ∧ W.cell? ⟨ad.block, ad.off + i * 3 + 2, none⟩ = some (.string q.2.2)) ∧ ((0 ≤ q.1 ∧ q.1 ≤ 255) ∧ (0 ≤ q.2.1 ∧ q.2.1 ≤ 255)) := by
      intro i
      by_cases hi : i < len
      · obtain ⟨x0, y0, n0, c0, t0⟩ := hc i hi 0 _ rfl
        obtain ⟨x1, y1, n1, c1, t1⟩ := hc i hi 1 _ rfl
        obtain ⟨x2, y2, n2, c2, t2⟩ := hc i hi 2 _ rfl
        obtain ⟨z0, e0, -, u0⟩ := DataW.trod_int Try.underlying5 t0
        obtain ⟨z1, e1, -, u1⟩ := DataW.trod_int Try.underlying5 t1
        obtain ⟨z2, e2, -, u2⟩ := DataW.trod_string Try.underlying9 t2
        simp only [List.cons.injEq, and_true] at e0 e1 e2
        subst e0 e1 e2
        rw [Lw.add_eq hs] at c0 c1 c2
        have r0 : 0 ≤ z0 ∧ z0 ≤ 255 := by simpa [Lit.wf, IntKind.min, IntKind.max, IntKind.bits, IntKind.signed] using u0
        have r1 : 0 ≤ z1 ∧ z1 ≤ 255 := by simpa [Lit.wf, IntKind.min, IntKind.max, IntKind.bits, IntKind.signed] using u1
        exact ⟨(z0, z1, z2), fun _ => ⟨⟨c0, c1, c2⟩, r0, r1⟩⟩
      · exact ⟨(0, 0, ByteArray.empty), fun h => absurd h hi⟩
    obtain ⟨Q, hQ⟩ := Classical.axiomOfChoice hall
    have hblk : ad.block < W.heap.size := Lw.lt_heap (a := ⟨ad.block, ad.off + 0 * 3, none⟩) (hQ 0 (by omega)).1.1
    exact hgo ad.block ad.off len cap (some ad) (fun i => (Q i).1) (fun i => (Q i).2.1) (fun i => (Q i).2.2) (by omega)
      (fun _ => by cases ad; simp at hs; subst hs; rfl) (fun _ => hblk) (fun i hi => (hQ i hi).1) (fun i hi => (hQ i hi).2)

set_option maxRecDepth 100000 in
theorem lifted (os : Os) (started : os.Started) (H : Type) (enc : TypeId × Value → H) :
    ReturnsInHanded {} Try.checked os 7 .any (Rows.guardEnsuresSpec.pre6 enc Try.prog Try.f7 Rows.guardEnsuresRow.domain false) (Rows.guardEnsuresSpec.post enc Try.prog Try.f7 false true false false) := by
  refine returnsInHanded_of_change (C := Try.checked) own started (by kernel_rfl) Try.func7
    (ChangeSpec.witness6 (enc := enc) (C := Try.checked) false ⟨#[], #[.slice none 0 0], []⟩ 8 (by kernel_rfl) (by kernel_rfl) (by kernel_rfl) (by kernel_rfl)) ?_
  intro W base args ds gs before hval0 hW hcnd _
  have hval : ∀ (j : Nat) t v, Try.f7.params[j]? = some t → args[j]? = some v → Value.okWide Try.prog W .any base t v := hval0
  have hW' := hW
  obtain ⟨p, q, hA0, hV, rfl, hfz, hnd⟩ := hW
  have hA : DataW.TrodAll enc Try.prog W 0 (fun _ => true) true Try.f7.params.toList args.toList ds p := hA0
  rw [Try.params7] at hA hval
  obtain ⟨v0, vs0, d0, ds0, p0, q0, hargs, rfl, rfl, h0, r0⟩ := trodAll_cons hA
  obtain ⟨rfl, rfl, rfl⟩ := trodAll_nil r0
  obtain rfl : args = #[v0] := by cases args; simp_all
  obtain ⟨rfl, rfl⟩ := trodVars_none hV
  refine (walk H enc W base v0 d0 p0 (hval 0 _ v0 rfl rfl) h0).mono fun e W' ⟨he, hb⟩ => ?_
  subst he
  exact ⟨_, rfl, Lw.law_post laidOut (by kernel_rfl) (by kernel_rfl) Try.underlying4 rfl rfl hW' hb⟩

theorem over : Rows.guardEnsuresRow.holds Try.pinned (OpenSpec.ofChange Rows.guardEnsuresSpec) :=
  OpenClaim.holds_of_wide 7 Try.f7 rfl rfl rfl rfl rfl rfl rfl ⟨rfl, rfl, rfl, rfl, rfl⟩ rfl rfl rfl rfl rfl (by kernel_rfl) Try.func7 (by kernel_rfl)
    (of_decide_eq_true (by kernel_rfl)) (by unfold Func.isWrapper; first | (rw [if_pos (by decide +kernel)]; kernel_rfl) | (rw [if_neg (by decide +kernel)]; exact ⟨rfl, rfl⟩))
    (fun os started H enc _ => lifted os started H enc)

theorem proved : Rows.GuardEnsuresSaid :=
  over
#print axioms proved
end Go.Proofs.Ythamnebbecmegaa.guardEnsures
