/- It is proved that hackneylaw05.WheelPlays returns true for every input, and that each argument reads afterwards as it read before. Conditions: none beyond the given row. -/
import Derived.Test.YthamnebbecmegaaRows
import Derived.Test.YthamnebbecmegaaWheelPlaysWalk
import Derived.Test.YthamnebbecmegaaLaw
import Derived.WalkKit
import Derived.ProofKit
import Derived.OpenShut
namespace Go.Proofs.Ythamnebbecmegaa.wheelPlays
open Go.ChangeShapes Go.WideShapes Go.ChangeAt Go.RowKit Go.Deep
set_option linter.unusedVariables false

theorem own : ownKnob Try.prog.godebug = none := by kernel_rfl
theorem laidOut : laidOutB Try.prog = true := by kernel_rfl

set_option maxRecDepth 100000 in
/-- The arguments opened. -/
theorem walk (H : Type) (enc : TypeId × Value → H) (W : World) (base : Nat) (v0 : Value) (d0 : DataW H) (p0 : List MemPlace)
    (k0 : Value.okWide Try.prog W .any base 41 v0)
    (h0 : DataW.Trod enc Try.prog W 0 (fun _ => true) true 41 v0 d0 p0)
    : Calls Try.prog 4 #[v0] W fun e w' => e = .returned (.bool true) ∧ Below W.heap.size W w' := by
  have hgo : ∀ (ab ao n c : Nat) (A : Option Addr) (K T O : Nat → Int) (hn : n ≤ 9223372036854775807) (hnc : n ≤ c) (hA : 0 < n → A = some ⟨ab, ao, none⟩) (hab : 0 < n → ab < W.heap.size)
      (hc : ∀ j, j < n → W.cell? ⟨ab, ao + j * 3, none⟩ = some (.int .u8 (O j)) ∧ W.cell? ⟨ab, ao + j * 3 + 1, none⟩ = some (.int .u64 (K j)) ∧ W.cell? ⟨ab, ao + j * 3 + 2, none⟩ = some (.int .u64 (T j)))
      (hK : ∀ j, j < n → (0 ≤ K j ∧ K j ≤ 18446744073709551615) ∧ (0 ≤ T j ∧ T j ≤ 18446744073709551615) ∧ (0 ≤ O j ∧ O j ≤ 255)),
      Calls Try.prog 4 #[.slice A n c] W fun e w' => e = .returned (.bool true) ∧ Below W.heap.size W w' := by
    intro ab ao n c A K T O hn hnc hA hab hc hK
    by_cases hl : n ≤ 100
    · exact Wl.plays_any ab ao n c A K T O W hl hA hab hc hK
    · exact Wl.plays_long A n c W hn (by omega)
  rcases Lw.slice_structs Try.underlying41 Try.underlying46 (by kernel_rfl) (by kernel_rfl) k0 h0 with rfl | ⟨ad, len, cap, rfl, hl, hm, hc⟩
  · exact hgo 0 0 0 0 none (fun _ => 0) (fun _ => 0) (fun _ => 0) (by omega) (by omega) (by omega) (by omega) (by omega) (by omega)
  · unfold maxLen at hm
    by_cases h00 : len = 0
    · subst h00
      exact hgo 0 0 0 cap (some ad) (fun _ => 0) (fun _ => 0) (fun _ => 0) (by omega) (by omega) (by omega) (by omega) (by omega) (by omega)
    have hs : ad.spot = none := by
      obtain ⟨x, y, n, hx, _⟩ := hc 0 (by omega) 0 _ rfl
      exact Lw.spot_none (a := ad) hx
    have hall : ∀ i, ∃ q : Int × Int × Int, i < len → (W.cell? ⟨ad.block, ad.off + i * 3, none⟩ = some (.int .u8 q.1) ∧ W.cell? ⟨ad.block, ad.off + i * 3 + 1, none⟩ = some (.int .u64 q.2.1) ∧ W.cell? ⟨ad.block, ad.off + i * 3 + 2, none⟩ = some (.int .u64 q.2.2)) ∧ ((0 ≤ q.2.1 ∧ q.2.1 ≤ 18446744073709551615) ∧ (0 ≤ q.2.2 ∧ q.2.2 ≤ 18446744073709551615) ∧ (0 ≤ q.1 ∧ q.1 ≤ 255)) := by
      intro i
      by_cases hi : i < len
      · obtain ⟨x0, y0, n0, c0, t0⟩ := hc i hi 0 _ rfl
        obtain ⟨x1, y1, n1, c1, t1⟩ := hc i hi 1 _ rfl
        obtain ⟨x2, y2, n2, c2, t2⟩ := hc i hi 2 _ rfl
        obtain ⟨z0, e0, -, u0⟩ := DataW.trod_int Try.underlying5 t0
        obtain ⟨z1, e1, -, u1⟩ := DataW.trod_int Try.underlying31 t1
        obtain ⟨z2, e2, -, u2⟩ := DataW.trod_int Try.underlying31 t2
        simp only [List.cons.injEq, and_true] at e0 e1 e2
        subst e0 e1 e2
        rw [Lw.add_eq hs] at c0 c1 c2
        exact ⟨(z0, z1, z2), fun _ => ⟨⟨c0, c1, c2⟩, Wd.lo_u64 u1, Wd.lo_u64 u2, Wd.lo_u8 u0⟩⟩
      · exact ⟨(0, 0, 0), fun h => absurd h hi⟩
    obtain ⟨Q, hQ⟩ := Classical.axiomOfChoice hall
    have hblk : ad.block < W.heap.size := Lw.lt_heap (a := ⟨ad.block, ad.off + 0 * 3, none⟩) (hQ 0 (by omega)).1.1
    exact hgo ad.block ad.off len cap (some ad) (fun i => (Q i).2.1) (fun i => (Q i).2.2) (fun i => (Q i).1) (by omega) hl
      (fun _ => by cases ad; simp at hs; subst hs; rfl) (fun _ => hblk) (fun i hi => (hQ i hi).1) (fun i hi => (hQ i hi).2)

set_option maxRecDepth 100000 in
theorem lifted (os : Os) (started : os.Started) (H : Type) (enc : TypeId × Value → H) :
    ReturnsInHanded {} Try.checked os 4 .any (Rows.wheelPlaysSpec.pre6 enc Try.prog Try.f4 Rows.wheelPlaysRow.domain false) (Rows.wheelPlaysSpec.post enc Try.prog Try.f4 false true false false) := by
  refine returnsInHanded_of_change (C := Try.checked) own started (by kernel_rfl) Try.func4
    (ChangeSpec.witness6 (enc := enc) (C := Try.checked) false ⟨#[], #[.slice none 0 0], []⟩ 8 (by kernel_rfl) (by kernel_rfl) (by kernel_rfl) (by kernel_rfl)) ?_
  intro W base args ds gs before hval0 hW hcnd _
  have hval : ∀ (j : Nat) t v, Try.f4.params[j]? = some t → args[j]? = some v → Value.okWide Try.prog W .any base t v := hval0
  have hW' := hW
  obtain ⟨p, q, hA0, hV, rfl, hfz, hnd⟩ := hW
  have hA : DataW.TrodAll enc Try.prog W 0 (fun _ => true) true Try.f4.params.toList args.toList ds p := hA0
  rw [Try.params4] at hA hval
  obtain ⟨v0, vs0, d0, ds0, p0, q0, hargs, rfl, rfl, h0, r0⟩ := trodAll_cons hA
  obtain ⟨rfl, rfl, rfl⟩ := trodAll_nil r0
  obtain rfl : args = #[v0] := by cases args; simp_all
  obtain ⟨rfl, rfl⟩ := trodVars_none hV
  refine (walk H enc W base v0 d0 p0 (hval 0 _ v0 rfl rfl) h0).mono fun e W' ⟨he, hb⟩ => ?_
  subst he
  exact ⟨_, rfl, Lw.law_post laidOut (by kernel_rfl) (by kernel_rfl) Try.underlying4 rfl rfl hW' hb⟩

theorem over : Rows.wheelPlaysRow.holds Try.pinned (OpenSpec.ofChange Rows.wheelPlaysSpec) :=
  OpenClaim.holds_of_wide 4 Try.f4 rfl rfl rfl rfl rfl rfl rfl ⟨rfl, rfl, rfl, rfl, rfl⟩ rfl rfl rfl rfl rfl (by kernel_rfl) Try.func4 (by kernel_rfl)
    (of_decide_eq_true (by kernel_rfl)) (by unfold Func.isWrapper; first | (rw [if_pos (by decide +kernel)]; kernel_rfl) | (rw [if_neg (by decide +kernel)]; exact ⟨rfl, rfl⟩))
    (fun os started H enc _ => lifted os started H enc)

theorem proved : Rows.WheelPlaysSaid :=
  over
#print axioms proved
end Go.Proofs.Ythamnebbecmegaa.wheelPlays
