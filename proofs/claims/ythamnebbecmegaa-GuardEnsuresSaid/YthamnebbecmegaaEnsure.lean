/- Contracts of guard.Ensure, and of a Try of two panics. -/
import Derived.Test.YthamnebbecmegaaGuardB
namespace Go.Proofs.Ythamnebbecmegaa.Gd
open Go.ChangeShapes Go.WideShapes Go.ChangeAt Go.RowKit Rw
set_option linter.unusedVariables false

/-- It comes back, or it panics, and nothing of that was recovered. -/
def Good (e : Ending) : Prop := e = .returned (.tuple #[]) ∨ ∃ v rest, e = .panicked ({ v := v, recovered := false } :: rest)
theorem Good.plain {e : Ending} (h : Good e) : Plain e := by
  rcases h with h | ⟨v, r, h⟩
  · exact .inl h
  · exact .inr ⟨_, h⟩
theorem Once.good {e : Ending} (h : Once e) : Good e := by
  rcases h with h | ⟨T, v, h⟩
  · exact .inl h
  · exact .inr ⟨_, _, h⟩
/-- How it ends, where what was done ended so, and what is ensured so. -/
def joined : Ending → Ending → Ending
  | .panicked c0, .panicked c1 => .panicked (c1 ++ c0)
  | _, .panicked c1 => .panicked c1
  | e0, _ => e0
theorem ensured (p : Addr) (u : FrameMode) (L : Value) (w : World) (R : Ending → World → Prop) (hp : w.cell? p = some L) (hR : ∀ e w', R e w' → Plain e) (h : Calls Try.prog 79 #[L] w R) :
    CallsD Try.prog 81 #[.pointer (some p)] u w fun e u' w' => u' = u ∧ R e w' := by
  go_enter_d Try.func81, Try.ntmps81
  go_wp2_with fail
  refine h.mono ?_
  rintro e w' hr
  rcases hR e w' hr with rfl | ⟨c, rfl⟩
  · go_wp2_with fail
    go_end0
    exact hr
  · exact ⟨rfl, hr⟩
theorem ensure_any {F L : Value} (hLv : L = .nilFunc ∨ ∃ fn fi ca, L = .func fn fi ca) {w : World} {Rf : Ending → World → Prop} {Rl : Ending → World → Ending → World → Prop}
    (hf : Calls Try.prog 79 #[F] (w.alloc (.cells #[L] 1)) Rf)
    (hG : ∀ e w', Rf e w' → Good e ∧ w'.cell? ⟨w.heap.size, 0, none⟩ = some L ∧ Calls Try.prog 79 #[L] w' (Rl e w')) (hL : ∀ e0 w0 e w', Rl e0 w0 e w' → Plain e) :
    Calls Try.prog 44 #[F, L] w fun e w' => ∃ e0 w0 e1, Rf e0 w0 ∧ Rl e0 w0 e1 w' ∧ e = joined e0 e1 := by
  have hmf := makeFunc_run
  rcases hLv with rfl | ⟨fn, fi, ca, rfl⟩
  · go_enter_defers Try.func44, Try.ntmps44
    go_wp2_with fail
    refine hf.mono ?_
    rintro e w0 hr
    obtain ⟨hg, hc, hl⟩ := hG e w0 hr
    rcases hg with rfl | ⟨v, rest, rfl⟩
    · go_wp2_with fail
      refine leaves_cons (f := 81) (args := #[.pointer (some ⟨w.heap.size, 0, none⟩)]) (by simp) (by simp [go_sem]) ?_
      refine (ensured _ _ _ _ _ hc (hL _ _) hl).mono ?_
      rintro e u' w'' ⟨rfl, hr2⟩
      rcases hL _ _ _ _ hr2 with rfl | ⟨c, rfl⟩
      · refine ⟨.tuple #[], ?_, _, w0, _, hr, hr2, rfl⟩
        simp [results, Try.results44, go_sem]
      · exact ⟨_, w0, _, hr, hr2, rfl⟩
    · refine leaves_cons (f := 81) (args := #[.pointer (some ⟨w.heap.size, 0, none⟩)]) (by simp) (by simp [go_sem]) ?_
      refine (ensured _ _ _ _ _ hc (hL _ _) hl).mono ?_
      rintro e u' w'' ⟨rfl, hr2⟩
      rcases hL _ _ _ _ hr2 with rfl | ⟨c, rfl⟩
      · exact ⟨_, w0, _, hr, hr2, rfl⟩
      · exact ⟨_, w0, _, hr, hr2, rfl⟩
  · go_enter_defers Try.func44, Try.ntmps44
    go_wp2_with fail
    refine hf.mono ?_
    rintro e w0 hr
    obtain ⟨hg, hc, hl⟩ := hG e w0 hr
    rcases hg with rfl | ⟨v, rest, rfl⟩
    · go_wp2_with fail
      refine leaves_cons (f := 81) (args := #[.pointer (some ⟨w.heap.size, 0, none⟩)]) (by simp) (by simp [go_sem]) ?_
      refine (ensured _ _ _ _ _ hc (hL _ _) hl).mono ?_
      rintro e u' w'' ⟨rfl, hr2⟩
      rcases hL _ _ _ _ hr2 with rfl | ⟨c, rfl⟩
      · refine ⟨.tuple #[], ?_, _, w0, _, hr, hr2, rfl⟩
        simp [results, Try.results44, go_sem]
      · exact ⟨_, w0, _, hr, hr2, rfl⟩
    · refine leaves_cons (f := 81) (args := #[.pointer (some ⟨w.heap.size, 0, none⟩)]) (by simp) (by simp [go_sem]) ?_
      refine (ensured _ _ _ _ _ hc (hL _ _) hl).mono ?_
      rintro e u' w'' ⟨rfl, hr2⟩
      rcases hL _ _ _ _ hr2 with rfl | ⟨c, rfl⟩
      · exact ⟨_, w0, _, hr, hr2, rfl⟩
      · exact ⟨_, w0, _, hr, hr2, rfl⟩
end Go.Proofs.Ythamnebbecmegaa.Gd
