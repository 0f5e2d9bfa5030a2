/- Contracts of layer 11 (slots): the row, and what searches it. -/
import Derived.Test.YtbedboekfkobjaaGreatDoorBase1
import Derived.Test.YtbedboekfkobjaaGreatDoorSlotMath
import Derived.Deep.RegionLaw
import Derived.Lib.SliceRun
namespace Go.Proofs.YtbedboekfkobjaaGreatDoor.St
open Go.ChangeShapes Go.WideShapes Go.ChangeAt Go.RowKit Rw
set_option linter.unusedVariables false

def enc3 (x : Sx) : List Value := [.int .i64 x.1, .int .u64 x.2.1, .int .u64 x.2.2]
def agg3 (x : Sx) : Value := .agg #[.int .i64 x.1, .int .u64 x.2.1, .int .u64 x.2.2]
theorem enc3_len (x : Sx) : (enc3 x).length = 3 := rfl
theorem enc3_one (x : Sx) : ∀ u ∈ enc3 x, u.oneCell' = true := by
  intro u hu
  simp [enc3] at hu
  rcases hu with rfl | rfl | rfl <;> rfl
theorem info_slot : (Tryz.prog.info? 43).map (fun i => (i.zero, i.size, i.bytes)) = some (some (.agg #[.int .i64 0, .int .u64 0, .int .u64 0]), 3, 24) := by kernel_rfl
theorem three_at {w : World} {B : Nat} {A : Option Addr} {n c k : Nat} {l : List Sx} (h : Rs enc3 3 w B A n c l) (hk : k < n) : ∃ b o x, A = some ⟨b, o, none⟩ ∧ b < B ∧ l[k]? = some x ∧
    w.cell? ⟨b, o + k * 3, none⟩ = some (.int .i64 x.1) ∧ w.cell? ⟨b, o + k * 3 + 1, none⟩ = some (.int .u64 x.2.1) ∧ w.cell? ⟨b, o + k * 3 + 2, none⟩ = some (.int .u64 x.2.2) := by
  obtain ⟨b, o, e, h1, h2, h3, hc⟩ := h.get hk
  exact ⟨b, o, e, h1, h2, h3, hc 0 _ (by omega) rfl, hc 1 _ (by omega) rfl, hc 2 _ (by omega) rfl⟩

theorem waits_any (a b c : Int) (w : World) :
    Calls Tryz.prog 42 #[.agg #[.int .i64 a, .int .u64 b, .int .u64 c]] w fun e w' => e = .returned (.bool (c == 0)) ∧ Below w.heap.size w w' := by
  go_enter Tryz.func42, Tryz.ntmps42
  go_wp2_with fail
  go_ret
  exact ⟨rfl, (Below.refl _ _).alloc (Nat.le_refl _) _⟩
theorem isof_any (a b c t : Int) (q : Nat) (w : World) (hc : w.cell? ⟨q, 0, none⟩ = some (.int .i64 t)) :
    Calls Tryz.prog 53 #[.agg #[.int .i64 a, .int .u64 b, .int .u64 c], .pointer (some ⟨q, 0, none⟩)] w fun e w' => e = .returned (.bool (a == t)) ∧ Below w.heap.size w w' := by
  have hq : q < w.heap.size := Lw.lt_heap hc
  go_enter Tryz.func53, Tryz.ntmps53
  go_wp2_with fail
  go_ret
  exact ⟨rfl, (Below.refl _ _).alloc (Nat.le_refl _) _⟩

set_option maxHeartbeats 1000000 in
theorem index_any (g : FuncId) (lb : Array Value) (p : Sx → Bool) (A : Option Addr) (n c B : Nat) (l : List Sx) (w : World) (h : Rs enc3 3 w B A n c l) (hB : B ≤ w.heap.size)
    (eg : ∀ args w, (callFunc g args).run Tryz.prog w = .ok (.enter g args) w)
    (hp : ∀ (a b c : Int) W, Below w.heap.size w W → Calls Tryz.prog g (#[.agg #[.int .i64 a, .int .u64 b, .int .u64 c]] ++ lb) W fun e W' => e = .returned (.bool (p (a, b, c))) ∧ Below W.heap.size W W') :
    Calls Tryz.prog 41 #[.slice A n c, .func (.func g) #[] lb] w fun e w' => e = .returned (.int .i64 (ixZ p l)) ∧ Below w.heap.size w w' := by
  have hn : n ≤ 9223372036854775807 := by have := h.cap; have := h.top; omega
  have HR := Lib.hid h
  have HP := Lib.hid hp
  clear h hp
  go_enter Tryz.func41, Tryz.ntmps41
  go_wp2_with fail
  go_loopw [8] (fun i wr => ∃ k : Nat, k ≤ n ∧ i = .int .i64 k ∧ Miss p l k ∧ Below w.heap.size w wr) (fun i _ => n - (intOf i).toNat)
  case atStart => exact ⟨0, Nat.zero_le _, rfl, Miss.zero _ _, Below.refl _ _⟩
  case round =>
    obtain ⟨k, hk, rfl, hm, hbr⟩ := hrel
    have HM := Lib.hid hm
    have hbs := hbr.size
    clear hm
    by_cases hlt : k < n
    · obtain ⟨b, o, x, rfl, hb, hx, c0, c1, c2⟩ := three_at HR.out hlt
      have d0 := (hbr.cell (p := ⟨b, o + k * 3, none⟩) (by simp only; omega)).trans c0
      have d1 := (hbr.cell (p := ⟨b, o + k * 3 + 1, none⟩) (by simp only; omega)).trans c1
      have d2 := (hbr.cell (p := ⟨b, o + k * 3 + 2, none⟩) (by simp only; omega)).trans c2
      obtain ⟨x0, x1, x2⟩ := x
      have HX := Lib.hid hx
      simp only at d0 d1 d2
      clear c0 c1 c2 hx
      go_wp2_with fail
      refine (HP.out x0 x1 x2 wr hbr).mono ?_
      rintro e w1 ⟨rfl, hb1⟩
      cases hq : p (x0, x1, x2) with
      | true =>
        have HI := Lib.hid (ixZ_some (ix_some HM.out HX.out hq))
        go_wp2_with fail
        go_ret
        exact ⟨by rw [HI.out]; rfl, hbr.trans (hb1.mono hbs)⟩
      | false =>
        have HM2 := Lib.hid (HM.out.succ HX.out hq)
        go_wp2_with fail
        go_roundw
        case rel => exact ⟨k + 1, by omega, by go_num, HM2.out, hbr.trans (hb1.mono hbs)⟩
        case measure => simp [intOf]; omega
    · have hk' : k = n := by omega
      have HI := Lib.hid (ixZ_none (ix_none (p := p) (l := l) (by rw [HR.out.len, ← hk']; exact HM.out)))
      go_wp2_with fail
      go_ret
      exact ⟨by rw [HI.out]; rfl, hbr⟩
theorem index_free (A : Option Addr) (n c B : Nat) (l : List Sx) (w : World) (h : Rs enc3 3 w B A n c l) (hB : B ≤ w.heap.size) :
    Calls Tryz.prog 41 #[.slice A n c, .func (.func 42) #[] #[]] w fun e w' => e = .returned (.int .i64 (ixZ free l)) ∧ Below w.heap.size w w' :=
  index_any 42 #[] free A n c B l w h hB (fun args w => by simp [go_sem]) (fun a b c W _ => waits_any a b c W)
theorem index_of (A : Option Addr) (n c B q : Nat) (t : Int) (l : List Sx) (w : World) (h : Rs enc3 3 w B A n c l) (hB : B ≤ w.heap.size) (hc : w.cell? ⟨q, 0, none⟩ = some (.int .i64 t)) :
    Calls Tryz.prog 41 #[.slice A n c, .func (.func 53) #[] #[.pointer (some ⟨q, 0, none⟩)]] w fun e w' => e = .returned (.int .i64 (ixZ (hit t) l)) ∧ Below w.heap.size w w' :=
  index_any 53 #[.pointer (some ⟨q, 0, none⟩)] (hit t) A n c B l w h hB (fun args w => by simp [go_sem]) (fun a b c W hb => isof_any a b c t q W ((hb.cell (p := ⟨q, 0, none⟩) (Lw.lt_heap hc)).trans hc))

set_option maxHeartbeats 1000000 in
/-- Clone of slots: the same in memory of its own. -/
theorem sclone_any (A : Option Addr) (n c : Nat) (xs : List Sx) (B : Nat) (w : World) (h : Rs enc3 3 w B A n c xs) (hB : B ≤ w.heap.size) (hreach : n * 24 ≤ 140737488355328) :
    Calls Tryz.prog 26 #[.slice A n c] w fun e w' => ∃ A' c', e = .returned (.slice A' n c') ∧ w'.ownsRow w.heap.size 43 3 (.slice A' n c') n (flat enc3 xs) ∧ Below w.heap.size w w' := by
  have hn : n ≤ 9223372036854775807 := by have := h.cap; have := h.top; omega
  obtain ⟨i0, hi, hz0, hz1, hz2⟩ := info_parts info_slot
  cases A with
  | none =>
    have h0 : n = 0 := by
      rcases Nat.eq_zero_or_pos n with h0 | h0
      · exact h0
      · obtain ⟨b, o, e, _⟩ := h.at_ h0
        cases e
    subst h0
    obtain rfl := List.eq_nil_of_length_eq_zero h.len
    clear h
    have hk := @Lib.run_eql_slice_nil Tryz.prog
    go_enter Tryz.func26, Tryz.ntmps26
    go_wp2
    go_ret
    exact ⟨_, _, rfl, World.ownsRow_nil _ _ _ _, Below.refl _ _⟩
  | some a =>
    have HR := Lib.hid h
    clear h
    have hk := @Lib.run_eql_slice_nil Tryz.prog
    go_enter Tryz.func26, Tryz.ntmps26
    go_wp2_with (at_builtin; refine append_rs enc3_len rfl _ _ 50 rfl w.heap.size 43 i0 _ 24 Tryz.underlying50 hi hz0 hz1 hz2 rfl (by omega) _ 0 [] rfl (World.ownsRow_lit _ #[] 0 (Nat.le_refl _) (by decide) rfl) B (some a) n c xs rfl (HR.out.alloc hB _) enc3_one n (Nat.zero_add _) (flat enc3 xs) rfl ?_ ?_ ?_ ?_)
    · unfold maxLen; omega
    · omega
    · simp
    · intro A' c' w' hown hg hat
      go_wp2
      go_ret
      refine ⟨A', c', rfl, hown, ((Below.refl _ _).alloc (Nat.le_refl _) _).grown hg (by simp) (fun k hk => ?_)⟩
      simp [Value.ownBlock] at hk
      omega
end Go.Proofs.YtbedboekfkobjaaGreatDoor.St
