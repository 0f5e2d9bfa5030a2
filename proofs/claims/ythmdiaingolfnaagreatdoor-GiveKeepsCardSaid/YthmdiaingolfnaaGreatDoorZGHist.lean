/- A part of the claim: the texts HistCount HistAdd. -/
import Derived.Test.YthmdiaingolfnaaGreatDoorZBase3
import Derived.RegionTactic
namespace Go.Proofs.YthmdiaingolfnaaGreatDoor.Hi
open Go.ChangeShapes Go.WideShapes Go.ChangeAt Go.RowKit Rw Tx
set_option linter.unusedVariables false
theorem info_rev : (Tryz.prog.info? 219).map (fun i => (i.zero, i.size, i.bytes)) = some (some (.agg #[.int .u64 0, .int .i64 0, .int .i64 0, .int .i64 0, .int .u64 0, .int .i64 0]), 6, 48) := by kernel_rfl
def dl (t : Int) (e : Ev) : Int := if e.thread = t then (if e.kind = 0 then 1 else if e.kind = 2 then -1 else 0) else 0
def cnt (l : List Ev) (t : Int) : Int := (l.map (dl t)).sum
end Go.Proofs.YthmdiaingolfnaaGreatDoor.Hi
namespace Go.Proofs.YthmdiaingolfnaaGreatDoor.Hi
open Go.ChangeShapes Go.WideShapes Go.ChangeAt Go.RowKit Rw Tx
set_option linter.unusedVariables false
def V2 (w : World) (g : Nat) (a b : Value) : Prop := (w.cell? ⟨g, 0, none⟩ = some a ∧ w.cell? ⟨g, 1, none⟩ = some b) ∧ w.frozen? ⟨g, 0, none⟩ = false ∧ w.frozen? ⟨g, 1, none⟩ = false
theorem V2.below {w w' : World} {g B : Nat} {a b : Value} (h : V2 w g a b) (hb : Below B w w') (hg : g < B) : V2 w' g a b :=
  ⟨⟨(hb.cell (p := ⟨g, 0, none⟩) hg).trans h.1.1, (hb.cell (p := ⟨g, 1, none⟩) hg).trans h.1.2⟩, (hb.frozen (p := ⟨g, 0, none⟩) hg).trans h.2.1, (hb.frozen (p := ⟨g, 1, none⟩) hg).trans h.2.2⟩
theorem V2.new (w : World) (a b : Value) (t : TypeId) : V2 (w.alloc (.cells #[a, b] t)) w.heap.size a b := by
  refine ⟨⟨?_, ?_⟩, ?_, ?_⟩ <;> simp
set_option maxRecDepth 100000 in
set_option maxHeartbeats 4000000 in
theorem radd_any (A : Option Addr) (n c : Nat) (l : List Ev) (s th ki op id er : Int) (w : World) (h : Rs encE 6 w w.heap.size A n c l) (hn : n ≤ 1000) :
    Calls Tryz.prog 90 #[.agg #[.int .u64 s, .slice A n c], .int .i64 th, .int .i64 ki, .int .i64 op, .int .u64 id, .int .i64 er] w fun e w' => ∃ A' c', e = .returned (.agg #[.int .u64 s, .slice A' (n + 1) c']) ∧
      w'.ownsRow w.heap.size 219 6 (.slice A' (n + 1) c') (n + 1) (flat encE (l ++ [⟨s, th, ki, op, id, er⟩])) ∧ Below w.heap.size w w' := by
  obtain ⟨i0, hi, hz0, hz1, hz2⟩ := info_parts info_rev
  have hb1 : Below w.heap.size w (w.alloc (.cells #[.int .u64 s, .slice A n c] 67)) := (Below.refl _ _).alloc (Nat.le_refl _) _
  have hba : Below w.heap.size w ((w.alloc (.cells #[.int .u64 s, .slice A n c] 67)).alloc (.cells #[.int .u64 0, .slice none 0 0] 67)) := hb1.alloc (by simp) _
  have hvf : V2 ((w.alloc (.cells #[.int .u64 s, .slice A n c] 67)).alloc (.cells #[.int .u64 0, .slice none 0 0] 67)) w.heap.size (.int .u64 s) (.slice A n c) := (V2.new w _ _ _).below ((Below.refl (w.heap.size + 1) _).alloc (by simp) _) (by omega)
  have hvr : V2 ((w.alloc (.cells #[.int .u64 s, .slice A n c] 67)).alloc (.cells #[.int .u64 0, .slice none 0 0] 67)) (w.heap.size + 1) (.int .u64 0) (.slice none 0 0) := by have := V2.new (w.alloc (.cells #[.int .u64 s, .slice A n c] 67)) (.int .u64 0) (.slice none 0 0) 67; rw [show (w.alloc (.cells #[.int .u64 s, .slice A n c] 67)).heap.size = w.heap.size + 1 by simp] at this; exact this
  have hsz : ((w.alloc (.cells #[.int .u64 s, .slice A n c] 67)).alloc (.cells #[.int .u64 0, .slice none 0 0] 67)).heap.size = w.heap.size + 2 := by simp
  have hrs := h.later hba
  have hlen : l.length = n := h.len
  have HRS := Lib.hid hrs
  have HVF := Lib.hid hvf
  have HVR := Lib.hid hvr
  have HBA := Lib.hid hba
  have HSZ := Lib.hid hsz
  have HLEN := Lib.hid hlen
  clear h hb1 hba hvf hvr hsz hrs hlen
  go_enter Tryz.func90, Tryz.ntmps90
  go_wp2_with (
    at_builtin
    refine append_rs encE_len rfl _ _ 65 rfl (w.heap.size + 2) 219 i0 _ 48 Tryz.underlying65 hi hz0 hz1 hz2 rfl (by decide) _ 0 [] rfl (World.ownsRow_nil _ _ _ _) _ A n c l rfl HRS.out encE_one n (Nat.zero_add _) (flat encE l) rfl (by unfold maxLen; omega) (by omega) (by simp) ?_
    intro A5 c5 w5 ho5 hg5 ha5
    refine Hid.out ?_)
  refine Lib.hid ?_
  have b5 : Below (w.heap.size + 2) ((w.alloc (.cells #[.int .u64 s, .slice A n c] 67)).alloc (.cells #[.int .u64 0, .slice none 0 0] 67)) w5 := (Below.refl _ _).grown hg5 (by rw [HSZ.out]; omega) (fun j hj => by cases hj)
  obtain ⟨⟨f0, f1⟩, g0, g1⟩ := HVF.out.below b5 (by omega)
  obtain ⟨⟨r0, r1⟩, e0, e1⟩ := HVR.out.below b5 (by omega)
  have HB5 := Lib.hid (HBA.out.trans (b5.mono (by omega)))
  have hs5 : w.heap.size + 2 ≤ w5.heap.size := by have := b5.size; have := HSZ.out; omega
  have HO5 := Lib.hid ho5
  have hrs1 : Rs encE 6 (w5.alloc (.cells #[.int .u64 s, .int .i64 th, .int .i64 ki, .int .i64 op, .int .u64 id, .int .i64 er] 219)) (w5.heap.size + 1) (some ⟨w5.heap.size, 0, none⟩) 1 1 [(⟨s, th, ki, op, id, er⟩ : Ev)] := rs_one encE_len w5 (⟨s, th, ki, op, id, er⟩ : Ev) 219 (cs := #[.int .u64 s, .int .i64 th, .int .i64 ki, .int .i64 op, .int .u64 id, .int .i64 er]) rfl
  have HRS1 := Lib.hid hrs1
  clear b5 HVF HVR HBA HSZ ho5 hg5 ha5 HRS hrs1
  go_wp2_with (
    at_builtin
    refine append_rs encE_len rfl _ _ 65 rfl (w.heap.size + 2) 219 i0 _ 48 Tryz.underlying65 hi hz0 hz1 hz2 rfl (by decide) _ n _ rfl (HO5.out.alloc _) _ _ 1 1 [(⟨s, th, ki, op, id, er⟩ : Ev)] rfl HRS1.out encE_one (n + 1) rfl (flat encE (l ++ [⟨s, th, ki, op, id, er⟩])) (flat_append _ _).symm (by unfold maxLen; omega) (by omega) (by simp; omega) ?_
    intro A6 c6 w6 ho6 hg6 ha6
    refine Hid.out ?_)
  refine Lib.hid ?_
  have b56 : Below (w.heap.size + 2) w5 w6 := ((Below.refl _ _).alloc (by omega) _).grown hg6 (by simp; omega) (fun j hj => (HO5.out.lt j hj).1)
  have f06 := (b56.cell (p := ⟨w.heap.size, 0, none⟩) (by simp)).trans f0
  have f16 := (b56.cell (p := ⟨w.heap.size, 1, none⟩) (by simp)).trans f1
  have g06 := (b56.frozen (p := ⟨w.heap.size, 0, none⟩) (by simp)).trans g0
  have g16 := (b56.frozen (p := ⟨w.heap.size, 1, none⟩) (by simp)).trans g1
  have r06 := (b56.cell (p := ⟨w.heap.size + 1, 0, none⟩) (by simp)).trans r0
  have r16 := (b56.cell (p := ⟨w.heap.size + 1, 1, none⟩) (by simp)).trans r1
  have e06 := (b56.frozen (p := ⟨w.heap.size + 1, 0, none⟩) (by simp)).trans e0
  have e16 := (b56.frozen (p := ⟨w.heap.size + 1, 1, none⟩) (by simp)).trans e1
  have HB6 := Lib.hid (HB5.out.trans (b56.mono (by omega)))
  have hs6 : w.heap.size + 2 ≤ w6.heap.size := by have := b56.size; omega
  have HO6 := Lib.hid ho6
  clear f0 f1 g0 g1 r0 r1 e0 e1 b56 HB5 ho6 hg6 ha6 HO5 hs5 HRS1
  go_wp2_with fail
  have hfin : Below w.heap.size w (((w6.setCell ⟨w.heap.size, 1, none⟩ (.slice A6 (n + 1) c6)).setCell ⟨w.heap.size + 1, 0, none⟩ (.int .u64 s)).setCell ⟨w.heap.size + 1, 1, none⟩ (.slice A6 (n + 1) c6)) := by
    repeat' (first | exact HB6.out | apply Below.setCell)
    all_goals (first | (simp; done) | (simp; omega))
  have ho7 := own_same HO6.out (w' := (((w6.setCell ⟨w.heap.size, 1, none⟩ (.slice A6 (n + 1) c6)).setCell ⟨w.heap.size + 1, 0, none⟩ (.int .u64 s)).setCell ⟨w.heap.size + 1, 1, none⟩ (.slice A6 (n + 1) c6))) (fun g hg => by
    have hl := (HO6.out.lt g hg).1
    rw [heap_setCell_other _ _ g _ (by simp; omega), heap_setCell_other _ _ g _ (by simp; omega), heap_setCell_other _ _ g _ (by simp; omega)])
  have hrow := own_mono ho7 (base' := w.heap.size) (by omega)
  have ROW := Lib.hid hrow
  have FIN := Lib.hid hfin
  clear hrow hfin ho7
  exact bodyPost_ret (v := .agg #[.int .u64 s, .slice A6 (n + 1) c6]) (by simp [results, Tryz.results90, go_sem, *]) rfl ⟨A6, c6, rfl, ROW.out, FIN.out⟩
end Go.Proofs.YthmdiaingolfnaaGreatDoor.Hi
