/- What wakes layer 9. -/
import Derived.Test.YtmnjdmcocifogaaGreatDoorHistB
import Derived.Test.YtmnjdmcocifogaaGreatDoorPicksRef
namespace Go.Proofs.YtmnjdmcocifogaaGreatDoor.Hi
open Go.ChangeShapes Go.WideShapes Go.ChangeAt Go.RowKit Rw Tx
set_option linter.unusedVariables false

theorem txt_first : txt ⟨1, 2, 0, 0, 0, 0⟩ = { data := #[49, 32, 50, 32, 99, 97, 108, 108, 32, 103, 101, 116, 32, 48, 32, 48] } := by decide +kernel
theorem first_ok : (⟨1, 2, 0, 0, 0, 0⟩ : Ev).ok := by constructor <;> simp [U64, I64]
theorem six_at {w : World} {B : Nat} {A : Option Addr} {n c k : Nat} {l : List Ev} (h : Rs encE 6 w B A n c l) (hk : k < n) : ∃ b o e, A = some ⟨b, o, none⟩ ∧ b < B ∧ l[k]? = some e ∧
    w.cell? ⟨b, o + k * 6, none⟩ = some (.int .u64 e.step) ∧ w.cell? ⟨b, o + k * 6 + 1, none⟩ = some (.int .i64 e.thread) ∧ w.cell? ⟨b, o + k * 6 + 2, none⟩ = some (.int .i64 e.kind) ∧
    w.cell? ⟨b, o + k * 6 + 3, none⟩ = some (.int .i64 e.op) ∧ w.cell? ⟨b, o + k * 6 + 4, none⟩ = some (.int .u64 e.id) ∧ w.cell? ⟨b, o + k * 6 + 5, none⟩ = some (.int .i64 e.err) := by
  obtain ⟨b, o, e, h1, h2, h3, hc⟩ := h.get hk
  exact ⟨b, o, e, h1, h2, h3, hc 0 _ (by omega) rfl, hc 1 _ (by omega) rfl, hc 2 _ (by omega) rfl, hc 3 _ (by omega) rfl, hc 4 _ (by omega) rfl, hc 5 _ (by omega) rfl⟩
set_option maxHeartbeats 1000000 in
set_option maxRecDepth 100000 in
theorem awake9_any (w : World) (hT : Tab w) :
    Calls Tryz.prog 8 #[] w fun e w' => e = .returned (.bool true) ∧ Below w.heap.size w w' := by
  have HT := Lib.hid hT
  clear hT
  go_enter Tryz.func8, Tryz.ntmps8
  go_wp2_with fail
  refine (new_any _ w.heap.size (Nat.le_refl _)).mono ?_
  rintro e w1 ⟨p, rfl, h1, hp1, hb1⟩
  go_wp2_with fail
  refine (advance_any _ _ _ _ _ _ h1 (by omega)).mono ?_
  rintro e w2 ⟨rfl, h2, hf2⟩
  have b2 : Below w.heap.size w w2 := hb1.trans (hf2.below hb1.size (fun k hk => by cases hk; omega) (fun k hk => by cases hk))
  clear h1 hb1 hf2
  go_wp2_with fail
  refine (add_any _ _ _ _ _ _ 2 0 0 0 0 h2 (by simp)).mono ?_
  rintro e w3 ⟨rfl, r3, h3, hf3, hr3⟩
  have b3 : Below w.heap.size w w3 := b2.trans (hf3.below b2.size (fun k hk => by cases hk; omega) (fun k hk => by cases hk))
  clear h2 b2 hf3 hr3
  go_wp2_with fail
  refine (all_any _ _ _ _ _ _ h3 (by simp)).mono ?_
  rintro e w4 ⟨A, c, rfl, ho, hb4⟩
  have b4 : Below w.heap.size w w4 := b3.trans (hb4.mono b3.size)
  have hr : Rs encE 6 w4 w4.heap.size A 1 c [⟨1, 2, 0, 0, 0, 0⟩] := Rs.own_rs encE_len rfl ho
  have HR := Lib.hid hr
  clear h3 b3 ho hb4 hr
  simp only [List.nil_append, List.length_cons, List.length_nil, Nat.zero_add]
  go_wp2_with fail
  refine (Pi.Awake8_any _).mono ?_
  rintro e w5 ⟨rfl, hb5⟩
  obtain ⟨b, o, e, rfl, hlt, hx, c0, c1, c2, c3, c4, c5⟩ := six_at (HR.out.later hb5) (k := 0) (by omega)
  obtain rfl : (⟨1, 2, 0, 0, 0, 0⟩ : Ev) = e := by simpa using hx
  have b5 : Below w.heap.size w w5 := b4.trans (hb5.mono b4.size)
  have HB := Lib.hid b5
  clear b4 hb5 b5 hx HR
  simp only [Nat.zero_mul, Nat.add_zero] at c0 c1 c2 c3 c4 c5
  go_wp2_with fail
  refine (text_any ⟨1, 2, 0, 0, 0, 0⟩ first_ok _ (HT.out.below HB.out)).mono ?_
  rintro e w6 ⟨rfl, hb6⟩
  rw [txt_first]
  go_wp2_with fail
  go_ret
  exact ⟨rfl, HB.out.trans (hb6.mono HB.out.size)⟩
theorem Awake9_any (w : World) (hT : Tab w) :
    Calls Tryz.prog 48 #[] w fun e w' => e = .returned (.bool true) ∧ Below w.heap.size w w' := by
  go_enter Tryz.func48, Tryz.ntmps48
  go_wp2_with fail
  refine (awake9_any _ hT).mono ?_
  rintro e w' ⟨rfl, hb⟩
  go_wp2_with fail
  go_ret
  exact ⟨rfl, hb⟩
end Go.Proofs.YtmnjdmcocifogaaGreatDoor.Hi
