/- What wakes layer 12; contracts of local at any number. -/
import Derived.Test.YtbedboekfkobjaaGreatDoorLocal
import Derived.Test.YtbedboekfkobjaaGreatDoorAwake11
namespace Go.Proofs.YtbedboekfkobjaaGreatDoor.Lc
open Go.ChangeShapes Go.WideShapes Go.ChangeAt Go.RowKit Rw Hi Sl
set_option linter.unusedVariables false

theorem put_t (X : Nat → Prop) (w : World) (B p i : Nat) (t : Int) (ht : t = i) (L : Nat → List Int) (A : Option Addr) (n c : Nat) (ids : List Int) (hX : ∀ g, X g → g < w.heap.size) (h : Lo X w B p L) (hi : i < 8) (hr : Rd (Value.int .u64) w w.heap.size A n c ids) (hn : n ≤ 1000) :
    Calls Tryz.prog 33 #[.pointer (some ⟨p, 0, none⟩), .int .i64 t, .slice A n c] w fun e w' => e = .returned (.int .i64 0) ∧ Lo X w' B p (upd L i (last4 (L i ++ ids))) ∧ Fr (some p) none w w' := by
  subst ht; exact put_in X w B p i L A n c ids hX h hi hr hn
theorem take_empty_t (X : Nat → Prop) (w : World) (B p i : Nat) (t : Int) (ht : t = i) (L : Nat → List Int) (h : Lo X w B p L) (hi : i < 8) (he : L i = []) :
    Calls Tryz.prog 34 #[.pointer (some ⟨p, 0, none⟩), .int .i64 t] w fun e w' => e = .returned (.tuple #[.int .u64 0, .bool false]) ∧ w = w' := by
  subst ht; exact take_empty X w B p i L h hi he
theorem take_some_t (X : Nat → Prop) (w : World) (B p i : Nat) (t : Int) (ht : t = i) (L : Nat → List Int) (xs : List Int) (x : Int) (h : Lo X w B p L) (hi : i < 8) (he : L i = xs ++ [x]) :
    Calls Tryz.prog 34 #[.pointer (some ⟨p, 0, none⟩), .int .i64 t] w fun e w' => e = .returned (.tuple #[.int .u64 x, .bool true]) ∧ Lo X w' B p (upd L i xs) ∧ Fr (some p) none w w' := by
  subst ht; exact take_some X w B p i L xs x h hi he
theorem all_t (X : Nat → Prop) (w : World) (B p i : Nat) (t : Int) (ht : t = i) (L : Nat → List Int) (n : Nat) (hn : (L i).length = n) (h : Lo X w B p L) (hi : i < 8) :
    Calls Tryz.prog 38 #[.pointer (some ⟨p, 0, none⟩), .int .i64 t] w fun e w' => ∃ A c, e = .returned (.slice A n c) ∧ Rd (Value.int .u64) w' w'.heap.size A n c (L i) ∧ (∀ g, (Value.slice A n c).ownBlock = some g → w.heap.size ≤ g) ∧ Below w.heap.size w w' := by
  subst ht hn; exact all_in X w B p i L h hi
theorem fr_bel {w w' : World} {B p : Nat} (h : Fr (some p) none w w') (hB : B ≤ w.heap.size) (hp : B ≤ p) : Below B w w' := h.below hB (fun k hk => by injection hk with hk; omega) (fun k hk => by cases hk)
/-- A slice of numbers, just built. -/
theorem rd_lit (w : World) (cs : Array Value) (xs : List Int) (h : cs.toList = xs.map (Value.int .u64)) (n : Nat) (hl : xs.length = n) (hn : n ≤ 1000) : Rd (Value.int .u64) (w.alloc (.cells cs 27)) (w.alloc (.cells cs 27)).heap.size (some ⟨w.heap.size, 0, none⟩) n n xs := by
  subst hl
  have h1 := World.ownsRow_lit (base := w.heap.size) (e := 27) (size := 1) w cs xs.length (Nat.le_refl _) (by unfold maxLen; omega) (by rw [← Array.length_toList, h]; simp)
  rw [h] at h1
  exact Rd.own_rd h1
set_option maxHeartbeats 1000000 in
set_option maxRecDepth 100000 in
theorem awake12_any (w : World) (hT : Tx.Tab w) :
    Calls Tryz.prog 29 #[] w fun e w' => e = .returned (.bool true) ∧ Below w.heap.size w w' := by
  have HT := Lib.hid hT
  clear hT
  go_enter Tryz.func29, Tryz.ntmps29
  go_wp2_with fail
  refine (new_any (fun _ => False) _ w.heap.size (Nat.le_refl _) (fun g hg => hg.elim)).mono ?_
  rintro e w1 ⟨p, rfl, h1, hp1, hb1⟩
  have hs1 := hb1.size
  go_wp2_with fail
  refine (put_t (fun _ => False) _ _ _ 1 1 rfl _ _ 5 5 [5, 6, 7, 8, 9] (fun g hg => hg.elim) (h1.later ((Below.refl _ _).alloc (Nat.le_refl _) _)) (by omega) (rd_lit w1 _ _ rfl 5 rfl (by omega)) (by omega)).mono ?_
  rintro e w2 ⟨rfl, h2, hf2⟩
  have b2 : Below w.heap.size w w2 := (hb1.alloc hs1 _).trans (fr_bel hf2 (by simp; omega) hp1)
  have H2 := Lib.hid h2
  have B2 := Lib.hid b2
  clear h1 h2 b2 hb1 hf2
  go_wp2_with fail
  refine (all_t _ _ _ _ 1 1 rfl _ 4 rfl H2.out (by omega)).mono ?_
  rintro e w3 ⟨A3, c3, rfl, hr3, hx3, hb3⟩
  have hp2 := H2.out.lt
  have H3 := Lib.hid (H2.out.later hb3)
  have R3 := Lib.hid hr3
  have B3 := Lib.hid (B2.out.trans (hb3.mono B2.out.size))
  clear hr3 hb3 H2 B2
  go_wp2_with fail
  refine (take_some_t _ _ _ _ 1 1 rfl _ [6, 7, 8] 9 H3.out (by omega) rfl).mono ?_
  rintro e w4 ⟨rfl, h4, hf4⟩
  have R4 := Lib.hid (show Rd (Value.int .u64) w4 w4.heap.size A3 4 c3 [6, 7, 8, 9] from rd_fr R3.out hf4 (fun g hg e => by have := hx3 g hg; omega))
  have B4 := Lib.hid (B3.out.trans (fr_bel hf4 B3.out.size h4.lo))
  have hs4 := B4.out.size
  clear h4 hf4 H3 R3 B3 hx3
  go_wp2_with fail
  refine (St.Awake11_any _ (HT.out.below B4.out)).mono ?_
  rintro e w5 ⟨rfl, hb5⟩
  have R5 := Lib.hid (R4.out.later hb5)
  have B5 := Lib.hid (B4.out.trans (hb5.mono hs4))
  have hs5 := B5.out.size
  clear hb5 R4 B4
  go_wp2_with fail
  refine (equal_any A3 (some ⟨w5.heap.size, 0, none⟩) 4 c3 4 4 [6, 7, 8, 9] [6, 7, 8, 9] _ _ _ (R5.out.alloc (Nat.le_refl _) _) (rd_lit w5 _ _ rfl 4 rfl (by omega))).mono ?_
  rintro e w6 ⟨rfl, q, rfl⟩
  rw [decide_eq_true rfl]
  go_wp2_with fail
  go_ret
  exact ⟨rfl, below_drewN (B5.out.alloc hs5 _) q⟩
end Go.Proofs.YtbedboekfkobjaaGreatDoor.Lc
