/- The document's answer of layer 8, what wakes it, and PicksNone. -/
import Derived.Test.YthamnebbecmegaaPicksSome
import Derived.Test.YthamnebbecmegaaGuardB
import Derived.RegionTactic
namespace Go.Proofs.Ythamnebbecmegaa.Pi
open Go.ChangeShapes Go.WideShapes Go.ChangeAt Go.RowKit Rw
set_option linter.unusedVariables false

set_option maxRecDepth 100000 in
theorem rnext_none (A : Option Addr) (c : Nat) (t n : Int) (hn : 1 ≤ n) (hn' : n ≤ 9223372036854775807) (ht : 0 ≤ t) (ht' : t < 9223372036854775807) (w : World) :
    Calls Try.prog 55 #[.agg #[.slice A 0 c, .int .i64 t], .int .i64 n] w fun e w' => e = .returned (.tuple #[.agg #[.slice none 0 0, .int .i64 (t + 1)], .int .i64 (t % n)]) ∧ Below w.heap.size w w' := by
  have hz : (n == 0) = false := by simp; omega
  have hm : (n == -1) = false := by simp; omega
  go_enter Try.func55, Try.ntmps55
  go_wp2_with fail
  go_region
  go_wp2_with fail
  refine bodyPost_ret (v := .tuple #[.agg #[.slice none 0 0, .int .i64 (t + 1)], .int .i64 (t % n)]) (by simp [results, Try.results55, go_sem]) rfl ⟨rfl, ?_⟩
  repeat' (first | exact Below.refl _ _ | apply Below.alloc | apply Below.setCell | apply Below.drew)
  all_goals (first | omega | (simp; done) | (simp; omega))
set_option maxRecDepth 100000 in
theorem rnext_some (A : Option Addr) (m c B : Nat) (x : Int) (l : List Int) (t n : Int) (hn : 1 ≤ n) (hn' : n ≤ 9223372036854775807) (ht : 0 ≤ t) (ht' : t < 9223372036854775807) (w : World) (h : Rd (Value.int .i64) w B A m c (x :: l)) (hB : B ≤ w.heap.size) (hx : Ok x) :
    Calls Try.prog 55 #[.agg #[.slice A m c, .int .i64 t], .int .i64 n] w fun e w' => ∃ A' m' c', e = .returned (.tuple #[.agg #[.slice A' m' c', .int .i64 t], .int .i64 (x % n)]) ∧ Rd (Value.int .i64) w' B A' m' c' l ∧ Below w.heap.size w w' := by
  have hl : (x :: l).length = m := h.len
  simp at hl
  have hnc := h.cap
  have htop := h.top
  obtain ⟨b, o, y, rfl, hb, hy, hcx⟩ := h.get (k := 0) (by omega)
  obtain rfl : x = y := by simpa using hy
  simp only [Nat.add_zero] at hcx
  have hp : decide ((m : Int) = 0) = false := decide_eq_false (by omega)
  have hp' : (m == 0) = false := by simp; omega
  have hp2 : ((m : Int) == 0) = false := by simp; omega
  have hz : (n == 0) = false := by simp; omega
  have hm : (n == -1) = false := by simp; omega
  have hn1 : 1 ≤ m := by omega
  have HR := Lib.hid h
  have HL := Lib.hid hl
  clear h hy hl
  have hcy := alloc_cell (alloc_cell hcx (.cells #[.slice (some ⟨b, o, none⟩) m c, .int .i64 t] 88)) (.cells #[.slice none 0 0, .int .i64 0] 88)
  have h1 := Int.emod_nonneg x (b := n) (by omega)
  have h2 := Int.emod_lt_of_pos x (b := n) (by omega)
  rcases emod_tmod x n hn with ⟨h, e⟩ | ⟨h, e⟩
  · have hd : decide (x.tmod n < 0) = false := decide_eq_false (by omega)
    have he : x % n = x.tmod n := e
    rw [he] at h1 h2 ⊢
    clear he e h
    by_cases hc1 : c = 1
    · subst hc1
      obtain rfl : m = 1 := by omega
      have HR2 : Hid (∀ w', Below w.heap.size w w' → Rd (Value.int .i64) w' B (some ⟨b, o, none⟩) 0 0 l) := Lib.hid (fun w' hb' => (HR.out.back (i := 1) (A' := some ⟨b, o, none⟩) (by omega) rfl (by omega)).keep fun p hp => hb'.cell (by omega))
      go_enter Try.func55, Try.ntmps55
      go_wp2_with fail
      go_region
      go_wp2_with fail
      refine bodyPost_ret (v := .tuple #[.agg #[.slice (some ⟨b, o, none⟩) 0 0, .int .i64 t], .int .i64 (x.tmod n)]) (by simp [results, Try.results55, go_sem]) rfl ⟨_, _, _, rfl, ?_, ?_⟩
      · refine HR2.out _ ?_
        repeat' (first | exact Below.refl _ _ | apply Below.alloc | apply Below.setCell | apply Below.drew)
        all_goals (first | omega | (simp; done) | (simp; omega))
      · repeat' (first | exact Below.refl _ _ | apply Below.alloc | apply Below.setCell | apply Below.drew)
        all_goals (first | omega | (simp; done) | (simp; omega))
    · have hc2 : 1 < c := by omega
      have HR2 : Hid (∀ w', Below w.heap.size w w' → Rd (Value.int .i64) w' B (some ⟨b, o + 1, none⟩) (m - 1) (c - 1) l) := Lib.hid (fun w' hb' => (HR.out.back (i := 1) (A' := some ⟨b, o + 1, none⟩) (by omega) rfl (fun _ => rfl)).keep fun p hp => hb'.cell (by omega))
      go_enter Try.func55, Try.ntmps55
      go_wp2_with fail
      go_region
      go_wp2_with fail
      refine bodyPost_ret (v := .tuple #[.agg #[.slice (some ⟨b, o + 1, none⟩) (m - 1) (c - 1), .int .i64 t], .int .i64 (x.tmod n)]) (by simp [results, Try.results55, go_sem]) rfl ⟨_, _, _, rfl, ?_, ?_⟩
      · refine HR2.out _ ?_
        repeat' (first | exact Below.refl _ _ | apply Below.alloc | apply Below.setCell | apply Below.drew)
        all_goals (first | omega | (simp; done) | (simp; omega))
      · repeat' (first | exact Below.refl _ _ | apply Below.alloc | apply Below.setCell | apply Below.drew)
        all_goals (first | omega | (simp; done) | (simp; omega))
  · have hd : decide (x.tmod n < 0) = true := decide_eq_true (by omega)
    have he : x % n = x.tmod n + n := e
    rw [he] at h1 h2 ⊢
    clear he e h
    by_cases hc1 : c = 1
    · subst hc1
      obtain rfl : m = 1 := by omega
      have HR2 : Hid (∀ w', Below w.heap.size w w' → Rd (Value.int .i64) w' B (some ⟨b, o, none⟩) 0 0 l) := Lib.hid (fun w' hb' => (HR.out.back (i := 1) (A' := some ⟨b, o, none⟩) (by omega) rfl (by omega)).keep fun p hp => hb'.cell (by omega))
      go_enter Try.func55, Try.ntmps55
      go_wp2_with fail
      go_region
      go_wp2_with fail
      refine bodyPost_ret (v := .tuple #[.agg #[.slice (some ⟨b, o, none⟩) 0 0, .int .i64 t], .int .i64 (x.tmod n + n)]) (by simp [results, Try.results55, go_sem]) rfl ⟨_, _, _, rfl, ?_, ?_⟩
      · refine HR2.out _ ?_
        repeat' (first | exact Below.refl _ _ | apply Below.alloc | apply Below.setCell | apply Below.drew)
        all_goals (first | omega | (simp; done) | (simp; omega))
      · repeat' (first | exact Below.refl _ _ | apply Below.alloc | apply Below.setCell | apply Below.drew)
        all_goals (first | omega | (simp; done) | (simp; omega))
    · have hc2 : 1 < c := by omega
      have HR2 : Hid (∀ w', Below w.heap.size w w' → Rd (Value.int .i64) w' B (some ⟨b, o + 1, none⟩) (m - 1) (c - 1) l) := Lib.hid (fun w' hb' => (HR.out.back (i := 1) (A' := some ⟨b, o + 1, none⟩) (by omega) rfl (fun _ => rfl)).keep fun p hp => hb'.cell (by omega))
      go_enter Try.func55, Try.ntmps55
      go_wp2_with fail
      go_region
      go_wp2_with fail
      refine bodyPost_ret (v := .tuple #[.agg #[.slice (some ⟨b, o + 1, none⟩) (m - 1) (c - 1), .int .i64 t], .int .i64 (x.tmod n + n)]) (by simp [results, Try.results55, go_sem]) rfl ⟨_, _, _, rfl, ?_, ?_⟩
      · refine HR2.out _ ?_
        repeat' (first | exact Below.refl _ _ | apply Below.alloc | apply Below.setCell | apply Below.drew)
        all_goals (first | omega | (simp; done) | (simp; omega))
      · repeat' (first | exact Below.refl _ _ | apply Below.alloc | apply Below.setCell | apply Below.drew)
        all_goals (first | omega | (simp; done) | (simp; omega))
theorem rd_lit {w : World} {xs : List Int} {n : Nat} (hn : xs.length = n) (hs : n ≤ 9223372036854775807) (t : TypeId) {cs : Array Value} (hc : cs = (xs.map (Value.int .i64)).toArray) : Rd (Value.int .i64) (w.alloc (.cells cs t)) (w.heap.size + 1) (some ⟨w.heap.size, 0, none⟩) n n xs := by
  subst hc
  refine ⟨hn, Nat.le_refl _, hs, fun _ => ⟨w.heap.size, 0, rfl, by omega, fun j x hx => ?_⟩⟩
  simp [hx]
theorem grown_below {w w' : World} {B g : Nat} (hg : w.grownBy w' (some g)) (hB : B ≤ w.heap.size) (hgB : B ≤ g) : Below B w w' := (Below.refl B w).grown hg hB (fun j hj => by cases hj; exact hgB)
theorem equal_true (A A' : Option Addr) (n c m c' : Nat) (ys zs : List Int) (B B' : Nat) (w : World) (h : Rd (Value.int .i64) w B A n c ys) (h' : Rd (Value.int .i64) w B' A' m c' zs) (he : ys = zs) :
    Calls Try.prog 57 #[.slice A n c, .slice A' m c'] w fun e w' => e = .returned (.bool true) ∧ Below w.heap.size w w' :=
  (Si.equal_any A A' n c m c' ys zs B B' w h h').mono fun e w' ⟨h1, q, h2⟩ => ⟨by rw [h1, decide_eq_true he], h2 ▸ below_drewN (Below.refl _ _) q⟩
set_option maxRecDepth 100000 in
theorem awake8_any (w : World) :
    Calls Try.prog 51 #[] w fun e w' => e = .returned (.bool true) ∧ Below w.heap.size w w' := by
  go_enter Try.func51, Try.ntmps51
  go_wp2_with fail
  refine (Gd.Awake7_any _).mono ?_
  rintro e w1 ⟨rfl, hb1⟩
  go_wp2_with fail
  refine (new_any _ 2 2 [7, -1] _ _ (rd_lit (xs := [7, -1]) rfl (by simp) _ rfl) (by simp) (by intro x hx; unfold Ok; simp at hx; omega) (by omega)).mono ?_
  rintro e w2 ⟨g, rfl, hp2, hg2, hb2⟩
  have b2 : Below w.heap.size w w2 := (hb1.alloc hb1.size _).trans (hb2.mono (by have := hb1.size; simp; omega))
  have hs2 := hb2.size
  have hwg : w.heap.size ≤ g := by have := hb1.size; simp at hg2; omega
  clear hb1 hb2 hg2 hs2
  go_wp2_with fail
  refine (some_any g [7, -1] 0 3 6 (by omega) (by omega) (by omega) _ hp2 (by omega) (by omega)).mono ?_
  rintro e w3 ⟨A3, c3, rfl, hrow3, hp3, hg3⟩
  have e3 : outs [7, -1] 0 3 6 = [1, 2, 0, 1, 2, 0] := by decide
  rw [e3] at hrow3
  have b3 : Below w.heap.size w w3 := b2.grown hg3 b2.size (fun j hj => by cases hj; exact hwg)
  clear hp2 hp3 hg3 e3 b2
  go_wp2_with fail
  refine (equal_true _ _ _ _ _ _ [1, 2, 0, 1, 2, 0] [1, 2, 0, 1, 2, 0] _ _ _ ((Rd.own_rd hrow3).alloc (Nat.le_refl _) _) (rd_lit (xs := [1, 2, 0, 1, 2, 0]) rfl (by simp) _ rfl) rfl).mono ?_
  rintro e w4 ⟨rfl, hb4⟩
  go_wp2_with fail
  go_ret
  refine ⟨rfl, (b3.alloc b3.size _).trans (hb4.mono (by have := b3.size; simp; omega))⟩
theorem none_any (w : World) :
    Calls Try.prog 10 #[] w fun e w' => e = .returned (.bool true) ∧ Below w.heap.size w w' := by
  go_enter Try.func10, Try.ntmps10
  go_wp2_with fail
  refine (next_nil _ _).mono ?_
  rintro e w1 ⟨rfl, rfl⟩
  go_wp2_with fail
  refine (awake8_any _).mono ?_
  rintro e w1 ⟨rfl, hb1⟩
  go_wp2_with fail
  refine (left_nil _).mono ?_
  rintro e w2 ⟨rfl, rfl⟩
  go_wp2_with fail
  refine (some_nil _ _ (by omega) (by omega) _).mono ?_
  rintro e w2 ⟨rfl, rfl⟩
  go_wp2_with fail
  refine (clone_nil _).mono ?_
  rintro e w2 ⟨rfl, rfl⟩
  go_wp2_with fail
  go_ret
  exact ⟨rfl, hb1⟩
end Go.Proofs.Ythamnebbecmegaa.Pi
