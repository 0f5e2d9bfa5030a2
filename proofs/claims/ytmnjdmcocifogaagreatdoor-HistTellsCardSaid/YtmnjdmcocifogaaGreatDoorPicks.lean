/- Contracts of layer 8 (picks). -/
import Derived.Test.YtmnjdmcocifogaaGreatDoorSlicesI
import Derived.Test.YtmnjdmcocifogaaGreatDoorAfter
import Derived.Test.YtmnjdmcocifogaaGreatDoorReg
namespace Go.Proofs.YtmnjdmcocifogaaGreatDoor.Pi
open Go.ChangeShapes Go.WideShapes Go.ChangeAt Go.RowKit Rw
set_option linter.unusedVariables false

def Ok (x : Int) : Prop := -9223372036854775808 ≤ x ∧ x ≤ 9223372036854775807
/-- The picks at block g: what is left of the script, and the turns. -/
structure Pk (w : World) (g : Nat) (l : List Int) (t : Int) : Prop where
  script : ∃ A n c, w.cell? ⟨g, 0, none⟩ = some (.slice A n c) ∧ Rd (Value.int .i64) w g A n c l
  turn : w.cell? ⟨g, 1, none⟩ = some (.int .i64 t)
  free0 : w.frozen? ⟨g, 0, none⟩ = false
  free1 : w.frozen? ⟨g, 1, none⟩ = false
  lo : ∀ x ∈ l, Ok x
theorem Pk.lt {w : World} {g : Nat} {l : List Int} {t : Int} (h : Pk w g l t) : g < w.heap.size := Lw.lt_heap h.turn
theorem Pk.kept {w w' : World} {g g' : Nat} {l : List Int} {t : Int} (h : Pk w g l t) (hg : w.grownBy w' (some g')) (hlt : g < g') : Pk w' g l t := by
  have hl := h.lt
  obtain ⟨A, n, c, h0, hr⟩ := h.script
  have hne : some g ≠ some g' := by intro e; injection e; omega
  refine ⟨⟨A, n, c, hg.cell h0 hne, ?_⟩, hg.cell h.turn hne, grown_frozen hg h.free0 hl hne, grown_frozen hg h.free1 hl hne, h.lo⟩
  exact hr.grown hg (by omega) (fun j hj => by cases hj; omega)
theorem Pk.below {w w' : World} {g B : Nat} {l : List Int} {t : Int} (h : Pk w g l t) (hb : Below B w w') (hB : g < B) : Pk w' g l t := by
  obtain ⟨A, n, c, h0, hr⟩ := h.script
  exact ⟨⟨A, n, c, (hb.cell (p := ⟨g, 0, none⟩) hB).trans h0, hr.keep fun p hp => hb.cell (by omega)⟩, (hb.cell (p := ⟨g, 1, none⟩) hB).trans h.turn, (hb.frozen (p := ⟨g, 0, none⟩) hB).trans h.free0, (hb.frozen (p := ⟨g, 1, none⟩) hB).trans h.free1, h.lo⟩
theorem Pk.later {w w' : World} {g : Nat} {l : List Int} {t : Int} (h : Pk w g l t) (hb : Below w.heap.size w w') : Pk w' g l t := h.below hb h.lt

theorem emod_tmod (a n : Int) (hn : 1 ≤ n) : (0 ≤ a.tmod n ∧ a % n = a.tmod n) ∨ (a.tmod n < 0 ∧ a % n = a.tmod n + n) := by
  have h := Int.tmod_eq_emod (a := a) (b := n)
  have h1 := Int.emod_nonneg a (b := n) (by omega)
  have h2 := Int.emod_lt_of_pos a (b := n) (by omega)
  split at h
  · left; omega
  · right; omega
theorem modulo_any (a n : Int) (hn : 1 ≤ n) (hn' : n ≤ 9223372036854775807) (w : World) :
    Calls Tryz.prog 106 #[.int .i64 a, .int .i64 n] w fun e w' => e = .returned (.int .i64 (a % n)) ∧ w = w' := by
  have h1 := Int.emod_nonneg a (b := n) (by omega)
  have h2 := Int.emod_lt_of_pos a (b := n) (by omega)
  have hz : (n == 0) = false := by simp; omega
  have hm : (n == -1) = false := by simp; omega
  rcases emod_tmod a n hn with ⟨h, e⟩ | ⟨h, e⟩
  · rw [e] at h1 h2 ⊢
    have hd : decide (a.tmod n < 0) = false := decide_eq_false (by omega)
    go_enter Tryz.func106, Tryz.ntmps106
    go_wp2_with fail
    go_ret
    exact ⟨rfl, rfl⟩
  · rw [e] at h1 h2 ⊢
    have hd : decide (a.tmod n < 0) = true := decide_eq_true h
    go_enter Tryz.func106, Tryz.ntmps106
    go_wp2_with fail
    go_ret
    exact ⟨rfl, rfl⟩

theorem grown_setCell (w : World) (a : Addr) (u : Value) : w.grownBy (w.setCell a u) (some a.block) :=
  ⟨rfl, rfl, rfl, by simp, fun k _ hk => heap_setCell_other w a k u (fun e => hk (by rw [e]))⟩
theorem Pk.put0 {w : World} {g : Nat} {L l : List Int} {t : Int} (h : Pk w g L t) (A : Option Addr) (n c : Nat) (hr : Rd (Value.int .i64) w g A n c l) (hlo : ∀ x ∈ l, Ok x) :
    Pk (w.setCell ⟨g, 0, none⟩ (.slice A n c)) g l t ∧ w.grownBy (w.setCell ⟨g, 0, none⟩ (.slice A n c)) (some g) := by
  obtain ⟨A0, n0, c0, h0, hr0⟩ := h.script
  have hne : (⟨g, 0, none⟩ : Addr) ≠ ⟨g, 1, none⟩ := fun e => by injection e with _ e; omega
  refine ⟨⟨⟨A, n, c, World.cell?_setCell_same _ _ _ h0, hr.setCell (Nat.le_refl _) _⟩, (World.cell?_setCell_other _ _ _ _ hne).trans h.turn, ?_, ?_, hlo⟩, grown_setCell _ _ _⟩
  · simpa using h.free0
  · simpa using h.free1
theorem Pk.put1 {w : World} {g : Nat} {l : List Int} {t : Int} (h : Pk w g l t) (u : Int) :
    Pk (w.setCell ⟨g, 1, none⟩ (.int .i64 u)) g l u ∧ w.grownBy (w.setCell ⟨g, 1, none⟩ (.int .i64 u)) (some g) := by
  obtain ⟨A, n, c, h0, hr⟩ := h.script
  have hne : (⟨g, 1, none⟩ : Addr) ≠ ⟨g, 0, none⟩ := fun e => by injection e with _ e; omega
  refine ⟨⟨⟨A, n, c, (World.cell?_setCell_other _ _ _ _ hne).trans h0, hr.setCell (Nat.le_refl _) _⟩, World.cell?_setCell_same _ _ _ h.turn, ?_, ?_, h.lo⟩, grown_setCell _ _ _⟩
  · simpa using h.free0
  · simpa using h.free1

/-- What is taken next, and what is left then. -/
def tk : List Int → Int → Int × List Int × Int
  | [], t => (t, [], t + 1)
  | x :: l, t => (x, l, t)

theorem take_some (g : Nat) (x : Int) (l : List Int) (t : Int) (w : World) (h : Pk w g (x :: l) t) :
    Calls Tryz.prog 107 #[.pointer (some ⟨g, 0, none⟩)] w fun e w' => e = .returned (.int .i64 x) ∧ Pk w' g l t ∧ w.grownBy w' (some g) := by
  obtain ⟨A, n, c, h0, hr⟩ := h.script
  have hn : (x :: l).length = n := hr.len
  simp at hn
  have hnc := hr.cap
  have htop := hr.top
  obtain ⟨b, o, y, rfl, hb, hx, hcx⟩ := hr.get (k := 0) (by omega)
  obtain rfl : x = y := by simpa using hx
  have hp : decide ((0 : Int) < (n : Int)) = true := decide_eq_true (by omega)
  have hp' : decide (0 < n) = true := decide_eq_true (by omega)
  have hf0 := h.free0
  have HR := Lib.hid hr
  have HH := Lib.hid h
  have hl := h.lt
  have hn1 : 1 ≤ n := by omega
  simp only [Nat.add_zero] at hcx
  have HN := Lib.hid hn
  clear h hr hx hn
  by_cases hc1 : c = 1
  · subst hc1
    obtain rfl : n = 1 := by omega
    go_enter Tryz.func107, Tryz.ntmps107
    go_wp2_with fail
    go_ret
    have hb := (HR.out.back (i := 1) (A' := some ⟨b, o, none⟩) (by omega) rfl (by omega))
    exact ⟨rfl, HH.out.put0 _ _ _ hb (fun y hy => HH.out.lo y (List.mem_cons_of_mem _ hy))⟩
  · have hc2 : 1 < c := by omega
    go_enter Tryz.func107, Tryz.ntmps107
    go_wp2_with fail
    go_ret
    have hb := (HR.out.back (i := 1) (A' := some ⟨b, o + 1, none⟩) (by omega) rfl (fun _ => rfl))
    exact ⟨rfl, HH.out.put0 _ _ _ hb (fun y hy => HH.out.lo y (List.mem_cons_of_mem _ hy))⟩
theorem take_none (g : Nat) (t : Int) (w : World) (h : Pk w g [] t) (ht : 0 ≤ t ∧ t < 9223372036854775807) :
    Calls Tryz.prog 107 #[.pointer (some ⟨g, 0, none⟩)] w fun e w' => e = .returned (.int .i64 t) ∧ Pk w' g [] (t + 1) ∧ w.grownBy w' (some g) := by
  obtain ⟨A, n, c, h0, hr⟩ := h.script
  obtain rfl : 0 = n := hr.len
  have h1 := h.turn
  have hf1 := h.free1
  have hl := h.lt
  have HR := Lib.hid hr
  have HH := Lib.hid h
  clear h hr
  go_enter Tryz.func107, Tryz.ntmps107
  go_wp2_with fail
  go_ret
  exact ⟨rfl, HH.out.put1 _⟩

theorem next_low (g : Nat) (n : Int) (hn : n < 1) (w : World) :
    Calls Tryz.prog 89 #[.pointer (some ⟨g, 0, none⟩), .int .i64 n] w fun e w' => e = .returned (.tuple #[.int .i64 0, .bool false]) ∧ w = w' := by
  have hd : decide (n < 1) = true := decide_eq_true hn
  go_enter Tryz.func89, Tryz.ntmps89
  go_wp2_with fail
  exact bodyPost_ret (v := .tuple #[.int .i64 0, .bool false]) (by simp [results, Tryz.results89, go_sem]) rfl ⟨rfl, rfl⟩
theorem next_some (g : Nat) (x : Int) (l : List Int) (t n : Int) (hn : 1 ≤ n) (hn' : n ≤ 9223372036854775807) (w : World) (h : Pk w g (x :: l) t) :
    Calls Tryz.prog 89 #[.pointer (some ⟨g, 0, none⟩), .int .i64 n] w fun e w' => e = .returned (.tuple #[.int .i64 (x % n), .bool true]) ∧ Pk w' g l t ∧ w.grownBy w' (some g) := by
  have hd : decide (n < 1) = false := decide_eq_false (by omega)
  have HH := Lib.hid h
  clear h
  go_enter Tryz.func89, Tryz.ntmps89
  go_wp2_with fail
  refine (take_some g x l t _ HH.out).mono ?_
  rintro e w1 ⟨rfl, h1, hg1⟩
  have H1 := Lib.hid h1
  have HG := Lib.hid hg1
  clear h1 hg1
  go_wp2_with fail
  refine (modulo_any x n hn hn' _).mono ?_
  rintro e w2 ⟨rfl, rfl⟩
  go_wp2_with fail
  exact bodyPost_ret (v := .tuple #[.int .i64 (x % n), .bool true]) (by simp [results, Tryz.results89, go_sem]) rfl ⟨rfl, H1.out, HG.out⟩
theorem next_none (g : Nat) (t n : Int) (hn : 1 ≤ n) (hn' : n ≤ 9223372036854775807) (w : World) (h : Pk w g [] t) (ht : 0 ≤ t ∧ t < 9223372036854775807) :
    Calls Tryz.prog 89 #[.pointer (some ⟨g, 0, none⟩), .int .i64 n] w fun e w' => e = .returned (.tuple #[.int .i64 (t % n), .bool true]) ∧ Pk w' g [] (t + 1) ∧ w.grownBy w' (some g) := by
  have hd : decide (n < 1) = false := decide_eq_false (by omega)
  have HH := Lib.hid h
  have HT := Lib.hid ht
  clear h ht
  go_enter Tryz.func89, Tryz.ntmps89
  go_wp2_with fail
  refine (take_none g t _ HH.out HT.out).mono ?_
  rintro e w1 ⟨rfl, h1, hg1⟩
  have H1 := Lib.hid h1
  have HG := Lib.hid hg1
  clear h1 hg1
  go_wp2_with fail
  refine (modulo_any t n hn hn' _).mono ?_
  rintro e w2 ⟨rfl, rfl⟩
  go_wp2_with fail
  exact bodyPost_ret (v := .tuple #[.int .i64 (t % n), .bool true]) (by simp [results, Tryz.results89, go_sem]) rfl ⟨rfl, H1.out, HG.out⟩
/-- Next, of an n from 1 on, whatever is left. -/
theorem next_any (g : Nat) (l : List Int) (t n : Int) (hn : 1 ≤ n) (hn' : n ≤ 9223372036854775807) (w : World) (h : Pk w g l t) (ht : 0 ≤ t ∧ t < 9223372036854775807) :
    Calls Tryz.prog 89 #[.pointer (some ⟨g, 0, none⟩), .int .i64 n] w fun e w' => e = .returned (.tuple #[.int .i64 ((tk l t).1 % n), .bool true]) ∧ Pk w' g (tk l t).2.1 (tk l t).2.2 ∧ w.grownBy w' (some g) := by
  cases l with
  | nil => exact next_none g t n hn hn' w h ht
  | cons x l => exact next_some g x l t n hn hn' w h
theorem next_nil (n : Int) (w : World) :
    Calls Tryz.prog 89 #[.pointer none, .int .i64 n] w fun e w' => e = .returned (.tuple #[.int .i64 0, .bool false]) ∧ w = w' := by
  go_enter Tryz.func89, Tryz.ntmps89
  go_wp2_with fail
  exact bodyPost_ret (v := .tuple #[.int .i64 0, .bool false]) (by simp [results, Tryz.results89, go_sem]) rfl ⟨rfl, rfl⟩
theorem new_any (A : Option Addr) (n c : Nat) (l : List Int) (B : Nat) (w : World) (h : Rd (Value.int .i64) w B A n c l) (hB : B ≤ w.heap.size) (hlo : ∀ x ∈ l, Ok x) (hreach : n * 8 ≤ 140737488355328) :
    Calls Tryz.prog 66 #[.slice A n c] w fun e w' => ∃ g, e = .returned (.pointer (some ⟨g, 0, none⟩)) ∧ Pk w' g l 0 ∧ w.heap.size ≤ g ∧ Below w.heap.size w w' := by
  have HR := Lib.hid h
  have HL := Lib.hid hlo
  clear h hlo
  go_enter Tryz.func66, Tryz.ntmps66
  go_wp2_with fail
  refine (Si.clone_any A n c l B _ HR.out hB hreach).mono ?_
  rintro e w1 ⟨A1, c1, rfl, hrow, hb⟩
  have hr1 : Rd (Value.int .i64) w1 w1.heap.size A1 n c1 l := Rd.own_rd hrow
  have HR1 := Lib.hid hr1
  have HB1 := Lib.hid hb
  clear hrow hr1 hb
  go_wp2_with fail
  go_ret
  refine ⟨w1.heap.size, rfl, ⟨⟨A1, n, c1, by go_simp, HR1.out.alloc (Nat.le_refl _) _⟩, by go_simp, by go_simp, by go_simp, HL.out⟩, HB1.out.size, HB1.out.alloc HB1.out.size _⟩
end Go.Proofs.YtmnjdmcocifogaaGreatDoor.Pi
