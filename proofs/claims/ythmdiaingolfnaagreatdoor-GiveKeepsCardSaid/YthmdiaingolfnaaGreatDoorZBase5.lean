/- A part of the claim: the texts Base5. -/
import Derived.Test.YthmdiaingolfnaaGreatDoorZBase1
import Derived.Test.YthmdiaingolfnaaGreatDoorZBase4
import Derived.Lib.SliceRun
import Derived.ProofKit
import Derived.Deep.RegionLaw
import Derived.Shelf.RegionOpenPlain
import Derived.Lib.SlicesDelete
namespace Go.Proofs.YthmdiaingolfnaaGreatDoor.Rw
open Go Go.RowKit
set_option linter.unusedVariables false
section
variable {P : Program} {ops : Array Oper} {Q : Exit → Act → World → Prop} {md : Region.Mode} {S : World → Prop} {n : Nat}
end
end Go.Proofs.YthmdiaingolfnaaGreatDoor.Rw
namespace Go.Proofs.YthmdiaingolfnaaGreatDoor.Rw
open Go Go.RowKit Go.ChangeShapes Go.WideShapes Go.ChangeAt
set_option linter.unusedVariables false
section
variable {α : Type} {enc : α → List Value} {sz : Nat}
theorem flat_set (he : ∀ x, (enc x).length = sz) : ∀ (xs : List α) (k i : Nat) (x y : α) (u : Value), xs[k]? = some x → i < sz → enc y = (enc x).set i u → (flat enc xs).set (k * sz + i) u = flat enc (xs.set k y)
  | [], k, i, x, y, u, h, _, _ => by simp at h
  | z :: l, 0, i, x, y, u, h, hi, hy => by
    simp at h; subst h
    show (enc z ++ flat enc l).set _ u = enc y ++ flat enc l
    rw [List.set_append_left _ _ (by rw [he]; omega), hy]
    simp
  | z :: l, k + 1, i, x, y, u, h, hi, hy => by
    show (enc z ++ flat enc l).set _ u = enc z ++ flat enc (l.set k y)
    rw [List.set_append_right _ _ (by rw [he, Nat.add_mul]; omega), he, show (k + 1) * sz + i - sz = k * sz + i by rw [Nat.add_mul]; omega, flat_set he l k i x y u (by simpa using h) hi hy]
end
end Go.Proofs.YthmdiaingolfnaaGreatDoor.Rw
namespace Go.Proofs.YthmdiaingolfnaaGreatDoor.St
set_option linter.unusedVariables false
abbrev Sx := Int × Int × Int
def hit (t : Int) (x : Sx) : Bool := x.1 == t
def free (x : Sx) : Bool := x.2.2 == 0
def Miss (p : Sx → Bool) (l : List Sx) (k : Nat) : Prop := ∀ j x, j < k → l[j]? = some x → p x = false
theorem Miss.zero (p : Sx → Bool) (l : List Sx) : Miss p l 0 := fun _ _ h => absurd h (by omega)
theorem Miss.succ {p : Sx → Bool} {l : List Sx} {k : Nat} {x : Sx} (h : Miss p l k) (hx : l[k]? = some x) (hp : p x = false) : Miss p l (k + 1) := by
  intro j y hj hy
  by_cases e : j = k
  · subst e; rw [hx] at hy; injection hy with hy; subst hy; exact hp
  · exact h j y (by omega) hy
theorem ix_some {p : Sx → Bool} {l : List Sx} {k : Nat} {x : Sx} (h : Miss p l k) (hx : l[k]? = some x) (hp : p x = true) : l.findIdx? p = some k := by
  obtain ⟨hk, rfl⟩ := List.getElem?_eq_some_iff.1 hx
  rw [List.findIdx?_eq_some_iff_getElem]
  exact ⟨hk, hp, fun j hj => by rw [h j _ hj (List.getElem?_eq_getElem (by omega))]; simp⟩
theorem ix_none {p : Sx → Bool} {l : List Sx} (h : Miss p l l.length) : l.findIdx? p = none := by
  rw [List.findIdx?_eq_none_iff]
  intro x hx
  obtain ⟨j, hj, rfl⟩ := List.getElem_of_mem hx
  exact h j _ hj (List.getElem?_eq_getElem hj)
theorem ix_hit {p : Sx → Bool} {l : List Sx} {k : Nat} (h : l.findIdx? p = some k) : ∃ x, l[k]? = some x ∧ p x = true ∧ k < l.length := by
  rw [List.findIdx?_eq_some_iff_getElem] at h
  obtain ⟨hk, hp, _⟩ := h
  exact ⟨l[k], List.getElem?_eq_getElem hk, hp, hk⟩
def ixZ (p : Sx → Bool) (l : List Sx) : Int := match l.findIdx? p with
  | some k => k
  | none => -1
theorem ixZ_some {p : Sx → Bool} {l : List Sx} {k : Nat} (h : l.findIdx? p = some k) : ixZ p l = k := by unfold ixZ; rw [h]
theorem ixZ_none {p : Sx → Bool} {l : List Sx} (h : l.findIdx? p = none) : ixZ p l = -1 := by unfold ixZ; rw [h]
def parkL (l : List Sx) (t d : Int) : List Sx := if (l.findIdx? (hit t)).isSome then l else l ++ [(t, d, 0)]
def parkE (l : List Sx) (t : Int) : Int := if (l.findIdx? (hit t)).isSome then 10 else 0
def fillAt (l : List Sx) (k : Nat) (x : Sx) (i : Int) : List Sx := l.set k (x.1, x.2.1, i)
def waitN (l : List Sx) : Nat := l.countP free
theorem park_hit {l : List Sx} {t d : Int} {k : Nat} (h : l.findIdx? (hit t) = some k) : parkL l t d = l ∧ parkE l t = 10 := by simp [parkL, parkE, h]
theorem park_miss {l : List Sx} {t d : Int} (h : l.findIdx? (hit t) = none) : parkL l t d = l ++ [(t, d, 0)] ∧ parkE l t = 0 := by simp [parkL, parkE, h]
theorem park_len (l : List Sx) (t d : Int) : (parkL l t d).length ≤ l.length + 1 := by unfold parkL; split <;> simp
theorem fillAt_len (l : List Sx) (k : Nat) (x : Sx) (i : Int) : (fillAt l k x i).length = l.length := by simp [fillAt]
theorem waitN_snoc {l : List Sx} {k : Nat} {x : Sx} (h : l[k]? = some x) : waitN (l.take (k + 1)) = waitN (l.take k) + (if free x then 1 else 0) := by
  rw [List.take_add_one, h]
  simp [waitN, List.countP_append, List.countP_cons]
end Go.Proofs.YthmdiaingolfnaaGreatDoor.St
namespace Go.Proofs.YthmdiaingolfnaaGreatDoor.St
open Go.ChangeShapes Go.WideShapes Go.ChangeAt Go.RowKit Rw
set_option linter.unusedVariables false
def enc3 (x : Sx) : List Value := [.int .i64 x.1, .int .u64 x.2.1, .int .u64 x.2.2]
theorem enc3_len (x : Sx) : (enc3 x).length = 3 := rfl
theorem enc3_one (x : Sx) : ∀ u ∈ enc3 x, u.oneCell' = true := by
  intro u hu
  simp [enc3] at hu
  rcases hu with rfl | rfl | rfl <;> rfl
theorem info_slot : (Tryz.prog.info? 146).map (fun i => (i.zero, i.size, i.bytes)) = some (some (.agg #[.int .i64 0, .int .u64 0, .int .u64 0]), 3, 24) := by kernel_rfl
theorem three_at {w : World} {B : Nat} {A : Option Addr} {n c k : Nat} {l : List Sx} (h : Rs enc3 3 w B A n c l) (hk : k < n) : ∃ b o x, A = some ⟨b, o, none⟩ ∧ b < B ∧ l[k]? = some x ∧
    w.cell? ⟨b, o + k * 3, none⟩ = some (.int .i64 x.1) ∧ w.cell? ⟨b, o + k * 3 + 1, none⟩ = some (.int .u64 x.2.1) ∧ w.cell? ⟨b, o + k * 3 + 2, none⟩ = some (.int .u64 x.2.2) := by
  obtain ⟨b, o, e, h1, h2, h3, hc⟩ := h.get hk
  exact ⟨b, o, e, h1, h2, h3, hc 0 _ (by omega) rfl, hc 1 _ (by omega) rfl, hc 2 _ (by omega) rfl⟩
theorem waits_any (a b c : Int) (w : World) :
    Calls Tryz.prog 71 #[.agg #[.int .i64 a, .int .u64 b, .int .u64 c]] w fun e w' => e = .returned (.bool (c == 0)) ∧ Below w.heap.size w w' := by
  go_enter Tryz.func71, Tryz.ntmps71
  go_wp2_with fail
  go_ret
  exact ⟨rfl, (Below.refl _ _).alloc (Nat.le_refl _) _⟩
theorem isof_any (a b c t : Int) (q : Nat) (w : World) (hc : w.cell? ⟨q, 0, none⟩ = some (.int .i64 t)) :
    Calls Tryz.prog 128 #[.agg #[.int .i64 a, .int .u64 b, .int .u64 c], .pointer (some ⟨q, 0, none⟩)] w fun e w' => e = .returned (.bool (a == t)) ∧ Below w.heap.size w w' := by
  have hq : q < w.heap.size := Lw.lt_heap hc
  go_enter Tryz.func128, Tryz.ntmps128
  go_wp2_with fail
  go_ret
  exact ⟨rfl, (Below.refl _ _).alloc (Nat.le_refl _) _⟩
set_option maxHeartbeats 1000000 in
theorem index_any (g : FuncId) (lb : Array Value) (p : Sx → Bool) (A : Option Addr) (n c B : Nat) (l : List Sx) (w : World) (h : Rs enc3 3 w B A n c l) (hB : B ≤ w.heap.size)
    (eg : ∀ args w, (callFunc g args).run Tryz.prog w = .ok (.enter g args) w)
    (hp : ∀ (a b c : Int) W, Below w.heap.size w W → Calls Tryz.prog g (#[.agg #[.int .i64 a, .int .u64 b, .int .u64 c]] ++ lb) W fun e W' => e = .returned (.bool (p (a, b, c))) ∧ Below W.heap.size W W') :
    Calls Tryz.prog 127 #[.slice A n c, .func (.func g) #[] lb] w fun e w' => e = .returned (.int .i64 (ixZ p l)) ∧ Below w.heap.size w w' := by
  have hn : n ≤ 9223372036854775807 := by have := h.cap; have := h.top; omega
  have HR := Lib.hid h
  have HP := Lib.hid hp
  clear h hp
  go_enter Tryz.func127, Tryz.ntmps127
  go_wp2_with fail
  go_loopw [8] (fun i wr => ∃ k : Nat, k ≤ n ∧ i = .int .i64 k ∧ Miss p l k ∧ Below w.heap.size w wr) (fun i _ => n - (intOf i).toNat)
  case atStart => exact ⟨0, Nat.zero_le _, rfl, Miss.zero _ _, Below.refl _ _⟩
  case round =>
    obtain ⟨k, hk, rfl, hm, hbr⟩ := hrel
    have HM := Lib.hid hm
    have hbs := hbr.size
    clear hm
    by_cases hlt : k < n
    · obtain ⟨b, o, x, rfl, hb, hx, c0, c1, c2⟩ := three_at HR.out hlt
      have d0 := (hbr.cell (p := ⟨b, o + k * 3, none⟩) (by simp only; omega)).trans c0
      have d1 := (hbr.cell (p := ⟨b, o + k * 3 + 1, none⟩) (by simp only; omega)).trans c1
      have d2 := (hbr.cell (p := ⟨b, o + k * 3 + 2, none⟩) (by simp only; omega)).trans c2
      obtain ⟨x0, x1, x2⟩ := x
      have HX := Lib.hid hx
      simp only at d0 d1 d2
      clear c0 c1 c2 hx
      go_wp2_with fail
      refine (HP.out x0 x1 x2 wr hbr).mono ?_
      rintro e w1 ⟨rfl, hb1⟩
      cases hq : p (x0, x1, x2) with
      | true =>
        have HI := Lib.hid (ixZ_some (ix_some HM.out HX.out hq))
        go_wp2_with fail
        go_ret
        exact ⟨by rw [HI.out]; rfl, hbr.trans (hb1.mono hbs)⟩
      | false =>
        have HM2 := Lib.hid (HM.out.succ HX.out hq)
        go_wp2_with fail
        go_roundw
        case rel => exact ⟨k + 1, by omega, by go_num, HM2.out, hbr.trans (hb1.mono hbs)⟩
        case measure => simp [intOf]; omega
    · have hk' : k = n := by omega
      have HI := Lib.hid (ixZ_none (ix_none (p := p) (l := l) (by rw [HR.out.len, ← hk']; exact HM.out)))
      go_wp2_with fail
      go_ret
      exact ⟨by rw [HI.out]; rfl, hbr⟩
theorem index_free (A : Option Addr) (n c B : Nat) (l : List Sx) (w : World) (h : Rs enc3 3 w B A n c l) (hB : B ≤ w.heap.size) :
    Calls Tryz.prog 127 #[.slice A n c, .func (.func 71) #[] #[]] w fun e w' => e = .returned (.int .i64 (ixZ free l)) ∧ Below w.heap.size w w' :=
  index_any 71 #[] free A n c B l w h hB (fun args w => by simp [go_sem]) (fun a b c W _ => waits_any a b c W)
theorem index_of (A : Option Addr) (n c B q : Nat) (t : Int) (l : List Sx) (w : World) (h : Rs enc3 3 w B A n c l) (hB : B ≤ w.heap.size) (hc : w.cell? ⟨q, 0, none⟩ = some (.int .i64 t)) :
    Calls Tryz.prog 127 #[.slice A n c, .func (.func 128) #[] #[.pointer (some ⟨q, 0, none⟩)]] w fun e w' => e = .returned (.int .i64 (ixZ (hit t) l)) ∧ Below w.heap.size w w' :=
  index_any 128 #[.pointer (some ⟨q, 0, none⟩)] (hit t) A n c B l w h hB (fun args w => by simp [go_sem]) (fun a b c W hb => isof_any a b c t q W ((hb.cell (p := ⟨q, 0, none⟩) (Lw.lt_heap hc)).trans hc))
end Go.Proofs.YthmdiaingolfnaaGreatDoor.St
namespace Go.Proofs.YthmdiaingolfnaaGreatDoor.St
open Go.ChangeShapes Go.WideShapes Go.ChangeAt Go.RowKit Rw Hi
set_option linter.unusedVariables false
end Go.Proofs.YthmdiaingolfnaaGreatDoor.St
namespace Go.Proofs.YthmdiaingolfnaaGreatDoor.St
open Go.ChangeShapes Go.WideShapes Go.ChangeAt Go.RowKit Rw Hi
set_option linter.unusedVariables false
structure Ss (w : World) (B p : Nat) (r : Option Nat) (l : List Sx) : Prop where
  row : ∃ A c, w.cell? ⟨p, 0, none⟩ = some (.slice A l.length c) ∧ w.ownsRow B 146 3 (.slice A l.length c) l.length (flat enc3 l) ∧ (Value.slice A l.length c).ownBlock = r
  free0 : w.frozen? ⟨p, 0, none⟩ = false
  lo : B ≤ p
  ne : r ≠ some p
theorem Ss.lt {w : World} {B p : Nat} {r : Option Nat} {l : List Sx} (h : Ss w B p r l) : p < w.heap.size := by obtain ⟨A, c, h1, _⟩ := h.row; exact Lw.lt_heap h1
theorem Ss.rowlt {w : World} {B p : Nat} {r : Option Nat} {l : List Sx} (h : Ss w B p r l) : ∀ g, r = some g → B ≤ g ∧ g < w.heap.size := by
  intro g hg
  obtain ⟨A, c, _, ho, e⟩ := h.row
  exact ho.lt g (e.trans hg)
theorem Ss.same {w w' : World} {B p : Nat} {r : Option Nat} {l : List Sx} (h : Ss w B p r l) (hp : w'.heap[p]? = w.heap[p]?) (hr : ∀ g, r = some g → w'.heap[g]? = w.heap[g]?) : Ss w' B p r l := by
  obtain ⟨A, c, h1, h2, h3⟩ := h.row
  have hc : ∀ o, w'.cell? ⟨p, o, none⟩ = w.cell? ⟨p, o, none⟩ := fun o => by unfold World.cell?; simp only [hp]
  have hf : ∀ o, w'.frozen? ⟨p, o, none⟩ = w.frozen? ⟨p, o, none⟩ := fun o => by unfold World.frozen?; simp only [hp]
  exact ⟨⟨A, c, (hc 0).trans h1, own_same h2 (fun g hg => hr g (h3.symm.trans hg)), h3⟩, (hf 0).trans h.free0, h.lo, h.ne⟩
theorem Ss.fr {w w' : World} {B p : Nat} {r a b : Option Nat} {l : List Sx} (h : Ss w B p r l) (hf : Fr a b w w') (h1 : some p ≠ a) (h2 : some p ≠ b) (h3 : ∀ g, r = some g → some g ≠ a ∧ some g ≠ b) : Ss w' B p r l :=
  h.same (hf.block p h.lt h1 h2) (fun g hg => hf.block g (h.rowlt g hg).2 (h3 g hg).1 (h3 g hg).2)
theorem Ss.later {w w' : World} {B p : Nat} {r : Option Nat} {l : List Sx} (h : Ss w B p r l) (hb : Below w.heap.size w w') : Ss w' B p r l :=
  h.same (hb.block p h.lt) (fun g hg => hb.block g (h.rowlt g hg).2)
theorem Ss.rs {w : World} {B p : Nat} {r : Option Nat} {l : List Sx} (h : Ss w B p r l) : ∃ A c, w.cell? ⟨p, 0, none⟩ = some (.slice A l.length c) ∧ Rs enc3 3 w w.heap.size A l.length c l := by
  obtain ⟨A, c, h1, h2, _⟩ := h.row
  exact ⟨A, c, h1, Rs.own_rs enc3_len rfl h2⟩
theorem Ss.put {w w1 : World} {B p : Nat} {r : Option Nat} {l l' : List Sx} {A' : Option Addr} {n' c' : Nat} (h : Ss w B p r l) (hn : l'.length = n') (hg : w.grownBy w1 r) (ho : w1.ownsRow B 146 3 (.slice A' n' c') n' (flat enc3 l'))
    (hA : (Value.slice A' n' c').ownBlock = r ∨ ∃ g, (Value.slice A' n' c').ownBlock = some g ∧ w.heap.size ≤ g) :
    ∃ r', Ss (w1.setCell ⟨p, 0, none⟩ (.slice A' n' c')) B p r' l' ∧ Fr (some p) r w (w1.setCell ⟨p, 0, none⟩ (.slice A' n' c')) ∧ (∀ g, r' = some g → r = some g ∨ w.heap.size ≤ g) := by
  subst hn
  obtain ⟨A, c, h1, h2, h3⟩ := h.row
  have hlt := h.lt
  have e0 : w1.cell? ⟨p, 0, none⟩ = some (.slice A l.length c) := (hg.cell h1 (fun e => h.ne e.symm))
  have ef : w1.frozen? ⟨p, 0, none⟩ = false := grown_frozen hg h.free0 hlt (fun e => h.ne e.symm)
  have hne : (Value.slice A' l'.length c').ownBlock ≠ some p := by
    rcases hA with e | ⟨g, e, hge⟩
    · rw [e]; exact h.ne
    · rw [e]; intro e2; injection e2 with e2; omega
  refine ⟨_, ⟨⟨A', c', World.cell?_setCell_same _ _ _ e0, own_same ho (fun g hg' => heap_setCell_other _ _ g _ (fun e => hne (by rw [hg', show g = p from e]))), rfl⟩, by simpa using ef, h.lo, hne⟩,
    (Fr.of_grown hg (.inr (.inr rfl))).then (a' := some p) (b' := none) (Fr.of_grown (grown_setCell _ _ _) (.inr (.inl rfl))) (fun k hk _ => .inl hk.symm) (fun k hk _ => by cases hk), fun g hg' => ?_⟩
  rcases hA with e | ⟨g2, e, hge⟩
  · exact .inl (e.symm.trans hg')
  · rw [e] at hg'; injection hg' with hg'; subst hg'; exact .inr hge
theorem Ss.fill {w w1 : World} {B p : Nat} {r : Option Nat} {l : List Sx} {k : Nat} {x : Sx} (h : Ss w B p r l) (hb : Below w.heap.size w w1) (hx : l[k]? = some x) (i : Int) {g c : Nat} (hc : w.cell? ⟨p, 0, none⟩ = some (.slice (some ⟨g, 0, none⟩) l.length c)) :
    Ss (w1.setCell ⟨g, k * 3 + 2, none⟩ (.int .u64 i)) B p r (fillAt l k x i) ∧ Fr (some p) r w (w1.setCell ⟨g, k * 3 + 2, none⟩ (.int .u64 i)) ∧ r = some g := by
  have h' := h.later hb
  have hcw : w1.cell? ⟨p, 0, none⟩ = some (.slice (some ⟨g, 0, none⟩) l.length c) := (hb.cell (p := ⟨p, 0, none⟩) h.lt).trans hc
  obtain ⟨A, c2, h1, h2, h3⟩ := h'.row
  rw [hcw] at h1
  injection h1 with h1
  injection h1 with h1 _ h4
  subst h1 h4
  have hr : r = some g := h3.symm
  subst hr
  have hpg : g ≠ p := fun e => h.ne (by rw [e])
  obtain ⟨o1, o2⟩ := h2.stored (k * 3 + 2) (.int .u64 i)
  rw [flat_set enc3_len l k 2 x (x.1, x.2.1, i) (.int .u64 i) hx (by omega) rfl] at o1
  have hln : (fillAt l k x i).length = l.length := fillAt_len l k x i
  refine ⟨⟨⟨some ⟨g, 0, none⟩, c, ?_, ?_, rfl⟩, ?_, h.lo, h.ne⟩, ?_, rfl⟩
  · rw [hln]; exact (World.cell?_setCell_other _ _ _ _ (fun e => by injection e with e; exact hpg e)).trans hcw
  · rw [hln]; exact o1
  · simpa using (hb.frozen (p := ⟨p, 0, none⟩) h.lt).trans h.free0
  · exact ⟨o2.os.trans hb.os, o2.tape.trans hb.tape, o2.output.trans hb.output, Nat.le_trans hb.size o2.size, fun q hq _ hne => (o2.block q (Nat.lt_of_lt_of_le hq hb.size) hne).trans (hb.block q hq)⟩
theorem new_any (w : World) (B : Nat) (hB : B ≤ w.heap.size) :
    Calls Tryz.prog 35 #[] w fun e w' => ∃ p, e = .returned (.pointer (some ⟨p, 0, none⟩)) ∧ Ss w' B p none [] ∧ w.heap.size ≤ p ∧ Below w.heap.size w w' := by
  go_enter Tryz.func35, Tryz.ntmps35
  go_wp2_with fail
  go_ret
  exact ⟨w.heap.size, rfl, ⟨⟨none, 0, by go_simp, World.ownsRow_nil _ _ _ _, rfl⟩, by go_simp, hB, by simp⟩, Nat.le_refl _, (Below.refl _ _).alloc (Nat.le_refl _) _⟩
theorem place_any (w : World) (B p : Nat) (r : Option Nat) (l : List Sx) (t : Int) (h : Ss w B p r l) :
    Calls Tryz.prog 98 #[.pointer (some ⟨p, 0, none⟩), .int .i64 t] w fun e w' => e = .returned (.int .i64 (ixZ (hit t) l)) ∧ Below w.heap.size w w' := by
  obtain ⟨A, c, h1, hr⟩ := h.rs
  have hl := h.lt
  have HR := Lib.hid hr
  clear h hr
  generalize hn : l.length = n at *
  clear hn
  go_enter Tryz.func98, Tryz.ntmps98
  go_wp2_with fail
  refine (index_of A n c _ w.heap.size t l _ (HR.out.alloc (Nat.le_refl _) _) (by simp) (by go_simp)).mono ?_
  rintro e w1 ⟨rfl, hb⟩
  go_wp2_with fail
  go_ret
  exact ⟨rfl, ((Below.refl _ _).alloc (Nat.le_refl _) _).trans (hb.mono (by simp))⟩
set_option maxHeartbeats 1000000 in
theorem waiting_any (w : World) (B p : Nat) (r : Option Nat) (l : List Sx) (h : Ss w B p r l) (hreach : l.length ≤ 1000) :
    Calls Tryz.prog 20 #[.pointer (some ⟨p, 0, none⟩)] w fun e w' => e = .returned (.int .i64 (waitN l)) ∧ Below w.heap.size w w' := by
  obtain ⟨A, c, h1, hr⟩ := h.rs
  have HR := Lib.hid hr
  clear h hr
  generalize hn : l.length = n at *
  have HL := Lib.hid hn
  clear hn
  go_enter Tryz.func20, Tryz.ntmps20
  go_wp2_with fail
  go_loopw [3, 13] (fun s i wr => ∃ k q : Nat, k ≤ n ∧ i = .int .i64 k ∧ s = .int .i64 q ∧ q ≤ k ∧ q = waitN (l.take k) ∧ Below w.heap.size w wr) (fun _ i _ => n - (intOf i).toNat)
  case atStart => exact ⟨0, 0, Nat.zero_le _, rfl, rfl, Nat.le_refl _, rfl, Below.refl _ _⟩
  case round =>
    obtain ⟨k, q, hk, rfl, rfl, hqk, hq, hbr⟩ := hrel
    have HQ := Lib.hid hq
    have hbs := hbr.size
    clear hq
    by_cases hlt : k < n
    · obtain ⟨b, o, x, rfl, hb, hx, c0, c1, c2⟩ := three_at HR.out hlt
      have d0 := (hbr.cell (p := ⟨b, o + k * 3, none⟩) (by simp only; omega)).trans c0
      have d1 := (hbr.cell (p := ⟨b, o + k * 3 + 1, none⟩) (by simp only; omega)).trans c1
      have d2 := (hbr.cell (p := ⟨b, o + k * 3 + 2, none⟩) (by simp only; omega)).trans c2
      obtain ⟨x0, x1, x2⟩ := x
      have HW := Lib.hid (waitN_snoc hx)
      simp only at d0 d1 d2
      clear c0 c1 c2 hx
      go_wp2_with fail
      refine (waits_any x0 x1 x2 _).mono ?_
      rintro e w1 ⟨rfl, hb1⟩
      have hb2 : Below w.heap.size w w1 := (hbr.alloc hbs (.cells #[.int .i64 x0, .int .u64 x1, .int .u64 x2] 146)).trans (hb1.mono (by simp; omega))
      have HB2 := Lib.hid hb2
      clear hb1 hb2
      cases hz : (x2 == 0 : Bool) with
      | true =>
        have hq2 : q + 1 = waitN (l.take (k + 1)) := by rw [HW.out, HQ.out]; simp [free, hz]
        have HQ2 := Lib.hid hq2
        clear hq2
        go_wp2_with fail
        go_roundw
        case rel => exact ⟨k + 1, q + 1, by omega, by go_num, by go_num, by omega, HQ2.out, HB2.out⟩
        case measure => simp [intOf]; omega
      | false =>
        have hq2 : q = waitN (l.take (k + 1)) := by rw [HW.out, HQ.out]; simp [free, hz]
        have HQ2 := Lib.hid hq2
        clear hq2
        go_wp2_with fail
        go_roundw
        case rel => exact ⟨k + 1, q, by omega, by go_num, rfl, by omega, HQ2.out, HB2.out⟩
        case measure => simp [intOf]; omega
    · obtain rfl : k = n := by omega
      have hq2 : q = waitN l := by rw [HQ.out, List.take_of_length_le (by have := HL.out; omega)]
      have HQ2 := Lib.hid hq2
      clear hq2 HQ
      go_wp2_with fail
      go_ret
      exact ⟨by rw [← HQ2.out]; rfl, hbr⟩
end Go.Proofs.YthmdiaingolfnaaGreatDoor.St
namespace Go.Proofs.YthmdiaingolfnaaGreatDoor.St
open Go.ChangeShapes Go.WideShapes Go.ChangeAt Go.RowKit Rw Hi
set_option linter.unusedVariables false
theorem park_hit_any (w : World) (B p : Nat) (r : Option Nat) (l : List Sx) (t d : Int) (k : Nat) (h : Ss w B p r l) (hi : l.findIdx? (hit t) = some k) :
    Calls Tryz.prog 67 #[.pointer (some ⟨p, 0, none⟩), .int .i64 t, .int .u64 d] w fun e w' => e = .returned (.int .i64 10) ∧ Below w.heap.size w w' := by
  have HS := Lib.hid h
  have HZ := Lib.hid (ixZ_some hi)
  clear h hi
  go_enter Tryz.func67, Tryz.ntmps67
  go_wp2_with fail
  refine (place_any _ B p r l t HS.out).mono ?_
  rw [HZ.out]
  rintro e w1 ⟨rfl, hb⟩
  go_wp2_with fail
  go_ret
  exact ⟨rfl, hb⟩
set_option maxRecDepth 100000 in
set_option maxHeartbeats 1000000 in
theorem park_miss_any (w : World) (B p : Nat) (r : Option Nat) (l : List Sx) (t d : Int) (h : Ss w B p r l) (hi : l.findIdx? (hit t) = none) (hreach : l.length ≤ 1000) :
    Calls Tryz.prog 67 #[.pointer (some ⟨p, 0, none⟩), .int .i64 t, .int .u64 d] w fun e w' => e = .returned (.int .i64 0) ∧ ∃ r', Ss w' B p r' (l ++ [(t, d, 0)]) ∧ Fr (some p) r w w' ∧ (∀ g, r' = some g → r = some g ∨ w.heap.size ≤ g) := by
  obtain ⟨i0, hi0, hz0, hz1, hz2⟩ := info_parts info_slot
  obtain ⟨A, c, h1, ho, hA⟩ := h.row
  have hl := h.lt
  have hlo := h.lo
  have f0 := h.free0
  have HS := Lib.hid h
  have HZ := Lib.hid (ixZ_none hi)
  have HO := Lib.hid ho
  have HA := Lib.hid hA
  clear h hi ho hA
  generalize hn : l.length = n at *
  have HN := Lib.hid hn
  clear hn
  go_enter Tryz.func67, Tryz.ntmps67
  go_wp2_with fail
  refine (place_any _ B p r l t HS.out).mono ?_
  rw [HZ.out]
  rintro e w1 ⟨rfl, hb⟩
  have e0 := (hb.cell (p := ⟨p, 0, none⟩) hl).trans h1
  have hsz := hb.size
  have HB := Lib.hid hb
  clear hb
  go_wp2_with (
    at_builtin
    refine append_rs enc3_len rfl _ _ 142 rfl B 146 i0 _ 24 Tryz.underlying142 hi0 hz0 hz1 hz2 rfl (by omega) (.slice A n c) n (flat enc3 l) rfl ((own_same HO.out (fun g hg => HB.out.block g (HO.out.lt g hg).2)).alloc _) (w1.heap.size + 1) _ 1 1 [(t, d, 0)] rfl (rs_one enc3_len w1 (t, d, 0) _ rfl) enc3_one (n + 1) rfl (flat enc3 (l ++ [(t, d, 0)])) (flat_append l _).symm ?_ ?_ ?_ ?_
    · unfold maxLen; omega
    · omega
    · simp; omega
    intro A' c' w2 ho2 hg2 hat2
    have HO2 := Lib.hid ho2
    have hgw : w.grownBy w2 r := by rw [HA.out] at hg2; exact ⟨hg2.os.trans HB.out.os, hg2.tape.trans HB.out.tape, hg2.output.trans HB.out.output, Nat.le_trans hsz (Nat.le_trans (by simp) hg2.size), fun q hq hne => (hg2.block q (by simp; omega) hne).trans ((RowKit.Below.heap_alloc w1 _ q (by omega)).trans (HB.out.block q hq))⟩
    have HG := Lib.hid hgw
    have hap : (Value.slice A' (n + 1) c').ownBlock = r ∨ ∃ g, (Value.slice A' (n + 1) c').ownBlock = some g ∧ w.heap.size ≤ g := by
      rcases hat2 with e | e
      · exact .inl (e.trans HA.out)
      · exact .inr ⟨_, e, by simp; omega⟩
    have HAP := Lib.hid hap
    have hne : some p ≠ r := fun e => HS.out.ne e.symm
    have u0 : w2.cell? ⟨p, 0, none⟩ = some (.slice A n c) := hgw.cell h1 hne
    have uf : w2.frozen? ⟨p, 0, none⟩ = false := grown_frozen hgw f0 hl hne
    clear ho2 hg2 hat2 hgw hap hne)
  obtain ⟨r', q1, q2, q3⟩ := HS.out.put (l' := l ++ [(t, d, 0)]) (by simp [HN.out]) HG.out HO2.out HAP.out
  have Q := Lib.hid (show _ ∧ _ ∧ _ from ⟨q1, q2, q3⟩)
  clear q1 q2 q3
  go_wp2_with fail
  go_ret
  exact ⟨rfl, r', Q.out⟩
theorem fill_zero_any (w : World) (p : Nat) :
    Calls Tryz.prog 132 #[.pointer (some ⟨p, 0, none⟩), .int .u64 0] w fun e w' => e = .returned (.tuple #[.int .i64 0, .bool false]) ∧ w = w' := by
  go_enter Tryz.func132, Tryz.ntmps132
  go_wp2_with fail
  go_ret2
  exact ⟨rfl, rfl⟩
theorem fill_miss_any (w : World) (B p : Nat) (r : Option Nat) (l : List Sx) (i : Int) (h : Ss w B p r l) (hf : l.findIdx? free = none) (hi : i ≠ 0) :
    Calls Tryz.prog 132 #[.pointer (some ⟨p, 0, none⟩), .int .u64 i] w fun e w' => e = .returned (.tuple #[.int .i64 0, .bool false]) ∧ Below w.heap.size w w' := by
  have hi' : (i == 0) = false := by simpa using hi
  obtain ⟨A, c, h1, hr⟩ := h.rs
  have HR := Lib.hid hr
  have HZ := Lib.hid (ixZ_none hf)
  clear h hf hr hi
  generalize hn : l.length = n at *
  clear hn
  go_enter Tryz.func132, Tryz.ntmps132
  go_wp2_with fail
  refine (index_free A n c _ l _ HR.out (Nat.le_refl _)).mono ?_
  rw [HZ.out]
  rintro e w1 ⟨rfl, hb⟩
  go_wp2_with fail
  go_ret2
  exact ⟨rfl, hb⟩
set_option maxRecDepth 100000 in
set_option maxHeartbeats 1000000 in
theorem fill_hit_any (w : World) (B p : Nat) (r : Option Nat) (l : List Sx) (i : Int) (k : Nat) (x : Sx) (h : Ss w B p r l) (hf : l.findIdx? free = some k) (hx : l[k]? = some x) (hi : i ≠ 0) :
    Calls Tryz.prog 132 #[.pointer (some ⟨p, 0, none⟩), .int .u64 i] w fun e w' => e = .returned (.tuple #[.int .i64 x.1, .bool true]) ∧ Ss w' B p r (fillAt l k x i) ∧ Fr (some p) r w w' := by
  have hi' : (i == 0) = false := by simpa using hi
  obtain ⟨A, c, h1, ho, hA⟩ := h.row
  obtain ⟨x', hx', _, hkn⟩ := ix_hit hf
  have hrs := Rs.own_rs enc3_len rfl ho
  obtain ⟨b, o, y, hA2, hb0, hy, c0, c1, c2⟩ := three_at hrs hkn
  obtain rfl : x = y := by rw [hx] at hy; injection hy
  have ho0 : o = 0 := by
    rcases ho.2 with ⟨h', _⟩ | ⟨g, cap, cur, h', _⟩
    · injection h' with _ h2 _; omega
    · injection h' with h2 _ _; rw [hA2] at h2; injection h2 with h2; injection h2
  subst hA2 ho0
  simp only [Nat.zero_add] at c0 c1 c2
  have hl := h.lt
  have hcap := hrs.cap
  have htop := hrs.top
  have hfz : w.frozen? ⟨b, k * 3 + 2, none⟩ = false := ho.frozenAt _
  have HS := Lib.hid h
  have HX := Lib.hid hx
  have HZ := Lib.hid (ixZ_some hf)
  have HR := Lib.hid hrs
  have hpb : b ≠ p := fun e => h.ne (by rw [← hA, e]; rfl)
  have H1 := Lib.hid h1
  clear h hf hx hi hx' hy ho hA hrs
  obtain ⟨x0, x1, x2⟩ := x
  simp only at c0 c1 c2 ⊢
  generalize hn : l.length = n at *
  have HN := Lib.hid hn
  clear hn
  go_enter Tryz.func132, Tryz.ntmps132
  go_wp2_with fail
  refine (index_free _ n c _ l _ HR.out (Nat.le_refl _)).mono ?_
  rw [HZ.out]
  rintro e w1 ⟨rfl, hb⟩
  have e0 := (hb.cell (p := ⟨p, 0, none⟩) hl).trans h1
  have d0 := (hb.cell (p := ⟨b, k * 3, none⟩) hb0).trans c0
  have d2 := (hb.cell (p := ⟨b, k * 3 + 2, none⟩) hb0).trans c2
  have f2 := (hb.frozen (p := ⟨b, k * 3 + 2, none⟩) hb0).trans hfz
  obtain ⟨s1, s2, s3⟩ := HS.out.fill hb HX.out i (g := b) (c := c) (by rw [HN.out]; exact H1.out)
  have S1 := Lib.hid s1
  have S2 := Lib.hid s2
  have g0 : (w1.setCell ⟨b, k * 3 + 2, none⟩ (.int .u64 i)).cell? ⟨p, 0, none⟩ = some (.slice (some ⟨b, 0, none⟩) n c) := (World.cell?_setCell_other _ _ _ _ (fun e => by injection e with e; exact hpb e)).trans e0
  have g1 : (w1.setCell ⟨b, k * 3 + 2, none⟩ (.int .u64 i)).cell? ⟨b, k * 3, none⟩ = some (.int .i64 x0) := (World.cell?_setCell_other _ _ _ _ (fun e => by injection e with _ e; omega)).trans d0
  clear hb s1 s2 s3
  go_wp2_with fail
  go_ret2
  exact ⟨rfl, S1.out, S2.out⟩
end Go.Proofs.YthmdiaingolfnaaGreatDoor.St
namespace Go.Proofs.YthmdiaingolfnaaGreatDoor.St
open Go.ChangeShapes Go.WideShapes Go.ChangeAt Go.RowKit Rw Hi
set_option linter.unusedVariables false
theorem Awake10_any (w : World) (hT : Tx.Tab w) :
    Calls Tryz.prog 218 #[] w fun e w' => e = .returned (.bool true) ∧ Below w.heap.size w w' := by
  go_enter Tryz.func218, Tryz.ntmps218
  go_wp2_with fail
  refine (Fc.awake10_any _ hT).mono ?_
  rintro e w1 ⟨rfl, hb⟩
  go_wp2_with fail
  go_ret
  exact ⟨rfl, hb⟩
set_option maxHeartbeats 1000000 in
set_option maxRecDepth 100000 in
theorem awake11_any (w : World) (hT : Tx.Tab w) :
    Calls Tryz.prog 203 #[] w fun e w' => e = .returned (.bool true) ∧ Below w.heap.size w w' := by
  have HT := Lib.hid hT
  clear hT
  go_enter Tryz.func203, Tryz.ntmps203
  go_wp2_with fail
  refine (new_any _ w.heap.size (Nat.le_refl _)).mono ?_
  rintro e w1 ⟨p, rfl, h1, hp1, hb1⟩
  go_wp2_with fail
  refine (park_miss_any _ _ _ _ _ 2 9 h1 rfl (by simp)).mono ?_
  rintro e w2 ⟨rfl, r2, h2, hf2, hr2⟩
  have b2 : Below w.heap.size w w2 := hb1.trans (hf2.below hb1.size (fun k hk => by cases hk; omega) (fun k hk => by cases hk))
  have q2 : ∀ g, r2 = some g → w.heap.size ≤ g := fun g hg => (h2.rowlt g hg).1
  clear h1 hb1 hf2 hr2
  go_wp2_with fail
  refine (park_miss_any _ _ _ _ _ 1 5 h2 (by simp [List.findIdx?_cons, hit]) (by simp)).mono ?_
  rintro e w3 ⟨rfl, r3, h3, hf3, hr3⟩
  have b3 : Below w.heap.size w w3 := b2.trans (hf3.below b2.size (fun k hk => by cases hk; omega) (fun k hk => q2 k hk))
  have q3 : ∀ g, r3 = some g → w.heap.size ≤ g := fun g hg => (h3.rowlt g hg).1
  clear h2 b2 hf3 hr3 q2
  go_wp2_with fail
  refine (fill_hit_any _ _ _ _ _ 7 0 (2, 9, 0) h3 (by simp [List.findIdx?_cons, free]) (by simp) (by omega)).mono ?_
  rintro e w4 ⟨rfl, h4, hf4⟩
  have b4 : Below w.heap.size w w4 := b3.trans (hf4.below b3.size (fun k hk => by cases hk; omega) (fun k hk => q3 k hk))
  have HB := Lib.hid b4
  clear h3 b3 hf4 q3 h4 b4
  go_wp2_with fail
  refine (Awake10_any _ (HT.out.below HB.out)).mono ?_
  rintro e w5 ⟨rfl, hb5⟩
  go_wp2_with fail
  go_ret
  exact ⟨rfl, HB.out.trans (hb5.mono HB.out.size)⟩
theorem Awake11_any (w : World) (hT : Tx.Tab w) :
    Calls Tryz.prog 182 #[] w fun e w' => e = .returned (.bool true) ∧ Below w.heap.size w w' := by
  go_enter Tryz.func182, Tryz.ntmps182
  go_wp2_with fail
  refine (awake11_any _ hT).mono ?_
  rintro e w1 ⟨rfl, hb⟩
  go_wp2_with fail
  go_ret
  exact ⟨rfl, hb⟩
end Go.Proofs.YthmdiaingolfnaaGreatDoor.St
namespace Go.Proofs.YthmdiaingolfnaaGreatDoor.Lc
open Go.ChangeShapes Go.WideShapes Go.ChangeAt Go.RowKit Rw Hi Sl
set_option linter.unusedVariables false
def upd (L : Nat → List Int) (i : Nat) (xs : List Int) : Nat → List Int := fun j => if j = i then xs else L j
theorem upd_same (L : Nat → List Int) (i : Nat) (xs : List Int) : upd L i xs i = xs := by simp [upd]
theorem upd_ne (L : Nat → List Int) {i j : Nat} (xs : List Int) (h : j ≠ i) : upd L i xs j = L j := by simp [upd, h]
def last4 (l : List Int) : List Int := l.drop (l.length - 4)
theorem last4_len (l : List Int) : (last4 l).length ≤ 4 := by simp [last4]; omega
theorem last4_short {l : List Int} (h : l.length ≤ 4) : last4 l = l := by unfold last4; rw [Nat.sub_eq_zero_of_le h]; rfl
theorem last4_append (l ids : List Int) : last4 (l ++ last4 ids) = last4 (l ++ ids) := by
  unfold last4
  by_cases h : ids.length ≤ 4
  · rw [Nat.sub_eq_zero_of_le h]; rfl
  · have e : (ids.drop (ids.length - 4)).length = 4 := by simp; omega
    rw [List.drop_append, List.drop_append]
    simp only [List.length_append, e]
    rw [List.drop_of_length_le (show l.length ≤ l.length + 4 - 4 by omega), List.drop_of_length_le (show l.length ≤ l.length + ids.length - 4 by omega), List.nil_append, List.nil_append, List.drop_drop]
    congr 1
    omega
structure Lo (X : Nat → Prop) (w : World) (B p : Nat) (L : Nat → List Int) : Prop where
  at_ : ∀ i, i < 8 → ∃ A n c, w.cell? ⟨p, i, none⟩ = some (.slice A n c) ∧ Rd (Value.int .u64) w w.heap.size A n c (L i) ∧ ∀ g, (Value.slice A n c).ownBlock = some g → g < w.heap.size ∧ ¬ X g
  len : ∀ i, i < 8 → (L i).length ≤ 4
  free : ∀ i, i < 8 → w.frozen? ⟨p, i, none⟩ = false
  lo : B ≤ p
  px : ¬ X p
theorem Lo.lt {X : Nat → Prop} {w : World} {B p : Nat} {L : Nat → List Int} (h : Lo X w B p L) : p < w.heap.size := by obtain ⟨A, n, c, h1, _⟩ := h.at_ 0 (by omega); exact Lw.lt_heap h1
theorem Lo.later {X : Nat → Prop} {w w' : World} {B p : Nat} {L : Nat → List Int} (h : Lo X w B p L) (hb : Below w.heap.size w w') : Lo X w' B p L :=
  ⟨fun i hi => by
    obtain ⟨A, n, c, h1, h2, h3⟩ := h.at_ i hi
    exact ⟨A, n, c, (hb.cell (p := ⟨p, i, none⟩) h.lt).trans h1, h2.later hb, fun g hg => ⟨Nat.lt_of_lt_of_le (h3 g hg).1 hb.size, (h3 g hg).2⟩⟩, h.len, fun i hi => (hb.frozen (p := ⟨p, i, none⟩) h.lt).trans (h.free i hi), h.lo, h.px⟩
theorem Lo.same {X : Nat → Prop} {w : World} {B p : Nat} {L L' : Nat → List Int} (h : Lo X w B p L) (he : ∀ i, i < 8 → L' i = L i) : Lo X w B p L' :=
  ⟨fun i hi => by rw [he i hi]; exact h.at_ i hi, fun i hi => by rw [he i hi]; exact h.len i hi, h.free, h.lo, h.px⟩
theorem rd_store {w : World} {A : Option Addr} {n c : Nat} {xs : List Int} {p i : Nat} {A0 : Option Addr} {n0 c0 : Nat} (h : Rd (Value.int .u64) w w.heap.size A n c xs) (h0 : w.cell? ⟨p, i, none⟩ = some (.slice A0 n0 c0)) (u : Value) :
    Rd (Value.int .u64) (w.setCell ⟨p, i, none⟩ u) (w.setCell ⟨p, i, none⟩ u).heap.size A n c xs := (h.setOther h0 (fun x e => by cases e) u).more (by simp)
theorem Lo.store {X : Nat → Prop} {w : World} {B p i : Nat} {L : Nat → List Int} (h : Lo X w B p L) (hi : i < 8) {A : Option Addr} {n c : Nat} {xs : List Int} (hr : Rd (Value.int .u64) w w.heap.size A n c xs) (hl : xs.length ≤ 4) (hX : ∀ g, (Value.slice A n c).ownBlock = some g → g < w.heap.size ∧ ¬ X g) :
    Lo X (w.setCell ⟨p, i, none⟩ (.slice A n c)) B p (upd L i xs) ∧ Fr (some p) none w (w.setCell ⟨p, i, none⟩ (.slice A n c)) := by
  obtain ⟨A0, n0, c0, h0, _⟩ := h.at_ i hi
  refine ⟨⟨fun j hj => ?_, fun j hj => ?_, fun j hj => by simpa using h.free j hj, h.lo, h.px⟩, Fr.of_grown (grown_setCell _ _ _) (.inr (.inl rfl))⟩
  · by_cases e : j = i
    · subst e
      rw [upd_same]
      exact ⟨A, n, c, World.cell?_setCell_same _ _ _ h0, rd_store hr h0 _, fun g hg => by simpa using hX g hg⟩
    · rw [upd_ne L xs e]
      obtain ⟨A1, n1, c1, h1, h2, h3⟩ := h.at_ j hj
      exact ⟨A1, n1, c1, (World.cell?_setCell_other _ _ _ _ (fun e2 => by injection e2 with _ e2; omega)).trans h1, rd_store h2 h0 _, fun g hg => by simpa using h3 g hg⟩
  · by_cases e : j = i
    · subst e; rw [upd_same]; exact hl
    · rw [upd_ne L xs e]; exact h.len j hj
theorem own_fresh {X : Nat → Prop} {w : World} {base : Nat} {e : TypeId} {sz n : Nat} {v : Value} {xs : List Value} (h : w.ownsRow base e sz v n xs) (hX : ∀ g, X g → g < base) : ∀ g, v.ownBlock = some g → g < w.heap.size ∧ ¬ X g := fun g hg => by
  have := h.lt g hg
  exact ⟨this.2, fun hx => by have := hX g hx; omega⟩
theorem Lo.grown {X : Nat → Prop} {w w' : World} {B p : Nat} {L : Nat → List Int} {row : Option Nat} (h : Lo X w B p L) (hg : w.grownBy w' row) (hr : ∀ g, row = some g → X g) : Lo X w' B p L := by
  have hp : w'.heap[p]? = w.heap[p]? := hg.block p h.lt (fun e => h.px (hr p e.symm))
  refine ⟨fun i hi => ?_, h.len, fun i hi => ?_, h.lo, h.px⟩
  · obtain ⟨A, n, c, h1, h2, h3⟩ := h.at_ i hi
    refine ⟨A, n, c, by unfold World.cell?; simp only [hp]; exact h1, ⟨h2.len, h2.cap, h2.top, fun hn => ?_⟩, fun g hg' => ⟨Nat.lt_of_lt_of_le (h3 g hg').1 hg.size, (h3 g hg').2⟩⟩
    obtain ⟨b, o, e, hb, hc⟩ := h2.at_ hn
    subst e
    refine ⟨b, o, rfl, Nat.lt_of_lt_of_le hb hg.size, fun j x hx => ?_⟩
    have hbb : w'.heap[b]? = w.heap[b]? := hg.block b hb (fun e => (h3 b rfl).2 (hr b e.symm))
    unfold World.cell?
    simp only [hbb]
    exact hc j x hx
  · unfold World.frozen?; simp only [hp]; exact h.free i hi
theorem Lo.shun {X X' : Nat → Prop} {w : World} {B p : Nat} {L : Nat → List Int} (h : Lo X w B p L) (hX : ∀ g, X' g → X g ∨ w.heap.size ≤ g) : Lo X' w B p L := by
  refine ⟨fun i hi => ?_, h.len, h.free, h.lo, fun e => ?_⟩
  · obtain ⟨A, n, c, h1, h2, h3⟩ := h.at_ i hi
    refine ⟨A, n, c, h1, h2, fun g hg => ⟨(h3 g hg).1, fun e => ?_⟩⟩
    rcases hX g e with e | e
    · exact (h3 g hg).2 e
    · have := (h3 g hg).1; omega
  · rcases hX p e with e | e
    · exact h.px e
    · have := h.lt; omega
theorem Fr.of_below {w w' : World} {a b : Option Nat} (h : Below w.heap.size w w') : Fr a b w w' := ⟨h.os, h.tape, h.output, h.size, fun k hk _ _ => h.block k hk⟩
theorem Fr.after {w w' w'' : World} {p : Nat} (h : Below w.heap.size w w') (h' : Fr (some p) none w' w'') : Fr (some p) none w w'' :=
  ⟨h'.os.trans h.os, h'.tape.trans h.tape, h'.output.trans h.output, Nat.le_trans h.size h'.size, fun k hk h1 h2 => (h'.block k (Nat.lt_of_lt_of_le hk h.size) h1 h2).trans (h.block k hk)⟩
theorem rd_fr {w w' : World} {p : Nat} {A : Option Addr} {n c : Nat} {xs : List Int} (h : Rd (Value.int .u64) w w.heap.size A n c xs) (hf : Fr (some p) none w w') (ha : ∀ g, (Value.slice A n c).ownBlock = some g → g ≠ p) : Rd (Value.int .u64) w' w'.heap.size A n c xs :=
  ⟨h.len, h.cap, h.top, fun hn => by
    obtain ⟨b, o, e, hb, hc⟩ := h.at_ hn
    subst e
    exact ⟨b, o, rfl, Nat.lt_of_lt_of_le hb hf.size, fun j x hx => (hf.cell (p := ⟨b, o + j, none⟩) hb (fun e => ha b rfl (by injection e)) (fun e => by cases e)).trans (hc j x hx)⟩⟩
theorem new_any (X : Nat → Prop) (w : World) (B : Nat) (hB : B ≤ w.heap.size) (hX : ∀ g, X g → g < w.heap.size) :
    Calls Tryz.prog 34 #[] w fun e w' => ∃ p, e = .returned (.pointer (some ⟨p, 0, none⟩)) ∧ Lo X w' B p (fun _ => []) ∧ w.heap.size ≤ p ∧ Below w.heap.size w w' := by
  go_enter Tryz.func34, Tryz.ntmps34
  go_wp2_with fail
  go_ret
  refine ⟨w.heap.size, rfl, ⟨fun i hi => ⟨none, 0, 0, ?_, Rd.nil_, fun g hg => by cases hg⟩, fun i hi => by simp, fun i hi => ?_, hB, fun e => by have := hX _ e; omega⟩, Nat.le_refl _, (Below.refl _ _).alloc (Nat.le_refl _) _⟩
  · rcases (by omega : i = 0 ∨ i = 1 ∨ i = 2 ∨ i = 3 ∨ i = 4 ∨ i = 5 ∨ i = 6 ∨ i = 7) with rfl | rfl | rfl | rfl | rfl | rfl | rfl | rfl <;> go_simp
  · rcases (by omega : i = 0 ∨ i = 1 ∨ i = 2 ∨ i = 3 ∨ i = 4 ∨ i = 5 ∨ i = 6 ∨ i = 7) with rfl | rfl | rfl | rfl | rfl | rfl | rfl | rfl <;> go_simp
theorem known_yes (t : Int) (w : World) (h0 : 0 ≤ t) (h8 : t < 8) :
    Calls Tryz.prog 146 #[.int .i64 t] w fun e w' => e = .returned (.bool true) ∧ w = w' := by
  have d0 : decide (0 ≤ t) = true := decide_eq_true h0
  have d8 : decide (t < 8) = true := decide_eq_true h8
  go_enter Tryz.func146, Tryz.ntmps146
  go_wp2_with fail
  go_ret
  exact ⟨rfl, rfl⟩
theorem known_no (t : Int) (w : World) (h : t < 0 ∨ 8 ≤ t) :
    Calls Tryz.prog 146 #[.int .i64 t] w fun e w' => e = .returned (.bool false) ∧ w = w' := by
  by_cases h0 : 0 ≤ t
  · have d0 : decide (0 ≤ t) = true := decide_eq_true h0
    have d8 : decide (t < 8) = false := decide_eq_false (by omega)
    go_enter Tryz.func146, Tryz.ntmps146
    go_wp2_with fail
    go_ret
    exact ⟨rfl, rfl⟩
  · have d0 : decide (0 ≤ t) = false := decide_eq_false h0
    go_enter Tryz.func146, Tryz.ntmps146
    go_wp2_with fail
    go_ret
    exact ⟨rfl, rfl⟩
theorem list_nil (t : Int) (w : World) :
    Calls Tryz.prog 202 #[.pointer none, .int .i64 t] w fun e w' => e = .returned (.slice none 0 0) ∧ w = w' := by
  go_enter Tryz.func202, Tryz.ntmps202
  go_wp2_with fail
  go_ret
  exact ⟨rfl, rfl⟩
theorem list_out (p : Nat) (t : Int) (w : World) (h : t < 0 ∨ 8 ≤ t) :
    Calls Tryz.prog 202 #[.pointer (some ⟨p, 0, none⟩), .int .i64 t] w fun e w' => e = .returned (.slice none 0 0) ∧ w = w' := by
  go_enter Tryz.func202, Tryz.ntmps202
  go_wp2_with fail
  refine (known_no t _ h).mono ?_
  rintro e w1 ⟨rfl, rfl⟩
  go_wp2_with fail
  go_ret
  exact ⟨rfl, rfl⟩
theorem list_in (p i : Nat) (w : World) (v : Value) (hi : i < 8) (hc : w.cell? ⟨p, i, none⟩ = some v) :
    Calls Tryz.prog 202 #[.pointer (some ⟨p, 0, none⟩), .int .i64 i] w fun e w' => e = .returned v ∧ w = w' := by
  go_enter Tryz.func202, Tryz.ntmps202
  go_wp2_with fail
  refine (known_yes i _ (by omega) (by omega)).mono ?_
  rintro e w1 ⟨rfl, rfl⟩
  go_wp2_with fail
  go_ret
  exact ⟨rfl, rfl⟩
theorem newest_any (A : Option Addr) (n c B : Nat) (xs : List Int) (w : World) (h : Rd (Value.int .u64) w B A n c xs) :
    Calls Tryz.prog 148 #[.slice A n c] w fun e w' => ∃ A' n' c', e = .returned (.slice A' n' c') ∧ n' ≤ 4 ∧ Rd (Value.int .u64) w B A' n' c' (last4 xs) ∧ w = w' := by
  have hnc := h.cap
  have htop := h.top
  have HR := Lib.hid h
  have HL := Lib.hid h.len
  clear h
  by_cases hn : n ≤ 4
  · have hm : max (0 : Int) ((n : Int) - 4) = 0 := by omega
    have hl4 := last4_short (l := xs) (by rw [HL.out]; exact hn)
    have HL4 := Lib.hid hl4
    clear hl4
    cases A with
    | none =>
      have hc0 : n = 0 := by
        rcases Nat.eq_zero_or_pos n with h0 | h0
        · exact h0
        · obtain ⟨b, o, e, _⟩ := HR.out.at_ h0; cases e
      subst hc0
      by_cases hc : c = 0
      · subst hc
        go_enter Tryz.func148, Tryz.ntmps148
        go_wp2_with fail
        go_ret
        exact ⟨_, _, _, rfl, by omega, by rw [HL4.out]; exact HR.out, rfl⟩
      · go_enter Tryz.func148, Tryz.ntmps148
        go_wp2_with fail
        go_ret
        exact ⟨_, _, _, rfl, by omega, by rw [HL4.out]; exact HR.out, rfl⟩
    | some a =>
      go_enter Tryz.func148, Tryz.ntmps148
      go_wp2_with fail
      go_ret
      exact ⟨_, _, _, rfl, by omega, by rw [HL4.out]; exact HR.out, rfl⟩
  · obtain ⟨b, o, x, rfl, _, _, _⟩ := HR.out.get (k := 0) (by omega)
    obtain ⟨m, hmn⟩ : ∃ m : Nat, n = m + 4 := ⟨n - 4, by omega⟩
    have hm : max (0 : Int) ((n : Int) - 4) = (m : Int) := by omega
    have hm0 : m < c := by omega
    have hm1 : ¬ c = m := by omega
    have hm2 : m ≤ n := by omega
    have hl4 : last4 xs = xs.drop m := by unfold last4; rw [HL.out, hmn]; rfl
    have hr := HR.out.back (i := m) hm2 rfl (A' := some ⟨b, o + m, none⟩) (fun _ => rfl)
    have HL4 := Lib.hid hl4
    have HR2 := Lib.hid hr
    have HM := Lib.hid hmn
    clear hl4 hr hmn
    go_enter Tryz.func148, Tryz.ntmps148
    go_wp2_with fail
    go_ret
    obtain rfl : m = n - 4 := by have := HM.out; omega
    exact ⟨_, _, _, rfl, by omega, by rw [HL4.out]; exact HR2.out, rfl⟩
theorem put_out (p : Nat) (t : Int) (A : Option Addr) (n c : Nat) (w : World) (h : t < 0 ∨ 8 ≤ t) :
    Calls Tryz.prog 134 #[.pointer (some ⟨p, 0, none⟩), .int .i64 t, .slice A n c] w fun e w' => e = .returned (.int .i64 2) ∧ w = w' := by
  go_enter Tryz.func134, Tryz.ntmps134
  go_wp2_with fail
  refine (known_no t _ h).mono ?_
  rintro e w1 ⟨rfl, rfl⟩
  go_wp2_with fail
  go_ret
  exact ⟨rfl, rfl⟩
set_option maxRecDepth 100000 in
set_option maxHeartbeats 2000000 in
theorem put_in (X : Nat → Prop) (w : World) (B p i : Nat) (L : Nat → List Int) (A : Option Addr) (n c : Nat) (ids : List Int) (hX : ∀ g, X g → g < w.heap.size) (h : Lo X w B p L) (hi : i < 8) (hr : Rd (Value.int .u64) w w.heap.size A n c ids) (hn : n ≤ 1000) :
    Calls Tryz.prog 134 #[.pointer (some ⟨p, 0, none⟩), .int .i64 i, .slice A n c] w fun e w' => e = .returned (.int .i64 0) ∧ Lo X w' B p (upd L i (last4 (L i ++ ids))) ∧ Fr (some p) none w w' := by
  obtain ⟨A0, n0, c0, h0, hr0, _⟩ := h.at_ i hi
  have hl := h.lt
  have hn0 : n0 ≤ 4 := by rw [← hr0.len]; exact h.len i hi
  have hi8 : (i : Int) < 8 := by omega
  have HL := Lib.hid h
  have HR := Lib.hid hr
  have HR0 := Lib.hid hr0
  have HX := Lib.hid hX
  clear h hr hr0 hX
  go_enter Tryz.func134, Tryz.ntmps134
  go_wp2_with fail
  refine (known_yes i _ (by omega) (by omega)).mono ?_
  rintro e w1 ⟨rfl, rfl⟩
  go_wp2_with fail
  refine reg_start 11 (fun w' => Below w.heap.size w w') (by kernel_rfl) (by kernel_rfl) ?_
  intro hTT
  have HTT := Lib.hid hTT
  have HS := Lib.hid (show Below w.heap.size w w.drew from (Below.refl _ _).drew)
  clear hTT
  refine reg_load 0 HTT.out rfl (by kernel_rfl) (by decide) (fun _ _ _ _ h => h) HS.out rfl ?_
  apply Exists.intro
  refine ⟨fun w' hw => by (go_simp; exact rfl), ?_⟩
  refine reg_load 1 HTT.out rfl (by kernel_rfl) (by decide) (fun _ _ _ _ h => h) HS.out rfl ?_
  apply Exists.intro
  refine ⟨fun w' hw => by (go_simp; exact rfl), ?_⟩
  refine reg_load 2 HTT.out rfl (by kernel_rfl) (by decide) (fun _ _ _ _ h => h) HS.out rfl ?_
  apply Exists.intro
  refine ⟨fun w' hw => by (go_simp; exact rfl), ?_⟩
  refine reg_load 3 HTT.out rfl (by kernel_rfl) (by decide) (fun _ _ _ _ h => h) HS.out rfl ?_
  apply Exists.intro
  refine ⟨fun w' hw => by (go_simp; exact rfl), ?_⟩
  refine reg_load 4 HTT.out rfl (by kernel_rfl) (by decide) (fun _ _ _ _ h => h) HS.out rfl ?_
  apply Exists.intro
  refine ⟨fun w' hw => by (go_simp; exact rfl), ?_⟩
  refine reg_load 5 HTT.out rfl (by kernel_rfl) (by decide) (fun _ _ _ _ h => h) HS.out rfl ?_
  apply Exists.intro
  refine ⟨fun w' hw => by (have k0 := (hw.cell (p := ⟨p, i, none⟩) hl).trans h0; go_simp; exact rfl), ?_⟩
  refine reg_load 6 HTT.out rfl (by kernel_rfl) (by decide) (fun _ _ _ _ h => h) HS.out rfl ?_
  apply Exists.intro
  refine ⟨fun w' hw => by (go_simp; exact rfl), ?_⟩
  refine reg_only 7 rfl (by kernel_rfl) rfl ?_
  unfold Oper.wp
  go_simp
  refine (newest_any A n c _ ids _ (HR.out.later HS.out)).mono ?_
  rintro e w2 ⟨A2, n2, c2, rfl, hn2, hr2, rfl⟩
  have HR2 := Lib.hid hr2
  clear hr2
  refine ⟨HS.out, ?_⟩
  refine reg_only 8 rfl (by kernel_rfl) rfl ?_
  unfold Oper.wp
  go_simp
  have HS8 := Lib.hid (show Below w.heap.size w (w.alloc (.cells #[.slice A0 n0 c0, .slice A2 n2 c2] 54)).drew from ((Below.refl _ _).alloc (Nat.le_refl _) _).drew)
  have HR2' := Lib.hid (show Rd (Value.int .u64) w w.heap.size A2 n2 c2 (last4 ids) from ⟨HR2.out.len, HR2.out.cap, HR2.out.top, HR2.out.at_⟩)
  refine ⟨HS8.out, ?_⟩
  refine reg_only 9 rfl (by kernel_rfl) rfl ?_
  unfold Oper.wp
  go_simp
  refine (concat_two w.heap.size A0 A2 n0 c0 n2 c2 w.heap.size w.heap.size (L i) (last4 ids) (w.alloc (.cells #[.slice A0 n0 c0, .slice A2 n2 c2] 54)).drew (by go_simp) (by go_simp) (HR0.out.below HS8.out) (HR2'.out.below HS8.out) (by simp) (by simp) (by simp) (by omega)).mono ?_
  rintro e w3 ⟨A3, c3, rfl, ho3, hb3⟩
  have HS9 := Lib.hid (HS8.out.trans (hb3.mono HS8.out.size))
  have HR3 := Lib.hid (Rd.own_rd ho3)
  clear hb3 ho3 HR2 HR2' HS8 HS HR0 HR
  refine ⟨HS9.out, ?_⟩
  refine reg_only 10 rfl (by kernel_rfl) rfl ?_
  unfold Oper.wp
  go_simp
  refine ⟨HS9.out, ?_⟩
  refine reg_done (by kernel_rfl) ?_
  go_wp2_with fail
  refine reg_start 8 (fun w' => Below w.heap.size w w') (by kernel_rfl) (by kernel_rfl) ?_
  intro hTT2
  have HTT := Lib.hid hTT2
  have HS := Lib.hid (show Below w.heap.size w w3.drew from HS9.out.drew)
  clear hTT2
  refine reg_load 0 HTT.out rfl (by kernel_rfl) (by decide) (fun _ _ _ _ h => h) HS.out rfl ?_
  apply Exists.intro
  refine ⟨fun w' hw => by (go_simp; exact rfl), ?_⟩
  refine reg_load 1 HTT.out rfl (by kernel_rfl) (by decide) (fun _ _ _ _ h => h) HS.out rfl ?_
  apply Exists.intro
  refine ⟨fun w' hw => by (go_simp; exact rfl), ?_⟩
  refine reg_load 2 HTT.out rfl (by kernel_rfl) (by decide) (fun _ _ _ _ h => h) HS.out rfl ?_
  apply Exists.intro
  refine ⟨fun w' hw => by (go_simp; exact rfl), ?_⟩
  refine reg_load 5 HTT.out rfl (by kernel_rfl) (by decide) (fun _ _ _ _ h => h) HS.out rfl ?_
  apply Exists.intro
  refine ⟨fun w' hw => by (go_simp; exact rfl), ?_⟩
  refine reg_load 6 HTT.out rfl (by kernel_rfl) (by decide) (fun _ _ _ _ h => h) HS.out rfl ?_
  apply Exists.intro
  refine ⟨fun w' hw => by (go_simp; exact rfl), ?_⟩
  refine reg_only 3 rfl (by kernel_rfl) rfl ?_
  unfold Oper.wp
  go_simp
  refine (newest_any A3 (n0 + n2) c3 _ (L i ++ last4 ids) _ HR3.out.drew).mono ?_
  rintro e w4 ⟨A4, n4, c4, rfl, hn4, hr4, rfl⟩
  have HR4 := Lib.hid hr4
  clear hr4
  refine ⟨HS.out, ?_⟩
  refine reg_only 4 rfl (by kernel_rfl) rfl ?_
  unfold Oper.wp
  go_simp
  refine (Sl.clone_any A4 n4 c4 _ _ w3.drew HR4.out (Nat.le_refl _) (by omega)).mono ?_
  rintro e w5 ⟨A5, c5, rfl, ho5, hb5⟩
  have HS5 := Lib.hid (HS.out.trans (hb5.mono HS.out.size))
  have HR5 := Lib.hid (Rd.own_rd ho5)
  have HX5 := Lib.hid (own_fresh ho5 (X := X) (fun g hg => Nat.lt_of_lt_of_le (HX.out g hg) HS.out.size))
  clear hb5 ho5 HR4 HS
  have hl4 : (last4 (L i ++ last4 ids)).length ≤ 4 := last4_len _
  obtain ⟨q1, q2⟩ := (HL.out.later HS5.out).store hi HR5.out hl4 HX5.out
  rw [last4_append] at q1
  have Q1 := Lib.hid q1
  have Q2 := Lib.hid (Fr.after HS5.out q2)
  have k0 := (HS5.out.cell (p := ⟨p, i, none⟩) hl).trans h0
  have f0 := (HS5.out.frozen (p := ⟨p, i, none⟩) hl).trans (HL.out.free i hi)
  clear q1 q2 hl4 HR5
  refine ⟨HS5.out, ?_⟩
  refine reg_load 7 HTT.out rfl (by kernel_rfl) (by decide) (fun _ _ _ _ h => h) HS5.out rfl ?_
  apply Exists.intro
  refine ⟨fun w' hw => by (go_simp; exact rfl), ?_⟩
  refine reg_only 8 rfl (by kernel_rfl) rfl ?_
  unfold Oper.wp
  go_simp
  refine reg_done (by kernel_rfl) ?_
  go_wp2_with fail
  go_ret
  exact ⟨rfl, Q1.out, Q2.out⟩
theorem take_none (p : Option Addr) (t : Int) (w : World) (h : p = none ∨ ∃ b, p = some ⟨b, 0, none⟩ ∧ (t < 0 ∨ 8 ≤ t)) :
    Calls Tryz.prog 181 #[.pointer p, .int .i64 t] w fun e w' => e = .returned (.tuple #[.int .u64 0, .bool false]) ∧ w = w' := by
  rcases h with rfl | ⟨b, rfl, h⟩
  · go_enter Tryz.func181, Tryz.ntmps181
    go_wp2_with fail
    refine (list_nil t _).mono ?_
    rintro e w1 ⟨rfl, rfl⟩
    go_wp2_with fail
    go_ret2
    exact ⟨rfl, rfl⟩
  · go_enter Tryz.func181, Tryz.ntmps181
    go_wp2_with fail
    refine (list_out b t _ h).mono ?_
    rintro e w1 ⟨rfl, rfl⟩
    go_wp2_with fail
    go_ret2
    exact ⟨rfl, rfl⟩
set_option maxRecDepth 100000 in
set_option maxHeartbeats 2000000 in
theorem take_some (X : Nat → Prop) (w : World) (B p i : Nat) (L : Nat → List Int) (xs : List Int) (x : Int) (h : Lo X w B p L) (hi : i < 8) (he : L i = xs ++ [x]) :
    Calls Tryz.prog 181 #[.pointer (some ⟨p, 0, none⟩), .int .i64 i] w fun e w' => e = .returned (.tuple #[.int .u64 x, .bool true]) ∧ Lo X w' B p (upd L i xs) ∧ Fr (some p) none w w' := by
  obtain ⟨A0, n0, c0, h0, hr0, hx0⟩ := h.at_ i hi
  have HX0 := Lib.hid hx0
  clear hx0
  have hl := h.lt
  have f0 := h.free i hi
  have hlen := hr0.len
  have hle := h.len i hi
  rw [he] at hlen hle
  obtain ⟨m, hm⟩ : ∃ m, xs.length = m := ⟨_, rfl⟩
  simp only [List.length_append, List.length_cons, List.length_nil, hm] at hlen hle
  subst hlen
  have hi8 : (i : Int) < 8 := by omega
  obtain ⟨b, o, y, rfl, hb, hy, cy⟩ := hr0.get (k := m) (by omega)
  have hyx : y = x := by
    rw [he, List.getElem?_append_right (by omega), hm, Nat.sub_self] at hy
    injection hy with hy
    exact hy.symm
  subst hyx
  have hfr := hr0.front (i := m) (by omega)
  rw [he, List.take_append_of_le_length (by omega), List.take_of_length_le (by omega)] at hfr
  have hcap := hr0.cap
  have htop := hr0.top
  have hmc : m ≤ c0 := by omega
  have HL := Lib.hid h
  have HF := Lib.hid hfr
  have hmz : ((m : Int) + 1 == 0) = false := beq_eq_false_iff_ne.2 (by omega)
  have hxs4 : xs.length ≤ 4 := by omega
  have HX4 := Lib.hid hxs4
  clear h hr0 hy hfr he hm hxs4
  go_enter Tryz.func181, Tryz.ntmps181
  go_wp2_with fail
  refine (list_in p i _ _ hi h0).mono ?_
  rintro e w1 ⟨rfl, rfl⟩
  go_wp2_with fail
  refine reg_start 8 (fun w' => Below w.heap.size w w') (by kernel_rfl) (by kernel_rfl) ?_
  intro hTT
  have HTT := Lib.hid hTT
  have HS := Lib.hid (show Below w.heap.size w w.drew from (Below.refl _ _).drew)
  clear hTT
  refine reg_load 0 HTT.out rfl (by kernel_rfl) (by decide) (fun _ _ _ _ h => h) HS.out rfl ?_
  apply Exists.intro
  refine ⟨fun w' hw => by (go_simp; exact rfl), ?_⟩
  refine reg_load 1 HTT.out rfl (by kernel_rfl) (by decide) (fun _ _ _ _ h => h) HS.out rfl ?_
  apply Exists.intro
  refine ⟨fun w' hw => by (go_simp; exact rfl), ?_⟩
  refine reg_load 2 HTT.out rfl (by kernel_rfl) (by decide) (fun _ _ _ _ h => h) HS.out rfl ?_
  apply Exists.intro
  refine ⟨fun w' hw => by (go_simp; exact rfl), ?_⟩
  refine reg_load 3 HTT.out rfl (by kernel_rfl) (by decide) (fun _ _ _ _ h => h) HS.out rfl ?_
  apply Exists.intro
  refine ⟨fun w' hw => by (go_simp; exact rfl), ?_⟩
  refine reg_load 4 HTT.out rfl (by kernel_rfl) (by decide) (fun _ _ _ _ h => h) HS.out rfl ?_
  apply Exists.intro
  refine ⟨fun w' hw => by (go_simp; exact rfl), ?_⟩
  refine reg_load 5 HTT.out rfl (by kernel_rfl) (by decide) (fun _ _ _ _ h => h) HS.out rfl ?_
  apply Exists.intro
  refine ⟨fun w' hw => by (go_simp; exact rfl), ?_⟩
  refine reg_load 6 HTT.out rfl (by kernel_rfl) (by decide) (fun _ _ _ _ h => h) HS.out rfl ?_
  apply Exists.intro
  refine ⟨fun w' hw => by (go_simp; exact rfl), ?_⟩
  refine reg_load 7 HTT.out rfl (by kernel_rfl) (by decide) (fun _ _ _ _ h => h) HS.out rfl ?_
  apply Exists.intro
  refine ⟨fun w' hw => by (go_simp; exact rfl), ?_⟩
  have k0 := (HS.out.cell (p := ⟨p, i, none⟩) hl).trans h0
  have k1 := (HS.out.frozen (p := ⟨p, i, none⟩) hl).trans f0
  refine reg_only 8 rfl (by kernel_rfl) rfl ?_
  unfold Oper.wp
  go_simp
  obtain ⟨q1, q2⟩ := (HL.out.later HS.out).store hi (HF.out.later HS.out) HX4.out HX0.out
  have Q1 := Lib.hid q1
  have Q2 := Lib.hid (Fr.after HS.out q2)
  have hcy : (w.setCell ⟨p, i, none⟩ (.slice (some ⟨b, o, none⟩) m c0)).cell? ⟨b, o + m, none⟩ = some (.int .u64 y) := by
    refine (World.cell?_setCell_other _ _ _ _ (fun e => ?_)).trans cy
    injection e with e1 e2
    subst e1
    rw [e2] at h0
    rw [cy] at h0
    cases h0
  clear q1 q2
  refine reg_done (by kernel_rfl) ?_
  go_wp2_with fail
  go_ret2
  exact ⟨rfl, Q1.out, Q2.out⟩
theorem all_in (X : Nat → Prop) (w : World) (B p i : Nat) (L : Nat → List Int) (h : Lo X w B p L) (hi : i < 8) :
    Calls Tryz.prog 180 #[.pointer (some ⟨p, 0, none⟩), .int .i64 i] w fun e w' => ∃ A c, e = .returned (.slice A (L i).length c) ∧ Rd (Value.int .u64) w' w'.heap.size A (L i).length c (L i) ∧ (∀ g, (Value.slice A (L i).length c).ownBlock = some g → w.heap.size ≤ g) ∧ Below w.heap.size w w' := by
  obtain ⟨A0, n0, c0, h0, hr0, _⟩ := h.at_ i hi
  have hlen := hr0.len
  have hle := h.len i hi
  have HR := Lib.hid hr0
  rw [hlen] at hle ⊢
  clear h hr0 hlen
  go_enter Tryz.func180, Tryz.ntmps180
  go_wp2_with fail
  refine (list_in p i _ _ hi h0).mono ?_
  rintro e w1 ⟨rfl, rfl⟩
  go_wp2_with fail
  refine (Sl.clone_any A0 n0 c0 _ _ w HR.out (Nat.le_refl _) (by omega)).mono ?_
  rintro e w1 ⟨A, c, rfl, ho, hb⟩
  have HO := Lib.hid (Rd.own_rd ho)
  have HF := Lib.hid ho.lt
  clear ho
  go_wp2_with fail
  go_ret
  exact ⟨A, c, rfl, HO.out, fun g hg => (HF.out g hg).1, hb⟩
end Go.Proofs.YthmdiaingolfnaaGreatDoor.Lc
namespace Go.Proofs.YthmdiaingolfnaaGreatDoor.Lc
open Go.ChangeShapes Go.WideShapes Go.ChangeAt Go.RowKit Rw Hi Sl
set_option linter.unusedVariables false
theorem put_t (X : Nat → Prop) (w : World) (B p i : Nat) (t : Int) (ht : t = i) (L : Nat → List Int) (A : Option Addr) (n c : Nat) (ids : List Int) (hX : ∀ g, X g → g < w.heap.size) (h : Lo X w B p L) (hi : i < 8) (hr : Rd (Value.int .u64) w w.heap.size A n c ids) (hn : n ≤ 1000) :
    Calls Tryz.prog 134 #[.pointer (some ⟨p, 0, none⟩), .int .i64 t, .slice A n c] w fun e w' => e = .returned (.int .i64 0) ∧ Lo X w' B p (upd L i (last4 (L i ++ ids))) ∧ Fr (some p) none w w' := by
  subst ht; exact put_in X w B p i L A n c ids hX h hi hr hn
theorem take_some_t (X : Nat → Prop) (w : World) (B p i : Nat) (t : Int) (ht : t = i) (L : Nat → List Int) (xs : List Int) (x : Int) (h : Lo X w B p L) (hi : i < 8) (he : L i = xs ++ [x]) :
    Calls Tryz.prog 181 #[.pointer (some ⟨p, 0, none⟩), .int .i64 t] w fun e w' => e = .returned (.tuple #[.int .u64 x, .bool true]) ∧ Lo X w' B p (upd L i xs) ∧ Fr (some p) none w w' := by
  subst ht; exact take_some X w B p i L xs x h hi he
theorem all_t (X : Nat → Prop) (w : World) (B p i : Nat) (t : Int) (ht : t = i) (L : Nat → List Int) (n : Nat) (hn : (L i).length = n) (h : Lo X w B p L) (hi : i < 8) :
    Calls Tryz.prog 180 #[.pointer (some ⟨p, 0, none⟩), .int .i64 t] w fun e w' => ∃ A c, e = .returned (.slice A n c) ∧ Rd (Value.int .u64) w' w'.heap.size A n c (L i) ∧ (∀ g, (Value.slice A n c).ownBlock = some g → w.heap.size ≤ g) ∧ Below w.heap.size w w' := by
  subst ht hn; exact all_in X w B p i L h hi
theorem fr_bel {w w' : World} {B p : Nat} (h : Fr (some p) none w w') (hB : B ≤ w.heap.size) (hp : B ≤ p) : Below B w w' := h.below hB (fun k hk => by injection hk with hk; omega) (fun k hk => by cases hk)
theorem rd_lit (w : World) (cs : Array Value) (xs : List Int) (h : cs.toList = xs.map (Value.int .u64)) (n : Nat) (hl : xs.length = n) (hn : n ≤ 1000) : Rd (Value.int .u64) (w.alloc (.cells cs 22)) (w.alloc (.cells cs 22)).heap.size (some ⟨w.heap.size, 0, none⟩) n n xs := by
  subst hl
  have h1 := World.ownsRow_lit (base := w.heap.size) (e := 22) (size := 1) w cs xs.length (Nat.le_refl _) (by unfold maxLen; omega) (by rw [← Array.length_toList, h]; simp)
  rw [h] at h1
  exact Rd.own_rd h1
set_option maxHeartbeats 1000000 in
set_option maxRecDepth 100000 in
theorem awake12_any (w : World) (hT : Tx.Tab w) :
    Calls Tryz.prog 169 #[] w fun e w' => e = .returned (.bool true) ∧ Below w.heap.size w w' := by
  have HT := Lib.hid hT
  clear hT
  go_enter Tryz.func169, Tryz.ntmps169
  go_wp2_with fail
  refine (new_any (fun _ => False) _ w.heap.size (Nat.le_refl _) (fun g hg => hg.elim)).mono ?_
  rintro e w1 ⟨p, rfl, h1, hp1, hb1⟩
  have hs1 := hb1.size
  go_wp2_with fail
  refine (put_t (fun _ => False) _ _ _ 1 1 rfl _ _ 5 5 [5, 6, 7, 8, 9] (fun g hg => hg.elim) (h1.later ((Below.refl _ _).alloc (Nat.le_refl _) _)) (by omega) (rd_lit w1 _ _ rfl 5 rfl (by omega)) (by omega)).mono ?_
  rintro e w2 ⟨rfl, h2, hf2⟩
  have b2 : Below w.heap.size w w2 := (hb1.alloc hs1 _).trans (fr_bel hf2 (by simp; omega) hp1)
  have H2 := Lib.hid h2
  have B2 := Lib.hid b2
  clear h1 h2 b2 hb1 hf2
  go_wp2_with fail
  refine (all_t _ _ _ _ 1 1 rfl _ 4 rfl H2.out (by omega)).mono ?_
  rintro e w3 ⟨A3, c3, rfl, hr3, hx3, hb3⟩
  have hp2 := H2.out.lt
  have H3 := Lib.hid (H2.out.later hb3)
  have R3 := Lib.hid hr3
  have B3 := Lib.hid (B2.out.trans (hb3.mono B2.out.size))
  clear hr3 hb3 H2 B2
  go_wp2_with fail
  refine (take_some_t _ _ _ _ 1 1 rfl _ [6, 7, 8] 9 H3.out (by omega) rfl).mono ?_
  rintro e w4 ⟨rfl, h4, hf4⟩
  have R4 := Lib.hid (show Rd (Value.int .u64) w4 w4.heap.size A3 4 c3 [6, 7, 8, 9] from rd_fr R3.out hf4 (fun g hg e => by have := hx3 g hg; omega))
  have B4 := Lib.hid (B3.out.trans (fr_bel hf4 B3.out.size h4.lo))
  have hs4 := B4.out.size
  clear h4 hf4 H3 R3 B3 hx3
  go_wp2_with fail
  refine (St.Awake11_any _ (HT.out.below B4.out)).mono ?_
  rintro e w5 ⟨rfl, hb5⟩
  have R5 := Lib.hid (R4.out.later hb5)
  have B5 := Lib.hid (B4.out.trans (hb5.mono hs4))
  have hs5 := B5.out.size
  clear hb5 R4 B4
  go_wp2_with fail
  refine (equal_any A3 (some ⟨w5.heap.size, 0, none⟩) 4 c3 4 4 [6, 7, 8, 9] [6, 7, 8, 9] _ _ _ (R5.out.alloc (Nat.le_refl _) _) (rd_lit w5 _ _ rfl 4 rfl (by omega))).mono ?_
  rintro e w6 ⟨rfl, q, rfl⟩
  rw [decide_eq_true rfl]
  go_wp2_with fail
  go_ret
  exact ⟨rfl, below_drewN (B5.out.alloc hs5 _) q⟩
theorem Awake12_any (w : World) (hT : Tx.Tab w) :
    Calls Tryz.prog 158 #[] w fun e w' => e = .returned (.bool true) ∧ Below w.heap.size w w' := by
  go_enter Tryz.func158, Tryz.ntmps158
  go_wp2_with fail
  refine (awake12_any _ hT).mono ?_
  rintro e w1 ⟨rfl, hb⟩
  go_wp2_with fail
  go_ret
  exact ⟨rfl, hb⟩
end Go.Proofs.YthmdiaingolfnaaGreatDoor.Lc
