/- Lists of floats: contracts at []float64 of floats, slices.Clone, Reverse (it permutes), SortFunc by ratio.Cmp, EqualFunc by Same. -/
import Derived.Test.YtobilnloghofpaaGreatDoorRatioC
import Derived.Test.YtobilnloghofpaaGreatDoorBase2
namespace Go.Proofs.YtobilnloghofpaaGreatDoor.Fl
open Go.ChangeShapes Go.WideShapes Go.ChangeAt Go.RowKit Rw Ck Go.Sort
set_option linter.unusedVariables false

/-- Words of 64 bits. -/
abbrev F : Type := {n : Nat // n < 18446744073709551616}
instance : Inhabited F := ⟨⟨0, by omega⟩⟩
def encF (u : F) : Value := .float .f64 u.1
theorem encF_one : OneCell encF := fun _ => rfl
def toF (x : Int) : F := ⟨x.toNat % 18446744073709551616, Nat.mod_lt _ (by omega)⟩
theorem info_f64 : (Tryz.prog.info? 25).map (fun i => (i.zero, i.size, i.bytes)) = some (some (.float .f64 0), 1, 8) := by kernel_rfl
theorem row_ne' {w : World} {base : Nat} {e : TypeId} {v : Value} {n : Nat} {xs : List Value} (h : w.ownsRow base e 1 v n xs) {g : Nat} (hg : g < base) : some g ≠ v.ownBlock := fun e => by
  have := (h.lt g e.symm).1; omega

set_option maxRecDepth 100000 in
set_option maxHeartbeats 2000000 in
theorem floats_any (A : Option Addr) (n c : Nat) (xs : List Int) (w : World) (h : Rd (Value.int .u64) w w.heap.size A n c xs) (hok : Sn.U64s xs) (hn : n ≤ 60) :
    Calls Tryz.prog 10 #[.slice A n c] w fun e w' => ∃ A' c' acc, e = .returned (.slice A' n c') ∧ acc = xs.map toF ∧ w'.ownsRow w.heap.size 25 1 (.slice A' n c') n (acc.map encF) ∧ Below w.heap.size w w' := by
  obtain ⟨i0, hi, hz0, hz1, hz2⟩ := info_parts info_f64
  have rb := fbits_run
  have hlen := h.len
  have R := Lib.hid h
  have HO := Lib.hid hok
  have HL := Lib.hid hlen
  clear h hok hlen
  go_enter Tryz.func10, Tryz.ntmps10
  go_wp2
  go_loopw [3, 8] (fun v i wr => ∃ (k c' : Nat) (A' : Option Addr) (acc : List F), k ≤ n ∧ i = .int .i64 k ∧ v = .slice A' k c' ∧ acc.length = k ∧ Hid (acc = (xs.take k).map toF) ∧
      wr.ownsRow w.heap.size 25 1 (.slice A' k c') k (acc.map encF) ∧ Below w.heap.size w wr) (fun _ i _ => n - (intOf i).toNat)
  case atStart => exact ⟨0, 0, none, [], Nat.zero_le _, rfl, rfl, rfl, rfl, World.ownsRow_nil _ _ _ _, Below.refl _ _⟩
  case round =>
    obtain ⟨k, c', A', acc, hk, rfl, rfl, hal, hacc, hrow, hbel⟩ := hrel
    have HAL := Lib.hid hal
    clear hal
    by_cases hlt : k < n
    · obtain ⟨b, o, x, rfl, hb, hx, hcell⟩ := R.out.get hlt
      have hcx : wr.cell? ⟨b, o + k, none⟩ = some (.int .u64 x) := (hbel.cell (p := ⟨b, o + k, none⟩) hb).trans hcell
      have hx64 := HO.out.get hx
      have hxf : toF x = ⟨x.toNat, by omega⟩ := by unfold toF; congr 1; exact Nat.mod_eq_of_lt (by omega)
      have e1 : acc ++ [(⟨x.toNat, by omega⟩ : F)] = (xs.take (k + 1)).map toF := by rw [Sn.take_snoc hx, List.map_append, ← hacc.out, List.map_cons, hxf]; rfl
      have E1 := Lib.hid e1
      have hrd : Rd encF (wr.alloc (.cells #[.float .f64 x.toNat] 25)) (wr.heap.size + 1) (some ⟨wr.heap.size, 0, none⟩) 1 1 [(⟨x.toNat, by omega⟩ : F)] := rd_one (enc := encF) wr (⟨x.toNat, by omega⟩ : F) 25
      have HRD := Lib.hid hrd
      have hmp : acc.map encF ++ [(⟨x.toNat, by omega⟩ : F)].map encF = (acc ++ [(⟨x.toNat, by omega⟩ : F)]).map encF := List.map_append.symm
      have HMP := Lib.hid hmp
      have hbs := hbel.size
      clear hx hcell hxf e1 hrd hmp hacc
      go_wp2_with (at_builtin; refine append_rd _ rfl _ _ 31 rfl w.heap.size 25 i0 (.float .f64 0) 8 Tryz.underlying31 hi hz0 hz1 hz2 rfl _ k _ rfl (hrow.alloc _) _ _ 1 1 [(⟨x.toNat, by omega⟩ : F)] rfl HRD.out encF_one (k + 1) rfl _ HMP.out (by unfold maxLen; omega) (by omega) (by simp; omega) ?_; intro A3 c3 w3 hrow3 hg3 hat3)
      go_roundw
      case rel => exact ⟨k + 1, c3, A3, _, by omega, by go_num, rfl, by simp [HAL.out], E1.out, hrow3, (hbel.alloc hbs _).grown hg3 (by simp; omega) (fun j hj => (hrow.lt j hj).1)⟩
      case measure => simp [intOf]; omega
    · have hk' : k = n := by omega
      subst hk'
      have e1 : acc = xs.map toF := by rw [hacc.out, List.take_of_length_le (by have := HL.out; omega)]
      have E1 := Lib.hid e1
      clear e1 hacc hlt
      go_wp2
      go_ret
      exact ⟨A', c', acc, rfl, E1.out, hrow, hbel⟩

/-- A store into a row of the call's own. -/
theorem own_set {w : World} {base g n c i : Nat} {e : TypeId} {xs : List Value} (h : w.ownsRow base e 1 (.slice (some ⟨g, 0, none⟩) n c) n xs) (hi : i < n) (u : Value) : (w.setCell ⟨g, i, none⟩ u).ownsRow base e 1 (.slice (some ⟨g, 0, none⟩) n c) n (xs.set i u) := by
  rcases h.2 with ⟨h', _⟩ | ⟨g', cap, cur, h', hb, hg, hnc, hcm, hcs, ht⟩
  · cases h'
  · injection h' with h1 _ h3
    injection h1 with h1
    injection h1 with h1
    subst h1 h3
    refine ⟨by simp [h.1], .inr ⟨g, c, cur.setIfInBounds i u, rfl, hb, ?_, hnc, hcm, by simp [hcs], ?_⟩⟩
    · simp only [World.setCell, Array.getElem?_modify, if_true, hg, Option.map_some]
      rfl
    · rw [Array.toList_setIfInBounds, List.take_set, ht]
theorem perm_swapF {d : List F} {i j : Nat} {x y : F} (hi : d[i]? = some x) (hj : d[j]? = some y) : ((d.set i y).set j x).Perm d := by
  obtain ⟨hi', rfl⟩ := List.getElem?_eq_some_iff.1 hi
  obtain ⟨hj', rfl⟩ := List.getElem?_eq_some_iff.1 hj
  by_cases e : i = j
  · subst e
    simp
  have h := Array.swap_perm (xs := d.toArray) (i := i) (j := j) (by simpa using hi') (by simpa using hj')
  have e2 : (d.toArray.swap i j (by simpa using hi') (by simpa using hj')).toList = (d.set i d[j]).set j d[i] := by simp [Array.swap]
  have h2 := Array.perm_iff_toList_perm.1 h
  rw [e2] at h2
  simpa using h2
/-- Reverse: the row holds the same floats in some order. -/
def Pf (base : Nat) (A : Option Addr) (n c : Nat) (d : List F) (w w' : World) : Prop := ∃ d' : List F, d'.Perm d ∧ w'.ownsRow base 25 1 (.slice A n c) n (d'.map encF) ∧ w.grownBy w' (Value.slice A n c).ownBlock

def cfF (x y : F) : Int := Wl.cmpI (pl x.1 : Nat) (pl y.1 : Nat)
theorem ltF (x y : F) : ltOf cfF x y = decide (pl x.1 < pl y.1) := by
  unfold ltOf cfF Wl.cmpI
  by_cases h1 : pl x.1 < pl y.1
  · have : ((pl x.1 : Nat) : Int) < ((pl y.1 : Nat) : Int) := by omega
    simp [h1]
  · have h2 : ¬ ((pl x.1 : Nat) : Int) < ((pl y.1 : Nat) : Int) := by omega
    rw [if_neg h2]
    by_cases h3 : ((pl y.1 : Nat) : Int) < ((pl x.1 : Nat) : Int)
    · rw [if_pos h3]; simp [h1]
    · rw [if_neg h3]; simp [h1]
theorem swoF : SWO (ltOf cfF) where
  irrefl x := by rw [ltF]; simp
  trans x y z h1 h2 := by rw [ltF] at *; simp at *; omega
  ntrans x y z h1 h2 := by rw [ltF] at *; simp at *; omega
theorem pl_sm {x y : Nat} (hx : x < 18446744073709551616) (hy : y < 18446744073709551616) (h : pl x = pl y) : sm x y = true := by
  have i1 := INF_is
  have i2 := SG_is
  unfold sm
  unfold pl at h
  have nx : isN x = true ↔ INF < rg x := by unfold isN; simp
  have ny : isN y = true ↔ INF < rg y := by unfold isN; simp
  unfold rg at nx ny
  cases hnx : isN x <;> cases hny : isN y <;> rw [hnx] at h nx <;> rw [hny] at h ny
  · simp only [Bool.false_eq_true, if_false] at h
    simp only [Bool.and_self, Bool.false_or, decide_eq_true_eq]
    by_cases a : SG ≤ x <;> by_cases b : SG ≤ y
    · rw [if_pos a, if_pos b] at h; omega
    · rw [if_pos a, if_neg b] at h; omega
    · rw [if_neg a, if_pos b] at h; omega
    · rw [if_neg a, if_neg b] at h; omega
  · exfalso
    simp only [Bool.false_eq_true, if_false, if_true, false_iff] at h nx
    by_cases a : SG ≤ x
    · rw [if_pos a] at h; omega
    · rw [if_neg a] at h nx; omega
  · exfalso
    simp only [Bool.false_eq_true, if_false, if_true, false_iff] at h ny
    by_cases a : SG ≤ y
    · rw [if_pos a] at h; omega
    · rw [if_neg a] at h ny; omega
  · simp
theorem sorted_eq : ∀ {l₁ l₂ : List Nat}, l₁.Perm l₂ → l₁.Pairwise (· ≤ ·) → l₂.Pairwise (· ≤ ·) → l₁ = l₂
  | [], l₂, p, _, _ => p.nil_eq
  | a :: l, [], p, _, _ => absurd p.length_eq (by simp)
  | a :: l, b :: l', p, h1, h2 => by
    rw [List.pairwise_cons] at h1 h2
    have e : a = b := by
      have m1 : a ∈ b :: l' := p.subset (by simp)
      have m2 : b ∈ a :: l := p.symm.subset (by simp)
      rcases List.mem_cons.1 m1 with e | m1
      · exact e
      · rcases List.mem_cons.1 m2 with e | m2
        · exact e.symm
        · have := h1.1 b m2; have := h2.1 a m1; omega
    subst e
    rw [sorted_eq (List.Perm.cons_inv p) h1.2 h2.2]
end Go.Proofs.YtobilnloghofpaaGreatDoor.Fl
