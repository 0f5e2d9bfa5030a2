/- What is stored into a row of the call's own, many cells at once; its front; what clear does. No program is named here. -/
import Derived.Test.YtbedboekfkobjaaGreatDoorBase1
import Derived.Lib.SliceRun
namespace Go.Proofs.YtbedboekfkobjaaGreatDoor.Rw
open Go Go.RowKit Go.ChangeShapes Go.WideShapes Go.ChangeAt
set_option linter.unusedVariables false

def setsL {α : Type} : List α → Nat → List α → List α
  | xs, _, [] => xs
  | xs, k, y :: ys => setsL (xs.set k y) (k + 1) ys
theorem setsL_eq {α : Type} : ∀ (ys xs : List α) (k : Nat), k + ys.length ≤ xs.length → setsL xs k ys = xs.take k ++ ys ++ xs.drop (k + ys.length)
  | [], xs, k, h => by simp [setsL]
  | y :: ys, xs, k, h => by
    simp only [List.length_cons] at h
    rw [setsL, setsL_eq ys _ _ (by simp; omega)]
    rw [List.take_set, List.drop_set_of_lt (by omega), List.take_add_one, List.getElem?_eq_getElem (show k < xs.length by omega)]
    have hk : (xs.take k).length = k := by simp; omega
    simp only [Option.toList_some, List.length_cons]
    rw [List.set_append_right k y (by omega), hk, Nat.sub_self, show k + (ys.length + 1) = k + 1 + ys.length by omega]
    simp
theorem setsL_len {α : Type} : ∀ (ys xs : List α) (k : Nat), (setsL xs k ys).length = xs.length
  | [], _, _ => rfl
  | y :: ys, xs, k => by rw [setsL, setsL_len ys]; simp
theorem own_sets {w : World} {base g n c : Nat} {e : TypeId} {size : Nat} : ∀ (ys : List Value) {w : World} {xs : List Value} (k : Nat), w.ownsRow base e size (.slice (some ⟨g, 0, none⟩) n c) n xs →
    (w.setCells g k ys).ownsRow base e size (.slice (some ⟨g, 0, none⟩) n c) n (setsL xs k ys) ∧ w.grownBy (w.setCells g k ys) (some g)
  | [], w, xs, k, h => ⟨h, World.grownBy.refl w _⟩
  | y :: ys, w, xs, k, h => by
    obtain ⟨h1, h2⟩ := h.stored k y
    obtain ⟨h3, h4⟩ := own_sets (w := w) ys (k + 1) h1
    exact ⟨h3, h2.trans h4⟩
theorem own_front {w : World} {base : Nat} {e : TypeId} {size : Nat} {g n c m : Nat} {xs : List Value} (h : w.ownsRow base e size (.slice (some ⟨g, 0, none⟩) n c) n xs) (hm : m ≤ n) :
    w.ownsRow base e size (.slice (some ⟨g, 0, none⟩) m c) m (xs.take (m * size)) := by
  have hms : m * size ≤ n * size := Nat.mul_le_mul_right size hm
  rcases h.2 with ⟨h', _⟩ | ⟨g', cap, cur, h', hb, hg, hnc, hcm, hcs, ht⟩
  · cases h'
  · injection h' with h1 _ h3
    injection h1 with h1
    injection h1 with h1
    subst h1 h3
    refine ⟨by rw [List.length_take, h.1]; omega, .inr ⟨g, c, cur, rfl, hb, hg, by omega, hcm, hcs, ?_⟩⟩
    rw [← ht, List.take_take, Nat.min_eq_left hms]
theorem own_same_list {w : World} {base : Nat} {e : TypeId} {size n : Nat} {v : Value} {xs ys : List Value} (h : w.ownsRow base e size v n xs) (he : xs = ys) : w.ownsRow base e size v n ys := he ▸ h
section
variable {α : Type} {enc : α → List Value} {sz : Nat}
theorem flat_take (he : ∀ x, (enc x).length = sz) : ∀ (xs : List α) (k : Nat), (flat enc xs).take (k * sz) = flat enc (xs.take k)
  | [], k => by simp [flat]
  | x :: l, 0 => by simp [flat]
  | x :: l, k + 1 => by
    show (enc x ++ flat enc l).take _ = enc x ++ flat enc (l.take k)
    rw [List.take_append, he, show (k + 1) * sz - sz = k * sz by rw [Nat.add_mul]; omega, flat_take he l k, List.take_of_length_le (by rw [he, Nat.add_mul]; omega)]
theorem flat_drop (he : ∀ x, (enc x).length = sz) : ∀ (xs : List α) (k : Nat), (flat enc xs).drop (k * sz) = flat enc (xs.drop k)
  | [], k => by simp [flat]
  | x :: l, 0 => by simp [flat]
  | x :: l, k + 1 => by
    show (enc x ++ flat enc l).drop _ = flat enc (l.drop k)
    rw [List.drop_append, he, show (k + 1) * sz - sz = k * sz by rw [Nat.add_mul]; omega, flat_drop he l k, List.drop_of_length_le (by rw [he, Nat.add_mul]; omega), List.nil_append]
/-- One cell of one element turned. -/
theorem flat_set (he : ∀ x, (enc x).length = sz) : ∀ (xs : List α) (k i : Nat) (x y : α) (u : Value), xs[k]? = some x → i < sz → enc y = (enc x).set i u → (flat enc xs).set (k * sz + i) u = flat enc (xs.set k y)
  | [], k, i, x, y, u, h, _, _ => by simp at h
  | z :: l, 0, i, x, y, u, h, hi, hy => by
    simp at h; subst h
    show (enc z ++ flat enc l).set _ u = enc y ++ flat enc l
    rw [List.set_append_left _ _ (by rw [he]; omega), hy]
    simp
  | z :: l, k + 1, i, x, y, u, h, hi, hy => by
    show (enc z ++ flat enc l).set _ u = enc z ++ flat enc (l.set k y)
    rw [List.set_append_right _ _ (by rw [he, Nat.add_mul]; omega), he, show (k + 1) * sz + i - sz = k * sz + i by rw [Nat.add_mul]; omega, flat_set he l k i x y u (by simpa using h) hi hy]
end
/-- clear of elements of a row. -/
theorem run_clear_any {P : Program} (w : World) (t e ty : TypeId) (z : Value) (sz : Nat) (ht : P.underlying t = some (.slice e)) (hv : ∀ w, (zeroValue e).run P w = .ok z w) (hz : ∀ u ∈ z.cells.toList, u.oneCell' = true) (hs : z.cells.size = sz) (b o n c : Nat) (hn : 0 < n)
    (hc : ∀ j, j < n * sz → (w.cell? ⟨b, o + j, none⟩).isSome = true) (hf : ∀ j, j < n * sz → w.frozen? ⟨b, o + j, none⟩ = false) :
    ∃ zs : List Value, zs.length = n * sz ∧ (Builtin.clear_ #[t] ty #[.slice (some ⟨b, o, none⟩) n c]).run P w = .ok (.tuple #[]) (w.setCells b o zs) := by
  have hl : (Builtin.zeroCells z.cells n).toList.length = n * sz := by simp [Builtin.zeroCells, hs]
  have h1 : ∀ v ∈ (Builtin.zeroCells z.cells n).toList, v.oneCell' = true := by
    intro v hv'
    simp only [Builtin.zeroCells, Array.toList_map, List.mem_map] at hv'
    obtain ⟨i, hi, rfl⟩ := hv'
    have hi2 : i < n * z.cells.size := by simpa using hi
    have hpos : 0 < z.cells.size := by
      rcases Nat.eq_zero_or_pos z.cells.size with h0 | h0
      · rw [h0] at hi2; omega
      · exact h0
    have hm : i % z.cells.size < z.cells.size := Nat.mod_lt _ hpos
    rw [getElem!_pos z.cells _ hm]
    exact hz _ (by simp)
  have hst := run_storeCells_cells (P := P) b o (Builtin.zeroCells z.cells n).toList 0 w (by rw [hl]; simpa using hc) (by rw [hl]; simpa using hf) h1
  simp only [Nat.add_zero] at hst
  refine ⟨_, hl, ?_⟩
  obtain ⟨m, rfl⟩ : ∃ m, n = m + 1 := ⟨n - 1, by omega⟩
  simp [Builtin.clear_, run_underlying ht, hv, hst]
end Go.Proofs.YtbedboekfkobjaaGreatDoor.Rw
