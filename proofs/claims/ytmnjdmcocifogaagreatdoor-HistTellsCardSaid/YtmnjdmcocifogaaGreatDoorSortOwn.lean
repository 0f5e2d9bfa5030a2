/- slices.SortFunc of a row of the call's own, by the shelf's contract: the row is permuted, and rises by the order; nothing else has turned. -/
import Derived.Test.YtmnjdmcocifogaaGreatDoorSortFuncU
import Derived.Test.YtmnjdmcocifogaaGreatDoorSortFuncF
namespace Go.Proofs.YtmnjdmcocifogaaGreatDoor.Sf
open Go.ChangeShapes Go.WideShapes Go.ChangeAt Go.RowKit Rw Go.Shelf Go.Sort
set_option linter.unusedVariables false

section
variable {α : Type} [Inhabited α]
theorem put_block (enc : α → Value) (w : World) (b n : Nat) (d : Array α) (os : Array Obj) {cur : Array Value} {e : TypeId} (h : w.heap[b]? = some (.cells cur e (0, 0))) :
    (sortWorld enc w b 0 n d os).heap[b]? = some (.cells (putCells enc 0 d cur) e (0, 0)) := by
  have hlt : b < w.heap.size := (Array.getElem?_eq_some_iff.1 h).1
  unfold sortWorld grow putRow mapBlock Go.Sort.ahead
  simp only [Array.getElem?_append, Array.size_modify, hlt, if_true, Array.getElem?_modify, h]
  rfl
theorem put_other (enc : α → Value) (w : World) (b n : Nat) (d : Array α) (os : Array Obj) {k : Nat} (hk : k < w.heap.size) (hne : k ≠ b) :
    (sortWorld enc w b 0 n d os).heap[k]? = w.heap[k]? := by
  unfold sortWorld grow putRow mapBlock Go.Sort.ahead
  simp only [Array.getElem?_append, Array.size_modify, hk, if_true, Array.getElem?_modify]
  rw [if_neg (fun e => hne e.symm)]
theorem put_grown (enc : α → Value) (w : World) (b n : Nat) (d : Array α) (os : Array Obj) : w.grownBy (sortWorld enc w b 0 n d os) (some b) :=
  ⟨rfl, rfl, rfl, by unfold sortWorld grow putRow mapBlock Go.Sort.ahead; simp, fun k hk hne => put_other enc w b n d os hk (fun e => hne (by rw [e]))⟩
theorem put_take (enc : α → Value) (d : Array α) (cur : Array Value) (h : d.size ≤ cur.size) : (putCells enc 0 d cur).toList.take d.size = d.toList.map enc := by
  apply List.ext_getElem?
  intro j
  rw [List.getElem?_take, List.getElem?_map]
  by_cases hj : j < d.size
  · rw [if_pos hj]
    unfold putCells
    simp [hj, Nat.lt_of_lt_of_le hj h]
  · rw [if_neg hj, List.getElem?_eq_none (by simpa using Nat.le_of_not_lt hj)]
    rfl

/-- The sort of a row that is not empty. -/
theorem sort_own {ρ : Ren} (L : SlLaysF.n6 Tryz.prog ρ) (enc : α → Value) (h1 : OneCell enc) (cf : α → α → Int) (hO : SWO (ltOf cf)) (g : Nat) (cb : Array Value) (eg : ∀ args w, (callFunc g args).run Tryz.prog w = .ok (.enter g args) w)
    (w : World) (base : Nat) (e : TypeId) (A : Option Addr) (c : Nat) (acc : List α) (hrow : w.ownsRow base e 1 (.slice A acc.length c) acc.length (acc.map enc)) (hpos : 0 < acc.length) (hsz : acc.length < 4611686018427387904)
    (hcmp : ∀ W', w.grownBy W' (Value.slice A acc.length c).ownBlock → ∀ x y : α, Calls Tryz.prog g (#[enc x, enc y] ++ cb) W' fun e w' => e = .returned (.int .i64 (cf x y)) ∧ ∃ q os', w' = grow (W'.drewN q) os') :
    Calls Tryz.prog (ρ.f 6) #[.slice A acc.length c, .func (.func g) #[] cb] w fun e' w' => e' = .returned (.tuple #[]) ∧ ∃ acc' : List α, acc'.Perm acc ∧ acc'.Pairwise (fun x y => ltOf cf y x = false) ∧
      w'.ownsRow base e 1 (.slice A acc.length c) acc.length (acc'.map enc) ∧ w.grownBy w' (Value.slice A acc.length c).ownBlock := by
  have hrow' := hrow
  rcases hrow.2 with ⟨_, h0⟩ | ⟨b, cap, cur, hs, hbase, hb, hnc, hcm, hcs, htake⟩
  · omega
  injection hs with hA _ hc
  subst hA hc
  have hlt : b < w.heap.size := (Array.getElem?_eq_some_iff.1 hb).1
  have hH : Holds enc w b 0 acc.toArray := by
    intro j hj
    have hj' : j < acc.length := by simpa using hj
    constructor
    · rw [Nat.zero_add, hrow.cellAt j (by rw [Nat.mul_one]; exact hj'), List.getElem?_map, List.getElem?_eq_getElem hj']
      simp [hj']
    · simp [World.frozen?, hb]
  have hcm1 : CmpLays1 Tryz.prog g cb enc cf b 0 acc.toArray.size w := fun m os dk hs x y => hcmp _ (put_grown enc w b m dk os) x y
  have hcon := Any.slices_SortFunc L enc h1 cf hO g cb b 0 c acc.toArray w eg hcm1 hH hlt (by simpa using hsz)
  simp only [List.size_toArray] at hcon
  refine hcon.mono ?_
  rintro e' w' ⟨rfl, d', n, os, hp, hsrt, rfl⟩
  have hd' : d'.size = acc.length := by simpa using hp.1
  refine ⟨rfl, d'.toList, ?_, ?_, ?_, put_grown enc w b n d' os⟩
  · have h2 := hp.2.2
    have e1 : d'.extract 0 acc.length = d' := by rw [← hd']; simp
    have e2 : acc.toArray.extract 0 acc.length = acc.toArray := by simp
    rw [e1, e2] at h2
    exact h2
  · rw [List.pairwise_iff_getElem]
    intro i j hi hj hij
    have := hsrt i j (Nat.zero_le _) hij (by simpa [hd'] using hj)
    simp at hi hj
    simpa [hi, hj] using this
  · refine ⟨by simp [hd'], .inr ⟨b, c, _, rfl, hbase, put_block enc w b n d' os hb, hnc, hcm, ?_, ?_⟩⟩
    · rw [← hcs]; simp [putCells]
    · rw [Nat.mul_one, ← hd']
      exact put_take enc d' cur (by rw [hcs, Nat.mul_one, hd']; exact hnc)
end
end Go.Proofs.YtmnjdmcocifogaaGreatDoor.Sf
