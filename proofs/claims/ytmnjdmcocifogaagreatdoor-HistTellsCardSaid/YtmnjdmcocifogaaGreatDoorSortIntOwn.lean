/- slices.Sort of a row of ints of the call's own, by the shelf's contract. -/
import Derived.Test.YtmnjdmcocifogaaGreatDoorSortInt
import Derived.Test.YtmnjdmcocifogaaGreatDoorSortOwn
namespace Go.Proofs.YtmnjdmcocifogaaGreatDoor.Sf
open Go.ChangeShapes Go.WideShapes Go.ChangeAt Go.RowKit Rw Go.Shelf Go.Sort
set_option linter.unusedVariables false

def le (x y : Int) : Bool := decide (x ≤ y)
theorem sortI_own (w : World) (base : Nat) (e : TypeId) (A : Option Addr) (n c : Nat) (acc : List Int) (hn : acc.length = n) (hrow : w.ownsRow base e 1 (.slice A n c) n (acc.map (Value.int .i64))) (hpos : 0 < n) (hsz : n < 4611686018427387904) :
    Calls Tryz.prog 41 #[.slice A n c] w fun e' w' => e' = .returned (.tuple #[]) ∧
      w'.ownsRow base e 1 (.slice A n c) n ((acc.mergeSort le).map (Value.int .i64)) ∧ w.grownBy w' (Value.slice A n c).ownBlock := by
  subst hn
  rcases hrow.2 with ⟨_, h0⟩ | ⟨b, cap, cur, hs, hbase, hb, hnc, hcm, hcs, htake⟩
  · omega
  injection hs with hA _ hc
  subst hA hc
  have hlt : b < w.heap.size := (Array.getElem?_eq_some_iff.1 hb).1
  have hH : Holds (Value.int .i64) w b 0 acc.toArray := by
    intro j hj
    have hj' : j < acc.length := by simpa using hj
    constructor
    · rw [Nat.zero_add, hrow.cellAt j (by rw [Nat.mul_one]; exact hj'), List.getElem?_map, List.getElem?_eq_getElem hj']
      simp [hj']
    · simp [World.frozen?, hb]
  have hcon := Any.slices_Sort_int siLays b 0 c acc w hH hlt hsz
  refine hcon.mono ?_
  rintro e' w' ⟨rfl, n, os, rfl⟩
  have hd' : ((acc.mergeSort fun x y => decide (x ≤ y)).toArray).size = acc.length := by simp
  refine ⟨rfl, ?_, put_grown (Value.int .i64) w b n _ os⟩
  refine ⟨by simp, .inr ⟨b, c, _, rfl, hbase, put_block (Value.int .i64) w b n _ os hb, hnc, hcm, ?_, ?_⟩⟩
  · rw [← hcs]; simp [putCells]
  · rw [Nat.mul_one]
    have := put_take (Value.int .i64) (acc.mergeSort fun x y => decide (x ≤ y)).toArray cur (by rw [hcs, Nat.mul_one, hd']; exact hnc)
    rw [hd'] at this
    exact this
end Go.Proofs.YtmnjdmcocifogaaGreatDoor.Sf
