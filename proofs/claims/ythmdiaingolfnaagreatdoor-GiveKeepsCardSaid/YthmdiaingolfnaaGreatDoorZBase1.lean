/- A part of the claim: the texts Base1. -/
import Derived.Test.YthmdiaingolfnaaGreatDoorRows
import Derived.Lib.EndianBits
import Derived.WalkKit
import Derived.ProofKit
import Derived.BigGuardPart
import Derived.Outline
import Derived.Lib.Hide
import Derived.Carry
import Derived.OpenShut
import Derived.Deep.Slices
import Derived.Deep.Fields
import Derived.ChangeSame
import Derived.Laws.LoneSync
import Derived.Laws.Pointers
import Derived.Maps.AppendAt
import Derived.Laws.OwnMore
import Derived.OwnWalk
import Derived.Lib.AppendZeros
import Derived.Lib.AppendZerosOnto
import Derived.Deep.Draws
import Derived.WalkSpells
import Derived.Deep.QuietTactic
import Derived.BigQuiet
import Derived.RegionTactic
import Derived.Maps.OwnSet
import Derived.OrdersHeld
import Derived.Tactics
import Derived.KernelRfl
import Derived.StillTailTactics
namespace Go.Proofs.YthmdiaingolfnaaGreatDoor.Wd
open Go
def wOf (s v : Int) : Int := 4 * (v % 4611686018427387904) + s % 4
def wMay (f t : Int) : Bool := (f == 0 && (t == 1 || t == 2)) || (f == 1 && (t == 0 || t == 3)) || (f == 2 && (t == 0 || t == 1 || t == 3))
def wTo (r t : Int) : Int := if wMay (r % 4) t then wOf t (r / 4 + 1) else r
theorem and3_u64 (x : Int) (h0 : 0 ≤ x) (h1 : x ≤ 18446744073709551615) : bits .and .u64 x 3 = x % 4 :=
  bits_mask .u64 64 (by decide) wraps_u64 2 (by decide) x h0 (by omega)
theorem and3_i64 (s : Int) : bits .and .i64 s 3 = s % 4 := by
  show IntKind.i64.wrap ((BitVec.ofInt 64 s &&& BitVec.ofInt 64 3).toNat : Int) = _
  have h3 : (BitVec.ofInt 64 3).toNat = 2 ^ 2 - 1 := by decide
  rw [BitVec.toNat_and, h3, Nat.and_two_pow_sub_one_eq_mod, BitVec.toNat_ofInt, IntKind.wrap_i64]
  omega
theorem or2_u64 (x y : Int) (h0 : 0 ≤ x) (h1 : x ≤ 18446744073709551615) (hx : x % 4 = 0) (hy : 0 ≤ y) (hy1 : y < 4) : bits .or .u64 x y = x + y :=
  bits_join .u64 64 (by decide) wraps_u64 2 x y h0 hx (by omega) hy hy1 (by omega)
theorem of_bits (s v : Int) : bits .or .u64 (IntKind.u64.wrap (v * 4)) (IntKind.u64.wrap (bits .and .i64 s 3)) = wOf s v := by
  rw [and3_i64, IntKind.wrap_u64, IntKind.wrap_u64, or2_u64 _ _ (by omega) (by omega) (by omega) (by omega) (by omega)]
  unfold wOf; omega
theorem wOf_lo (s v : Int) : 0 ≤ wOf s v := by unfold wOf; omega
theorem wOf_hi (s v : Int) : wOf s v ≤ 18446744073709551615 := by unfold wOf; omega
theorem wTo_lo (r t : Int) (h : 0 ≤ r) : 0 ≤ wTo r t := by
  unfold wTo; split
  · exact wOf_lo _ _
  · exact h
theorem wTo_hi (r t : Int) (h : r ≤ 18446744073709551615) : wTo r t ≤ 18446744073709551615 := by
  unfold wTo; split
  · exact wOf_hi _ _
  · exact h
theorem wTo_no {r t : Int} (h : wMay (r % 4) t = false) : wTo r t = r := by simp [wTo, h]
theorem wTo_yes {r t : Int} (h : wMay (r % 4) t = true) : wTo r t = wOf t (r / 4 + 1) := by simp [wTo, h]
theorem five (x : Int) : x = 0 ∨ x = 1 ∨ x = 2 ∨ x = 3 ∨ ((x == 0) = false ∧ (x == 1) = false ∧ (x == 2) = false ∧ (x == 3) = false) := by
  by_cases h0 : x = 0
  · exact .inl h0
  by_cases h1 : x = 1
  · exact .inr (.inl h1)
  by_cases h2 : x = 2
  · exact .inr (.inr (.inl h2))
  by_cases h3 : x = 3
  · exact .inr (.inr (.inr (.inl h3)))
  exact .inr (.inr (.inr (.inr ⟨by simpa using h0, by simpa using h1, by simpa using h2, by simpa using h3⟩)))
theorem ret_int {k : IntKind} {a b : Int} (h : a = b) : Ending.returned (.int k a) = .returned (.int k b) := by rw [h]
theorem lo_u8 {a : Int} (h : (Lit.int .u8 a).wf = true) : 0 ≤ a ∧ a ≤ 255 := by
  simp [Lit.wf, IntKind.min, IntKind.max, IntKind.signed, IntKind.bits] at h; exact h
end Go.Proofs.YthmdiaingolfnaaGreatDoor.Wd
namespace Go.Proofs.YthmdiaingolfnaaGreatDoor.Wd
open Go.ChangeShapes Go.WideShapes Go.ChangeAt Go.RowKit
set_option linter.unusedVariables false
theorem state_any (r : Int) (w : World) (h0 : 0 ≤ r) (h1 : r ≤ 18446744073709551615) :
    Calls Tryz.prog 25 #[.int .u64 r] w fun e w' => e = .returned (.int .i64 (r % 4)) ∧ w = w' := by
  go_enter Tryz.func25, Tryz.ntmps25
  go_wp2
  go_ret
  exact ⟨ret_int (by rw [and3_u64 r h0 h1]; exact IntWalk.wrap64_in _ ⟨by omega, by omega⟩), rfl⟩
theorem version_any (r : Int) (w : World) (h0 : 0 ≤ r) (h1 : r ≤ 18446744073709551615) :
    Calls Tryz.prog 142 #[.int .u64 r] w fun e w' => e = .returned (.int .u64 (r / 4)) ∧ w = w' := by
  go_enter Tryz.func142, Tryz.ntmps142
  go_wp2
  go_ret
  exact ⟨rfl, rfl⟩
theorem of_any (s v : Int) (w : World) (h0 : 0 ≤ v) (h1 : v ≤ 18446744073709551615) :
    Calls Tryz.prog 42 #[.int .i64 s, .int .u64 v] w fun e w' => e = .returned (.int .u64 (wOf s v)) ∧ w = w' := by
  go_enter Tryz.func42, Tryz.ntmps42
  go_wp2
  go_ret
  exact ⟨ret_int (of_bits s v), rfl⟩
set_option maxHeartbeats 1000000 in
theorem may_any (f t : Int) (w : World) :
    Calls Tryz.prog 141 #[.int .i64 f, .int .i64 t] w fun e w' => e = .returned (.bool (wMay f t)) ∧ w = w' := by
  rcases five f with rfl | rfl | rfl | rfl | ⟨f0, f1, f2, f3⟩ <;> rcases five t with rfl | rfl | rfl | rfl | ⟨t0, t1, t2, t3⟩
  all_goals
    go_enter Tryz.func141, Tryz.ntmps141
    go_wp2
    go_ret
    exact ⟨by simp [wMay, *], rfl⟩
set_option maxHeartbeats 1000000 in
theorem to_any (r t : Int) (w : World) (h0 : 0 ≤ r) (h1 : r ≤ 18446744073709551615) :
    Calls Tryz.prog 122 #[.int .u64 r, .int .i64 t] w fun e w' => e = .returned (.tuple #[.int .u64 (wTo r t), .bool (wMay (r % 4) t)]) ∧ w = w' := by
  have hv : 0 ≤ r / 4 ∧ r / 4 + 1 ≤ 18446744073709551615 := by omega
  cases hm : wMay (r % 4) t
  · have H := Lib.hid hm
    go_enter Tryz.func122, Tryz.ntmps122
    go_wp2_with fail
    refine (state_any _ _ h0 h1).mono ?_
    rintro e w' ⟨rfl, rfl⟩
    go_wp2_with fail
    refine (may_any _ _ _).mono ?_
    rintro e w' ⟨rfl, rfl⟩
    rw [hm]
    go_wp2_with fail
    go_ret2
    exact ⟨by rw [wTo_no H.out]; rfl, rfl⟩
  · have H := Lib.hid hm
    go_enter Tryz.func122, Tryz.ntmps122
    go_wp2_with fail
    refine (state_any _ _ h0 h1).mono ?_
    rintro e w' ⟨rfl, rfl⟩
    go_wp2_with fail
    refine (may_any _ _ _).mono ?_
    rintro e w' ⟨rfl, rfl⟩
    rw [hm]
    go_wp2_with fail
    refine (version_any _ _ h0 h1).mono ?_
    rintro e w' ⟨rfl, rfl⟩
    go_wp2_with fail
    refine (of_any _ _ _ (by omega) (by omega)).mono ?_
    rintro e w' ⟨rfl, rfl⟩
    go_wp2_with fail
    go_ret2
    exact ⟨by rw [wTo_yes H.out]; rfl, rfl⟩
set_option maxHeartbeats 1000000 in
theorem awake_any (w : World) :
    Calls Tryz.prog 298 #[] w fun e w' => e = .returned (.bool true) ∧ w = w' := by
  go_enter Tryz.func298, Tryz.ntmps298
  go_wp2_with fail
  refine (of_any _ _ _ (by decide) (by decide)).mono ?_
  rintro e w' ⟨rfl, rfl⟩
  go_wp2_with fail
  refine (to_any _ _ _ (by decide) (by decide)).mono ?_
  rintro e w' ⟨rfl, rfl⟩
  rw [show wTo (wOf 0 5) 1 = 25 by decide, show wMay (wOf 0 5 % 4) 1 = true by decide]
  go_wp2_with fail
  refine (of_any _ _ _ (by decide) (by decide)).mono ?_
  rintro e w' ⟨rfl, rfl⟩
  rw [show wOf 0 5 = 20 by decide]
  go_wp2_with fail
  go_ret
  exact ⟨rfl, rfl⟩
end Go.Proofs.YthmdiaingolfnaaGreatDoor.Wd
namespace Go.Proofs.YthmdiaingolfnaaGreatDoor.Lw
open Go Go.ChangeShapes Go.WideShapes Go.ChangeAt Go.RowKit Go.Deep
set_option linter.unusedVariables false
section
variable {H : Type} {enc : TypeId × Value → H} {P : Program}
theorem args_stay (hl : laidOutB P = true) {W W' : World} (hb : Below W.heap.size W W') {sp : Nat → Bool} :
    ∀ (ts : List TypeId) (vs : List Value) (ds : List (DataW H)) (ps : List MemPlace), (ts.all fun t => P.readableRec t && decide (t < P.types.size)) = true →
      DataW.TrodAll enc P W 0 (fun _ => true) true ts vs ds ps → (∀ x ∈ ps, x.block < W.heap.size) → (∀ x ∈ ps, sp x.block = true) →
      DataW.TrodAll enc P W' 0 sp true ts vs ds ps := by
  intro ts
  induction ts with
  | nil =>
    intro vs ds ps _ h _ _
    obtain ⟨rfl, rfl, rfl⟩ := trodAll_nil h
    exact trodAll_mk0
  | cons t ts ih =>
    intro vs ds ps ht h hlt hsp
    obtain ⟨v, vs', d, ds', p, q, rfl, rfl, rfl, hd, hrest⟩ := trodAll_cons h
    simp only [List.all_cons, Bool.and_eq_true, decide_eq_true_eq] at ht
    refine trodAll_cons_mk (WideElems.Trod_stays hl ht.1.1 ht.1.2 hd (fun x hx => hb.same (hlt x (by simp [hx]))) (fun x hx => hsp x (by simp [hx]))) ?_
    exact ih vs' ds' q ht.2 hrest (fun x hx => hlt x (by simp [hx])) (fun x hx => hsp x (by simp [hx]))
theorem law_post {f : Func} {s : ChangeSpec} {apart fresh handsOn : Bool} {W W' : World} {args : Array Value} {ds : List (DataW H)} {before : List MemPlace} {tb : TypeId}
    (hl : laidOutB P = true) (hp : (f.params.toList.all fun t => P.readableRec t && decide (t < P.types.size)) = true)
    (hr : f.resultTypes = #[tb]) (hb : P.underlying tb = some .bool) (hv : s.vars = [])
    (hfn : s.fn H (ds ++ []) = { results := [.lit (.bool true)], args := ds })
    (hW : DataW.Whole enc P f.params.toList s.vars apart W args.toList ds [] before)
    (hbel : Below W.heap.size W W') : s.post enc P f apart fresh handsOn false W args (.bool true) W' := by
  have hlt : ∀ x ∈ before, x.block < W.heap.size := fun x hx => hW.lt x hx
  have hW' := hW
  obtain ⟨p, q, hA, hV, rfl, hfz, hnd⟩ := hW
  rw [hv] at hV
  obtain ⟨-, rfl⟩ := trodVars_none hV
  refine ⟨ds, [], p ++ [], [], p, [], hW', ?_, ?_, ?_, hbel.frame _, fun h => by cases h⟩
  · rw [hfn, hr]
    exact trodAll_cons_mk (shut_bool hb _) trodAll_mk0
  · rw [hfn]
    exact args_stay hl hbel _ _ _ _ hp hA (fun x hx => hlt x (by simp [hx])) (fun x hx => by simpa using hlt x (by simp [hx]))
  · rw [hfn, hv]
    rfl
end
section
variable {H : Type} {enc : TypeId × Value → H} {P : Program} {w : World} {base : Nat} {spare : Nat → Bool} {held : Bool}
end
theorem spot_none {w : World} {a : Addr} {v : Value} (h : w.cell? a = some v) : a.spot = none := by
  unfold World.cell? at h
  split at h
  · split at h
    · cases h
    · next hs => simpa using hs
  · cases h
theorem add_eq {a : Addr} (h : a.spot = none) (n : Nat) : a.add n = ⟨a.block, a.off + n, none⟩ := by
  unfold Addr.add
  split
  · next hn => subst hn; cases a; simp at h; subst h; rfl
  · rfl
theorem lt_heap {w : World} {a : Addr} {v : Value} (h : w.cell? a = some v) : a.block < w.heap.size := by
  unfold World.cell? at h
  cases hb : w.heap[a.block]? with
  | none => rw [hb] at h; cases h
  | some o => exact (Array.getElem?_eq_some_iff.1 hb).1
end Go.Proofs.YthmdiaingolfnaaGreatDoor.Lw
namespace Go.Proofs.YthmdiaingolfnaaGreatDoor.Wd
open Go.ChangeShapes Go.WideShapes Go.ChangeAt Go.RowKit
set_option linter.unusedVariables false
theorem aload_any (a : Addr) (v : Int) (w : World) (hc : w.cell? a = some (.int .u64 v)) :
    Calls Tryz.prog 95 #[.pointer (some a)] w fun e w' => e = .returned (.int .u64 v) ∧ w = w' := by
  have hl := run_call_load (P := Tryz.prog) Tryz.func125 (by kernel_rfl) (by kernel_rfl) (by kernel_rfl) .u64 (by kernel_rfl) hc
  obtain ⟨b, o, s⟩ := a
  go_enter Tryz.func95, Tryz.ntmps95
  go_wp2
  go_ret
  exact ⟨rfl, rfl⟩
theorem astore_any (a : Addr) (v y : Int) (w : World) (hc : w.cell? a = some (.int .u64 v)) (hf : w.frozen? a = false) :
    Calls Tryz.prog 79 #[.pointer (some a), .int .u64 y] w fun e w' => e = .returned (.tuple #[]) ∧ w.setCell a (.int .u64 y) = w' := by
  have hl := run_call_store (P := Tryz.prog) Tryz.func112 (by kernel_rfl) (by kernel_rfl) (by kernel_rfl) (by kernel_rfl) (k := .u64) (y := y) hc hf
  go_enter Tryz.func79, Tryz.ntmps79
  go_wp2
  go_end0
  exact ⟨rfl, rfl⟩
theorem acas_hit (a : Addr) (v y : Int) (w : World) (hc : w.cell? a = some (.int .u64 v)) (hf : w.frozen? a = false) :
    Calls Tryz.prog 123 #[.pointer (some a), .int .u64 v, .int .u64 y] w fun e w' => e = .returned (.bool true) ∧ w.setCell a (.int .u64 y) = w' := by
  have hl := run_call_cas_hit (P := Tryz.prog) Tryz.func143 (by kernel_rfl) (by kernel_rfl) (by kernel_rfl) .u64 (by kernel_rfl) (y := y) hc hf
  go_enter Tryz.func123, Tryz.ntmps123
  go_wp2
  go_ret
  exact ⟨rfl, rfl⟩
theorem load_any (a : Addr) (v : Int) (w : World) (hc : w.cell? a = some (.int .u64 v)) :
    Calls Tryz.prog 58 #[.pointer (some a)] w fun e w' => e = .returned (.int .u64 v) ∧ w = w' := by
  go_enter Tryz.func58, Tryz.ntmps58
  go_wp2_with fail
  refine (aload_any _ v _ hc).mono ?_
  rintro e w' ⟨rfl, rfl⟩
  go_wp2_with fail
  go_ret
  exact ⟨rfl, rfl⟩
theorem new_any (v : Int) (w : World) :
    Calls Tryz.prog 41 #[.int .u64 v] w fun e w' => e = .returned (.pointer (some ⟨w.heap.size, 0, none⟩)) ∧ w.alloc (.cells #[.int .u64 v] 172) = w' := by
  go_enter Tryz.func41, Tryz.ntmps41
  go_wp2_with fail
  refine (astore_any _ 0 _ _ (by go_simp) (by go_simp)).mono ?_
  rintro e w' ⟨rfl, rfl⟩
  go_wp2_with fail
  go_ret
  exact ⟨rfl, by simp⟩
theorem swap_other (a : Addr) (v o t : Int) (w : World) (hc : w.cell? a = some (.int .u64 v)) (o0 : 0 ≤ o) (o1 : o ≤ 18446744073709551615) (hne : v ≠ o) :
    Calls Tryz.prog 92 #[.pointer (some a), .int .u64 o, .int .i64 t] w fun e w' => e = .returned (.tuple #[.int .u64 v, .bool false]) ∧ w = w' := by
  have hb : (v != o) = true := by rw [bne_iff_ne]; exact hne
  clear hne
  go_enter Tryz.func92, Tryz.ntmps92
  go_wp2_with fail
  refine (load_any _ v _ hc).mono ?_
  rintro e w' ⟨rfl, rfl⟩
  go_wp2_with fail
  refine (to_any _ _ _ o0 o1).mono ?_
  rintro e w' ⟨rfl, rfl⟩
  go_wp2_with fail
  go_ret2
  exact ⟨rfl, rfl⟩
theorem swap_maynot (a : Addr) (o t : Int) (w : World) (hc : w.cell? a = some (.int .u64 o)) (o0 : 0 ≤ o) (o1 : o ≤ 18446744073709551615) (hm : wMay (o % 4) t = false) :
    Calls Tryz.prog 92 #[.pointer (some a), .int .u64 o, .int .i64 t] w fun e w' => e = .returned (.tuple #[.int .u64 o, .bool false]) ∧ w = w' := by
  have H := Lib.hid hm
  clear hm
  go_enter Tryz.func92, Tryz.ntmps92
  go_wp2_with fail
  refine (load_any _ o _ hc).mono ?_
  rintro e w' ⟨rfl, rfl⟩
  go_wp2_with fail
  refine (to_any _ _ _ o0 o1).mono ?_
  rintro e w' ⟨rfl, rfl⟩
  rw [H.out]
  go_wp2_with fail
  go_ret2
  exact ⟨rfl, rfl⟩
theorem swap_goes (a : Addr) (o t : Int) (w : World) (hc : w.cell? a = some (.int .u64 o)) (hf : w.frozen? a = false) (o0 : 0 ≤ o) (o1 : o ≤ 18446744073709551615) (hm : wMay (o % 4) t = true) :
    Calls Tryz.prog 92 #[.pointer (some a), .int .u64 o, .int .i64 t] w fun e w' => e = .returned (.tuple #[.int .u64 (wTo o t), .bool true]) ∧ w.setCell a (.int .u64 (wTo o t)) = w' := by
  have H := Lib.hid hm
  clear hm
  go_enter Tryz.func92, Tryz.ntmps92
  go_wp2_with fail
  refine (load_any _ o _ hc).mono ?_
  rintro e w' ⟨rfl, rfl⟩
  go_wp2_with fail
  refine (to_any _ _ _ o0 o1).mono ?_
  rintro e w' ⟨rfl, rfl⟩
  rw [H.out]
  go_wp2_with fail
  refine (acas_hit _ _ _ _ hc hf).mono ?_
  rintro e w' ⟨rfl, rfl⟩
  go_wp2_with fail
  go_ret2
  exact ⟨rfl, rfl⟩
def wSwap (v o t : Int) : Int := if v = o ∧ wMay (o % 4) t = true then wTo o t else v
def wSwapOk (v o t : Int) : Bool := decide (v = o) && wMay (o % 4) t
theorem wSwap_lo (v o t : Int) (h : 0 ≤ v) : 0 ≤ wSwap v o t := by
  unfold wSwap; split
  · next h' => exact wTo_lo _ _ (by omega)
  · exact h
theorem wSwap_hi (v o t : Int) (h : v ≤ 18446744073709551615) : wSwap v o t ≤ 18446744073709551615 := by
  unfold wSwap; split
  · next h' => exact wTo_hi _ _ (by omega)
  · exact h
theorem setCell_self {w : World} {a : Addr} {v : Value} (h : w.cell? a = some v) : w.setCell a v = w := by
  have hh : (w.setCell a v).heap = w.heap := by
    apply Array.ext
    · simp [World.setCell]
    intro i h1 h2
    simp only [World.setCell, Array.getElem_modify]
    split
    · next hi =>
      subst hi
      unfold World.cell? at h
      rw [Array.getElem?_eq_getElem h2] at h
      split at h
      · next c e f hc =>
        simp only [Option.some.injEq] at hc
        rw [hc]
        split at h
        · cases h
        · next hs =>
          simp only [if_neg hs]
          congr 1
          obtain ⟨hlt, hv⟩ := Array.getElem?_eq_some_iff.1 h
          apply Array.ext
          · simp
          intro j h3 h4
          rw [Array.getElem_setIfInBounds]
          split
          · next hj => subst hj; exact hv.symm
          · rfl
      · cases h
    · rfl
  have he : w.setCell a v = { w with heap := (w.setCell a v).heap } := rfl
  rw [he, hh]
theorem swap_any (a : Addr) (v o t : Int) (w : World) (hc : w.cell? a = some (.int .u64 v)) (hf : w.frozen? a = false) (o0 : 0 ≤ o) (o1 : o ≤ 18446744073709551615) :
    Calls Tryz.prog 92 #[.pointer (some a), .int .u64 o, .int .i64 t] w fun e w' => e = .returned (.tuple #[.int .u64 (wSwap v o t), .bool (wSwapOk v o t)]) ∧ w.setCell a (.int .u64 (wSwap v o t)) = w' := by
  by_cases hv : v = o
  · subst hv
    cases hm : wMay (v % 4) t
    · refine (swap_maynot a v t w hc o0 o1 hm).mono fun e w' ⟨he, hw⟩ => ?_
      have e1 : wSwap v v t = v := by simp [wSwap, hm]
      have e2 : wSwapOk v v t = false := by simp [wSwapOk, hm]
      rw [e1, e2, setCell_self hc]; exact ⟨he, hw⟩
    · refine (swap_goes a v t w hc hf o0 o1 hm).mono fun e w' ⟨he, hw⟩ => ?_
      have e1 : wSwap v v t = wTo v t := by simp [wSwap, hm]
      have e2 : wSwapOk v v t = true := by simp [wSwapOk, hm]
      rw [e1, e2]; exact ⟨he, hw⟩
  · refine (swap_other a v o t w hc o0 o1 hv).mono fun e w' ⟨he, hw⟩ => ?_
    have e1 : wSwap v o t = v := by simp [wSwap, hv]
    have e2 : wSwapOk v o t = false := by simp [wSwapOk, hv]
    rw [e1, e2, setCell_self hc]; exact ⟨he, hw⟩
theorem Awake_any (w : World) :
    Calls Tryz.prog 297 #[] w fun e w' => e = .returned (.bool true) ∧ w = w' := by
  go_enter Tryz.func297, Tryz.ntmps297
  go_wp2_with fail
  refine (awake_any _).mono ?_
  rintro e w' ⟨rfl, rfl⟩
  go_wp2_with fail
  go_ret
  exact ⟨rfl, rfl⟩
theorem awake2_any (w : World) :
    Calls Tryz.prog 296 #[] w fun e w' => e = .returned (.bool true) ∧ w.alloc (.cells #[.int .u64 25] 172) = w' := by
  go_enter Tryz.func296, Tryz.ntmps296
  go_wp2_with fail
  refine (new_any _ _).mono ?_
  rintro e w' ⟨rfl, rfl⟩
  go_wp2_with fail
  refine (swap_goes _ _ _ _ (by go_simp) (by go_simp) (by decide) (by decide) (by decide)).mono ?_
  rintro e w' ⟨rfl, rfl⟩
  rw [show wTo 20 1 = 25 by decide]
  go_wp2_with fail
  refine (swap_other _ 25 _ _ _ (by go_simp) (by decide) (by decide) (by decide)).mono ?_
  rintro e w' ⟨rfl, rfl⟩
  go_wp2_with fail
  refine (Awake_any _).mono ?_
  rintro e w' ⟨rfl, rfl⟩
  go_wp2_with fail
  go_ret
  exact ⟨rfl, rfl⟩
end Go.Proofs.YthmdiaingolfnaaGreatDoor.Wd
namespace Go.Proofs.YthmdiaingolfnaaGreatDoor.Rw
open Go Go.ChangeShapes Go.WideShapes Go.ChangeAt Go.RowKit Go.Deep
set_option linter.unusedVariables false
structure Rd {α : Type} (enc : α → Value) (w : World) (B : Nat) (A : Option Addr) (n c : Nat) (xs : List α) : Prop where
  len : xs.length = n
  cap : n ≤ c
  top : c ≤ 9223372036854775807
  at_ : 0 < n → ∃ b o, A = some ⟨b, o, none⟩ ∧ b < B ∧ ∀ j x, xs[j]? = some x → w.cell? ⟨b, o + j, none⟩ = some (enc x)
section
variable {α : Type} {enc : α → Value} {w w' : World} {B B' : Nat} {A : Option Addr} {n c : Nat} {xs : List α}
theorem Rd.nil_ : Rd enc w B none 0 0 [] := ⟨rfl, Nat.le_refl _, by omega, fun h => absurd h (by omega)⟩
theorem Rd.keep (h : Rd enc w B A n c xs) (hk : ∀ p : Addr, p.block < B → w'.cell? p = w.cell? p) : Rd enc w' B A n c xs :=
  ⟨h.len, h.cap, h.top, fun hn => by
    obtain ⟨b, o, e, hb, hc⟩ := h.at_ hn
    exact ⟨b, o, e, hb, fun j x hx => (hk ⟨b, o + j, none⟩ hb).trans (hc j x hx)⟩⟩
theorem Rd.below (h : Rd enc w B A n c xs) (hb : Below B w w') : Rd enc w' B A n c xs := h.keep fun _ hp => hb.cell hp
theorem Rd.more (h : Rd enc w B A n c xs) (hB : B ≤ B') : Rd enc w B' A n c xs :=
  ⟨h.len, h.cap, h.top, fun hn => by
    obtain ⟨b, o, e, hb, hc⟩ := h.at_ hn
    exact ⟨b, o, e, by omega, hc⟩⟩
theorem Rd.later (h : Rd enc w w.heap.size A n c xs) (hb : Below w.heap.size w w') : Rd enc w' w'.heap.size A n c xs := (h.below hb).more hb.size
theorem Rd.drew (h : Rd enc w B A n c xs) : Rd enc w.drew B A n c xs := ⟨h.len, h.cap, h.top, h.at_⟩
theorem Rd.drewN (h : Rd enc w B A n c xs) (k : Nat) : Rd enc (w.drewN k) B A n c xs := h.keep fun _ _ => rfl
theorem Rd.alloc (h : Rd enc w B A n c xs) (hB : B ≤ w.heap.size) (o : Obj) : Rd enc (w.alloc o) B A n c xs := h.keep fun p hp => World.cell?_alloc_lt w o p (by omega)
theorem Rd.setCell (h : Rd enc w B A n c xs) {p : Addr} (hB : B ≤ p.block) (u : Value) : Rd enc (w.setCell p u) B A n c xs :=
  h.keep fun q hq => World.cell?_setCell_other w p q u (fun e => by subst e; omega)
theorem Rd.grown (h : Rd enc w B A n c xs) {row : Option Nat} (hg : w.grownBy w' row) (hB : B ≤ w.heap.size) (hr : ∀ g, row = some g → B ≤ g) : Rd enc w' B A n c xs :=
  h.keep fun p hp => World.cell?_of_block (hg.block p.block (by omega) (fun e => by have := hr _ e.symm; omega))
theorem Rd.setOther (h : Rd enc w B A n c xs) {p : Addr} {v : Value} (hp : w.cell? p = some v) (hne : ∀ x, enc x ≠ v) (u : Value) : Rd enc (w.setCell p u) B A n c xs :=
  ⟨h.len, h.cap, h.top, fun hn => by
    obtain ⟨b, o, e, hb, hc⟩ := h.at_ hn
    refine ⟨b, o, e, hb, fun j x hx => ?_⟩
    have h1 := hc j x hx
    by_cases e : p = ⟨b, o + j, none⟩
    · subst e
      rw [hp] at h1
      injection h1 with h1
      exact absurd h1.symm (hne x)
    · exact (World.cell?_setCell_other w p _ u (fun e' => e e')).trans h1⟩
theorem Rd.get (h : Rd enc w B A n c xs) {k : Nat} (hk : k < n) : ∃ b o x, A = some ⟨b, o, none⟩ ∧ b < B ∧ xs[k]? = some x ∧ w.cell? ⟨b, o + k, none⟩ = some (enc x) := by
  obtain ⟨b, o, e, hb, hc⟩ := h.at_ (by omega)
  have hl : k < xs.length := by have := h.len; omega
  exact ⟨b, o, xs[k], e, hb, List.getElem?_eq_getElem hl, hc k _ (List.getElem?_eq_getElem hl)⟩
theorem Rd.front (h : Rd enc w B A n c xs) {i : Nat} (hi : i ≤ n) : Rd enc w B A i c (xs.take i) :=
  ⟨by rw [List.length_take, h.len]; omega, by have := h.cap; omega, h.top, fun hn => by
    obtain ⟨b, o, e, hb, hc⟩ := h.at_ (by omega)
    exact ⟨b, o, e, hb, fun j x hx => hc j x (by rw [List.getElem?_take] at hx; split at hx <;> simp_all)⟩⟩
theorem Rd.back (h : Rd enc w B A n c xs) {i b o : Nat} (hi : i ≤ n) (hA : A = some ⟨b, o, none⟩) {A' : Option Addr} (hA' : i < n → A' = some ⟨b, o + i, none⟩) : Rd enc w B A' (n - i) (c - i) (xs.drop i) :=
  ⟨by rw [List.length_drop, h.len], by have := h.cap; omega, by have := h.top; omega, fun hn => by
    obtain ⟨b', o', e, hb, hc⟩ := h.at_ (by omega)
    rw [hA] at e
    injection e with e
    injection e with e1 e2
    subst e1 e2
    exact ⟨b, o + i, hA' (by omega), hb, fun j x hx => by rw [Nat.add_assoc]; exact hc (i + j) x (by rw [List.getElem?_drop] at hx; exact hx)⟩⟩
theorem Rd.of_own {base : Nat} {e : TypeId} {v : Value} (h : w.ownsRow base e 1 v n (xs.map enc)) : ∃ A c, v = .slice A n c ∧ Rd enc w w.heap.size A n c xs := by
  have hl : xs.length = n := by have := h.1; simpa using this
  rcases h.2 with ⟨rfl, rfl⟩ | ⟨g, cap, cur, rfl, hbg, hg, hnc, hcm, hcs, htake⟩
  · obtain rfl := List.eq_nil_of_length_eq_zero hl
    exact ⟨none, 0, rfl, Rd.nil_⟩
  · unfold maxLen at hcm
    have hlt : g < w.heap.size := (h.lt g rfl).2
    refine ⟨_, _, rfl, hl, hnc, hcm, fun _ => ⟨g, 0, rfl, hlt, fun j x hx => ?_⟩⟩
    rw [Nat.zero_add, h.cellAt j (by rw [Nat.mul_one]; have := (List.getElem?_eq_some_iff.1 hx).1; omega), List.getElem?_map, hx]
    rfl
theorem Rd.own_rd {base : Nat} {e : TypeId} (h : w.ownsRow base e 1 (.slice A n c) n (xs.map enc)) : Rd enc w w.heap.size A n c xs := by
  obtain ⟨A', c', e, hr⟩ := Rd.of_own h
  injection e with e1 _ e2
  subst e1 e2
  exact hr
end
section
variable {H : Type} {en : TypeId × Value → H} {P : Program} {w : World} {base : Nat} {spare : Nat → Bool} {held : Bool}
theorem Rd.open_ {t e : TypeId} {k : IntKind} {v : Value} {d : DataW H} {p : List MemPlace} {b0 : Nat} (ht : P.underlying t = some (.slice e)) (he : P.underlying e = some (.int k)) (hC : P.cellsOf e = 1)
    (hv : Value.okWide P w .any b0 t v) (h : DataW.Trod en P w base spare held t v d p) :
    ∃ (A : Option Addr) (n c : Nat) (xs : List Int), v = .slice A n c ∧ Rd (Value.int k) w w.heap.size A n c xs ∧ ∀ x ∈ xs, (Lit.int k x).wf = true := by
  obtain ⟨a0, len0, cap0, rfl⟩ := okWide_slice ht hv
  obtain ⟨fuel, hf⟩ := h
  rcases open_slice ht hf with ⟨h0, _⟩ | ⟨a, len, cap, m, n, D, Pl, hcs, _, hl, hm, hmm, _, hi⟩
  · simp [Value.cells] at h0
    obtain ⟨rfl, rfl, rfl⟩ := h0
    exact ⟨none, 0, 0, [], rfl, Rd.nil_, fun x hx => by cases hx⟩
  · simp [Value.cells] at hcs
    obtain ⟨rfl, rfl, rfl⟩ := hcs
    have hcell : ∀ i, i < len0 → ∃ x : Int, w.cell? (a.add i) = some (.int k x) ∧ (Lit.int k x).wf = true := by
      intro i hil
      obtain ⟨cs', hc, ht'⟩ := hi i (by rw [hmm]; split <;> omega)
      rw [hC] at hc
      obtain ⟨_, hcl, hat⟩ := World.cells?_some hc
      obtain ⟨z, hz, _, hw⟩ := DataW.trod_int he ht'
      refine ⟨z, ?_, hw⟩
      have h1 := hat 0 (by omega)
      rw [Go.Deep.add_add] at h1
      simp only [Nat.mul_one, Nat.add_zero] at h1
      rw [h1, hz]
      rfl
    obtain ⟨f, hf⟩ := choose_lt hcell
    unfold maxLen at hm
    refine ⟨_, _, _, (List.range len0).map f, rfl, ⟨by simp, hl, hm, fun hn => ?_⟩, ?_⟩
    · have hs : a.spot = none := Lw.spot_none (a := a) (by have := (hf 0 hn).1; simpa [Addr.add] using this)
      refine ⟨a.block, a.off, by cases a; simp at hs; subst hs; rfl, ?_, fun j x hx => ?_⟩
      · have := Lw.lt_heap (hf 0 hn).1
        simpa [Addr.add] using this
      · obtain ⟨hj, rfl⟩ := List.getElem?_eq_some_iff.1 hx
        simp at hj
        rw [← Lw.add_eq hs, (hf j hj).1]
        simp
    · intro x hx
      obtain ⟨i, hi', rfl⟩ := List.mem_map.1 hx
      exact (hf i (List.mem_range.1 hi')).2
end
theorem own_slice {w : World} {base : Nat} {e : TypeId} {size : Nat} {v : Value} {n : Nat} {xs : List Value} (h : w.ownsRow base e size v n xs) : ∃ A c, v = .slice A n c := by
  rcases h.2 with ⟨rfl, rfl⟩ | ⟨g, cap, cur, rfl, _⟩
  · exact ⟨_, _, rfl⟩
  · exact ⟨_, _, rfl⟩
section
variable {α : Type} {enc : α → Value} {P : Program} (w : World)
theorem run_append_rd (base : Nat) (t ty e : TypeId) (i : TypeInfo) (z : Value) (bytes : Nat) (ht : P.underlying t = some (.slice e)) (hi : P.info? e = some i) (hz : i.zero = some z)
    (hsize : i.size = 1) (hby : i.bytes = bytes) (hzs : z.cells.size = 1)
    (v : Value) (n : Nat) (xs : List Value) (hown : w.ownsRow base e 1 v n xs)
    (B : Nat) (A : Option Addr) (m c : Nat) (ys : List α) (hr : Rd enc w B A m c ys) (h1 : ∀ y, (enc y).oneCell' = true)
    (h63 : n + m ≤ maxLen) (hbytes : (n + m) * bytes ≤ 140737488355328) (hbase : base ≤ w.heap.size) :
    ∃ v' w', (Builtin.append_ #[t, t] ty #[v, .slice A m c]).run P w = .ok v' w' ∧ w'.ownsRow base e 1 v' (n + m) (xs ++ ys.map enc) ∧ w.grownBy w' v.ownBlock ∧
      (v'.ownBlock = v.ownBlock ∨ v'.ownBlock = some w.heap.size) := by
  by_cases hA : A = none
  · subst hA
    have hm : m = 0 := by
      rcases Nat.eq_zero_or_pos m with h0 | h0
      · exact h0
      · obtain ⟨b, o, h, _⟩ := hr.at_ h0
        cases h
    subst hm
    obtain rfl := List.eq_nil_of_length_eq_zero hr.len
    refine ⟨v, w, ?_, by simpa using hown, World.grownBy.refl w _, .inl rfl⟩
    rcases hown.2 with ⟨rfl, rfl⟩ | ⟨g, cap, cur, rfl, _, _, hnc, _⟩
    · simp [Builtin.append_, run_underlying ht, sizeOf, typeInfo, hi, Builtin.lenOf, Builtin.firstCells]
    · simp [Builtin.append_, run_underlying ht, sizeOf, typeInfo, hi, Builtin.lenOf, Builtin.firstCells, hnc, storeCells]
  · obtain ⟨ad, rfl⟩ := Option.ne_none_iff_exists'.1 hA
    have hcells : ∀ j u, (ys.map enc)[j]? = some u → w.cell? (ad.add j) = some u := by
      intro j u hu
      rcases Nat.eq_zero_or_pos m with h0 | h0
      · subst h0
        obtain rfl := List.eq_nil_of_length_eq_zero hr.len
        simp at hu
      · obtain ⟨b, o, h, _, hc⟩ := hr.at_ h0
        injection h with h
        subst h
        rw [List.getElem?_map] at hu
        obtain ⟨y, hy, rfl⟩ := Option.map_eq_some_iff.1 hu
        rw [Lw.add_eq rfl]
        exact hc j y hy
    obtain ⟨v', w', hrun, h2, h3, _, h5⟩ := run_append_own_at (P := P) w base t ty e i z 1 bytes ht hi hz hsize hby hzs (by omega) v n xs hown ad m c (ys.map enc) (by simp [hr.len]) hcells
      (fun u hu => by obtain ⟨y, _, rfl⟩ := List.mem_map.1 hu; exact h1 y) h63 hbytes hbase
    exact ⟨v', w', hrun, h2, h3, h5⟩
theorem append_rd {ops : Array Oper} {rest : List Oper} {o : Oper} {a : Act} {Q : Exit → Act → World → Prop} (hgd : o.guard = none) (s x : Operand) (t : TypeId)
    (ho : o.op = .call { callee := .builtin .append, args := #[s, x], argTypes := #[t, t] })
    (base : Nat) (e : TypeId) (i : TypeInfo) (z : Value) (bytes : Nat) (ht : P.underlying t = some (.slice e)) (hi : P.info? e = some i) (hz : i.zero = some z)
    (hsize : i.size = 1) (hby : i.bytes = bytes) (hzs : z.cells.size = 1)
    (v : Value) (n : Nat) (xs : List Value) (hs : a.eval s = v) (hown : w.ownsRow base e 1 v n xs)
    (B : Nat) (A : Option Addr) (m c : Nat) (ys : List α) (hx : a.eval x = .slice A m c) (hr : Rd enc w B A m c ys) (h1 : ∀ y, (enc y).oneCell' = true)
    (k : Nat) (hk : n + m = k) (zs : List Value) (hzs' : xs ++ ys.map enc = zs) (h63 : n + m ≤ maxLen) (hbytes : (n + m) * bytes ≤ 140737488355328) (hbase : base ≤ w.heap.size)
    (h : ∀ A' c' w', w'.ownsRow base e 1 (.slice A' k c') k zs → w.grownBy w' v.ownBlock → ((Value.slice A' k c').ownBlock = v.ownBlock ∨ (Value.slice A' k c').ownBlock = some w.heap.size) → wpList P ops Q rest (a.put o.dst (.slice A' k c')) w') : wpList P ops Q (o :: rest) a w := by
  subst hk hzs'
  obtain ⟨v', w', hrun, h2, h3, h4⟩ := run_append_rd (P := P) w base t o.type e i z bytes ht hi hz hsize hby hzs v n xs hown B A m c ys hr h1 h63 hbytes hbase
  obtain ⟨A', c', rfl⟩ := own_slice h2
  exact Lib.wpList_append_run w hgd s x t t ho v _ hs hx _ w' hrun (h A' c' w' h2 h3 h4)
end
theorem own_mono {w : World} {base base' : Nat} {e : TypeId} {size : Nat} {v : Value} {n : Nat} {xs : List Value} (h : w.ownsRow base e size v n xs) (hb : base' ≤ base) : w.ownsRow base' e size v n xs := by
  refine ⟨h.1, ?_⟩
  rcases h.2 with h | ⟨g, cap, cur, h1, h2, h3⟩
  · exact .inl h
  · exact .inr ⟨g, cap, cur, h1, by omega, h3⟩
theorem below_drewN {B : Nat} {a w : World} (h : Below B a w) (n : Nat) : Below B a (w.drewN n) := ⟨h.os, h.tape, h.output, h.size, h.block⟩
theorem grown_frozen {w w' : World} {row : Option Nat} (hg : w.grownBy w' row) {a : Addr} {x : Bool} (h : w.frozen? a = x) (hlt : a.block < w.heap.size) (hne : some a.block ≠ row) : w'.frozen? a = x :=
  (World.frozen?_of_block (hg.block a.block hlt hne)).trans h
theorem alloc_cell {w : World} {a : Addr} {v : Value} (h : w.cell? a = some v) (o : Obj) : (w.alloc o).cell? a = some v :=
  (World.cell?_alloc_lt w o a (Lw.lt_heap h)).trans h
theorem alloc_frozen {w : World} {a : Addr} {x : Bool} (h : w.frozen? a = x) (hlt : a.block < w.heap.size) (o : Obj) : (w.alloc o).frozen? a = x :=
  (Below.frozen ((Below.refl w.heap.size w).alloc (Nat.le_refl _) o) hlt).trans h
theorem rd_one {α : Type} {enc : α → Value} (w : World) (y : α) (t : TypeId) : Rd enc (w.alloc (.cells #[enc y] t)) (w.heap.size + 1) (some ⟨w.heap.size, 0, none⟩) 1 1 [y] :=
  ⟨rfl, Nat.le_refl _, by omega, fun _ => ⟨w.heap.size, 0, rfl, by omega, fun j x hx => by
    match j, hx with
    | 0, hx =>
      simp at hx
      subst hx
      simp⟩⟩
end Go.Proofs.YthmdiaingolfnaaGreatDoor.Rw
namespace Go.Proofs.YthmdiaingolfnaaGreatDoor.Sn
def sIdx (l : List Int) (x : Int) : Int := if x ∈ l then (l.idxOf x : Int) else -1
theorem sIdx_hit (l : List Int) (x : Int) (k : Nat) (h : l[k]? = some x) (hn : x ∉ l.take k) : sIdx l x = k := by
  have hk := (List.getElem?_eq_some_iff.1 h).1
  have hm : x ∈ l := List.mem_of_getElem? h
  have e : l = l.take k ++ l.drop k := (List.take_append_drop k l).symm
  have hd : l.drop k = x :: l.drop (k + 1) := by
    rw [List.drop_eq_getElem_cons hk]
    congr 1
    exact (List.getElem?_eq_some_iff.1 h).2
  unfold sIdx
  rw [if_pos hm]
  conv => lhs; rw [e]
  rw [List.idxOf_append, if_neg hn, hd, List.idxOf_cons_self]
  simp; omega
theorem sIdx_miss (l : List Int) (x : Int) (h : x ∉ l) : sIdx l x = -1 := by simp [sIdx, h]
theorem sIdx_neg (l : List Int) (x : Int) : sIdx l x < 0 ↔ x ∉ l := by
  unfold sIdx; split <;> simp_all <;> omega
theorem take_snoc {α : Type} {l : List α} {k : Nat} {x : α} (h : l[k]? = some x) : l.take (k + 1) = l.take k ++ [x] := by
  obtain ⟨hk, rfl⟩ := List.getElem?_eq_some_iff.1 h
  exact List.take_succ_eq_append_getElem hk
theorem not_mem_snoc {l : List Int} {k : Nat} {x y : Int} (h : l[k]? = some y) (hn : x ∉ l.take k) (hne : x ≠ y) : x ∉ l.take (k + 1) := by
  rw [take_snoc h]
  simp [hn, hne]
def sWith (l : List Int) (n : Int) : List Int := if n ∈ l then l else l ++ [n]
def sWithout (l : List Int) (n : Int) : List Int := l.filter (fun x => x != n)
def sOf (l : List Int) : List Int := l.foldl sWith []
theorem sOf_snoc (l : List Int) (x : Int) : sOf (l ++ [x]) = sWith (sOf l) x := by simp [sOf, List.foldl_append]
theorem sOf_take {l : List Int} {k : Nat} {x : Int} (h : l[k]? = some x) : sOf (l.take (k + 1)) = sWith (sOf (l.take k)) x := by rw [take_snoc h, sOf_snoc]
theorem mem_sWith (l : List Int) (n x : Int) : x ∈ sWith l n ↔ x ∈ l ∨ x = n := by
  unfold sWith; split
  · next h => exact ⟨.inl, fun h' => h'.elim id (fun e => e ▸ h)⟩
  · simp
theorem mem_fold (l : List Int) : ∀ (a : List Int) (x : Int), x ∈ l.foldl sWith a ↔ x ∈ a ∨ x ∈ l := by
  induction l with
  | nil => intro a x; simp
  | cons y l ih => intro a x; rw [List.foldl_cons, ih, mem_sWith, List.mem_cons, or_assoc]
theorem mem_sOf (l : List Int) (x : Int) : x ∈ sOf l ↔ x ∈ l := by rw [sOf, mem_fold]; simp
theorem nodup_sWith {l : List Int} (h : l.Nodup) (n : Int) : (sWith l n).Nodup := by
  unfold sWith; split
  · exact h
  · next hn => rw [List.nodup_append]; exact ⟨h, by simp, fun a ha b hb => by simp at hb; subst hb; exact fun e => hn (e ▸ ha)⟩
theorem nodup_fold (l : List Int) : ∀ a : List Int, a.Nodup → (l.foldl sWith a).Nodup := by
  induction l with
  | nil => intro a h; exact h
  | cons y l ih => intro a h; exact ih _ (nodup_sWith h y)
theorem nodup_sOf (l : List Int) : (sOf l).Nodup := nodup_fold l [] List.nodup_nil
theorem nodup_sWithout {l : List Int} (h : l.Nodup) (n : Int) : (sWithout l n).Nodup := h.filter _
theorem mem_sWithout (l : List Int) (n x : Int) : x ∈ sWithout l n ↔ x ∈ l ∧ x ≠ n := by simp [sWithout]
theorem sWith_len (l : List Int) (n : Int) : (sWith l n).length ≤ l.length + 1 := by unfold sWith; split <;> simp
theorem sWithout_none {l : List Int} {n : Int} (h : n ∉ l) : sWithout l n = l := by
  unfold sWithout
  exact List.filter_eq_self.2 fun x hx => by simp; exact fun e => h (e ▸ hx)
theorem sWithout_cut {l : List Int} {n : Int} {k : Nat} (hnd : l.Nodup) (h : l[k]? = some n) : l.take k ++ l.drop (k + 1) = sWithout l n := by
  have hk := (List.getElem?_eq_some_iff.1 h).1
  have hd : l.drop k = n :: l.drop (k + 1) := by
    rw [List.drop_eq_getElem_cons hk]
    congr 1
    exact (List.getElem?_eq_some_iff.1 h).2
  have e : l = l.take k ++ n :: l.drop (k + 1) := by rw [← hd, List.take_append_drop]
  have hnd' := hnd
  rw [e, List.nodup_append] at hnd'
  obtain ⟨_, h2, h3⟩ := hnd'
  have a1 : n ∉ l.take k := fun hm => h3 n hm n (by simp) rfl
  have a2 : n ∉ l.drop (k + 1) := (List.nodup_cons.1 h2).1
  conv => rhs; rw [e]
  unfold sWithout
  rw [List.filter_append, List.filter_cons]
  have b1 := sWithout_none a1
  have b2 := sWithout_none a2
  unfold sWithout at b1 b2
  rw [b1, b2]
  simp
theorem sIdx_get {l : List Int} {x : Int} (h : x ∈ l) : ∃ k : Nat, sIdx l x = k ∧ k < l.length ∧ l[k]? = some x := by
  refine ⟨l.idxOf x, by simp [sIdx, h], List.idxOf_lt_length_of_mem h, ?_⟩
  rw [List.getElem?_eq_getElem (List.idxOf_lt_length_of_mem h), List.getElem_idxOf]
def U64s (l : List Int) : Prop := ∀ x ∈ l, 0 ≤ x ∧ x ≤ 18446744073709551615
theorem U64s.with_ {l : List Int} (h : U64s l) {n : Int} (h0 : 0 ≤ n) (h1 : n ≤ 18446744073709551615) : U64s (sWith l n) := fun x hx => by
  rcases (mem_sWith l n x).1 hx with hx | rfl
  · exact h x hx
  · exact ⟨h0, h1⟩
theorem U64s.without {l : List Int} (h : U64s l) (n : Int) : U64s (sWithout l n) := fun x hx => h x ((mem_sWithout l n x).1 hx).1
theorem U64s.of {l : List Int} (h : U64s l) : U64s (sOf l) := fun x hx => h x ((mem_sOf l x).1 hx)
theorem U64s.take {l : List Int} (h : U64s l) (k : Nat) : U64s (l.take k) := fun x hx => h x (List.mem_of_mem_take hx)
theorem U64s.get {l : List Int} (h : U64s l) {k : Nat} {x : Int} (hx : l[k]? = some x) : 0 ≤ x ∧ x ≤ 18446744073709551615 := h x (List.mem_of_getElem? hx)
theorem sBack (s : List Int) (n : Int) : sWith (sWithout s n) n = sWithout s n ++ [n] := by
  unfold sWith
  rw [if_neg (by rw [mem_sWithout]; simp)]
end Go.Proofs.YthmdiaingolfnaaGreatDoor.Sn
namespace Go.Proofs.YthmdiaingolfnaaGreatDoor.Sl
open Go.ChangeShapes Go.WideShapes Go.ChangeAt Go.RowKit Rw Sn
set_option linter.unusedVariables false
theorem info_u64 : (Tryz.prog.info? 22).map (fun i => (i.zero, i.size, i.bytes)) = some (some (.int .u64 0), 1, 8) := by kernel_rfl
theorem index_any (A : Option Addr) (n c : Nat) (xs : List Int) (x : Int) (B : Nat) (w : World) (h : Rd (Value.int .u64) w B A n c xs) :
    Calls Tryz.prog 74 #[.slice A n c, .int .u64 x] w fun e w' => e = .returned (.int .i64 (sIdx xs x)) ∧ w = w' := by
  have hn : n ≤ 9223372036854775807 := by have := h.cap; have := h.top; omega
  have HR := Lib.hid h
  clear h
  go_enter Tryz.func74, Tryz.ntmps74
  go_wp2
  go_loop [5, 8] (fun _ i => ∃ k : Nat, k ≤ n ∧ i = .int .i64 k ∧ x ∉ xs.take k) (fun _ i => n - (intOf i).toNat)
  case atStart => exact ⟨0, Nat.zero_le _, rfl, by simp⟩
  case round =>
    obtain ⟨k, hk, rfl, hnot⟩ := hrel
    have HN := Lib.hid hnot
    clear hnot
    by_cases hlt : k < n
    · obtain ⟨b, o, y, rfl, hb, hy, hcell⟩ := HR.out.get hlt
      have HY := Lib.hid hy
      clear hy
      by_cases hxy : x = y
      · subst hxy
        go_wp2
        go_ret
        exact ⟨by rw [sIdx_hit xs x k HY.out HN.out]; rfl, rfl⟩
      · have hq : (x == y) = false := by simpa using hxy
        have HX := Lib.hid hxy
        clear hxy
        go_wp2
        go_round
        case rel => exact ⟨k + 1, by omega, by go_num, not_mem_snoc HY.out HN.out HX.out⟩
        case measure => simp [intOf]; omega
    · have hk' : k = n := by omega
      go_wp2
      go_ret
      exact ⟨by rw [sIdx_miss xs x (by have := HN.out; rwa [List.take_of_length_le (by have := HR.out.len; omega)] at this)]; rfl, rfl⟩
theorem take_eq_snoc {xs ys : List Int} {k : Nat} {x : Int} (h : xs.take k = ys.take k) (hx : xs[k]? = some x) (hy : ys[k]? = some x) : xs.take (k + 1) = ys.take (k + 1) := by rw [take_snoc hx, take_snoc hy, h]
theorem ne_of_at {xs ys : List Int} {k : Nat} {x y : Int} (hx : xs[k]? = some x) (hy : ys[k]? = some y) (hne : x ≠ y) : xs ≠ ys := fun e => by subst e; rw [hx] at hy; injection hy with hy; exact hne hy
set_option maxHeartbeats 400000 in
theorem equal_any (A A' : Option Addr) (n c m c' : Nat) (xs ys : List Int) (B B' : Nat) (w : World) (h : Rd (Value.int .u64) w B A n c xs) (h' : Rd (Value.int .u64) w B' A' m c' ys) :
    Calls Tryz.prog 152 #[.slice A n c, .slice A' m c'] w fun e w' => e = .returned (.bool (decide (xs = ys))) ∧ ∃ q, w.drewN q = w' := by
  have hn : n ≤ 9223372036854775807 := by have := h.cap; have := h.top; omega
  have hm : m ≤ 9223372036854775807 := by have := h'.cap; have := h'.top; omega
  have HL := Lib.hid h.len
  have HL' := Lib.hid h'.len
  have HR := Lib.hid h
  have HR' := Lib.hid h'
  clear h h'
  by_cases hnm : n = m
  · subst hnm
    go_enter Tryz.func152, Tryz.ntmps152
    go_wp2
    go_loopw [5, 13] (fun _ i wr => ∃ k q : Nat, k ≤ n ∧ i = .int .i64 k ∧ wr = w.drewN q ∧ xs.take k = ys.take k) (fun _ i _ => n - (intOf i).toNat)
    case atStart => exact ⟨0, 0, Nat.zero_le _, rfl, rfl, rfl⟩
    case round =>
      obtain ⟨k, q, hk, rfl, rfl, heq⟩ := hrel
      have HE := Lib.hid heq
      clear heq
      by_cases hlt : k < n
      · obtain ⟨b, o, x, rfl, hb, hx, hcell⟩ := HR.out.get hlt
        obtain ⟨b', o', y, rfl, hb', hy, hcell'⟩ := HR'.out.get hlt
        have HX := Lib.hid hx
        have HY := Lib.hid hy
        clear hx hy
        by_cases hxy : x = y
        · subst hxy
          go_wp2
          go_quiet (fail)
          go_wp2
          go_roundw
          case rel => exact ⟨k + 1, _, by omega, by go_num, rfl, take_eq_snoc HE.out HX.out HY.out⟩
          case measure => simp [intOf]; omega
        · have hq : (x != y) = true := by simpa using hxy
          have HN := Lib.hid hxy
          clear hxy
          go_wp2
          go_quiet (fail)
          go_wp2
          go_ret
          exact ⟨by rw [decide_eq_false (ne_of_at HX.out HY.out HN.out)]; rfl, _, (World.drewN_drewN _ _ _).symm⟩
      · have hk' : k = n := by omega
        go_wp2
        go_ret
        refine ⟨?_, _, rfl⟩
        have e := HE.out
        have hl := HL.out
        have hl' := HL'.out
        rw [List.take_of_length_le (by omega), List.take_of_length_le (by omega)] at e
        rw [decide_eq_true e]
        rfl
  · have hb : ((n : Int) != (m : Int)) = true := by rw [bne_iff_ne]; omega
    have hb2 : (n != m) = true := by simpa using hnm
    have HN := Lib.hid hnm
    clear hnm
    go_enter Tryz.func152, Tryz.ntmps152
    go_wp2
    go_ret
    exact ⟨by rw [decide_eq_false (fun e => HN.out (by rw [← HL.out, ← HL'.out, e]))]; rfl, 0, rfl⟩
theorem one_u64 (y : Int) : (Value.int .u64 y).oneCell' = true := rfl
theorem clone_any (A : Option Addr) (n c : Nat) (xs : List Int) (B : Nat) (w : World) (h : Rd (Value.int .u64) w B A n c xs) (hB : B ≤ w.heap.size) (hreach : n * 8 ≤ 140737488355328) :
    Calls Tryz.prog 144 #[.slice A n c] w fun e w' => ∃ A' c', e = .returned (.slice A' n c') ∧ w'.ownsRow w.heap.size 22 1 (.slice A' n c') n (xs.map (Value.int .u64)) ∧ Below w.heap.size w w' := by
  have hn : n ≤ 9223372036854775807 := by have := h.cap; have := h.top; omega
  obtain ⟨i0, hi, hz0, hz1, hz2⟩ := info_parts info_u64
  cases A with
  | none =>
    have h0 : n = 0 := by
      rcases Nat.eq_zero_or_pos n with h0 | h0
      · exact h0
      · obtain ⟨b, o, e, _⟩ := h.at_ h0
        cases e
    subst h0
    obtain rfl := List.eq_nil_of_length_eq_zero h.len
    clear h
    have hk := @Lib.run_eql_slice_nil Tryz.prog
    go_enter Tryz.func144, Tryz.ntmps144
    go_wp2
    go_ret
    exact ⟨_, _, rfl, World.ownsRow_nil _ _ _ _, Below.refl _ _⟩
  | some a =>
    have HR := Lib.hid h
    clear h
    have hk := @Lib.run_eql_slice_nil Tryz.prog
    go_enter Tryz.func144, Tryz.ntmps144
    go_wp2_with (at_builtin; refine append_rd _ rfl _ _ 54 rfl w.heap.size 22 i0 (.int .u64 0) 8 Tryz.underlying54 hi hz0 hz1 hz2 rfl _ 0 [] rfl (World.ownsRow_lit _ #[] 0 (Nat.le_refl _) (by decide) rfl) B (some a) n c xs rfl (HR.out.alloc hB _) one_u64 n (Nat.zero_add _) (xs.map (Value.int .u64)) rfl ?_ ?_ ?_ ?_)
    · unfold maxLen; omega
    · omega
    · simp
    · intro A' c' w' hown hg hat
      go_wp2
      go_ret
      refine ⟨A', c', rfl, hown, ((Below.refl _ _).alloc (Nat.le_refl _) _).grown hg (by simp) (fun k hk => ?_)⟩
      simp [Value.ownBlock] at hk
      omega
set_option maxRecDepth 100000 in
set_option maxHeartbeats 1000000 in
theorem grow_nil (n : Nat) (w : World) (hreach : n * 8 ≤ 140737488355328) :
    Calls Tryz.prog 154 #[.slice none 0 0, .int .i64 n] w fun e w' => ∃ A c, e = .returned (.slice A 0 c) ∧ w'.ownsRow w.heap.size 22 1 (.slice A 0 c) 0 [] ∧ Below w.heap.size w w' := by
  obtain ⟨i0, hi, hz0, hz1, hz2⟩ := info_parts info_u64
  by_cases h0 : n = 0
  · subst h0
    go_enter Tryz.func154, Tryz.ntmps154
    go_wp2
    go_ret
    exact ⟨_, _, rfl, World.ownsRow_nil _ _ _ _, Below.refl _ _⟩
  · have hrz := fun ty => Lib.run_append_grow_zeros (P := Tryz.prog) w 54 3 ty 22 i0 (.int .u64 0) .i64 .i64 Tryz.underlying54 Tryz.underlying3 hi hz0 none 0 0 [] (run_firstCells_none w.drew i0.size 0 0 0) n (by omega) (by omega) (by omega) (by omega) (by rw [hz2]; omega) (by rw [hz2]; exact growslice_fits (by omega) (by omega))
    have hge := grownCap_ge w (0 + n) 0 22
    have hle := grownCap_le_maxLen w (0 + n) 0 22 (by unfold maxLen; omega)
    unfold maxLen at hle
    generalize grownCap w (0 + n) 0 22 = G at hrz hge hle
    have HZ := Lib.hid hrz
    clear hrz
    go_enter Tryz.func154, Tryz.ntmps154
    go_wp2_with (at_builtin; refine Lib.wpList_append_run _ rfl _ _ _ _ rfl _ _ rfl rfl _ _ (HZ.out _) ?_)
    go_ret
    refine ⟨_, _, rfl, ?_, ((Below.refl _ _).drew).alloc (Nat.le_refl _) _⟩
    refine ⟨by simp, .inr ⟨w.heap.size, G, _, rfl, Nat.le_refl _, heap_alloc_new w.drew _, Nat.zero_le _, by unfold maxLen; omega, ?_, by simp⟩⟩
    simp [size_zeroCells]
    omega
set_option maxRecDepth 100000 in
set_option maxHeartbeats 1000000 in
theorem concat_two (g : Nat) (A A' : Option Addr) (n c m d B B' : Nat) (xs ys : List Int) (w : World) (h0 : w.cell? ⟨g, 0, none⟩ = some (.slice A n c)) (h1 : w.cell? ⟨g, 1, none⟩ = some (.slice A' m d))
    (r0 : Rd (Value.int .u64) w B A n c xs) (r1 : Rd (Value.int .u64) w B' A' m d ys) (hB : B ≤ w.heap.size) (hB' : B' ≤ w.heap.size) (hg : g < w.heap.size) (hreach : (n + m) * 8 ≤ 140737488355328) :
    Calls Tryz.prog 147 #[.slice (some ⟨g, 0, none⟩) 2 2] w fun e w' => ∃ A c, e = .returned (.slice A (n + m) c) ∧ w'.ownsRow w.heap.size 22 1 (.slice A (n + m) c) (n + m) ((xs ++ ys).map (Value.int .u64)) ∧ Below w.heap.size w w' := by
  obtain ⟨i0, hi, hz0, hz1, hz2⟩ := info_parts info_u64
  have R0 := Lib.hid r0
  have R1 := Lib.hid r1
  clear r0 r1
  go_enter Tryz.func147, Tryz.ntmps147
  go_wp2_with fail
  refine wp_loop_rounds 3 ?_
  rw [rounds_succ]
  go_wp2_with fail
  rw [rounds_succ]
  go_wp2_with fail
  rw [rounds_succ]
  go_wp2_with fail
  rw [show ((n : Int) + (m : Int)) = ((n + m : Nat) : Int) by omega]
  refine (grow_nil _ _ hreach).mono ?_
  rintro e w1 ⟨v, vc, rfl, hown, hb⟩
  have c0 : w1.cell? ⟨g, 0, none⟩ = some (.slice A n c) := (hb.cell (p := ⟨g, 0, none⟩) hg).trans h0
  have c1 : w1.cell? ⟨g, 1, none⟩ = some (.slice A' m d) := (hb.cell (p := ⟨g, 1, none⟩) hg).trans h1
  clear h0 h1
  have hs := hb.size
  go_wp2_with fail
  refine wp_loop_rounds 3 ?_
  rw [rounds_succ]
  go_wp2_with (at_builtin; refine append_rd _ rfl _ _ 54 rfl w.heap.size 22 i0 (.int .u64 0) 8 Tryz.underlying54 hi hz0 hz1 hz2 rfl _ 0 [] rfl hown B A n c xs rfl (R0.out.below (hb.mono hB)) one_u64 n (Nat.zero_add _) (xs.map (Value.int .u64)) rfl (by unfold maxLen; omega) (by omega) hs ?_; intro v2 vc2 w2 hown2 hg2 hat2)
  have hb2 : Below w.heap.size w w2 := hb.grown hg2 hs (fun k hk => (hown.lt k hk).1)
  have c2 : w2.cell? ⟨g, 1, none⟩ = some (.slice A' m d) := (World.cell?_of_block (hg2.block g (by omega) (fun e => by have := (hown.lt g e.symm).1; omega))).trans c1
  clear c0 c1
  rw [rounds_succ]
  go_wp2_with (at_builtin; refine append_rd _ rfl _ _ 54 rfl w.heap.size 22 i0 (.int .u64 0) 8 Tryz.underlying54 hi hz0 hz1 hz2 rfl _ n _ rfl hown2 B' A' m d ys rfl (R1.out.below (hb2.mono hB')) one_u64 (n + m) rfl ((xs ++ ys).map (Value.int .u64)) List.map_append.symm (by unfold maxLen; omega) (by omega) hb2.size ?_; intro v3 vc3 w3 hown3 hg3 hat3)
  have hb3 : Below w.heap.size w w3 := hb2.grown hg3 hb2.size (fun k hk => (hown2.lt k hk).1)
  rw [rounds_succ]
  go_wp2_with fail
  go_ret
  exact ⟨v3, vc3, rfl, hown3, hb3⟩
end Go.Proofs.YthmdiaingolfnaaGreatDoor.Sl
namespace Go.Proofs.YthmdiaingolfnaaGreatDoor.Mp
open Go Go.Maps Go.RowKit
set_option linter.unusedVariables false
def setD (q : IntKind) (acc : List Int) : DataW Unit := setOf (.lit (.bool true)) (acc.map (Lit.int q))
theorem setD_nil (q : IntKind) : setD q [] = .map [] := rfl
theorem setD_snoc (q : IntKind) (acc : List Int) (x : Int) : setD q (acc ++ [x]) = (setD q acc).put (.int q x) (.lit (.bool true)) := by
  unfold setD
  rw [List.map_append, List.map_cons, List.map_nil, setOf_snoc]
theorem setD_is (q : IntKind) (acc : List Int) : IsMap (setD q acc) := by
  unfold setD setOf
  generalize hd : (DataW.map [] : DataW Unit) = d
  have h : IsMap d := by subst hd; exact isMap_empty
  clear hd
  induction acc generalizing d with
  | nil => exact h
  | cons y l ih => exact ih _ (h.put _ _)
theorem setD_at (q : IntKind) (x : Int) : ∀ acc : List Int, (setD q acc).atKey (.int q x) (.lit (.bool false)) = .lit (.bool (decide (x ∈ acc))) := by
  intro acc
  induction h : acc.length generalizing acc with
  | zero =>
    obtain rfl := List.eq_nil_of_length_eq_zero h
    simp [setD_nil, DataW.atKey]
  | succ n ih =>
    obtain ⟨l, y, rfl⟩ : ∃ l y, acc = l ++ [y] := ⟨acc.dropLast, acc.getLast (by intro e; simp [e] at h), (List.dropLast_concat_getLast _).symm⟩
    rw [setD_snoc]
    by_cases e : x = y
    · subst e
      rw [atKey_put_same (k := .int q x) (setD_is q l) trivial]
      simp
    · rw [atKey_put_other (by simp [e]), ih l (by simpa using h)]
      simp [e]
theorem lookup_set {P : Program} (w : World) {ops : Array Oper} {rest : List Oper} {o : Oper} {a : Act} {Q : Exit → Act → World → Prop}
    (hg : o.guard = none) (m x : Operand) (t : TypeId) (hop : o.op = Op.lookup t m x false)
    (k e : TypeId) (q : IntKind) (hk : P.underlying k = some (.int q)) (ht : P.underlying t = some (.map k e)) (he : P.underlying e = some .bool) (hz : (zeroValue e).run P w = .ok (.bool false) w) (b n : Nat) (acc : List Int)
    (hm : a.eval m = .map (some b)) (hown : w.ownsMap P k (plainElem P e) b n (setD q acc)) (y : Int) (hx : a.eval x = .int q y) (hw : (Lit.int q y).wf = true)
    (hK : wpList P ops Q rest (a.put o.dst (.bool (decide (y ∈ acc)))) w) :
    wpList P ops Q (o :: rest) a w := by
  refine wpList_plain hg fun K' hK' => ?_
  obtain ⟨v, ps, hrun, hv⟩ := hown.lookup (int_keyed hk) ht hz (plainElem_bool he false) (keyOf_int_mk hk hw)
  rw [setD_at] at hv
  have hv' : v = .bool (decide (y ∈ acc)) := by
    unfold plainElem at hv
    rw [he] at hv
    cases v <;> simp at hv
    rw [hv.1]
  subst hv'
  unfold Oper.wp
  simp [execOp, hop, hm, hx, hrun, Result.andThen]
  exact hK' _ _ hK
theorem update_set {P : Program} (w : World) {ops : Array Oper} {rest : List Oper} {o : Oper} {a : Act} {Q : Exit → Act → World → Prop}
    (hg : o.guard = none) (m x v : Operand) (t : TypeId) (hop : o.op = Op.mapUpdate t m x v)
    (k e : TypeId) (q : IntKind) (hk : P.underlying k = some (.int q)) (ht : P.underlying t = some (.map k e)) (he : P.underlying e = some .bool) (b n : Nat) (acc : List Int)
    (hm : a.eval m = .map (some b)) (hown : w.ownsMap P k (plainElem P e) b n (setD q acc)) (hn : n < maxLen) (y : Int) (hx : a.eval x = .int q y) (hv : a.eval v = .bool true) (hw : (Lit.int q y).wf = true)
    (hK : ∀ w', w'.ownsMap P k (plainElem P e) b (n + 1) (setD q (acc ++ [y])) → w.grownBy w' (some b) → wpList P ops Q rest (a.put o.dst undef) w') :
    wpList P ops Q (o :: rest) a w := by
  refine wpList_mapUpdate_own w hg m x v t hop k e (int_keyed hk) ht (plainElem P e) b n (setD q acc) hm hown hn _ _ _ hx hv (keyOf_int_mk hk hw) (.lit (.bool true)) [] (plainElem_bool he true) ?_
  intro w' h1 h2
  rw [← setD_snoc] at h1
  exact hK w' h1 h2
end Go.Proofs.YthmdiaingolfnaaGreatDoor.Mp
namespace Go.Proofs.YthmdiaingolfnaaGreatDoor.Rw
open Go Go.RowKit
set_option linter.unusedVariables false
def After (W : World) : Type := {w : World // Below W.heap.size W w}
instance {W : World} : Nonempty (After W) := ⟨⟨W, Below.refl _ _⟩⟩
theorem After.cell {W : World} (x : After W) {p : Addr} {v : Value} (h : W.cell? p = some v) : x.1.cell? p = some v := (x.2.cell (Lw.lt_heap h)).trans h
theorem After.frozen {W : World} (x : After W) {p : Addr} {v : Bool} (h : W.frozen? p = v) (hp : p.block < W.heap.size) : x.1.frozen? p = v := (x.2.frozen hp).trans h
theorem After.call {P : Program} {W : World} {x : After W} {f : FuncId} {args : Array Value} {v : Value}
    (h : Calls P f args x.1 fun e w' => e = .returned v ∧ Below x.1.heap.size x.1 w') : Calls P f args x.1 fun e w' => e = .returned v ∧ ∃ y : After W, w' = y.1 :=
  h.mono fun _ w' ⟨he, hb⟩ => ⟨he, ⟨⟨w', x.2.trans (hb.mono x.2.size)⟩, rfl⟩⟩
theorem After.same {P : Program} {W : World} {x : After W} {f : FuncId} {args : Array Value} {v : Value}
    (h : Calls P f args x.1 fun e w' => e = .returned v ∧ x.1 = w') : Calls P f args x.1 fun e w' => e = .returned v ∧ ∃ y : After W, w' = y.1 :=
  h.mono fun _ w' ⟨he, hb⟩ => ⟨he, x, hb.symm⟩
theorem region_after {P : Program} {id : Nat} {Q : Exit → Act → World → Prop} {a : Act} {W : World} {l : List Oper} (hm : P.follows .mixedOrders = true) (hB : Region.lexB .any l.toArray = true)
    (h : wpQuiet P l.toArray (fun w' => ∃ x : After W, w' = x.1) (fun a' => ∀ w', (∃ x : After W, w' = x.1) → Q .normal a' w') l a) : (Code.region id l.toArray true).wp P Q a W :=
  wp_region_quiet (C := fun w' => ∃ x : After W, w' = x.1) hm hB ⟨⟨W.drew, (Below.refl _ _).drew⟩, rfl⟩ (by simpa using h)
end Go.Proofs.YthmdiaingolfnaaGreatDoor.Rw
namespace Go.Proofs.YthmdiaingolfnaaGreatDoor.Rw
open Go Go.RowKit
set_option linter.unusedVariables false
section
variable {P : Program} {ops : Array Oper} {Q : Exit → Act → World → Prop} {md : Region.Mode} {S S1 : World → Prop} {n : Nat}
def waitsF (md : Region.Mode) (ops : Array Oper) : Nat → Nat → Nat → Bool
  | 0, _, _ => false
  | f + 1, j, i => match ops[j]? with
    | some oj => oj.after.any fun e => Region.binds md e && (e.on == i || waitsF md ops f e.on i)
    | none => false
def tailB (md : Region.Mode) (ops : Array Oper) (n : Nat) : Bool :=
  (List.range ops.size).all fun j => decide (j < n) || (List.range n).all fun i => waitsF md ops ops.size j i
def Closed (md : Region.Mode) (ops : Array Oper) (listed : Array Bool) : Prop :=
  ∀ j oj, ops[j]? = some oj → listed.getD j false = true → ∀ e ∈ oj.after, Region.binds md e = true → listed.getD e.on false = true
def closedB (md : Region.Mode) (ops : Array Oper) (listed : Array Bool) : Bool :=
  (List.range ops.size).all fun j => !listed.getD j false || match ops[j]? with
    | some oj => oj.after.all fun e => !Region.binds md e || listed.getD e.on false
    | none => true
theorem closedB_spec {listed : Array Bool} (h : closedB md ops listed = true) : Closed md ops listed := by
  intro j oj hj hl e he hb
  have h1 := List.all_eq_true.1 h j (List.mem_range.2 (Array.getElem?_eq_some_iff.1 hj).1)
  rw [hl] at h1
  simp only [hj, Bool.not_true, Bool.false_or] at h1
  have h2 := Array.all_eq_true_iff_forall_mem.1 h1 e he
  rw [hb] at h2
  simpa using h2
theorem Closed.set {listed : Array Bool} (h : Closed md ops listed) {j : Nat} (hj : j ∈ Region.ready md ops listed) : Closed md ops (listed.setIfInBounds j true) := by
  intro k ok hk hl e he hb
  apply getD_set_true
  by_cases hjk : j = k
  · subst hjk
    obtain ⟨_, o, ho, hall⟩ := mem_ready.1 hj
    rw [hk] at ho
    injection ho with ho
    subst ho
    exact hall e he hb
  · rw [getD_set_ne false hjk] at hl
    exact h k ok hk hl e he hb
theorem waitsF_listed {listed : Array Bool} (hC : Closed md ops listed) {i : Nat} : ∀ (f j : Nat) (oj : Oper), ops[j]? = some oj → (∀ e ∈ oj.after, Region.binds md e = true → listed.getD e.on false = true) →
    waitsF md ops f j i = true → listed.getD i false = true := by
  intro f
  induction f with
  | zero => intro j oj _ _ h; cases h
  | succ f ih =>
    intro j oj hj hd h
    simp only [waitsF, hj] at h
    obtain ⟨e, he, hb⟩ := Array.any_eq_true'.1 h
    simp only [Bool.and_eq_true, Bool.or_eq_true, beq_iff_eq] at hb
    have h1 := hd e he hb.1
    rcases hb.2 with h2 | h2
    · rw [← h2]; exact h1
    · cases ho : ops[e.on]? with
      | none => cases f <;> simp [waitsF, ho] at h2
      | some o => exact ih e.on o ho (hC e.on o ho h1) h2
theorem tailB_spec (h : tailB md ops n = true) {listed : Array Bool} (hC : Closed md ops listed) {j i : Nat} (hj : j ∈ Region.ready md ops listed) (hn : n ≤ j) (hi : i < n) : listed.getD i false = true := by
  obtain ⟨_, oj, hoj, hall⟩ := mem_ready.1 hj
  have h1 := List.all_eq_true.1 h j (List.mem_range.2 (Array.getElem?_eq_some_iff.1 hoj).1)
  simp only [Bool.or_eq_true, decide_eq_true_eq] at h1
  rcases h1 with h1 | h1
  · omega
  · exact waitsF_listed hC _ j oj hoj hall (List.all_eq_true.1 h1 i (List.mem_range.2 hi))
theorem unlisted {listed : Array Bool} {i : Nat} (h : listed.getD i true = false) : listed.getD i false = false := by
  rcases Nat.lt_or_ge i listed.size with h' | h'
  · simp [h'] at h ⊢; exact h
  · simp [Array.getElem?_eq_none h'] at h
def wpAnyT (P : Program) (md : Region.Mode) (ops : Array Oper) (Q : Exit → Act → World → Prop) (n : Nat) (S : World → Prop) : Nat → Array Bool → Act → World → Prop
  | 0, listed, a, w => Region.ready md ops listed = [] ∧ Q .normal a w
  | f + 1, listed, a, w => (Region.ready md ops listed = [] → Q .normal a w) ∧
      ∀ i ∈ Region.ready md ops listed, wpOp P ops Q i (fun a' w' => (i < n → S w') ∧ wpAnyT P md ops Q n S f (listed.setIfInBounds i true) a' w') a w
theorem wpAnyT.any : ∀ (f : Nat) (listed : Array Bool) (a : Act) (w : World), wpAnyT P md ops Q n S f listed a w → wpAny P md ops Q f listed a w
  | 0, _, _, _, h => h
  | f + 1, _, _, _, h => ⟨h.1, fun i hi => wpOp_mono (fun a' w' h' => wpAnyT.any f _ a' w' h'.2) (h.2 i hi)⟩
theorem wpAnyT.first {i : Nat} {oi : Oper} {v : Value} (hi : ops[i]? = some oi) (hsel : ∀ (j : Nat) (o : Oper) cs b, ops[j]? = some o → o.op ≠ .select cs b)
    (hQ : ∀ c a w, Q (.panic c) (a.put oi.dst v) w → Q (.panic c) a w) (hT : tailB md ops n = true) (hin : i < n) :
    ∀ (f : Nat) (listed : Array Bool) (a : Act) (w : World),
      (∀ j oj, ops[j]? = some oj → j ≠ i → listed.getD j true = false → (∀ e ∈ oj.after, Region.binds md e = true → e.on ≠ i) → oi.apart ops oj = true) →
      i ∈ Region.ready md ops listed → YieldsIf P ops S oi v a → S w → Closed md ops listed →
      wpAnyT P md ops Q n S f (listed.setIfInBounds i true) (a.put oi.dst v) w → wpAnyT P md ops Q n S (f + 1) listed a w := by
  intro f
  induction f with
  | zero =>
    intro listed a w _ hr hy hS _ H
    refine ⟨fun h => (by rw [h] at hr; cases hr), fun j hj => ?_⟩
    by_cases e : j = i
    · subst e
      exact hy.wpOp hi hS ⟨fun _ => hS, H⟩
    · have := ready_mono hj e
      rw [H.1] at this
      cases this
  | succ f ih =>
    intro listed a w hfree hr hy hS hC H
    have hun := (mem_ready.1 hr).1
    refine ⟨fun h => (by rw [h] at hr; cases hr), fun j hj => ?_⟩
    by_cases e : j = i
    · subst e
      exact hy.wpOp hi hS ⟨fun _ => hS, H⟩
    · obtain ⟨hju, oj, hoj, hall⟩ := mem_ready.1 hj
      have hno : ∀ d ∈ oj.after, Region.binds md d = true → d.on ≠ i := fun d hd hb heq => by
        have hl := hall d hd hb
        rw [heq] at hl
        rcases Nat.lt_or_ge i listed.size with h' | h'
        · simp [h'] at hun hl; rw [hun] at hl; cases hl
        · simp [Array.getElem?_eq_none h'] at hl
      have hjn : j < n := by
        rcases Nat.lt_or_ge j n with h' | h'
        · exact h'
        · have := tailB_spec hT hC hj h' hin
          rw [unlisted hun] at this
          cases this
      refine wpOp_mono (fun a' w' h3 => ?_) (wpOp_putIf hoj (hfree j oj hoj e hju hno) (fun cs b => hsel i oi cs b hi) (fun cs b => hsel j oj cs b hoj) hQ hy (H.2 j (ready_mono hj e)))
      obtain ⟨hy', hS', H'⟩ := h3
      rw [Array.setIfInBounds_comm _ _ (Ne.symm e)] at H'
      refine ⟨hS', ih _ a' w' (fun k ok hk hki hku hkn => hfree k ok hk hki ?_ hkn) (ready_mono hr (Ne.symm e)) hy' (hS' hjn) (hC.set hj) H'⟩
      by_cases hjk : j = k
      · subst hjk; exact hju
      · rw [getD_set_ne true hjk] at hku; exact hku
theorem wpAnyT.firstPure {i : Nat} {oi : Oper} {v : Value} (hi : ops[i]? = some oi) (hsel : ∀ (j : Nat) (o : Oper) cs b, ops[j]? = some o → o.op ≠ .select cs b)
    (hQ : ∀ c a w, Q (.panic c) (a.put oi.dst v) w → Q (.panic c) a w) :
    ∀ (f : Nat) (listed : Array Bool) (a : Act) (w : World),
      (∀ j oj, ops[j]? = some oj → j ≠ i → listed.getD j true = false → (∀ e ∈ oj.after, Region.binds md e = true → e.on ≠ i) → oi.apart ops oj = true) →
      i ∈ Region.ready md ops listed → YieldsIf P ops (fun _ => True) oi v a → (i < n → S w) → (i < n → tailB md ops n = true) → Closed md ops listed →
      wpAnyT P md ops Q n S f (listed.setIfInBounds i true) (a.put oi.dst v) w → wpAnyT P md ops Q n S (f + 1) listed a w := by
  intro f
  induction f with
  | zero =>
    intro listed a w _ hr hy hS _ _ H
    refine ⟨fun h => (by rw [h] at hr; cases hr), fun j hj => ?_⟩
    by_cases e : j = i
    · subst e
      exact hy.wpOp hi trivial ⟨hS, H⟩
    · have := ready_mono hj e
      rw [H.1] at this
      cases this
  | succ f ih =>
    intro listed a w hfree hr hy hS hT hC H
    have hun := (mem_ready.1 hr).1
    refine ⟨fun h => (by rw [h] at hr; cases hr), fun j hj => ?_⟩
    by_cases e : j = i
    · subst e
      exact hy.wpOp hi trivial ⟨hS, H⟩
    · obtain ⟨hju, oj, hoj, hall⟩ := mem_ready.1 hj
      have hno : ∀ d ∈ oj.after, Region.binds md d = true → d.on ≠ i := fun d hd hb heq => by
        have hl := hall d hd hb
        rw [heq] at hl
        rcases Nat.lt_or_ge i listed.size with h' | h'
        · simp [h'] at hun hl; rw [hun] at hl; cases hl
        · simp [Array.getElem?_eq_none h'] at hl
      refine wpOp_mono (fun a' w' h3 => ?_) (wpOp_putIf hoj (hfree j oj hoj e hju hno) (fun cs b => hsel i oi cs b hi) (fun cs b => hsel j oj cs b hoj) hQ hy (H.2 j (ready_mono hj e)))
      obtain ⟨hy', hS', H'⟩ := h3
      rw [Array.setIfInBounds_comm _ _ (Ne.symm e)] at H'
      refine ⟨hS', ih _ a' w' (fun k ok hk hki hku hkn => hfree k ok hk hki ?_ hkn) (ready_mono hr (Ne.symm e)) hy' (fun hin => hS' ?_) hT (hC.set hj) H'⟩
      · by_cases hjk : j = k
        · subst hjk; exact hju
        · rw [getD_set_ne true hjk] at hku; exact hku
      · rcases Nat.lt_or_ge j n with h' | h'
        · exact h'
        · have := tailB_spec (hT hin) hC hj h' hin
          rw [unlisted hun] at this
          cases this
def takeB (md : Region.Mode) (ops : Array Oper) (listed : Array Bool) (i : Nat) : Bool := Region.noSelect ops && Region.free md ops listed i && (Region.ready md ops listed).contains i && closedB md ops listed
theorem reg_start {id : Nat} {a : Act} {w : World} {l : List Oper} (n : Nat) (S : World → Prop) (hm : P.follows .mixedOrders = true) (hT : tailB .any l.toArray n = true)
    (h : tailB .any l.toArray n = true → wpAnyT P .any l.toArray Q n S l.toArray.size (Array.replicate l.toArray.size false) a w.drew) : (Code.region id l.toArray true).wp P Q a w :=
  wp_region_any hm ((h hT).any _ _ _ _)
theorem reg_load (i : Nat) {oi : Oper} {f : Nat} {listed : Array Bool} {a : Act} {w : World} (hT : tailB md ops n = true) (hi : ops[i]? = some oi) (hB : takeB md ops listed i = true) (hin : i < n)
    (hQ : ∀ c a u w, Q (.panic c) (a.put oi.dst u) w → Q (.panic c) a w) (hS : S w) (hw : Region.wanted oi (yielded ops a.tmps) = true)
    (h : ∃ v, (∀ w', S w' → (execOp a.eval oi).run P w' = .ok (.value v) w') ∧ wpAnyT P md ops Q n S f (listed.setIfInBounds i true) (a.put oi.dst v) w) : wpAnyT P md ops Q n S (f + 1) listed a w := by
  obtain ⟨v, hv, h⟩ := h
  simp only [takeB, Bool.and_eq_true] at hB
  exact wpAnyT.first hi (Region.noSelect_spec hB.1.1.1) (fun c a w => hQ c a v w) hT hin f listed a w (Region.free_spec hi hB.1.1.2) (by simpa using hB.1.2) (.inl ⟨hw, hv⟩) hS (closedB_spec hB.2) h
theorem reg_pure (i : Nat) {oi : Oper} {f : Nat} {listed : Array Bool} {a : Act} {w : World} (hT : tailB md ops n = true) (hi : ops[i]? = some oi) (hB : takeB md ops listed i = true)
    (hQ : ∀ c a u w, Q (.panic c) (a.put oi.dst u) w → Q (.panic c) a w) (hS : i < n → S w) (hw : Region.wanted oi (yielded ops a.tmps) = true)
    (h : ∃ v, (∀ w', (execOp a.eval oi).run P w' = .ok (.value v) w') ∧ wpAnyT P md ops Q n S f (listed.setIfInBounds i true) (a.put oi.dst v) w) : wpAnyT P md ops Q n S (f + 1) listed a w := by
  obtain ⟨v, hv, h⟩ := h
  simp only [takeB, Bool.and_eq_true] at hB
  exact wpAnyT.firstPure hi (Region.noSelect_spec hB.1.1.1) (fun c a w => hQ c a v w) f listed a w (Region.free_spec hi hB.1.1.2) (by simpa using hB.1.2) (.inl ⟨hw, fun w' _ => hv w'⟩) hS (fun _ => hT) (closedB_spec hB.2) h
theorem reg_only (i : Nat) {oi : Oper} {f : Nat} {listed : Array Bool} {a : Act} {w : World} (hi : ops[i]? = some oi) (hr : Region.ready md ops listed = [i]) (hw : Region.wanted oi (yielded ops a.tmps) = true)
    (h : oi.wp P a w (fun a' w' => (i < n → S w') ∧ wpAnyT P md ops Q n S f (listed.setIfInBounds i true) a' w') Q) : wpAnyT P md ops Q n S (f + 1) listed a w := by
  refine ⟨fun h0 => (by rw [h0] at hr; cases hr), fun j hj => ?_⟩
  rw [hr] at hj
  obtain rfl : j = i := by simpa using hj
  unfold wpOp
  simp only [hi, hw, if_true]
  exact .inl h
theorem reg_done {f : Nat} {listed : Array Bool} {a : Act} {w : World} (hr : Region.ready md ops listed = []) (h : Q .normal a w) : wpAnyT P md ops Q n S f listed a w := by
  cases f with
  | zero => exact ⟨hr, h⟩
  | succ f => exact ⟨fun _ => h, by rw [hr]; simp⟩
end
end Go.Proofs.YthmdiaingolfnaaGreatDoor.Rw
namespace Go.Proofs.YthmdiaingolfnaaGreatDoor.Rw
open Go Go.RowKit
set_option linter.unusedVariables false
section
variable {α : Type} {enc : α → Value} {P : Program} {w : World}
end
end Go.Proofs.YthmdiaingolfnaaGreatDoor.Rw
namespace Go.Proofs.YthmdiaingolfnaaGreatDoor.Rw
open Go Go.RowKit
set_option linter.unusedVariables false
def dstOf (ops : Array Oper) (i : Nat) : Option Tmp := (ops[i]?).bind (·.dst)
def clearB (ops : Array Oper) (is : List Nat) (s : Tmp) : Bool := is.all fun i => dstOf ops i != some s
def apartB (ops : Array Oper) : List Nat → Bool
  | [] => true
  | i :: l => (match dstOf ops i with | some d => clearB ops l d | none => true) && apartB ops l
def puts (ops : Array Oper) (val : Nat → Value) : List Nat → Act → Act
  | [], a => a
  | i :: l, a => puts ops val l (a.put (dstOf ops i) (val i))
section
variable {ops : Array Oper} {val : Nat → Value}
theorem put_size (a : Act) (d : Option Tmp) (v : Value) : (a.put d v).tmps.size = a.tmps.size := by cases d <;> simp [Act.put]
theorem put_defers (a : Act) (d : Option Tmp) (v : Value) : (a.put d v).defers = a.defers := by cases d <;> rfl
theorem put_at_ne (a : Act) (d : Option Tmp) (v : Value) (s : Tmp) (h : d ≠ some s) : (a.put d v).tmps[s]? = a.tmps[s]? := by
  cases d with
  | none => rfl
  | some d => simp [Act.put, Array.getElem?_setIfInBounds]; intro e; exact absurd (congrArg some e) h
theorem put_at_eq (a : Act) (d : Tmp) (v : Value) (h : d < a.tmps.size) : (a.put (some d) v).tmps[d]? = some v := by
  simp [Act.put, h]
theorem puts_defers : ∀ (is : List Nat) (a : Act), (puts ops val is a).defers = a.defers
  | [], _ => rfl
  | i :: l, a => by rw [puts, puts_defers l, put_defers]
theorem puts_clear : ∀ (is : List Nat) (a : Act) (s : Tmp), clearB ops is s = true → (puts ops val is a).tmps[s]? = a.tmps[s]?
  | [], _, _, _ => rfl
  | i :: l, a, s, h => by
    simp only [clearB, List.all_cons, Bool.and_eq_true] at h
    rw [puts, puts_clear l _ s h.2, put_at_ne _ _ _ _ (by simpa using h.1)]
theorem puts_at : ∀ (is : List Nat) (a : Act) (i : Nat) (d : Tmp), apartB ops is = true → i ∈ is → dstOf ops i = some d → d < a.tmps.size → (puts ops val is a).tmps[d]? = some (val i)
  | [], _, _, _, _, h, _, _ => by cases h
  | j :: l, a, i, d, hA, h, hd, hs => by
    simp only [apartB, Bool.and_eq_true] at hA
    rw [puts]
    by_cases e : i ∈ l
    · exact puts_at l _ i d hA.2 e hd (by rw [put_size]; exact hs)
    · obtain rfl : i = j := by rcases List.mem_cons.1 h with h | h; exact h; exact absurd h e
      have h1 := hA.1
      rw [hd] at h1
      rw [puts_clear l _ d h1, hd, put_at_eq a d _ hs]
theorem not_clear {is : List Nat} {s : Tmp} (h : clearB ops is s ≠ true) : ∃ i ∈ is, dstOf ops i = some s := by
  unfold clearB at h
  apply Classical.byContradiction
  intro hc
  apply h
  refine List.all_eq_true.2 fun i hi => ?_
  simp only [bne_iff_ne, ne_eq]
  exact fun e => hc ⟨i, hi, e⟩
end
def Each (p : Nat → Prop) : List Nat → Prop
  | [] => True
  | i :: l => p i ∧ Each p l
theorem Each.of {p : Nat → Prop} : ∀ {l : List Nat}, Each p l → ∀ i ∈ l, p i
  | [], _, _, h => by cases h
  | j :: l, h, i, hi => by
    rcases List.mem_cons.1 hi with rfl | hi
    · exact h.1
    · exact Each.of h.2 i hi
theorem Each.mk {p : Nat → Prop} : ∀ {l : List Nat}, (∀ i ∈ l, p i) → Each p l
  | [], _ => trivial
  | j :: l, h => ⟨h j (by simp), Each.mk fun i hi => h i (by simp [hi])⟩
def backB (ops : Array Oper) : Bool := (List.range ops.size).all fun j => match ops[j]? with
  | some oj => oj.after.all fun e => decide (e.on < j)
  | none => true
def leftB (ops : Array Oper) (listed : Array Bool) (is : List Nat) (f : Nat) : Bool :=
  (List.range ops.size).all (fun j => listed.getD j true || is.contains j) && is.all (fun j => decide (j < ops.size) && !listed.getD j true) && decide is.Nodup && decide (is.length = f) && decide (listed.size = ops.size)
def guardsB (ops : Array Oper) (is : List Nat) : Bool := is.all fun i => match ops[i]? with
  | some o => match o.guard with
    | some (g, _) => (match dstOf ops g with | some d => clearB ops is d | none => true)
    | none => true
  | none => true
section
variable {P : Program} {ops : Array Oper} {Q : Exit → Act → World → Prop} {md : Region.Mode} {S : World → Prop} {n : Nat}
theorem wanted_same {o : Oper} {a b : Act} (h : match o.guard with | some (g, _) => (match dstOf ops g with | some d => a.tmps[d]? = b.tmps[d]? | none => True) | none => True) :
    Region.wanted o (yielded ops a.tmps) = Region.wanted o (yielded ops b.tmps) := by
  unfold Region.wanted
  cases hg : o.guard with
  | none => rfl
  | some g =>
    obtain ⟨g, p⟩ := g
    rw [hg] at h
    have : yielded ops a.tmps g = yielded ops b.tmps g := by
      unfold yielded
      unfold dstOf at h
      cases hd : (ops[g]?).bind (·.dst) with
      | none => rfl
      | some d =>
        simp only [hd] at h
        simp only [Option.bind_some]
        rw [show a.tmps[d]? = b.tmps[d]? from h]
    simp only [this]
theorem reg_stable (is : List Nat) (R : World → World → Prop) (T : Nat → Value → World → Prop) {f : Nat} {listed : Array Bool} {a : Act} {w : World}
    (hB : leftB ops listed is f = true) (hb : backB ops = true) (hA : apartB ops is = true) (hG : guardsB ops is = true) (hC : closedB md ops listed = true)
    (hsz : is.all (fun i => match dstOf ops i with | some d => decide (d < a.tmps.size) | none => true) = true)
    (hw : is.all (fun i => match ops[i]? with | some o => Region.wanted o (yielded ops a.tmps) | none => true) = true)
    (hR0 : ∀ w, R w w) (hRt : ∀ w w' w'', R w w' → R w' w'' → R w w'') (hT : ∀ i v w w', T i v w → R w w' → T i v w') (hS : ∀ w', R w w' → S w')
    (hstep : Each (fun i => ∀ (a' : Act) (w' : World) (val : Nat → Value), R w w' → (∀ s, clearB ops is s = true → a'.tmps[s]?.getD undef = a.tmps[s]?.getD undef) →
      (∀ j, is.contains j = true → waitsF md ops ops.size i j = true → T j (val j) w' ∧ ∀ d, dstOf ops j = some d → a'.tmps[d]?.getD undef = val j) →
      ∃ o, ops[i]? = some o ∧ o.wp P a' w' (fun a'' w'' => ∃ v, a'' = a'.put o.dst v ∧ T i v w'' ∧ R w' w'') Q) is)
    (hend : ∀ (val : Nat → Value) (w' : World), Each (fun i => T i (val i) w') is → R w w' → Q .normal (puts ops val is a) w') :
    wpAnyT P md ops Q n S f listed a w := by
  simp only [leftB, Bool.and_eq_true, List.all_eq_true, Bool.or_eq_true, decide_eq_true_eq] at hB
  obtain ⟨⟨⟨⟨hB1, hB2⟩, hnd⟩, hlen⟩, hls⟩ := hB
  have hback : ∀ (j : Nat) (oj : Oper), ops[j]? = some oj → ∀ e ∈ oj.after, e.on < j := by
    intro j oj hj e he
    have h1 := List.all_eq_true.1 hb j (List.mem_range.2 (Array.getElem?_eq_some_iff.1 hj).1)
    simp only [hj] at h1
    simpa using Array.all_eq_true_iff_forall_mem.1 h1 e he
  suffices main : ∀ (f : Nat) (L : List Nat) (listed : Array Bool) (a' : Act) (w' : World) (val : Nat → Value),
      L.Nodup → L.length = f → listed.size = ops.size → (∀ j, j ∈ L → j ∈ is) → (∀ j, j < ops.size → (listed.getD j true = false ↔ j ∈ L)) → Closed md ops listed →
      a'.tmps.size = a.tmps.size → a'.defers = a.defers → (∀ s, clearB ops is s = true → a'.tmps[s]? = a.tmps[s]?) →
      (∀ j, j ∈ is → j ∉ L → T j (val j) w' ∧ ∀ d, dstOf ops j = some d → a'.tmps[d]? = some (val j)) → R w w' → wpAnyT P md ops Q n S f listed a' w' by
    refine main f is listed a w (fun _ => undef) hnd hlen hls (fun _ h => h) (fun j hj => ⟨fun h => ?_, fun h => ?_⟩) (closedB_spec hC) rfl rfl (fun _ _ => rfl) (fun j h1 h2 => absurd h1 h2) (hR0 w)
    · rcases hB1 j (List.mem_range.2 hj) with h1 | h1
      · rw [h] at h1; cases h1
      · simpa using h1
    · have := (hB2 j h).2
      simpa using this
  intro f
  induction f with
  | zero =>
    intro L listed a' w' val hLn hLl hls hLi hL hC hs hd hfr hv hRw
    obtain rfl := List.eq_nil_of_length_eq_zero hLl
    refine ⟨?_, ?_⟩
    · rw [List.eq_nil_iff_forall_not_mem]
      intro j hj
      obtain ⟨h1, oj, hoj, _⟩ := mem_ready.1 hj
      have := (hL j (Array.getElem?_eq_some_iff.1 hoj).1).1 h1
      cases this
    · have e : a' = puts ops val is a := by
        have e1 : a'.tmps = (puts ops val is a).tmps := by
          apply Array.ext_getElem?
          intro s
          by_cases hcl : clearB ops is s = true
          · rw [hfr s hcl, puts_clear is a s hcl]
          · obtain ⟨i, hi, hds⟩ := not_clear hcl
            have hlt : s < a.tmps.size := by
              have := List.all_eq_true.1 hsz i hi
              rw [hds] at this
              simpa using this
            rw [(hv i hi (by simp)).2 s hds, puts_at is a i s hA hi hds hlt]
        have e2 : a'.defers = (puts ops val is a).defers := by rw [hd, puts_defers]
        cases a'
        cases hp : puts ops val is a
        rw [hp] at e1 e2
        simp only at e1 e2
        rw [e1, e2]
      rw [e]
      exact hend val w' (Each.mk fun i hi => (hv i hi (by simp)).1) hRw
  | succ f ih =>
    intro L listed a' w' val hLn hLl hls hLi hL hC hs hd hfr hv hRw
    have hlist : ∀ j, j < ops.size → j ∉ L → listed.getD j false = true := by
      intro j hj hn
      have h1 : listed.getD j true ≠ false := fun e => hn ((hL j hj).1 e)
      have h2 : j < listed.size := by omega
      simp [h2] at h1 ⊢
      exact h1
    refine ⟨fun h0 => ?_, fun i hi => ?_⟩
    · exfalso
      have hno : ∀ j, j ∈ L → False := by
        intro j
        induction j using Nat.strongRecOn with
        | _ j ihj =>
          intro hj
          have hjs : j < ops.size := by
            have := (hB2 j (hLi j hj)).1
            exact this
          have hoj : ops[j]? = some ops[j] := Array.getElem?_eq_getElem hjs
          have : j ∈ Region.ready md ops listed := by
            refine mem_ready.2 ⟨(hL j hjs).2 hj, ops[j], hoj, fun e he hbd => ?_⟩
            have hlt := hback j _ hoj e he
            exact hlist e.on (by omega) (fun hm => ihj e.on hlt hm)
          rw [h0] at this
          cases this
      cases L with
      | nil => simp at hLl
      | cons x l => exact hno x (by simp)
    · obtain ⟨h1, oi, hoi, hdone⟩ := mem_ready.1 hi
      have his : i < ops.size := (Array.getElem?_eq_some_iff.1 hoi).1
      have hiL := (hL i his).1 h1
      have hii := hLi i hiL
      have hwant : Region.wanted oi (yielded ops a'.tmps) = true := by
        have h2 := List.all_eq_true.1 hw i hii
        simp only [hoi] at h2
        rw [← h2]
        refine wanted_same ?_
        have h3 := List.all_eq_true.1 hG i hii
        simp only [hoi] at h3
        cases hg : oi.guard with
        | none => trivial
        | some g =>
          obtain ⟨g, q⟩ := g
          rw [hg] at h3
          simp only at h3 ⊢
          cases hdg : dstOf ops g with
          | none => trivial
          | some d =>
            rw [hdg] at h3
            exact hfr d h3
      obtain ⟨o, ho, hstep'⟩ := (Each.of hstep) i hii a' w' val hRw (fun s hcl => by rw [hfr s hcl]) (fun j hj hwt => by
        have hj' : j ∈ is := by simpa using hj
        have hl := waitsF_listed hC _ i oi hoi hdone hwt
        have hjn : j ∉ L := by
          intro hm
          have hjs : j < ops.size := (hB2 j hj').1
          have := (hL j hjs).2 hm
          rw [unlisted this] at hl
          cases hl
        refine ⟨(hv j hj' hjn).1, fun d hdj => ?_⟩
        rw [(hv j hj' hjn).2 d hdj]
        rfl)
      rw [hoi] at ho
      injection ho with ho
      subst ho
      unfold wpOp
      simp only [hoi, hwant, if_true]
      refine .inl (Oper.wp_mono ?_ hstep')
      rintro a'' w'' ⟨v, rfl, hTv, hRv⟩
      have hdi : dstOf ops i = oi.dst := by simp [dstOf, hoi]
      refine ⟨fun _ => hS _ (hRt _ _ _ hRw hRv), ih (L.erase i) _ _ _ (fun j => if j = i then v else val j) (hLn.erase i) (by rw [List.length_erase_of_mem hiL]; omega) (by simpa using hls) (fun j hj => hLi j (List.mem_of_mem_erase hj)) ?_ (hC.set hi) (by rw [put_size]; exact hs) (by rw [put_defers]; exact hd) ?_ ?_ (hRt _ _ _ hRw hRv)⟩
      · intro j hj
        by_cases e : j = i
        · subst e
          constructor
          · intro h
            have hlt : j < listed.size := by omega
            simp [hlt] at h
          · intro h; exact absurd h (List.Nodup.not_mem_erase hLn)
        · rw [getD_set_ne true (Ne.symm e), hL j hj, List.mem_erase_of_ne e]
      · intro s hcl
        rw [← hfr s hcl]
        refine put_at_ne _ _ _ _ ?_
        have := List.all_eq_true.1 hcl i hii
        rw [hdi] at this
        simpa using this
      · intro j hj hjn
        by_cases e : j = i
        · subst e
          simp only [if_true]
          refine ⟨hTv, fun d hdd => ?_⟩
          rw [hdi] at hdd
          rw [hdd]
          refine put_at_eq _ _ _ ?_
          have := List.all_eq_true.1 hsz j hj
          rw [hdi, hdd] at this
          rw [hs]
          simpa using this
        · simp only [e, if_false]
          have hjL : j ∉ L := fun hm => hjn ((List.mem_erase_of_ne e).2 hm)
          refine ⟨hT _ _ _ _ (hv j hj hjL).1 hRv, fun d hdd => ?_⟩
          rw [← (hv j hj hjL).2 d hdd]
          refine put_at_ne _ _ _ _ ?_
          intro e2
          -- two of 'is' that write one slot
          have hap : ∀ (is : List Nat), apartB ops is = true → i ∈ is → j ∈ is → dstOf ops i = some d → dstOf ops j = some d → i = j := by
            intro is
            induction is with
            | nil => intro _ h; cases h
            | cons x l ihl =>
              intro hA h1 h2 d1 d2
              simp only [apartB, Bool.and_eq_true] at hA
              have hcl : ∀ k, k ∈ l → dstOf ops x = some d → dstOf ops k ≠ some d := by
                intro k hk hx
                have h3 := hA.1
                rw [hx] at h3
                have := List.all_eq_true.1 h3 k hk
                simpa using this
              rcases List.mem_cons.1 h1 with q1 | q1 <;> rcases List.mem_cons.1 h2 with q2 | q2
              · rw [q1, q2]
              · exact absurd d2 (hcl j q2 (q1 ▸ d1))
              · exact absurd d1 (hcl i q1 (q2 ▸ d2))
              · exact ihl hA.2 q1 q2 d1 d2
          exact e (hap is hA hii hj (by rw [hdi]; exact e2) hdd).symm
end
end Go.Proofs.YthmdiaingolfnaaGreatDoor.Rw
namespace Go.Proofs.YthmdiaingolfnaaGreatDoor.Rw
open Go Go.RowKit Go.ChangeShapes Go.WideShapes Go.ChangeAt
set_option linter.unusedVariables false
structure Rs {α : Type} (enc : α → List Value) (sz : Nat) (w : World) (B : Nat) (A : Option Addr) (n c : Nat) (xs : List α) : Prop where
  len : xs.length = n
  cap : n ≤ c
  top : c ≤ 9223372036854775807
  at_ : 0 < n → ∃ b o, A = some ⟨b, o, none⟩ ∧ b < B ∧ ∀ j x, xs[j]? = some x → ∀ i u, i < sz → (enc x)[i]? = some u → w.cell? ⟨b, o + j * sz + i, none⟩ = some u
def flat {α : Type} (enc : α → List Value) (xs : List α) : List Value := xs.flatMap enc
section
variable {α : Type} {enc : α → List Value} {sz : Nat} {w w' : World} {B B' : Nat} {A : Option Addr} {n c : Nat} {xs : List α}
theorem flat_append (xs ys : List α) : flat enc (xs ++ ys) = flat enc xs ++ flat enc ys := by unfold flat; exact List.flatMap_append
theorem flat_len (he : ∀ x, (enc x).length = sz) (xs : List α) : (flat enc xs).length = xs.length * sz := by
  induction xs with
  | nil => simp [flat]
  | cons x l ih =>
    show (enc x ++ flat enc l).length = _
    rw [List.length_append, he, ih, List.length_cons, Nat.add_mul]; omega
theorem flat_at (he : ∀ x, (enc x).length = sz) : ∀ (xs : List α) (j : Nat) (x : α) (i : Nat), xs[j]? = some x → i < sz → (flat enc xs)[j * sz + i]? = (enc x)[i]? := by
  intro xs
  induction xs with
  | nil => intro j x i h; simp at h
  | cons y l ih =>
    intro j x i h hi
    show (enc y ++ flat enc l)[j * sz + i]? = _
    cases j with
    | zero =>
      simp at h; subst h
      rw [Nat.zero_mul, Nat.zero_add, List.getElem?_append_left (by rw [he]; exact hi)]
    | succ k =>
      rw [List.getElem?_append_right (by rw [he, Nat.add_mul]; omega), he]
      have e : (k + 1) * sz + i - sz = k * sz + i := by rw [Nat.add_mul]; omega
      rw [e]
      exact ih k x i (by simpa using h) hi
theorem Rs.nil_ : Rs enc sz w B none 0 0 [] := ⟨rfl, Nat.le_refl _, by omega, fun h => absurd h (by omega)⟩
theorem Rs.keep (h : Rs enc sz w B A n c xs) (hk : ∀ p : Addr, p.block < B → w'.cell? p = w.cell? p) : Rs enc sz w' B A n c xs :=
  ⟨h.len, h.cap, h.top, fun hn => by
    obtain ⟨b, o, e, hb, hc⟩ := h.at_ hn
    exact ⟨b, o, e, hb, fun j x hx i u hi hu => (hk ⟨b, o + j * sz + i, none⟩ hb).trans (hc j x hx i u hi hu)⟩⟩
theorem Rs.below (h : Rs enc sz w B A n c xs) (hb : Below B w w') : Rs enc sz w' B A n c xs := h.keep fun _ hp => hb.cell hp
theorem Rs.more (h : Rs enc sz w B A n c xs) (hB : B ≤ B') : Rs enc sz w B' A n c xs :=
  ⟨h.len, h.cap, h.top, fun hn => by
    obtain ⟨b, o, e, hb, hc⟩ := h.at_ hn
    exact ⟨b, o, e, by omega, hc⟩⟩
theorem Rs.later (h : Rs enc sz w w.heap.size A n c xs) (hb : Below w.heap.size w w') : Rs enc sz w' w'.heap.size A n c xs := (h.below hb).more hb.size
theorem Rs.alloc (h : Rs enc sz w B A n c xs) (hB : B ≤ w.heap.size) (o : Obj) : Rs enc sz (w.alloc o) B A n c xs := h.keep fun p hp => World.cell?_alloc_lt w o p (by omega)
theorem Rs.setCell (h : Rs enc sz w B A n c xs) {p : Addr} (hB : B ≤ p.block) (u : Value) : Rs enc sz (w.setCell p u) B A n c xs :=
  h.keep fun q hq => World.cell?_setCell_other w p q u (fun e => by subst e; omega)
theorem Rs.grown (h : Rs enc sz w B A n c xs) {row : Option Nat} (hg : w.grownBy w' row) (hB : B ≤ w.heap.size) (hr : ∀ g, row = some g → B ≤ g) : Rs enc sz w' B A n c xs :=
  h.keep fun p hp => World.cell?_of_block (hg.block p.block (by omega) (fun e => by have := hr _ e.symm; omega))
theorem Rs.get (h : Rs enc sz w B A n c xs) {k : Nat} (hk : k < n) : ∃ b o x, A = some ⟨b, o, none⟩ ∧ b < B ∧ xs[k]? = some x ∧ ∀ i u, i < sz → (enc x)[i]? = some u → w.cell? ⟨b, o + k * sz + i, none⟩ = some u := by
  obtain ⟨b, o, e, hb, hc⟩ := h.at_ (by omega)
  have hl : k < xs.length := by have := h.len; omega
  exact ⟨b, o, xs[k], e, hb, List.getElem?_eq_getElem hl, hc k _ (List.getElem?_eq_getElem hl)⟩
theorem Rs.front (h : Rs enc sz w B A n c xs) {i : Nat} (hi : i ≤ n) : Rs enc sz w B A i c (xs.take i) :=
  ⟨by rw [List.length_take, h.len]; omega, by have := h.cap; omega, h.top, fun hn => by
    obtain ⟨b, o, e, hb, hc⟩ := h.at_ (by omega)
    exact ⟨b, o, e, hb, fun j x hx => hc j x (by rw [List.getElem?_take] at hx; split at hx <;> simp_all)⟩⟩
theorem Rs.back (h : Rs enc sz w B A n c xs) {i b o : Nat} (hi : i ≤ n) (hA : A = some ⟨b, o, none⟩) {A' : Option Addr} (hA' : i < n → A' = some ⟨b, o + i * sz, none⟩) : Rs enc sz w B A' (n - i) (c - i) (xs.drop i) :=
  ⟨by rw [List.length_drop, h.len], by have := h.cap; omega, by have := h.top; omega, fun hn => by
    obtain ⟨b', o', e, hb, hc⟩ := h.at_ (by omega)
    rw [hA] at e
    injection e with e
    injection e with e1 e2
    subst e1 e2
    refine ⟨b, o + i * sz, hA' (by omega), hb, fun j x hx q u hq hu => ?_⟩
    have := hc (i + j) x (by rw [List.getElem?_drop] at hx; exact hx) q u hq hu
    rw [Nat.add_mul] at this
    rw [show o + i * sz + j * sz + q = o + (i * sz + j * sz) + q by omega]
    exact this⟩
theorem Rs.own_rs (he : ∀ x, (enc x).length = sz) {base : Nat} {e : TypeId} (hn : xs.length = n) (h : w.ownsRow base e sz (.slice A n c) n (flat enc xs)) : Rs enc sz w w.heap.size A n c xs := by
  have hlt := h.lt
  rcases h.2 with ⟨h1, h0⟩ | ⟨g, cap, cur, hs, hbg, hg, hnc, hcm, hcs, htake⟩
  · subst h0
    injection h1 with h1 _ h2
    subst h1 h2
    obtain rfl := List.eq_nil_of_length_eq_zero hn
    exact Rs.nil_
  · unfold maxLen at hcm
    injection hs with hA _ hc
    subst hA hc
    refine ⟨hn, hnc, hcm, fun _ => ⟨g, 0, rfl, (hlt g rfl).2, fun j x hx i u hi hu => ?_⟩⟩
    have hj : j < n := by have := (List.getElem?_eq_some_iff.1 hx).1; omega
    have hlt2 : j * sz + i < n * sz := by
      have : (j + 1) * sz ≤ n * sz := Nat.mul_le_mul_right sz (by omega)
      rw [Nat.add_mul] at this; omega
    rw [Nat.zero_add, h.cellAt (j * sz + i) hlt2, flat_at he xs j x i hx hi]
    exact hu
theorem rs_one (he : ∀ x, (enc x).length = sz) (w : World) (y : α) (t : TypeId) {cs : Array Value} (hcs : cs.toList = enc y) : Rs enc sz (w.alloc (.cells cs t)) (w.heap.size + 1) (some ⟨w.heap.size, 0, none⟩) 1 1 [y] := by
  refine ⟨rfl, Nat.le_refl _, by omega, fun _ => ⟨w.heap.size, 0, rfl, by omega, fun j x hx i u hi hu => ?_⟩⟩
  cases j with
  | zero =>
    simp at hx; subst hx
    have : cs[i]? = some u := by rw [← Array.getElem?_toList, hcs]; exact hu
    simp [this]
  | succ k => simp at hx
end
section
variable {P : Program} {w : World} {α : Type} {enc : α → List Value} {sz : Nat}
theorem run_append_rs (he : ∀ x, (enc x).length = sz) (base : Nat) (t ty e : TypeId) (i : TypeInfo) (z : Value) (bytes : Nat) (ht : P.underlying t = some (.slice e)) (hi : P.info? e = some i) (hz : i.zero = some z)
    (hsize : i.size = sz) (hby : i.bytes = bytes) (hzs : z.cells.size = sz) (hsz : 0 < sz)
    (v : Value) (n : Nat) (xs : List Value) (hown : w.ownsRow base e sz v n xs)
    (B : Nat) (A : Option Addr) (m c : Nat) (ys : List α) (hr : Rs enc sz w B A m c ys) (h1 : ∀ y, ∀ u ∈ enc y, u.oneCell' = true)
    (h63 : n + m ≤ maxLen) (hbytes : (n + m) * bytes ≤ 140737488355328) (hbase : base ≤ w.heap.size) :
    ∃ v' w', (Builtin.append_ #[t, t] ty #[v, .slice A m c]).run P w = .ok v' w' ∧ w'.ownsRow base e sz v' (n + m) (xs ++ flat enc ys) ∧ w.grownBy w' v.ownBlock ∧
      (v'.ownBlock = v.ownBlock ∨ v'.ownBlock = some w.heap.size) := by
  by_cases hA : A = none
  · subst hA
    have hm : m = 0 := by
      rcases Nat.eq_zero_or_pos m with h0 | h0
      · exact h0
      · obtain ⟨b, o, h, _⟩ := hr.at_ h0
        cases h
    subst hm
    obtain rfl := List.eq_nil_of_length_eq_zero hr.len
    refine ⟨v, w, ?_, by simpa [flat] using hown, World.grownBy.refl w _, .inl rfl⟩
    rcases hown.2 with ⟨rfl, rfl⟩ | ⟨g, cap, cur, rfl, _, _, hnc, _⟩
    · simp [Builtin.append_, run_underlying ht, sizeOf, typeInfo, hi, Builtin.lenOf, Builtin.firstCells]
    · simp [Builtin.append_, run_underlying ht, sizeOf, typeInfo, hi, Builtin.lenOf, Builtin.firstCells, hnc, storeCells]
  · obtain ⟨ad, rfl⟩ := Option.ne_none_iff_exists'.1 hA
    have hcells : ∀ j u, (flat enc ys)[j]? = some u → w.cell? (ad.add j) = some u := by
      intro j u hu
      have hjl : j < ys.length * sz := by have := (List.getElem?_eq_some_iff.1 hu).1; rw [flat_len he] at this; exact this
      have hml := hr.len
      rcases Nat.eq_zero_or_pos m with h0 | h0
      · have : ys.length = 0 := by omega
        rw [this] at hjl; omega
      · obtain ⟨b, o, h, _, hc⟩ := hr.at_ h0
        injection h with h
        subst h
        have hq : j / sz < ys.length := (Nat.div_lt_iff_lt_mul hsz).2 hjl
        have hmod : j % sz < sz := Nat.mod_lt _ hsz
        have hdec : j / sz * sz + j % sz = j := by rw [Nat.mul_comm]; exact Nat.div_add_mod j sz
        have hy := List.getElem?_eq_getElem hq
        have hf := flat_at he ys (j / sz) _ (j % sz) hy hmod
        rw [hdec, hu] at hf
        have := hc (j / sz) _ hy (j % sz) u hmod hf.symm
        rw [Lw.add_eq rfl]
        rw [Nat.add_assoc, hdec] at this
        exact this
    obtain ⟨v', w', hrun, h2, h3, _, h5⟩ := run_append_own_at (P := P) w base t ty e i z sz bytes ht hi hz hsize hby hzs hsz v n xs hown ad m c (flat enc ys) (by rw [flat_len he, hr.len]) hcells
      (fun u hu => by obtain ⟨y, _, hy⟩ := List.mem_flatMap.1 hu; exact h1 y u hy) h63 hbytes hbase
    exact ⟨v', w', hrun, h2, h3, h5⟩
theorem append_rs (he : ∀ x, (enc x).length = sz) {ops : Array Oper} {rest : List Oper} {o : Oper} {a : Act} {Q : Exit → Act → World → Prop} (hgd : o.guard = none) (s x : Operand) (t : TypeId)
    (ho : o.op = .call { callee := .builtin .append, args := #[s, x], argTypes := #[t, t] })
    (base : Nat) (e : TypeId) (i : TypeInfo) (z : Value) (bytes : Nat) (ht : P.underlying t = some (.slice e)) (hi : P.info? e = some i) (hz : i.zero = some z)
    (hsize : i.size = sz) (hby : i.bytes = bytes) (hzs : z.cells.size = sz) (hsz : 0 < sz)
    (v : Value) (n : Nat) (xs : List Value) (hs : a.eval s = v) (hown : w.ownsRow base e sz v n xs)
    (B : Nat) (A : Option Addr) (m c : Nat) (ys : List α) (hx : a.eval x = .slice A m c) (hr : Rs enc sz w B A m c ys) (h1 : ∀ y, ∀ u ∈ enc y, u.oneCell' = true)
    (k : Nat) (hk : n + m = k) (zs : List Value) (hzs' : xs ++ flat enc ys = zs) (h63 : n + m ≤ maxLen) (hbytes : (n + m) * bytes ≤ 140737488355328) (hbase : base ≤ w.heap.size)
    (h : ∀ A' c' w', w'.ownsRow base e sz (.slice A' k c') k zs → w.grownBy w' v.ownBlock → ((Value.slice A' k c').ownBlock = v.ownBlock ∨ (Value.slice A' k c').ownBlock = some w.heap.size) → wpList P ops Q rest (a.put o.dst (.slice A' k c')) w') : wpList P ops Q (o :: rest) a w := by
  subst hk hzs'
  obtain ⟨v', w', hrun, h2, h3, h4⟩ := run_append_rs (P := P) he base t o.type e i z bytes ht hi hz hsize hby hzs hsz v n xs hown B A m c ys hr h1 h63 hbytes hbase
  obtain ⟨A', c', rfl⟩ := own_slice h2
  exact Lib.wpList_append_run w hgd s x t t ho v _ hs hx _ w' hrun (h A' c' w' h2 h3 h4)
end
end Go.Proofs.YthmdiaingolfnaaGreatDoor.Rw
namespace Go.Proofs.YthmdiaingolfnaaGreatDoor.Hi
open Go.ChangeShapes Go.WideShapes Go.ChangeAt Go.RowKit Rw
set_option linter.unusedVariables false
structure Fr (a b : Option Nat) (w w' : World) : Prop where
  os : w'.os = w.os
  tape : w'.tape = w.tape
  output : w'.output = w.output
  size : w.heap.size ≤ w'.heap.size
  block : ∀ k, k < w.heap.size → some k ≠ a → some k ≠ b → w'.heap[k]? = w.heap[k]?
theorem Fr.refl (a b : Option Nat) (w : World) : Fr a b w w := ⟨rfl, rfl, rfl, Nat.le_refl _, fun _ _ _ _ => rfl⟩
theorem Fr.of_grown {a b row : Option Nat} {w w' : World} (h : w.grownBy w' row) (hr : row = none ∨ row = a ∨ row = b) : Fr a b w w' :=
  ⟨h.os, h.tape, h.output, h.size, fun k hk h1 h2 => h.block k hk (fun e => by
    rcases hr with rfl | rfl | rfl
    · cases e
    · exact h1 e
    · exact h2 e)⟩
theorem Fr.then {a b a' b' : Option Nat} {w w' w'' : World} (h : Fr a b w w') (h' : Fr a' b' w' w'') (ha : ∀ k, a' = some k → k < w.heap.size → some k = a ∨ some k = b) (hb : ∀ k, b' = some k → k < w.heap.size → some k = a ∨ some k = b) : Fr a b w w'' :=
  ⟨h'.os.trans h.os, h'.tape.trans h.tape, h'.output.trans h.output, Nat.le_trans h.size h'.size, fun k hk h1 h2 =>
    (h'.block k (Nat.lt_of_lt_of_le hk h.size) (fun e => (ha k e.symm hk).elim h1 h2) (fun e => (hb k e.symm hk).elim h1 h2)).trans (h.block k hk h1 h2)⟩
theorem Fr.below {a b : Option Nat} {w w' : World} {B : Nat} (h : Fr a b w w') (hB : B ≤ w.heap.size) (ha : ∀ k, a = some k → B ≤ k) (hb : ∀ k, b = some k → B ≤ k) : Below B w w' :=
  ⟨h.os, h.tape, h.output, h.size, fun k hk => h.block k (by omega) (fun e => by have := ha k e.symm; omega) (fun e => by have := hb k e.symm; omega)⟩
theorem Fr.cell {a b : Option Nat} {w w' : World} (h : Fr a b w w') {p : Addr} (hp : p.block < w.heap.size) (h1 : some p.block ≠ a) (h2 : some p.block ≠ b) : w'.cell? p = w.cell? p := by
  unfold World.cell?; rw [h.block _ hp h1 h2]
theorem Fr.frozen {a b : Option Nat} {w w' : World} (h : Fr a b w w') {p : Addr} (hp : p.block < w.heap.size) (h1 : some p.block ≠ a) (h2 : some p.block ≠ b) : w'.frozen? p = w.frozen? p := by
  unfold World.frozen?; rw [h.block _ hp h1 h2]
theorem own_same {w w' : World} {base : Nat} {e : TypeId} {sz : Nat} {v : Value} {n : Nat} {xs : List Value} (h : w.ownsRow base e sz v n xs) (hb : ∀ g, v.ownBlock = some g → w'.heap[g]? = w.heap[g]?) : w'.ownsRow base e sz v n xs := by
  refine ⟨h.1, ?_⟩
  rcases h.2 with h2 | ⟨g, cap, cur, h1, h2, h3, h4⟩
  · exact .inl h2
  · exact .inr ⟨g, cap, cur, h1, h2, (hb g (by rw [h1]; rfl)).trans h3, h4⟩
theorem grown_setCell (w : World) (a : Addr) (u : Value) : w.grownBy (w.setCell a u) (some a.block) :=
  ⟨rfl, rfl, rfl, by simp, fun k _ hk => heap_setCell_other w a k u (fun e => hk (by rw [e]))⟩
end Go.Proofs.YthmdiaingolfnaaGreatDoor.Hi
namespace Go.Proofs.YthmdiaingolfnaaGreatDoor.Sn
open Go.ChangeShapes Go.WideShapes Go.ChangeAt Go.RowKit Rw Sl
set_option linter.unusedVariables false
structure Snap (w : World) (B : Nat) (v : Value) (xs : List Int) : Prop where
  rd : ∃ A n c, v = .agg #[.slice A n c] ∧ Rd (Value.int .u64) w B A n c xs
  nd : xs.Nodup
  ok : U64s xs
theorem Snap.later {w w' : World} {v : Value} {xs : List Int} (h : Snap w w.heap.size v xs) (hb : Below w.heap.size w w') : Snap w' w'.heap.size v xs := by
  obtain ⟨⟨A, n, c, e, r⟩, h1, h2⟩ := h
  exact ⟨⟨A, n, c, e, r.later hb⟩, h1, h2⟩
theorem Snap.below {w w' : World} {B : Nat} {v : Value} {xs : List Int} (h : Snap w B v xs) (hb : Below B w w') : Snap w' B v xs := by
  obtain ⟨⟨A, n, c, e, r⟩, h1, h2⟩ := h
  exact ⟨⟨A, n, c, e, r.below hb⟩, h1, h2⟩
theorem Snap.more {w : World} {B B' : Nat} {v : Value} {xs : List Int} (h : Snap w B v xs) (hb : B ≤ B') : Snap w B' v xs := by
  obtain ⟨⟨A, n, c, e, r⟩, h1, h2⟩ := h
  exact ⟨⟨A, n, c, e, r.more hb⟩, h1, h2⟩
theorem Snap.setOther {w : World} {B : Nat} {v : Value} {xs : List Int} (h : Snap w B v xs) {p : Addr} {x : Value} (hp : w.cell? p = some x) (hne : ∀ y, Value.int .u64 y ≠ x) (u : Value) : Snap (w.setCell p u) B v xs := by
  obtain ⟨⟨A, n, c, e, r⟩, h1, h2⟩ := h
  exact ⟨⟨A, n, c, e, r.setOther hp hne u⟩, h1, h2⟩
theorem Snap.form {w : World} {B : Nat} {v : Value} {xs : List Int} (h : Snap w B v xs) : ∃ A n c, v = .agg #[.slice A n c] := by
  obtain ⟨⟨A, n, c, e, r⟩, -, -⟩ := h
  exact ⟨A, n, c, e⟩
theorem wf_u64 {x : Int} (h : 0 ≤ x ∧ x ≤ 18446744073709551615) : (Lit.int .u64 x).wf = true := WalkArith.wf_u64 (by omega)
theorem idx_any (v : Value) (xs : List Int) (x : Int) (w : World) (h : Snap w w.heap.size v xs) :
    Calls Tryz.prog 27 #[v, .int .u64 x] w fun e w' => e = .returned (.int .i64 (sIdx xs x)) ∧ Below w.heap.size w w' := by
  obtain ⟨⟨A, n, c, rfl, r⟩, -, -⟩ := h
  have R := Lib.hid r
  clear r
  go_enter Tryz.func27, Tryz.ntmps27
  go_wp2_with fail
  refine (index_any A n c xs x w.heap.size _ (R.out.alloc (Nat.le_refl _) _)).mono ?_
  rintro e w' ⟨rfl, rfl⟩
  go_wp2_with fail
  go_ret
  exact ⟨rfl, (Below.refl _ _).alloc (Nat.le_refl _) _⟩
theorem all_any (v : Value) (xs : List Int) (w : World) (h : Snap w w.heap.size v xs) (hl : xs.length * 8 ≤ 140737488355328) :
    Calls Tryz.prog 124 #[v] w fun e w' => ∃ A' c', e = .returned (.slice A' xs.length c') ∧ w'.ownsRow w.heap.size 22 1 (.slice A' xs.length c') xs.length (xs.map (Value.int .u64)) ∧ Below w.heap.size w w' := by
  obtain ⟨⟨A, n, c, rfl, r⟩, -, -⟩ := h
  obtain rfl := r.len
  have R := Lib.hid r
  clear r
  go_enter Tryz.func124, Tryz.ntmps124
  go_wp2_with fail
  refine (clone_any A _ c xs w.heap.size _ (R.out.alloc (Nat.le_refl _) _) (by simp) hl).mono ?_
  rintro e w' ⟨u, uc, rfl, hown, hb⟩
  go_wp2_with fail
  go_ret
  exact ⟨u, uc, rfl, own_mono hown (by simp), ((Below.refl _ _).alloc (Nat.le_refl _) _).trans (hb.mono (by simp))⟩
theorem zero_bool (w : World) : (zeroValue 4).run Tryz.prog w = .ok (.bool false) w := by kernel_rfl
theorem row_ne {w : World} {base : Nat} {e : TypeId} {v : Value} {n : Nat} {xs : List Value} (h : w.ownsRow base e 1 v n xs) {g : Nat} (hg : g < base) : some g ≠ v.ownBlock := fun e => by
  have := (h.lt g e.symm).1; omega
set_option maxRecDepth 100000 in
set_option maxHeartbeats 2000000 in
theorem of_any (A : Option Addr) (n c : Nat) (xs : List Int) (w : World) (h : Rd (Value.int .u64) w w.heap.size A n c xs) (hok : U64s xs) (hl : n * 8 + 8 ≤ 140737488355328) :
    Calls Tryz.prog 295 #[.slice A n c] w fun e w' => ∃ u, e = .returned u ∧ Snap w' w'.heap.size u (sOf xs) ∧ Below w.heap.size w w' := by
  have hmm := @run_makeMap Tryz.prog
  obtain ⟨i0, hi, hz0, hz1, hz2⟩ := info_parts info_u64
  have hn := h.len
  have R := Lib.hid h
  have HO := Lib.hid hok
  have HN := Lib.hid hn
  clear h hok hn
  go_enter Tryz.func295, Tryz.ntmps295
  go_wp2
  go_loopw [3, 10] (fun v i wr => ∃ (k c' : Nat) (A' : Option Addr) (acc : List Int), k ≤ n ∧ i = .int .i64 k ∧ v = .slice A' acc.length c' ∧ Hid (acc = sOf (xs.take k)) ∧ acc.length ≤ k ∧
      wr.ownsRow (w.heap.size + 2) 22 1 (.slice A' acc.length c') acc.length (acc.map (Value.int .u64)) ∧ wr.ownsMap Tryz.prog 22 (plainElem Tryz.prog 4) (w.heap.size + 1) k (Mp.setD .u64 acc) ∧
      wr.cell? ⟨w.heap.size, 0, none⟩ = some (.slice none 0 0) ∧ wr.frozen? ⟨w.heap.size, 0, none⟩ = false ∧ Below w.heap.size w wr ∧ w.heap.size + 2 ≤ wr.heap.size) (fun _ i _ => n - (intOf i).toNat)
  case atStart =>
    refine ⟨0, 0, none, [], Nat.zero_le _, rfl, rfl, rfl, Nat.zero_le _, World.ownsRow_nil _ _ _ _, ?_, by go_simp, by go_simp, ((Below.refl _ _).alloc (Nat.le_refl _) _).alloc (by simp) _, by simp⟩
    have := World.ownsMap_made (H := Unit) (w.alloc (.cells #[.slice none 0 0] 88)) Tryz.prog 22 (plainElem Tryz.prog 4)
    simpa [Mp.setD_nil] using this
  case round =>
    obtain ⟨k, c', A', acc, hk, rfl, rfl, hacc, hal, hrow, hmap, hc0, hf0, hbel, hsz⟩ := hrel
    by_cases hlt : k < n
    · obtain ⟨b, o, x, rfl, hb, hx, hcell⟩ := R.out.get hlt
      have hcx : wr.cell? ⟨b, o + k, none⟩ = some (.int .u64 x) := (hbel.cell (p := ⟨b, o + k, none⟩) hb).trans hcell
      have hwf := wf_u64 (HO.out.get hx)
      have HX := Lib.hid hx
      clear hx hcell
      by_cases hm : x ∈ acc
      · have e1 : sOf (xs.take (k + 1)) = acc := by rw [sOf_take HX.out, ← hacc.out, sWith, if_pos hm]
        have E1 := Lib.hid e1
        clear e1
        go_wp2_with (at_lookup; refine Mp.lookup_set _ rfl _ _ 102 rfl 22 4 .u64 Tryz.underlying22 Tryz.underlying102 Tryz.underlying4 (zero_bool _) (w.heap.size + 1) k acc rfl hmap x rfl hwf ?_)
        go_roundw
        case rel => exact ⟨k + 1, c', A', acc, by omega, by go_num, rfl, E1.out.symm, by omega, hrow, hmap.mono (by omega), hc0, hf0, hbel, hsz⟩
        case measure => simp [intOf]; omega
      · have e1 : sOf (xs.take (k + 1)) = acc ++ [x] := by rw [sOf_take HX.out, ← hacc.out, sWith, if_neg hm]
        have E1 := Lib.hid e1
        clear e1
        go_wp2_with (first
          | (at_lookup; refine Mp.lookup_set _ rfl _ _ 102 rfl 22 4 .u64 Tryz.underlying22 Tryz.underlying102 Tryz.underlying4 (zero_bool _) (w.heap.size + 1) k acc rfl hmap x rfl hwf ?_)
          | (at_mapUpdate; refine Mp.update_set _ rfl _ _ _ 102 rfl 22 4 .u64 Tryz.underlying22 Tryz.underlying102 Tryz.underlying4 (w.heap.size + 1) k acc rfl hmap (by unfold maxLen; omega) x rfl rfl hwf ?_; intro w1 hmap1 hg1)
          | (at_builtin; refine append_rd _ rfl _ _ 54 rfl (w.heap.size + 2) 22 i0 (.int .u64 0) 8 Tryz.underlying54 hi hz0 hz1 hz2 rfl _ acc.length _ rfl ((hrow.kept hg1 (Or.inr (row_ne hrow (Nat.lt_succ_self _)).symm)).alloc _) _ _ 1 1 [x] rfl (rd_one (enc := Value.int .u64) w1 x _) one_u64 (acc.length + 1) rfl ((acc ++ [x]).map (Value.int .u64)) List.map_append.symm (by unfold maxLen; omega) (by omega) (by have := hg1.size; simp; omega) ?_; intro v3 vc3 w3 hrow3 hg3 hat3))
        have s1 := hg1.size
        have s3 := hg3.size
        simp at s3
        have hrow1 := hrow.kept hg1 (Or.inr (row_ne hrow (Nat.lt_succ_self _)).symm)
        have hne0 : some w.heap.size ≠ (Value.slice A' acc.length c').ownBlock := row_ne hrow (by omega)
        have hc1 := hg1.cell hc0 (by simp)
        have hf1 := grown_frozen hg1 hf0 (by show w.heap.size < _; omega) (by simp)
        go_roundw
        case rel =>
          refine ⟨k + 1, vc3, v3, acc ++ [x], by omega, by go_num, by simp, E1.out.symm, by simp; omega, by simpa using hrow3, ?_, ?_, ?_, ?_, by omega⟩
          · exact (hmap1.alloc _).kept hg3 (row_ne hrow (by omega))
          · exact hg3.cell (alloc_cell hc1 _) hne0
          · exact grown_frozen hg3 (alloc_frozen hf1 (by show w.heap.size < _; omega) _) (by show w.heap.size < _; simp; omega) hne0
          · exact ((hbel.grown hg1 (by omega) (fun j hj => by cases hj; omega)).alloc (by omega) _).grown hg3 (by simp; omega) (fun j hj => by have := (hrow.lt j hj).1; omega)
        case measure => simp [intOf]; omega
    · have e1 : acc = sOf xs := by rw [hacc.out, List.take_of_length_le (by have := HN.out; omega)]
      clear hacc
      have E1 := Lib.hid e1
      clear e1
      go_wp2
      have hrow4 := ownsRow_setCell_below hrow (a := ⟨w.heap.size, 0, none⟩) (by show w.heap.size < _; omega) (.slice A' acc.length c')
      exact bodyPost_ret (v := .agg #[.slice A' acc.length c']) (by simp [results, Tryz.results295, go_sem, hc0]) rfl ⟨_, rfl, ⟨⟨_, _, _, rfl, by rw [← E1.out]; exact Rd.own_rd hrow4⟩, nodup_sOf xs, HO.out.of⟩, hbel.setCell (p := ⟨w.heap.size, 0, none⟩) (Nat.le_refl _) _⟩
end Go.Proofs.YthmdiaingolfnaaGreatDoor.Sn
namespace Go.Proofs.YthmdiaingolfnaaGreatDoor.Ck
open Go.ChangeShapes Go.WideShapes Go.ChangeAt Go.RowKit Rw Sl Sn
set_option linter.unusedVariables false
def cAdd (a b : Int) : Int := if a + b ≤ 1152921504606846976 then a + b else 1152921504606846976
theorem cAdd_lo (a b : Int) (ha : 0 ≤ a) (hb : 0 ≤ b) : 0 ≤ cAdd a b := by unfold cAdd; split <;> omega
theorem cAdd_hi (a b : Int) : cAdd a b ≤ 1152921504606846976 := by unfold cAdd; split <;> omega
theorem cAdd_u (a b : Int) : cAdd a b ≤ 18446744073709551615 := by have := cAdd_hi a b; omega
theorem add_any (a b : Int) (w : World) (a0 : 0 ≤ a) (a1 : a ≤ 18446744073709551615) (b0 : 0 ≤ b) (b1 : b ≤ 18446744073709551615) :
    Calls Tryz.prog 118 #[.int .u64 a, .int .u64 b] w fun e w' => e = .returned (.int .u64 (cAdd a b)) ∧ w = w' := by
  by_cases h1 : 1152921504606846976 ≤ a
  · have e1 : cAdd a b = 1152921504606846976 := by unfold cAdd; split <;> omega
    rw [e1]
    clear e1
    go_enter Tryz.func118, Tryz.ntmps118
    go_wp2
    go_ret
    exact ⟨rfl, rfl⟩
  · have h1' : a < 1152921504606846976 := by omega
    clear h1
    by_cases h2 : 1152921504606846976 - a ≤ b
    · have e1 : cAdd a b = 1152921504606846976 := by unfold cAdd; split <;> omega
      rw [e1]
      clear e1
      go_enter Tryz.func118, Tryz.ntmps118
      go_wp2
      go_ret
      exact ⟨rfl, rfl⟩
    · have h2' : b < 1152921504606846976 - a := by omega
      have e1 : cAdd a b = a + b := by unfold cAdd; split <;> omega
      rw [e1]
      clear e1 h2
      go_enter Tryz.func118, Tryz.ntmps118
      go_wp2
      go_ret
      exact ⟨rfl, rfl⟩
theorem radd_any (a b : Int) (w : World) (a0 : 0 ≤ a) (a1 : a ≤ 18446744073709551615) (b0 : 0 ≤ b) (b1 : b ≤ 18446744073709551615) :
    Calls Tryz.prog 81 #[.int .u64 a, .int .u64 b] w fun e w' => e = .returned (.int .u64 (cAdd a b)) ∧ w = w' := by
  by_cases h1 : 1152921504606846976 < a
  · have e1 : cAdd a b = 1152921504606846976 := by unfold cAdd; split <;> omega
    rw [e1]
    clear e1
    go_enter Tryz.func81, Tryz.ntmps81
    go_wp2
    all_goals first | omega | (go_ret; exact ⟨rfl, rfl⟩)
  · have h1' : a ≤ 1152921504606846976 := by omega
    clear h1
    by_cases h2 : 1152921504606846976 < b
    · have e1 : cAdd a b = 1152921504606846976 := by unfold cAdd; split <;> omega
      rw [e1]
      clear e1
      go_enter Tryz.func81, Tryz.ntmps81
      go_wp2
      all_goals first | omega | (go_ret; exact ⟨rfl, rfl⟩)
    · have h2' : b ≤ 1152921504606846976 := by omega
      clear h2
      by_cases h3 : 1152921504606846976 < a + b
      · have e1 : cAdd a b = 1152921504606846976 := by unfold cAdd; split <;> omega
        rw [e1]
        clear e1
        go_enter Tryz.func81, Tryz.ntmps81
        go_wp2
        all_goals first | omega | (go_ret; exact ⟨rfl, rfl⟩)
      · have e1 : cAdd a b = a + b := by unfold cAdd; split <;> omega
        have h3' : a + b ≤ 1152921504606846976 := by omega
        rw [e1]
        clear e1 h3
        go_enter Tryz.func81, Tryz.ntmps81
        go_wp2
        all_goals first | omega | (go_ret; exact ⟨rfl, rfl⟩)
abbrev ck (t : Int) : Value := .agg #[.int .u64 t]
abbrev bx (t : Int) : Obj := .cells #[.int .u64 t] 39
theorem now_any (t : Int) (w : World) : Calls Tryz.prog 43 #[ck t] w fun e w' => e = .returned (.int .u64 t) ∧ w.alloc (bx t) = w' := by
  go_enter Tryz.func43, Tryz.ntmps43
  go_wp2
  go_ret
  exact ⟨rfl, rfl⟩
theorem reached_any (t x : Int) (w : World) : Calls Tryz.prog 159 #[ck t, .int .u64 x] w fun e w' => e = .returned (.bool (decide (x ≤ t))) ∧ w.alloc (bx t) = w' := by
  go_enter Tryz.func159, Tryz.ntmps159
  go_wp2
  go_ret
  exact ⟨rfl, rfl⟩
theorem after_any (t n : Int) (w : World) (a0 : 0 ≤ t) (a1 : t ≤ 18446744073709551615) (b0 : 0 ≤ n) (b1 : n ≤ 18446744073709551615) :
    Calls Tryz.prog 113 #[ck t, .int .u64 n] w fun e w' => e = .returned (.int .u64 (cAdd t n)) ∧ w.alloc (bx t) = w' := by
  go_enter Tryz.func113, Tryz.ntmps113
  go_wp2_with fail
  refine (add_any _ _ _ a0 a1 b0 b1).mono ?_
  rintro e w' ⟨rfl, rfl⟩
  go_wp2_with fail
  go_ret
  exact ⟨rfl, rfl⟩
theorem at_any (t : Int) (w : World) (a0 : 0 ≤ t) (a1 : t ≤ 18446744073709551615) :
    Calls Tryz.prog 32 #[.int .u64 t] w fun e w' => e = .returned (ck (cAdd t 0)) ∧ w.alloc (bx (cAdd t 0)) = w' := by
  by_cases h : t ≤ 1152921504606846976
  · have e1 : cAdd t 0 = t := by unfold cAdd; split <;> omega
    rw [e1]
    clear e1
    go_enter Tryz.func32, Tryz.ntmps32
    go_wp2
    exact bodyPost_ret (v := ck t) (by simp [results, Tryz.results32, go_sem]) rfl ⟨rfl, rfl⟩
  · have e1 : cAdd t 0 = 1152921504606846976 := by unfold cAdd; split <;> omega
    have h' : 1152921504606846976 < t := by omega
    rw [e1]
    clear e1 h
    go_enter Tryz.func32, Tryz.ntmps32
    go_wp2
    exact bodyPost_ret (v := ck 1152921504606846976) (by simp [results, Tryz.results32, go_sem]) rfl ⟨rfl, rfl⟩
theorem tick_any (t n : Int) (w : World) (a0 : 0 ≤ t) (a1 : t ≤ 18446744073709551615) (b0 : 0 ≤ n) (b1 : n ≤ 18446744073709551615) :
    Calls Tryz.prog 80 #[ck t, .int .u64 n] w fun e w' => e = .returned (ck (cAdd t n)) ∧ ((w.alloc (bx t)).alloc (bx (cAdd t n))).alloc (bx t) = w' := by
  go_enter Tryz.func80, Tryz.ntmps80
  go_wp2_with fail
  refine (after_any _ _ _ a0 a1 b0 b1).mono ?_
  rintro e w' ⟨rfl, rfl⟩
  go_wp2_with fail
  exact bodyPost_ret (v := ck (cAdd t n)) (by simp [results, Tryz.results80, go_sem]) rfl ⟨rfl, by simp⟩
end Go.Proofs.YthmdiaingolfnaaGreatDoor.Ck
namespace Go.Proofs.YthmdiaingolfnaaGreatDoor.Ck
open Go.ChangeShapes Go.WideShapes Go.ChangeAt Go.RowKit Rw Sl Sn
set_option linter.unusedVariables false
theorem Awake2_any (w : World) :
    Calls Tryz.prog 294 #[] w fun e w' => e = .returned (.bool true) ∧ Below w.heap.size w w' := by
  go_enter Tryz.func294, Tryz.ntmps294
  go_wp2_with fail
  refine (Wd.awake2_any _).mono ?_
  rintro e w' ⟨rfl, rfl⟩
  go_wp2_with fail
  go_ret
  exact ⟨rfl, (Below.refl _ _).alloc (Nat.le_refl _) _⟩
theorem rd_lit {w : World} {xs : List Int} {n : Nat} (hn : xs.length = n) (hs : n ≤ 9223372036854775807) (t : TypeId) {cs : Array Value} (hc : cs = (xs.map (Value.int .u64)).toArray) : Rd (Value.int .u64) (w.alloc (.cells cs t)) (w.heap.size + 1) (some ⟨w.heap.size, 0, none⟩) n n xs := by
  subst hc
  refine ⟨hn, Nat.le_refl _, hs, fun _ => ⟨w.heap.size, 0, rfl, by omega, fun j x hx => ?_⟩⟩
  simp [hx]
theorem awake3_any (w : World) :
    Calls Tryz.prog 293 #[] w fun e w' => e = .returned (.bool true) ∧ Below w.heap.size w w' := by
  go_enter Tryz.func293, Tryz.ntmps293
  go_wp2_with fail
  refine (Awake2_any _).mono ?_
  rintro e w1 ⟨rfl, hb1⟩
  go_wp2_with fail
  refine (of_any _ 3 3 [1, 2, 1] _ ((rd_lit (xs := [1, 2, 1]) rfl (by simp) _ rfl).more (by simp)) (by unfold U64s; decide) (by omega)).mono ?_
  rintro e w2 ⟨u, rfl, hs2, hb2⟩
  have e2 : sOf [1, 2, 1] = [1, 2] := by decide
  rw [e2] at hs2
  clear e2
  go_wp2_with fail
  refine (all_any _ _ _ hs2 (by decide)).mono ?_
  rintro e w3 ⟨A3, c3, rfl, hown3, hb3⟩
  go_wp2_with fail
  refine (equal_any _ _ _ _ _ _ [1, 2] [1, 2] _ _ _ ((Rd.own_rd hown3).alloc (Nat.le_refl _) _) (rd_lit (xs := [1, 2]) rfl (by simp) _ rfl)).mono ?_
  rintro e w4 ⟨rfl, q, rfl⟩
  go_wp2_with fail
  go_ret
  refine ⟨rfl, below_drewN (((((hb1.alloc hb1.size _).trans (hb2.mono ?_)).trans (hb3.mono ?_))).alloc ?_ _) _⟩
  all_goals
    have s1 := hb1.size
    have s2 := hb2.size
    have s3 := hb3.size
    simp at s2 ⊢
    omega
theorem Awake3_any (w : World) :
    Calls Tryz.prog 292 #[] w fun e w' => e = .returned (.bool true) ∧ Below w.heap.size w w' := by
  go_enter Tryz.func292, Tryz.ntmps292
  go_wp2_with fail
  refine (awake3_any _).mono ?_
  rintro e w' ⟨rfl, hb⟩
  go_wp2_with fail
  go_ret
  exact ⟨rfl, hb⟩
theorem awake4_any (w : World) :
    Calls Tryz.prog 291 #[] w fun e w' => e = .returned (.bool true) ∧ Below w.heap.size w w' := by
  go_enter Tryz.func291, Tryz.ntmps291
  go_wp2_with fail
  refine (at_any _ _ (by decide) (by decide)).mono ?_
  rintro e w1 ⟨rfl, rfl⟩
  rw [show cAdd 5 0 = 5 by decide]
  go_wp2_with fail
  refine (Awake3_any _).mono ?_
  rintro e w2 ⟨rfl, hb2⟩
  have c1 : w2.cell? ⟨w.heap.size + 1, 0, none⟩ = some (.int .u64 5) := (hb2.cell (p := ⟨w.heap.size + 1, 0, none⟩) (by simp)).trans (by go_simp)
  have s2 : w.heap.size + 1 < w2.heap.size := by have := hb2.size; simp at this; omega
  have s3 : w.heap.size < w2.heap.size := by omega
  have s4 : w.heap.size < w2.heap.size + 1 := by omega
  go_wp2_with fail
  refine (after_any _ _ _ (by decide) (by decide) (by decide) (by decide)).mono ?_
  rintro e w3 ⟨rfl, rfl⟩
  rw [show cAdd 5 3 = 8 by decide]
  go_wp2_with fail
  refine (reached_any _ _ _).mono ?_
  rintro e w3 ⟨rfl, rfl⟩
  go_wp2_with fail
  refine (tick_any _ _ _ (by decide) (by decide) (by decide) (by decide)).mono ?_
  rintro e w3 ⟨rfl, rfl⟩
  rw [show cAdd 5 3 = 8 by decide]
  go_wp2_with fail
  refine (reached_any _ _ _).mono ?_
  rintro e w3 ⟨rfl, rfl⟩
  go_wp2_with fail
  go_ret
  refine ⟨rfl, ?_⟩
  have hb : Below w.heap.size w w2 := (((Below.refl _ _).alloc (Nat.le_refl _) _).alloc (by simp) _).trans (hb2.mono (by simp; omega))
  refine ((((((hb.alloc ?_ _).alloc ?_ _).alloc ?_ _).alloc ?_ _).alloc ?_ _).alloc ?_ _)
  all_goals (first | omega | (simp; omega))
end Go.Proofs.YthmdiaingolfnaaGreatDoor.Ck
