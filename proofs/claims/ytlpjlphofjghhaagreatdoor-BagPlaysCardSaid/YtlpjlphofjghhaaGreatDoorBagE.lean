/- Layer 15 (bag): each call's contract, whatever is asked. -/
import Derived.Test.YtlpjlphofjghhaaGreatDoorBagD
namespace Go.Proofs.YtlpjlphofjghhaaGreatDoor.Ba
open Go Go.ChangeShapes Go.WideShapes Go.ChangeAt Go.RowKit Go.Maps Rw Hi Mt
set_option linter.unusedVariables false

/-- What Load tells; what Swap tells; what Entry tells. -/
def bW (D : List (Int × Ex)) (id : Int) : Int := ((fnd D id).map Ex.word).getD 0
def bV (D : List (Int × Ex)) (id old st : Int) : Int := match fnd D id with
  | none => 0
  | some x => Wd.wSwap x.word old st
def bK (D : List (Int × Ex)) (id old st : Int) : Bool := match fnd D id with
  | none => false
  | some x => Wd.wSwapOk x.word old st
def bE (D : List (Int × Ex)) (id : Int) : Value := match fnd D id with
  | none => .agg #[.int .u64 0, .int .u64 0, .int .u64 0, .int .u64 0, .int .u64 0]
  | some x => .agg #[.int .u64 id, .int .u64 x.word, .int .u64 x.born, .int .u64 x.since, .int .u64 x.proved]
def kn {β : Type} (D : List (Int × β)) (id : Int) : Int := if (fnd D id).isSome then 0 else 9
section
variable {C R : Nat → Prop} (w : World) (p a : Nat) (D : List (Int × Ex)) (S : List Int) (id : Int)
theorem fnd_ab (L : List (Int × En)) (id : Int) : fnd (ab L) id = (fnd L id).map En.x := fnd_map (L := L) (g := En.x) id
theorem bW_u64 {D : List (Int × Ex)} (h : Bx C R w p a D S) (id : Int) : U64 (bW D id) := by
  unfold bW
  cases hf : fnd D id with
  | none => exact ⟨by simp, by simp⟩
  | some x => exact (h.ui _ (fnd_some hf)).2.1
theorem load_any (h : Bx C R w p a D S) (hid : U64 id) : Calls Tryz.prog 9 #[ptr p, .int .u64 id] w fun e w' => e = .returned (.tuple #[.int .u64 (bW D id), .bool (fnd D id).isSome]) ∧ w = w' := by
  obtain ⟨L, h, rfl⟩ := h
  refine (loadT_any w p a L S id h hid).mono fun e w' ⟨he, hw⟩ => ⟨?_, hw⟩
  rw [he]
  unfold bW
  rw [fnd_ab]
  cases fnd L id <;> rfl
theorem swap_any (h : Bx C R w p a D S) (hid : U64 id) (old st now : Int) (ho : U64 old) (hnow : U64 now) : Calls Tryz.prog 10 #[ptr p, .int .u64 id, .int .u64 old, .int .i64 st, .int .u64 now] w fun e w' => e = .returned (.tuple #[.int .u64 (bV D id old st), .bool (bK D id old st)]) ∧ Bx C R w' p a (up D id (exS old st now)) S ∧ Fz C w w' := by
  obtain ⟨L, h, rfl⟩ := h
  cases hf : fnd L id with
  | none =>
    have e1 : fnd (ab L) id = none := by rw [fnd_ab, hf]; rfl
    refine (swapT_miss w p a L S id h hid hf old st now).mono ?_
    rintro e w' ⟨rfl, rfl⟩
    refine ⟨by unfold bV bK; rw [e1], ⟨L, h, ?_⟩, Fz.refl _ _⟩
    rw [up_none (fnd_no e1)]
  | some x =>
    have e1 : fnd (ab L) id = some x.x := by rw [fnd_ab, hf]; rfl
    refine (swapT_hit w p a L S id h hid hf old st now ho hnow).mono ?_
    rintro e w' ⟨rfl, hb, hz⟩
    refine ⟨by unfold bV bK; rw [e1], ⟨_, hb, ?_⟩, hz⟩
    unfold ab up
    rw [List.map_map, List.map_map]
    apply List.map_congr_left
    intro q hq
    simp only [Function.comp]
    by_cases hi : q.1 = id
    · have : q.2 = x := h.ri.nd.uniq (k := id) (by rw [← hi]; exact hq) (fnd_some hf)
      rw [if_pos hi, if_pos hi, this]
      rfl
    · rw [if_neg hi, if_neg hi]
theorem proved_any (h : Bx C R w p a D S) (hid : U64 id) (now : Int) (hnow : U64 now) : Calls Tryz.prog 13 #[ptr p, .int .u64 id, .int .u64 now] w fun e w' => e = .returned (.int .i64 (kn D id)) ∧ Bx C R w' p a (up D id (exP now)) S ∧ Fz C w w' := by
  obtain ⟨L, h, rfl⟩ := h
  cases hf : fnd L id with
  | none =>
    have e1 : fnd (ab L) id = none := by rw [fnd_ab, hf]; rfl
    refine (proved_miss w p a L S id h hid hf now).mono ?_
    rintro e w' ⟨rfl, rfl⟩
    refine ⟨by unfold kn; rw [e1]; rfl, ⟨L, h, ?_⟩, Fz.refl _ _⟩
    rw [up_none (fnd_no e1)]
  | some x =>
    have e1 : fnd (ab L) id = some x.x := by rw [fnd_ab, hf]; rfl
    refine (proved_hit w p a L S id h hid hf now hnow).mono ?_
    rintro e w' ⟨rfl, hb, hz⟩
    refine ⟨by unfold kn; rw [e1]; rfl, ⟨_, hb, ?_⟩, hz⟩
    unfold ab up
    rw [List.map_map, List.map_map]
    apply List.map_congr_left
    intro q hq
    simp only [Function.comp]
    by_cases hi : q.1 = id
    · have : q.2 = x := h.ri.nd.uniq (k := id) (by rw [← hi]; exact hq) (fnd_some hf)
      rw [if_pos hi, if_pos hi, this]
      rfl
    · rw [if_neg hi, if_neg hi]
theorem enter_any (h : Bx C R w p a D S) (hid : U64 id) (st now : Int) (hnow : U64 now) (hlen : D.length < 1000000) : Calls Tryz.prog 18 #[ptr p, .int .u64 id, .int .i64 st, .int .u64 now] w fun e w' => e = .returned (.int .i64 (eE D id st)) ∧ Bx (ext w C) (cut w R) w' p a (if eE D id st = 0 then ins D id ⟨Wd.wOf st 0, now, now, now⟩ else D) S ∧ Fz C w w' := by
  obtain ⟨L, h, rfl⟩ := h
  by_cases hr : id = 0 ∨ st < 0 ∨ 3 < st
  · have e1 : eE (ab L) id st = 2 := by unfold eE; rw [if_pos hr]
    rw [e1, if_neg (by decide)]
    refine (enter_range w p id st now hr).mono ?_
    rintro e w' ⟨rfl, rfl⟩
    exact ⟨rfl, ⟨L, h.extC, rfl⟩, Fz.refl _ _⟩
  · cases hf : fnd L id with
    | none =>
      have e0 : fnd (ab L) id = none := by rw [fnd_ab, hf]; rfl
      have e1 : eE (ab L) id st = 0 := by unfold eE; rw [if_neg hr, e0]; rfl
      rw [e1, if_pos rfl]
      refine (enter_new w p a L S id h hid st now hnow hr hf (by simpa using hlen)).mono ?_
      rintro e w' ⟨rfl, ⟨x, hx, hb⟩, hz⟩
      refine ⟨rfl, ⟨_, hb, ?_⟩, hz⟩
      rw [← hx]
      exact ins_map (L := L) (g := En.x)
    | some x =>
      have e0 : fnd (ab L) id = some x.x := by rw [fnd_ab, hf]; rfl
      have e1 : eE (ab L) id st = 10 := by unfold eE; rw [if_neg hr, e0]; rfl
      rw [e1, if_neg (by decide)]
      refine (enter_had w p a L S id h hid st now hr hf).mono ?_
      rintro e w' ⟨rfl, rfl⟩
      exact ⟨rfl, ⟨L, h.extC, rfl⟩, Fz.refl _ _⟩
theorem publish_any (h : Bx C R w p a D S) (hid : U64 id) (hl : S.length ≤ 1000000) : Calls Tryz.prog 11 #[ptr p, .int .u64 id] w fun e w' => e = .returned (.int .i64 (kn D id)) ∧ Bx (cut w C) (ext w R) w' p a D (if (fnd D id).isSome then Sn.sWith S id else S) ∧ Fz C w w' := by
  obtain ⟨L, h, rfl⟩ := h
  cases hf : fnd L id with
  | none =>
    have e1 : fnd (ab L) id = none := by rw [fnd_ab, hf]; rfl
    refine (publish_miss w p a L S id h hid hf).mono ?_
    rintro e w' ⟨rfl, rfl⟩
    refine ⟨by unfold kn; rw [e1]; rfl, ⟨L, by rw [e1]; exact h.cutC, rfl⟩, Fz.refl _ _⟩
  | some x =>
    have e1 : fnd (ab L) id = some x.x := by rw [fnd_ab, hf]; rfl
    refine (publish_hit w p a L S id h hid hf hl).mono ?_
    rintro e w' ⟨rfl, hb, hz⟩
    refine ⟨by unfold kn; rw [e1]; rfl, ⟨L, by rw [e1]; exact hb, rfl⟩, hz⟩
theorem unlist_any (h : Bx C R w p a D S) (hid : U64 id) (hl : S.length ≤ 1000000) : Calls Tryz.prog 16 #[ptr p, .int .u64 id] w fun e w' => e = .returned (.int .i64 (kn D id)) ∧ Bx (cut w C) (ext w R) w' p a D (if (fnd D id).isSome then Sn.sWithout S id else S) ∧ Fz C w w' := by
  obtain ⟨L, h, rfl⟩ := h
  cases hf : fnd L id with
  | none =>
    have e1 : fnd (ab L) id = none := by rw [fnd_ab, hf]; rfl
    refine (unlist_miss w p a L S id h hid hf).mono ?_
    rintro e w' ⟨rfl, rfl⟩
    refine ⟨by unfold kn; rw [e1]; rfl, ⟨L, by rw [e1]; exact h.cutC, rfl⟩, Fz.refl _ _⟩
  | some x =>
    have e1 : fnd (ab L) id = some x.x := by rw [fnd_ab, hf]; rfl
    refine (unlist_hit w p a L S id h hid hf hl).mono ?_
    rintro e w' ⟨rfl, hb, hz⟩
    refine ⟨by unfold kn; rw [e1]; rfl, ⟨L, by rw [e1]; exact hb, rfl⟩, hz⟩
theorem count_any (h : Bx C R w p a D S) (st : Int) (hL : D.length ≤ 1000) : Calls Tryz.prog 42 #[ptr p, .int .i64 st] w fun e w' => e = .returned (.int .i64 (cnt D st)) ∧ Below w.heap.size w w' := by
  obtain ⟨L, h, rfl⟩ := h
  exact countT_any w p a L S h st (by simpa using hL)
theorem entry_any (h : Bx C R w p a D S) (hid : U64 id) : Calls Tryz.prog 21 #[ptr p, .int .u64 id] w fun e w' => e = .returned (.tuple #[bE D id, .bool (fnd D id).isSome]) ∧ Below w.heap.size w w' := by
  obtain ⟨L, h, rfl⟩ := h
  cases hf : fnd L id with
  | none =>
    have e1 : fnd (ab L) id = none := by rw [fnd_ab, hf]; rfl
    refine (entry_miss w p a L S id h hid hf).mono fun e w' ⟨he, hw⟩ => ⟨?_, hw⟩
    rw [he]; unfold bE; rw [e1]; rfl
  | some x =>
    have e1 : fnd (ab L) id = some x.x := by rw [fnd_ab, hf]; rfl
    refine (entry_hit w p a L S id h hid hf).mono fun e w' ⟨he, hw⟩ => ⟨?_, hw⟩
    rw [he]; unfold bE; rw [e1]; rfl
theorem blist_any (h : Bx C R w p a D S) : Calls Tryz.prog 62 #[ptr p] w fun e w' => ∃ A n c, e = .returned (.agg #[.slice A n c]) ∧ Rd (Value.int .u64) w w.heap.size A n c S ∧ Below w.heap.size w w' := by
  obtain ⟨L, h, rfl⟩ := h
  refine (list_any w p a L S h).mono ?_
  rintro e w' ⟨A, n, c, rfl, h1, _, h2⟩
  exact ⟨A, n, c, rfl, h1, h2⟩
theorem bnew_any : Calls Tryz.prog 7 #[] w fun e w' => e = .returned (ptr (w.heap.size + 1)) ∧ Bx (fresh w) (fun _ => False) w' (w.heap.size + 1) w.heap.size [] [] ∧ Below w.heap.size w w' :=
  (new_any w).mono fun e w' ⟨h1, h2, h3⟩ => ⟨h1, ⟨[], h2, rfl⟩, h3⟩
end
end Go.Proofs.YtlpjlphofjghhaaGreatDoor.Ba
