/- Layer 14 (lease): contracts of the book that tell hit and miss by one function. -/
import Derived.Test.YtbdcdofjcljliaaGreatDoorLeaseDoc
import Derived.Test.YtbdcdofjcljliaaGreatDoorLeaseB
namespace Go.Proofs.YtbdcdofjcljliaaGreatDoor.Le
open Go.ChangeShapes Go.WideShapes Go.ChangeAt Go.RowKit Go.Maps Rw Hi Mt Ck
set_option linter.unusedVariables false

section
variable (w : World) (x : At) (leak : Int) (D : List (Int × Ls)) (M : List Int) (T : List (Int × Int)) (id th now : Int)
theorem beginU (h : Bk w x leak D (mk M) T) (hid : U64 id) (hnow : U64 now) (hlk : U64 leak) (hl : D.length ≤ 1000) (hT : T.length ≤ 1000) :
    Calls Tryz.prog 7 #[ptr x.p, .int .u64 id, .int .i64 th, .int .u64 now] w fun e w' => e = .returned (.int .i64 (bE D id th)) ∧ Bk w' x leak (bL D id th now) (mk M) (bT leak D T id th now) ∧ Fr (some x.a) (some x.m) w w' := by
  by_cases h1 : th < 0 ∨ 8 ≤ th
  · have e : bE D id th = 2 := by unfold bE; rw [if_pos h1]
    have eL : bL D id th now = D := by unfold bL; rw [e, if_neg (by decide)]
    have eT : bT leak D T id th now = T := by unfold bT; rw [e, if_neg (fun h => absurd h.1 (by decide))]
    rw [e, eL, eT]
    refine (begin_range w x leak D (mk M) T id th now h h1).mono ?_
    rintro e w' ⟨rfl, rfl⟩
    exact ⟨rfl, h, fr_below (Below.refl _ _)⟩
  · cases hb : (fnd D id).isSome with
    | true =>
      have e : bE D id th = 10 := by unfold bE; rw [if_neg h1, if_pos hb]
      have eL : bL D id th now = D := by unfold bL; rw [e, if_neg (by decide)]
      have eT : bT leak D T id th now = T := by unfold bT; rw [e, if_neg (fun h => absurd h.1 (by decide))]
      rw [e, eL, eT]
      refine (begin_had w x leak D (mk M) T id th now h hid (by omega) (by omega) hb).mono ?_
      rintro e w' ⟨rfl, hb⟩
      exact ⟨rfl, h.later hb, fr_below hb⟩
    | false =>
      have e : bE D id th = 0 := by unfold bE; rw [if_neg h1, if_neg (by rw [hb]; decide)]
      have hw : Mt.wo D id = D := wo_none (fun hm => by
        have := fnd_is (l := D) (k := id)
        rw [hb, decide_eq_true hm] at this; cases this)
      have eL : bL D id th now = (id, ⟨th, now, false⟩) :: Mt.wo D id := by unfold bL; rw [if_pos e, hw]
      rw [e, eL]
      by_cases h0 : leak = 0
      · subst h0
        have eT : bT 0 D T id th now = T := by unfold bT; rw [if_neg (fun h => absurd rfl h.2)]
        rw [eT]
        refine (begin_no_leak w x D (mk M) T id th now h hid (by omega) (by omega) hb (by omega)).mono ?_
        rintro e w' ⟨rfl, h1, h2⟩
        exact ⟨rfl, h1, h2⟩
      · have eT : bT leak D T id th now = Wl.arm T id (cAdd now leak) := by unfold bT; rw [if_pos ⟨e, h0⟩]
        rw [eT]
        refine (begin_leak w x leak D (mk M) T id th now h hid hnow hlk h0 (by omega) (by omega) hb (by omega) (by omega)).mono ?_
        rintro e w' ⟨rfl, h1, h2⟩
        exact ⟨rfl, h1, h2⟩
theorem endU (h : Bk w x leak D (mk M) T) (hid : U64 id) :
    Calls Tryz.prog 9 #[ptr x.p, .int .u64 id, .int .i64 th] w fun e w' => e = .returned (.int .i64 (wr D id th)) ∧ Bk w' x leak (if holds D id th = true then Mt.wo D id else D) (mk M) (if holds D id th = true then Wl.wo T id else T) ∧ Fr (some x.a) (some x.m) w w' := by
  cases hh : holds D id th with
  | true =>
    have e : wr D id th = 0 := by unfold wr; rw [if_pos hh]
    rw [e, if_pos rfl, if_pos rfl]
    exact end_ok w x leak D (mk M) T id th h hid hh
  | false =>
    have e : wr D id th = 5 := by unfold wr; rw [if_neg (by rw [hh]; decide)]
    rw [e, if_neg (by decide), if_neg (by decide)]
    refine (end_no w x leak D (mk M) T id th h hid hh).mono ?_
    rintro e w' ⟨rfl, hb⟩
    exact ⟨rfl, h.later hb, fr_below hb⟩
theorem markU (h : Bk w x leak D (mk M) T) (hid : U64 id) (hM : M.length ≤ 1000) :
    Calls Tryz.prog 11 #[ptr x.p, .int .u64 id, .int .i64 th] w fun e w' => e = .returned (.int .i64 (wr D id th)) ∧ Bk w' x leak D (mk (if holds D id th = true then M.filter (· != id) ++ [id] else M)) T ∧ Fr (some x.b) none w w' := by
  cases hh : holds D id th with
  | true =>
    have e : wr D id th = 0 := by unfold wr; rw [if_pos hh]
    rw [e, if_pos rfl]
    refine (mark_ok w x leak D (mk M) T id th h hid hh (by rw [mk_len]; omega)).mono ?_
    rintro e w' ⟨rfl, h1, h2⟩
    exact ⟨rfl, h1.permM (mk_put M id), h2⟩
  | false =>
    have e : wr D id th = 5 := by unfold wr; rw [if_neg (by rw [hh]; decide)]
    rw [e, if_neg (by decide)]
    refine (mark_no w x leak D (mk M) T id th h hid hh).mono ?_
    rintro e w' ⟨rfl, hb⟩
    exact ⟨rfl, h.later hb, fr_below hb⟩
theorem forgetU (h : Bk w x leak D (mk M) T) (hid : U64 id) :
    Calls Tryz.prog 13 #[ptr x.p, .int .u64 id] w fun e w' => e = .returned (.tuple #[]) ∧ Bk w' x leak D (mk (M.filter (· != id))) T ∧ Fr (some x.b) none w w' := by
  have := forget_any w x leak D (mk M) T id h hid
  rw [mk_wo] at this
  exact this
theorem leaksU (h : Bk w x leak D (mk M) T) (hs : Sd D) (ht : Tk D T) (hnow : U64 now) (hl : D.length ≤ 1000) (hT : T.length ≤ 1000) :
    Calls Tryz.prog 8 #[ptr x.p, .int .u64 now] w fun e w' => ∃ (A : Option Addr) (c : Nat), e = .returned (.slice A (Wl.due T now).length c) ∧ Rd (Value.int .u64) w' w'.heap.size A (Wl.due T now).length c ((Wl.due T now).map Prod.fst) ∧
      Bk w' x leak (fld D ((Wl.due T now).map Prod.fst)) (mk M) (Wl.left T now) ∧ Fr (some x.a) (some x.m) w w' := by
  refine (leaks_any w x leak D (mk M) T now h hnow (by omega) (by omega)).mono ?_
  rintro e w' ⟨A, c, rfl, h1, h2, h3⟩
  refine ⟨A, c, rfl, ?_, h2.permL (fld_perm hs (ht.due now)), h3⟩
  have hl : ((Wl.due T now).map Prod.fst).length = (Wl.due T now).length := by rw [List.length_map]
  generalize (Wl.due T now).length = n at *
  subst hl
  exact Rd.own_rd h1
end
/-- What lies in cells is no map: the book's own maps may turn. -/
theorem Bk.keep {w w' : World} {x : At} {leak : Int} {L : List (Int × Ls)} {M : List (Int × Bool)} {T : List (Int × Int)} (h : Bk w x leak L M T) {f g : Option Nat} (hf : Fr f g w w') (hfg : (f = some x.a ∧ g = some x.m) ∨ (f = some x.b ∧ g = none)) {b o : Nat} {v : Value} (hc : w.cell? ⟨b, o, none⟩ = some v) : w'.cell? ⟨b, o, none⟩ = some v := by
  have hb : b < w.heap.size := Lw.lt_heap hc
  have ha : b ≠ x.a := fun e => h.leases.no_cell o v (e ▸ hc)
  have hb2 : b ≠ x.b := fun e => h.marks.no_cell o v (e ▸ hc)
  have hm : b ≠ x.m := fun e => wh_no_cell h.wheel o v (e ▸ hc)
  refine (hf.cell (p := ⟨b, o, none⟩) hb ?_ ?_).trans hc
  · rcases hfg with ⟨rfl, rfl⟩ | ⟨rfl, rfl⟩ <;> intro e <;> injection e <;> contradiction
  · rcases hfg with ⟨rfl, rfl⟩ | ⟨rfl, rfl⟩
    · intro e; injection e; contradiction
    · intro e; cases e
theorem Rs.held {α : Type} {enc : α → List Value} {sz : Nat} {w w' : World} {B : Nat} {A : Option Addr} {n c : Nat} {xs : List α} (h : Rs enc sz w B A n c xs) (hk : ∀ b o v, w.cell? ⟨b, o, none⟩ = some v → w'.cell? ⟨b, o, none⟩ = some v) (hs : B ≤ w'.heap.size) : Rs enc sz w' w'.heap.size A n c xs :=
  ⟨h.len, h.cap, h.top, fun hn => by
    obtain ⟨b, o, e, hb, hc⟩ := h.at_ hn
    exact ⟨b, o, e, by omega, fun j x hx i u hi hu => hk _ _ _ (hc j x hx i u hi hu)⟩⟩
theorem Rd.held {α : Type} {enc : α → Value} {w w' : World} {B : Nat} {A : Option Addr} {n c : Nat} {xs : List α} (h : Rd enc w B A n c xs) (hk : ∀ b o v, w.cell? ⟨b, o, none⟩ = some v → w'.cell? ⟨b, o, none⟩ = some v) (hs : B ≤ w'.heap.size) : Rd enc w' w'.heap.size A n c xs :=
  ⟨h.len, h.cap, h.top, fun hn => by
    obtain ⟨b, o, e, hb, hc⟩ := h.at_ hn
    exact ⟨b, o, e, by omega, fun j x hx => hk _ _ _ (hc j x hx)⟩⟩
end Go.Proofs.YtbdcdofjcljliaaGreatDoor.Le
