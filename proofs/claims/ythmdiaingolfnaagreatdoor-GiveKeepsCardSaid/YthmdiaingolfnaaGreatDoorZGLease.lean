/- A part of the claim: the texts LeaseMath LeaseDoc LeaseU. -/
import Derived.Test.YthmdiaingolfnaaGreatDoorZBase6
namespace Go.Proofs.YthmdiaingolfnaaGreatDoor.Le
open Go.ChangeShapes Go.WideShapes Go.ChangeAt Go.RowKit Go.Maps Rw Hi Mt Ck
set_option linter.unusedVariables false
theorem arm_room' {T : List (Int × Int)} {x t : Int} (h : T.length ≤ 1000) (ht : t ≤ 1152921504606846976) : Wl.arm T x t = Wl.ins (x, t) (Wl.wo T x) := by
  have hf : Wl.full T x = false := decide_eq_false (by have := Wl.wo_len T x; omega)
  unfold Wl.arm Wl.cut
  rw [hf, if_pos ht]; rfl
def cnt (L : List (Int × Ls)) (t : Nat) : Nat := (L.filter (fun a => decide (a.2.thread < (t : Int)))).length
end Go.Proofs.YthmdiaingolfnaaGreatDoor.Le
namespace Go.Proofs.YthmdiaingolfnaaGreatDoor.Le
open Go.ChangeShapes Go.WideShapes Go.ChangeAt Go.RowKit Go.Maps Rw Hi Mt Ck
set_option linter.unusedVariables false
def Sd (D : List (Int × Ls)) : Prop := D.Pairwise (fun a b => a.1 < b.1)
theorem Sd.nd {D : List (Int × Ls)} (h : Sd D) : Nd D := by
  unfold Nd List.Nodup
  rw [List.pairwise_map]
  exact List.Pairwise.imp (fun hab => Int.ne_of_lt hab) h
theorem Sd.filter {D : List (Int × Ls)} (h : Sd D) (p : Int × Ls → Bool) : Sd (D.filter p) := List.Pairwise.filter p h
theorem Sd.wo {D : List (Int × Ls)} (h : Sd D) (id : Int) : Sd (Mt.wo D id) := h.filter _
theorem Sd.keys {D : List (Int × Ls)} (h : Sd D) : (D.map Prod.fst).Pairwise (· ≤ ·) := by
  rw [List.pairwise_map]
  exact List.Pairwise.imp (fun hab => Int.le_of_lt hab) h
theorem Sd.rest {D : List (Int × Ls)} (h : Sd D) {k : Nat} {id : Int} (hk : ∀ a, D[k]? = some a → id < a.1) : ∀ a ∈ D.drop k, id < a.1 := by
  intro a ha
  obtain ⟨j, hj, rfl⟩ := List.mem_iff_getElem.1 ha
  rw [List.getElem_drop]
  rw [List.length_drop] at hj
  have h0 := hk _ (List.getElem?_eq_getElem (show k < D.length by omega))
  rcases Nat.eq_zero_or_pos j with e | e
  · subst e; exact h0
  · have := List.pairwise_iff_getElem.1 h k (k + j) (by omega) (by omega) (by omega)
    exact Int.lt_trans h0 this
theorem Sd.put {D : List (Int × Ls)} (h : Sd D) {k : Nat} {id : Int} (x : Ls) (hlo : ∀ a ∈ D.take k, a.1 < id) (hhi : ∀ a ∈ D.drop k, id < a.1) : Sd (D.take k ++ (id, x) :: D.drop k) := by
  refine List.pairwise_append.2 ⟨h.sublist (List.take_sublist _ _), List.pairwise_cons.2 ⟨hhi, h.sublist (List.drop_sublist _ _)⟩, fun a ha b hb => ?_⟩
  rcases List.mem_cons.1 hb with rfl | hb
  · exact hlo a ha
  · exact Int.lt_trans (hlo a ha) (hhi b hb)
theorem put_perm (D : List (Int × Ls)) (k : Nat) (a : Int × Ls) : (a :: D).Perm (D.take k ++ a :: D.drop k) := by
  have h1 : (D.take k ++ a :: D.drop k).Perm (a :: (D.take k ++ D.drop k)) := List.perm_middle
  rw [List.take_append_drop] at h1
  exact h1.symm
def mk (M : List Int) : List (Int × Bool) := M.map (fun i => (i, true))
theorem mk_keys (M : List Int) : (mk M).map Prod.fst = M := by unfold mk; rw [List.map_map]; exact (List.map_congr_left fun a _ => rfl).trans (List.map_id _)
theorem mk_len (M : List Int) : (mk M).length = M.length := by unfold mk; rw [List.length_map]
theorem mk_wo (M : List Int) (id : Int) : Mt.wo (mk M) id = mk (M.filter (· != id)) := by
  unfold Mt.wo mk
  rw [List.filter_map]; rfl
theorem mk_put (M : List Int) (id : Int) : ((id, true) :: Mt.wo (mk M) id).Perm (mk (M.filter (· != id) ++ [id])) := by
  rw [mk_wo]
  unfold mk
  rw [List.map_append]
  exact (List.perm_append_singleton _ _).symm
theorem mk_fnd (M : List Int) (id : Int) : (fnd (mk M) id).getD false = decide (id ∈ M) := by
  have h := fnd_is (l := mk M) (k := id)
  rw [mk_keys] at h
  cases hf : fnd (mk M) id with
  | none => rw [hf] at h; exact h
  | some b =>
    rw [hf] at h
    have hm := fnd_some hf
    obtain ⟨i, _, e⟩ := List.mem_map.1 hm
    injection e with _ e2
    rw [← e2, ← h]; rfl
def bE (D : List (Int × Ls)) (id th : Int) : Int := if th < 0 ∨ 8 ≤ th then 2 else if (fnd D id).isSome = true then 10 else 0
def bL (D : List (Int × Ls)) (id th now : Int) : List (Int × Ls) := if bE D id th = 0 then (id, ⟨th, now, false⟩) :: D else D
def bT (leak : Int) (D : List (Int × Ls)) (T : List (Int × Int)) (id th now : Int) : List (Int × Int) := if bE D id th = 0 ∧ leak ≠ 0 then Wl.arm T id (cAdd now leak) else T
theorem arm_put {T : List (Int × Int)} {id now leak : Int} (h : T.length ≤ 1000) : Wl.arm T id (cAdd now leak) = Wl.ins (id, cAdd now leak) (Wl.wo T id) := arm_room' h (cAdd_hi _ _)
theorem bL_len (D : List (Int × Ls)) (id th now : Int) : (bL D id th now).length ≤ D.length + 1 := by unfold bL; split <;> simp
theorem bT_len (leak : Int) (D : List (Int × Ls)) {T : List (Int × Int)} (id th now : Int) (h : T.length ≤ 1000) : (bT leak D T id th now).length ≤ T.length + 1 := by
  unfold bT; split
  · rw [arm_put h]
    have h1 := Wl.wo_len T id
    have h2 : ∀ (a : Int × Int) (l : List (Int × Int)), (Wl.ins a l).length = l.length + 1 := fun a l => Wl.ins_len a l
    rw [h2]; omega
  · omega
end Go.Proofs.YthmdiaingolfnaaGreatDoor.Le
namespace Go.Proofs.YthmdiaingolfnaaGreatDoor.Le
open Go.ChangeShapes Go.WideShapes Go.ChangeAt Go.RowKit Go.Maps Rw Hi Mt Ck
set_option linter.unusedVariables false
section
variable (w : World) (x : At) (leak : Int) (D : List (Int × Ls)) (M : List Int) (T : List (Int × Int)) (id th now : Int)
theorem beginU (h : Bk w x leak D (mk M) T) (hid : U64 id) (hnow : U64 now) (hlk : U64 leak) (hl : D.length ≤ 1000) (hT : T.length ≤ 1000) :
    Calls Tryz.prog 87 #[ptr x.p, .int .u64 id, .int .i64 th, .int .u64 now] w fun e w' => e = .returned (.int .i64 (bE D id th)) ∧ Bk w' x leak (bL D id th now) (mk M) (bT leak D T id th now) ∧ Fr (some x.a) (some x.m) w w' := by
  by_cases h1 : th < 0 ∨ 8 ≤ th
  · have e : bE D id th = 2 := by unfold bE; rw [if_pos h1]
    have eL : bL D id th now = D := by unfold bL; rw [e, if_neg (by decide)]
    have eT : bT leak D T id th now = T := by unfold bT; rw [e, if_neg (fun h => absurd h.1 (by decide))]
    rw [e, eL, eT]
    refine (begin_range w x leak D (mk M) T id th now h h1).mono ?_
    rintro e w' ⟨rfl, rfl⟩
    exact ⟨rfl, h, fr_below (Below.refl _ _)⟩
  · cases hb : (fnd D id).isSome with
    | true =>
      have e : bE D id th = 10 := by unfold bE; rw [if_neg h1, if_pos hb]
      have eL : bL D id th now = D := by unfold bL; rw [e, if_neg (by decide)]
      have eT : bT leak D T id th now = T := by unfold bT; rw [e, if_neg (fun h => absurd h.1 (by decide))]
      rw [e, eL, eT]
      refine (begin_had w x leak D (mk M) T id th now h hid (by omega) (by omega) hb).mono ?_
      rintro e w' ⟨rfl, hb⟩
      exact ⟨rfl, h.later hb, fr_below hb⟩
    | false =>
      have e : bE D id th = 0 := by unfold bE; rw [if_neg h1, if_neg (by rw [hb]; decide)]
      have hw : Mt.wo D id = D := wo_none (fun hm => by
        have := fnd_is (l := D) (k := id)
        rw [hb, decide_eq_true hm] at this; cases this)
      have eL : bL D id th now = (id, ⟨th, now, false⟩) :: Mt.wo D id := by unfold bL; rw [if_pos e, hw]
      rw [e, eL]
      by_cases h0 : leak = 0
      · subst h0
        have eT : bT 0 D T id th now = T := by unfold bT; rw [if_neg (fun h => absurd rfl h.2)]
        rw [eT]
        refine (begin_no_leak w x D (mk M) T id th now h hid (by omega) (by omega) hb (by omega)).mono ?_
        rintro e w' ⟨rfl, h1, h2⟩
        exact ⟨rfl, h1, h2⟩
      · have eT : bT leak D T id th now = Wl.arm T id (cAdd now leak) := by unfold bT; rw [if_pos ⟨e, h0⟩]
        rw [eT]
        refine (begin_leak w x leak D (mk M) T id th now h hid hnow hlk h0 (by omega) (by omega) hb (by omega) (by omega)).mono ?_
        rintro e w' ⟨rfl, h1, h2⟩
        exact ⟨rfl, h1, h2⟩
theorem markU (h : Bk w x leak D (mk M) T) (hid : U64 id) (hM : M.length ≤ 1000) :
    Calls Tryz.prog 69 #[ptr x.p, .int .u64 id, .int .i64 th] w fun e w' => e = .returned (.int .i64 (wr D id th)) ∧ Bk w' x leak D (mk (if holds D id th = true then M.filter (· != id) ++ [id] else M)) T ∧ Fr (some x.b) none w w' := by
  cases hh : holds D id th with
  | true =>
    have e : wr D id th = 0 := by unfold wr; rw [if_pos hh]
    rw [e, if_pos rfl]
    refine (mark_ok w x leak D (mk M) T id th h hid hh (by rw [mk_len]; omega)).mono ?_
    rintro e w' ⟨rfl, h1, h2⟩
    exact ⟨rfl, h1.permM (mk_put M id), h2⟩
  | false =>
    have e : wr D id th = 5 := by unfold wr; rw [if_neg (by rw [hh]; decide)]
    rw [e, if_neg (by decide)]
    refine (mark_no w x leak D (mk M) T id th h hid hh).mono ?_
    rintro e w' ⟨rfl, hb⟩
    exact ⟨rfl, h.later hb, fr_below hb⟩
theorem forgetU (h : Bk w x leak D (mk M) T) (hid : U64 id) :
    Calls Tryz.prog 60 #[ptr x.p, .int .u64 id] w fun e w' => e = .returned (.tuple #[]) ∧ Bk w' x leak D (mk (M.filter (· != id))) T ∧ Fr (some x.b) none w w' := by
  have := forget_any w x leak D (mk M) T id h hid
  rw [mk_wo] at this
  exact this
end
theorem Bk.keep {w w' : World} {x : At} {leak : Int} {L : List (Int × Ls)} {M : List (Int × Bool)} {T : List (Int × Int)} (h : Bk w x leak L M T) {f g : Option Nat} (hf : Fr f g w w') (hfg : (f = some x.a ∧ g = some x.m) ∨ (f = some x.b ∧ g = none)) {b o : Nat} {v : Value} (hc : w.cell? ⟨b, o, none⟩ = some v) : w'.cell? ⟨b, o, none⟩ = some v := by
  have hb : b < w.heap.size := Lw.lt_heap hc
  have ha : b ≠ x.a := fun e => h.leases.no_cell o v (e ▸ hc)
  have hb2 : b ≠ x.b := fun e => h.marks.no_cell o v (e ▸ hc)
  have hm : b ≠ x.m := fun e => wh_no_cell h.wheel o v (e ▸ hc)
  refine (hf.cell (p := ⟨b, o, none⟩) hb ?_ ?_).trans hc
  · rcases hfg with ⟨rfl, rfl⟩ | ⟨rfl, rfl⟩ <;> intro e <;> injection e <;> contradiction
  · rcases hfg with ⟨rfl, rfl⟩ | ⟨rfl, rfl⟩
    · intro e; injection e; contradiction
    · intro e; cases e
theorem Rs.held {α : Type} {enc : α → List Value} {sz : Nat} {w w' : World} {B : Nat} {A : Option Addr} {n c : Nat} {xs : List α} (h : Rs enc sz w B A n c xs) (hk : ∀ b o v, w.cell? ⟨b, o, none⟩ = some v → w'.cell? ⟨b, o, none⟩ = some v) (hs : B ≤ w'.heap.size) : Rs enc sz w' w'.heap.size A n c xs :=
  ⟨h.len, h.cap, h.top, fun hn => by
    obtain ⟨b, o, e, hb, hc⟩ := h.at_ hn
    exact ⟨b, o, e, by omega, fun j x hx i u hi hu => hk _ _ _ (hc j x hx i u hi hu)⟩⟩
theorem Rd.held {α : Type} {enc : α → Value} {w w' : World} {B : Nat} {A : Option Addr} {n c : Nat} {xs : List α} (h : Rd enc w B A n c xs) (hk : ∀ b o v, w.cell? ⟨b, o, none⟩ = some v → w'.cell? ⟨b, o, none⟩ = some v) (hs : B ≤ w'.heap.size) : Rd enc w' w'.heap.size A n c xs :=
  ⟨h.len, h.cap, h.top, fun hn => by
    obtain ⟨b, o, e, hb, hc⟩ := h.at_ hn
    exact ⟨b, o, e, by omega, fun j x hx => hk _ _ _ (hc j x hx)⟩⟩
end Go.Proofs.YthmdiaingolfnaaGreatDoor.Le
