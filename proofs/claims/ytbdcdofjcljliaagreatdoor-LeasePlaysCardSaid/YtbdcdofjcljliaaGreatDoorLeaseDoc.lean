/- Layer 14 (lease): the document's leases by rising ids, and the book's. No program is named here. -/
import Derived.Test.YtbdcdofjcljliaaGreatDoorLeaseMath
namespace Go.Proofs.YtbdcdofjcljliaaGreatDoor.Le
open Go.ChangeShapes Go.WideShapes Go.ChangeAt Go.RowKit Go.Maps Rw Hi Mt Ck
set_option linter.unusedVariables false

/-- The document's leases: by rising ids. -/
def Sd (D : List (Int × Ls)) : Prop := D.Pairwise (fun a b => a.1 < b.1)
theorem Sd.nd {D : List (Int × Ls)} (h : Sd D) : Nd D := by
  unfold Nd List.Nodup
  rw [List.pairwise_map]
  exact List.Pairwise.imp (fun hab => Int.ne_of_lt hab) h
theorem Sd.filter {D : List (Int × Ls)} (h : Sd D) (p : Int × Ls → Bool) : Sd (D.filter p) := List.Pairwise.filter p h
theorem Sd.wo {D : List (Int × Ls)} (h : Sd D) (id : Int) : Sd (Mt.wo D id) := h.filter _
theorem Sd.keys {D : List (Int × Ls)} (h : Sd D) : (D.map Prod.fst).Pairwise (· ≤ ·) := by
  rw [List.pairwise_map]
  exact List.Pairwise.imp (fun hab => Int.le_of_lt hab) h
theorem Sd.rest {D : List (Int × Ls)} (h : Sd D) {k : Nat} {id : Int} (hk : ∀ a, D[k]? = some a → id < a.1) : ∀ a ∈ D.drop k, id < a.1 := by
  intro a ha
  obtain ⟨j, hj, rfl⟩ := List.mem_iff_getElem.1 ha
  rw [List.getElem_drop]
  rw [List.length_drop] at hj
  have h0 := hk _ (List.getElem?_eq_getElem (show k < D.length by omega))
  rcases Nat.eq_zero_or_pos j with e | e
  · subst e; exact h0
  · have := List.pairwise_iff_getElem.1 h k (k + j) (by omega) (by omega) (by omega)
    exact Int.lt_trans h0 this
theorem Sd.put {D : List (Int × Ls)} (h : Sd D) {k : Nat} {id : Int} (x : Ls) (hlo : ∀ a ∈ D.take k, a.1 < id) (hhi : ∀ a ∈ D.drop k, id < a.1) : Sd (D.take k ++ (id, x) :: D.drop k) := by
  refine List.pairwise_append.2 ⟨h.sublist (List.take_sublist _ _), List.pairwise_cons.2 ⟨hhi, h.sublist (List.drop_sublist _ _)⟩, fun a ha b hb => ?_⟩
  rcases List.mem_cons.1 hb with rfl | hb
  · exact hlo a ha
  · exact Int.lt_trans (hlo a ha) (hhi b hb)
theorem put_perm (D : List (Int × Ls)) (k : Nat) (a : Int × Ls) : (a :: D).Perm (D.take k ++ a :: D.drop k) := by
  have h1 : (D.take k ++ a :: D.drop k).Perm (a :: (D.take k ++ D.drop k)) := List.perm_middle
  rw [List.take_append_drop] at h1
  exact h1.symm
theorem perm_of_fnd {l l' : List (Int × Ls)} (h : Nd l) (h' : Nd l') (he : ∀ k, fnd l k = fnd l' k) : l.Perm l' := by
  have n1 : l.Nodup := by
    unfold Nd List.Nodup at h; rw [List.pairwise_map] at h
    exact h.imp (fun hab e => hab (by rw [e]))
  have n2 : l'.Nodup := by
    unfold Nd List.Nodup at h'; rw [List.pairwise_map] at h'
    exact h'.imp (fun hab e => hab (by rw [e]))
  refine (List.perm_ext_iff_of_nodup n1 n2).2 fun a => ⟨fun ha => ?_, fun ha => ?_⟩
  · have := fnd_mem h (show (a.1, a.2) ∈ l from ha)
    rw [he] at this
    exact fnd_some this
  · have := fnd_mem h' (show (a.1, a.2) ∈ l' from ha)
    rw [← he] at this
    exact fnd_some this
/-- These flagged. -/
def fld (D : List (Int × Ls)) (ids : List Int) : List (Int × Ls) := D.map (fun a => if a.1 ∈ ids then (a.1, fl1 a.2) else a)
theorem fld_nil (D : List (Int × Ls)) : fld D [] = D := by
  unfold fld
  rw [show (fun a : Int × Ls => if a.1 ∈ ([] : List Int) then (a.1, fl1 a.2) else a) = id from by funext a; simp]
  simp
theorem fld_keys (D : List (Int × Ls)) (ids : List Int) : (fld D ids).map Prod.fst = D.map Prod.fst := by
  unfold fld
  rw [List.map_map]
  refine List.map_congr_left fun a _ => ?_
  simp only [Function.comp]
  split <;> rfl
theorem fld_len (D : List (Int × Ls)) (ids : List Int) : (fld D ids).length = D.length := by unfold fld; rw [List.length_map]
theorem fld_sd {D : List (Int × Ls)} (h : Sd D) (ids : List Int) : Sd (fld D ids) := by
  have h1 : ∀ E : List (Int × Ls), Sd E ↔ (E.map Prod.fst).Pairwise (· < ·) := fun E => by unfold Sd; rw [List.pairwise_map]
  rw [h1, fld_keys, ← h1]; exact h
theorem fnd_fld (D : List (Int × Ls)) (ids : List Int) (k : Int) : fnd (fld D ids) k = if k ∈ ids then (fnd D k).map fl1 else fnd D k := by
  unfold fnd fld
  rw [List.find?_map]
  have e : ((fun a : Int × Ls => a.1 == k) ∘ fun a : Int × Ls => if a.1 ∈ ids then (a.1, fl1 a.2) else a) = fun a => a.1 == k := by
    funext a; simp only [Function.comp]; split <;> rfl
  rw [e]
  cases hf : D.find? (fun a => a.1 == k) with
  | none => simp
  | some a =>
    have hk : a.1 = k := by simpa using List.find?_some hf
    subst hk
    simp only [Option.map_some]
    split <;> rfl
theorem fld_perm {D : List (Int × Ls)} (h : Sd D) {ids : List Int} (hm : ∀ y ∈ ids, y ∈ D.map Prod.fst) : (flgs D ids).Perm (fld D ids) := by
  refine perm_of_fnd (nd_flgs ids D h.nd) (fld_sd h ids).nd fun k => ?_
  rw [fnd_flgs, fnd_fld]
  by_cases hk : k ∈ ids
  · rw [if_pos hk, if_pos hk]
    obtain ⟨x, hx⟩ := mem_key.1 (hm k hk)
    rw [fnd_mem h.nd hx]; rfl
  · rw [if_neg hk, if_neg hk]
theorem fld_snoc {D : List (Int × Ls)} (h : Nd D) {ids : List Int} {k : Nat} {id : Int} {y : Ls} (hk : D[k]? = some (id, y)) :
    ∃ z, (fld D ids)[k]? = some (id, z) ∧ fld D (ids ++ [id]) = (fld D ids).set k (id, fl1 z) := by
  refine ⟨if id ∈ ids then fl1 y else y, ?_, ?_⟩
  · unfold fld; rw [List.getElem?_map, hk]; simp only [Option.map_some]; split <;> rfl
  · have hl : k < D.length := (List.getElem?_eq_some_iff.1 hk).1
    refine List.ext_getElem? fun j => ?_
    rw [List.getElem?_set, fld_len]
    by_cases hj : k = j
    · subst hj
      rw [if_pos rfl, if_pos hl]
      unfold fld; rw [List.getElem?_map, hk]; simp only [Option.map_some]
      rw [if_pos (by simp)]
      split <;> rfl
    · rw [if_neg hj]
      unfold fld
      rw [List.getElem?_map, List.getElem?_map]
      cases hd : D[j]? with
      | none => rfl
      | some a =>
        obtain ⟨hjl, e⟩ := List.getElem?_eq_some_iff.1 hd
        have hne : a.1 ≠ id := by
          intro e2
          obtain ⟨_, e3⟩ := List.getElem?_eq_some_iff.1 hk
          have h1 := (List.nodup_iff_pairwise_ne.1 h)
          rw [List.pairwise_map] at h1
          rcases Nat.lt_or_gt_of_ne hj with hlt | hlt
          · have := List.pairwise_iff_getElem.1 h1 k j hl hjl hlt
            rw [e, e3] at this; exact this e2.symm
          · have := List.pairwise_iff_getElem.1 h1 j k hjl hl hlt
            rw [e, e3] at this; exact this e2
        simp [hne]
/-- Marks as a map. -/
def mk (M : List Int) : List (Int × Bool) := M.map (fun i => (i, true))
theorem mk_keys (M : List Int) : (mk M).map Prod.fst = M := by unfold mk; rw [List.map_map]; exact (List.map_congr_left fun a _ => rfl).trans (List.map_id _)
theorem mk_len (M : List Int) : (mk M).length = M.length := by unfold mk; rw [List.length_map]
theorem mk_wo (M : List Int) (id : Int) : Mt.wo (mk M) id = mk (M.filter (· != id)) := by
  unfold Mt.wo mk
  rw [List.filter_map]; rfl
theorem mk_put (M : List Int) (id : Int) : ((id, true) :: Mt.wo (mk M) id).Perm (mk (M.filter (· != id) ++ [id])) := by
  rw [mk_wo]
  unfold mk
  rw [List.map_append]
  exact (List.perm_append_singleton _ _).symm
theorem mk_fnd (M : List Int) (id : Int) : (fnd (mk M) id).getD false = decide (id ∈ M) := by
  have h := fnd_is (l := mk M) (k := id)
  rw [mk_keys] at h
  cases hf : fnd (mk M) id with
  | none => rw [hf] at h; exact h
  | some b =>
    rw [hf] at h
    have hm := fnd_some hf
    obtain ⟨i, _, e⟩ := List.mem_map.1 hm
    injection e with _ e2
    rw [← e2, ← h]; rfl
theorem rise_same {ks : List Int} {D : List (Int × Ls)} (h : Sd D) (p : Int × Ls → Bool) (hp : ks.Perm ((D.filter p).map Prod.fst)) (hs : ks.Pairwise (· ≤ ·)) : ks = (D.filter p).map Prod.fst :=
  List.Perm.eq_of_pairwise (le := (· ≤ ·)) (fun a b _ _ h1 h2 => Int.le_antisymm h1 h2) hs (h.filter p).keys hp
/-- Each timer is of a lease. -/
def Tk (D : List (Int × Ls)) (T : List (Int × Int)) : Prop := ∀ a ∈ T, a.1 ∈ D.map Prod.fst
theorem Tk.nil : Tk [] [] := fun a h => by cases h
theorem Tk.perm {D D' : List (Int × Ls)} {T : List (Int × Int)} (h : Tk D T) (hp : D.Perm D') : Tk D' T := fun a ha => (hp.map Prod.fst).mem_iff.1 (h a ha)
theorem Tk.end_ {D : List (Int × Ls)} {T : List (Int × Int)} (h : Tk D T) (id : Int) : Tk (Mt.wo D id) (Wl.wo T id) := by
  intro a ha
  obtain ⟨h1, h2⟩ := Wl.mem_wo.1 ha
  obtain ⟨x, hx⟩ := mem_key.1 (h a h1)
  exact mem_key.2 ⟨x, mem_wo.2 ⟨hx, h2⟩⟩
theorem Tk.leaks {D : List (Int × Ls)} {T : List (Int × Int)} (h : Tk D T) (now : Int) (ids : List Int) : Tk (fld D ids) (Wl.left T now) := by
  intro a ha
  rw [fld_keys]
  exact h a (Wl.mem_left.1 ha).1
theorem Tk.due {D : List (Int × Ls)} {T : List (Int × Int)} (h : Tk D T) (now : Int) : ∀ y ∈ (Wl.due T now).map Prod.fst, y ∈ D.map Prod.fst := by
  intro y hy
  obtain ⟨a, ha, rfl⟩ := List.mem_map.1 hy
  exact h a (Wl.mem_due.1 ha).1
/-- What Begin answers, where there is room. -/
def bE (D : List (Int × Ls)) (id th : Int) : Int := if th < 0 ∨ 8 ≤ th then 2 else if (fnd D id).isSome = true then 10 else 0
def bL (D : List (Int × Ls)) (id th now : Int) : List (Int × Ls) := if bE D id th = 0 then (id, ⟨th, now, false⟩) :: D else D
def bT (leak : Int) (D : List (Int × Ls)) (T : List (Int × Int)) (id th now : Int) : List (Int × Int) := if bE D id th = 0 ∧ leak ≠ 0 then Wl.arm T id (cAdd now leak) else T
theorem arm_put {T : List (Int × Int)} {id now leak : Int} (h : T.length ≤ 1000) : Wl.arm T id (cAdd now leak) = Wl.ins (id, cAdd now leak) (Wl.wo T id) := arm_room' h (cAdd_hi _ _)
theorem bL_len (D : List (Int × Ls)) (id th now : Int) : (bL D id th now).length ≤ D.length + 1 := by unfold bL; split <;> simp
theorem bT_len (leak : Int) (D : List (Int × Ls)) {T : List (Int × Int)} (id th now : Int) (h : T.length ≤ 1000) : (bT leak D T id th now).length ≤ T.length + 1 := by
  unfold bT; split
  · rw [arm_put h]
    have h1 := Wl.wo_len T id
    have h2 : ∀ (a : Int × Int) (l : List (Int × Int)), (Wl.ins a l).length = l.length + 1 := fun a l => Wl.ins_len a l
    rw [h2]; omega
  · omega
theorem Tk.begin_ {D : List (Int × Ls)} {T : List (Int × Int)} (h : Tk D T) (leak id th now : Int) (hT : T.length ≤ 1000) : Tk (bL D id th now) (bT leak D T id th now) := by
  unfold bL bT
  by_cases h0 : bE D id th = 0
  · rw [if_pos h0]
    have h2 : Tk ((id, ⟨th, now, false⟩) :: D) T := fun a ha => List.mem_cons_of_mem _ (h a ha)
    split
    · rw [arm_put hT]
      intro a ha
      rcases Wl.mem_put.1 (show (a.1, a.2) ∈ _ from ha) with e | ⟨hm, _⟩
      · injection e with e1 _; rw [e1]; simp
      · exact h2 _ hm
    · exact h2
  · rw [if_neg h0, if_neg (fun h9 => h0 h9.1)]; exact h
theorem bE_zero {D : List (Int × Ls)} {id th : Int} (h : bE D id th = 0) : (0 ≤ th ∧ th < 8) ∧ fnd D id = none := by
  unfold bE at h
  split at h
  · cases h
  · split at h
    · cases h
    · rename_i h1 h2
      refine ⟨by omega, ?_⟩
      cases hf : fnd D id with
      | none => rfl
      | some y => rw [hf] at h2; simp at h2
end Go.Proofs.YtbdcdofjcljliaaGreatDoor.Le
