/- A book's leases and timers, as lists: what LeaseHolds keeps. No program is named here. -/
import Derived.Test.YtbdcdofjcljliaaGreatDoorLeaseD
namespace Go.Proofs.YtbdcdofjcljliaaGreatDoor.Le
open Go.ChangeShapes Go.WideShapes Go.ChangeAt Go.RowKit Go.Maps Rw Hi Mt Ck
set_option linter.unusedVariables false

theorem fnd_wo {β : Type} (l : List (Int × β)) (k j : Int) : fnd (Mt.wo l k) j = if j = k then none else fnd l j := by
  by_cases h : j = k
  · subst h; rw [if_pos rfl, fnd_wo_same]
  · rw [if_neg h, fnd_wo_ne l h]
theorem fnd_put {β : Type} (l : List (Int × β)) (k j : Int) (x : β) : fnd ((k, x) :: Mt.wo l k) j = if j = k then some x else fnd l j := by
  by_cases h : j = k
  · subst h; rw [if_pos rfl, fnd_cons_same]
  · rw [if_neg h, fnd_cons_ne _ x h, fnd_wo_ne l h]
/-- A lease flagged. -/
def fl1 (x : Ls) : Ls := ⟨x.thread, x.since, true⟩
theorem fnd_flg (L : List (Int × Ls)) (id j : Int) : fnd (flg L id) j = if j = id then some (fl1 ((fnd L id).getD Z0)) else fnd L j := by
  unfold flg; rw [fnd_put]; rfl
theorem fnd_flgs : ∀ (ids : List Int) (L : List (Int × Ls)) (j : Int), fnd (flgs L ids) j = if j ∈ ids then some (fl1 ((fnd L j).getD Z0)) else fnd L j := by
  intro ids
  induction ids with
  | nil => intro L j; simp [flgs]
  | cons y l ih =>
    intro L j
    have h : flgs L (y :: l) = flgs (flg L y) l := rfl
    rw [h, ih, fnd_flg]
    by_cases h1 : j ∈ l
    · by_cases h2 : j = y
      · subst h2; simp [h1, fl1]
      · simp [h1, h2]
    · by_cases h2 : j = y
      · subst h2; simp [h1]
      · simp [h1, h2]
theorem nd_flgs : ∀ (ids : List Int) (L : List (Int × Ls)), Nd L → Nd (flgs L ids) := by
  intro ids
  induction ids with
  | nil => intro L h; exact h
  | cons y l ih => intro L h; exact ih _ (h.cons y _)
/-- Where all that is flagged is leased, no lease comes. -/
theorem flgs_keys : ∀ {ids : List Int} {L : List (Int × Ls)}, Nd L → (∀ y ∈ ids, y ∈ L.map Prod.fst) → (flgs L ids).length = L.length := by
  intro ids
  induction ids with
  | nil => intro L _ _; rfl
  | cons y l ih =>
    intro L h hm
    have h1 : (flg L y).length = L.length := by
      have := Mt.wo_len h (hm y (by simp))
      simp [flg]; omega
    have h2 := ih (L := flg L y) (h.cons y _) (fun z hz => by
      by_cases e : z = y
      · subst e; simp [flg]
      · have := hm z (by simp [hz])
        obtain ⟨x, hx⟩ := mem_key.1 this
        exact mem_key.2 ⟨x, by unfold flg; exact List.mem_cons_of_mem _ (mem_wo.2 ⟨hx, e⟩)⟩)
    show (flgs (flg L y) l).length = _
    omega
/-- What holds of leases and timers. -/
structure Iv (leak : Int) (L : List (Int × Ls)) (T : List (Int × Int)) : Prop where
  th : ∀ k x, fnd L k = some x → (0 ≤ x.thread ∧ x.thread < 8) ∧ (0 ≤ x.since ∧ x.since ≤ 576460752303423488) ∧ U64 k
  t1 : ∀ k t, (k, t) ∈ T → leak ≠ 0 ∧ ∃ x, fnd L k = some x ∧ x.flag = false ∧ t = x.since + leak
  t2 : leak ≠ 0 → ∀ k x, fnd L k = some x → x.flag = false → ∃ t, (k, t) ∈ T
  t3 : leak = 0 → ∀ k x, fnd L k = some x → x.flag = false
theorem Iv.nil (leak : Int) : Iv leak [] [] := ⟨fun k x h => by (cases h), fun k t h => by (cases h), fun _ k x h => by (cases h), fun _ k x h => by (cases h)⟩
theorem arm_room' {T : List (Int × Int)} {x t : Int} (h : T.length ≤ 1000) (ht : t ≤ 1152921504606846976) : Wl.arm T x t = Wl.ins (x, t) (Wl.wo T x) := by
  have hf : Wl.full T x = false := decide_eq_false (by have := Wl.wo_len T x; omega)
  unfold Wl.arm Wl.cut
  rw [hf, if_pos ht]; rfl
theorem Iv.begin0 {L : List (Int × Ls)} {T : List (Int × Int)} {id th now : Int} (h : Iv 0 L T) (hidu : U64 id) (hth : 0 ≤ th ∧ th < 8) (hnow : 0 ≤ now ∧ now ≤ 576460752303423488) : Iv 0 ((id, ⟨th, now, false⟩) :: Mt.wo L id) T := by
  refine ⟨fun k x hx => ?_, fun k t hk => absurd rfl (h.t1 k t hk).1, fun h0 => absurd rfl h0, fun _ k x hx => ?_⟩
  · rw [fnd_put] at hx
    split at hx
    · rename_i e; injection hx with hx; subst hx; subst e; exact ⟨hth, hnow, hidu⟩
    · exact h.th k x hx
  · rw [fnd_put] at hx
    split at hx
    · injection hx with hx; subst hx; rfl
    · exact h.t3 rfl k x hx
theorem Iv.begin1 {leak : Int} {L : List (Int × Ls)} {T : List (Int × Int)} {id th now : Int} (h : Iv leak L T) (hidu : U64 id) (hid : fnd L id = none) (h0 : leak ≠ 0) (hlk : 0 ≤ leak ∧ leak ≤ 576460752303423488) (hT : T.length ≤ 1000) (hth : 0 ≤ th ∧ th < 8) (hnow : 0 ≤ now ∧ now ≤ 576460752303423488) :
    Iv leak ((id, ⟨th, now, false⟩) :: Mt.wo L id) (Wl.arm T id (cAdd now leak)) := by
  have hc : cAdd now leak = now + leak := by unfold cAdd; rw [if_pos (by omega)]
  rw [hc, arm_room' hT (by omega)]
  refine ⟨fun k x hx => ?_, fun k t hk => ?_, fun _ k x hx hf => ?_, fun e => absurd e h0⟩
  · rw [fnd_put] at hx
    split at hx
    · rename_i e; injection hx with hx; subst hx; subst e; exact ⟨hth, hnow, hidu⟩
    · exact h.th k x hx
  · rcases Wl.mem_put.1 hk with e | ⟨hm, hne⟩
    · injection e with e1 e2
      subst e1 e2
      exact ⟨h0, _, by rw [fnd_put, if_pos rfl], rfl, rfl⟩
    · obtain ⟨a, x, h1, h2, h3⟩ := h.t1 k t hm
      exact ⟨h0, x, by rw [fnd_put, if_neg hne]; exact h1, h2, h3⟩
  · rw [fnd_put] at hx
    split at hx
    · rename_i e
      exact ⟨now + leak, Wl.mem_put.2 (.inl (by rw [e]))⟩
    · rename_i e
      obtain ⟨t, ht⟩ := h.t2 h0 k x hx hf
      exact ⟨t, Wl.mem_put.2 (.inr ⟨ht, e⟩)⟩
theorem Iv.end_ {leak : Int} {L : List (Int × Ls)} {T : List (Int × Int)} (h : Iv leak L T) (id : Int) : Iv leak (Mt.wo L id) (Wl.wo T id) := by
  refine ⟨fun k x hx => ?_, fun k t hk => ?_, fun h0 k x hx hf => ?_, fun h0 k x hx => ?_⟩
  · rw [fnd_wo] at hx; split at hx; cases hx; exact h.th k x hx
  · obtain ⟨hm, hne⟩ := Wl.mem_wo.1 hk
    obtain ⟨a, x, h1, h2, h3⟩ := h.t1 k t hm
    exact ⟨a, x, by rw [fnd_wo, if_neg hne]; exact h1, h2, h3⟩
  · rw [fnd_wo] at hx
    split at hx
    · cases hx
    · rename_i e
      obtain ⟨t, ht⟩ := h.t2 h0 k x hx hf
      exact ⟨t, Wl.mem_wo.2 ⟨ht, e⟩⟩
  · rw [fnd_wo] at hx; split at hx; cases hx; exact h.t3 h0 k x hx
theorem Iv.due_at {leak : Int} {L : List (Int × Ls)} {T : List (Int × Int)} (h : Iv leak L T) {now k : Int} (hk : k ∈ (Wl.due T now).map Prod.fst) : leak ≠ 0 ∧ ∃ x, fnd L k = some x ∧ x.flag = false ∧ x.since + leak ≤ now ∧ 0 ≤ x.since ∧ x.since ≤ 576460752303423488 := by
  obtain ⟨a, ha, rfl⟩ := List.mem_map.1 hk
  obtain ⟨hm, ht⟩ := Wl.mem_due.1 ha
  obtain ⟨h0, x, h1, h2, h3⟩ := h.t1 a.1 a.2 hm
  exact ⟨h0, x, h1, h2, by omega, (h.th _ _ h1).2.1⟩
theorem Iv.leaks {leak : Int} {L : List (Int × Ls)} {T : List (Int × Int)} (h : Iv leak L T) (hT : Wl.Tms T) (now : Int) : Iv leak (flgs L ((Wl.due T now).map Prod.fst)) (Wl.left T now) := by
  have hx : ∀ k x, fnd (flgs L ((Wl.due T now).map Prod.fst)) k = some x → ∃ y, fnd L k = some y ∧ ((k ∈ (Wl.due T now).map Prod.fst ∧ x = fl1 y) ∨ (k ∉ (Wl.due T now).map Prod.fst ∧ x = y)) := by
    intro k x hx
    rw [fnd_flgs] at hx
    split at hx
    · rename_i hk
      obtain ⟨_, y, hy, _⟩ := h.due_at hk
      rw [hy] at hx
      injection hx with hx
      exact ⟨y, hy, .inl ⟨hk, hx.symm⟩⟩
    · rename_i hk
      exact ⟨x, hx, .inr ⟨hk, rfl⟩⟩
  refine ⟨fun k x hk => ?_, fun k t hk => ?_, fun h0 k x hk hf => ?_, fun h0 k x hk => ?_⟩
  · obtain ⟨y, hy, ⟨_, rfl⟩ | ⟨_, rfl⟩⟩ := hx k x hk
    · exact h.th k y hy
    · exact h.th k x hy
  · obtain ⟨hm, ht⟩ := Wl.mem_left.1 hk
    obtain ⟨h0, x, h1, h2, h3⟩ := h.t1 k t hm
    refine ⟨h0, x, ?_, h2, h3⟩
    rw [fnd_flgs, if_neg, h1]
    intro hd
    obtain ⟨a, ha, e⟩ := List.mem_map.1 hd
    obtain ⟨ha1, ha2⟩ := Wl.mem_due.1 ha
    have := hT.uniq (show (k, a.2) ∈ T by rw [← e]; exact ha1) hm
    simp at ht; omega
  · obtain ⟨y, hy, ⟨_, rfl⟩ | ⟨hk2, rfl⟩⟩ := hx k x hk
    · cases hf
    · obtain ⟨t, ht⟩ := h.t2 h0 k x hy hf
      refine ⟨t, Wl.mem_left.2 ⟨ht, ?_⟩⟩
      by_cases hle : t ≤ now
      · exact absurd (List.mem_map.2 ⟨(k, t), Wl.mem_due.2 ⟨ht, hle⟩, rfl⟩) hk2
      · show now < t; omega
  · obtain ⟨y, hy, ⟨hd, rfl⟩ | ⟨_, rfl⟩⟩ := hx k x hk
    · exact absurd h0 (h.due_at hd).1
    · exact h.t3 h0 k x hy
/-- What is flagged, and what has a timer, are all leases, or, without Leak, nothing. -/
theorem part_len {α : Type} (p : α → Bool) : ∀ l : List α, (l.filter p).length + (l.filter (fun a => !p a)).length = l.length := by
  intro l
  induction l with
  | nil => rfl
  | cons a r ih => cases h : p a <;> simp [h] <;> omega
theorem Iv.count1 {leak : Int} {L : List (Int × Ls)} {T : List (Int × Int)} (h : Iv leak L T) (hL : Nd L) (hT : Wl.Tms T) (h0 : leak ≠ 0) : T.length + (L.filter (fun a => a.2.flag)).length = L.length := by
  have hp : (T.map Prod.fst).Perm ((L.filter (fun a => !a.2.flag)).map Prod.fst) := by
    refine (List.perm_ext_iff_of_nodup hT.nd (hL.sublist (List.Sublist.map _ List.filter_sublist))).2 fun k => ?_
    constructor
    · intro hk
      obtain ⟨t, ht⟩ := Wl.Tms.mem_key.1 hk
      obtain ⟨_, x, h1, h2, _⟩ := h.t1 k t ht
      exact List.mem_map.2 ⟨(k, x), List.mem_filter.2 ⟨fnd_some h1, by simp [h2]⟩, rfl⟩
    · intro hk
      obtain ⟨a, ha, rfl⟩ := List.mem_map.1 hk
      obtain ⟨ha1, ha2⟩ := List.mem_filter.1 ha
      obtain ⟨t, ht⟩ := h.t2 h0 a.1 a.2 (fnd_mem hL ha1) (by simpa using ha2)
      exact Wl.Tms.mem_key.2 ⟨t, ht⟩
  have h1 := hp.length_eq
  have h2 := part_len (fun a : Int × Ls => a.2.flag) L
  simp only [List.length_map] at h1
  omega
theorem Iv.count0 {L : List (Int × Ls)} {T : List (Int × Int)} (h : Iv 0 L T) (hL : Nd L) : T.length + (L.filter (fun a => a.2.flag)).length = 0 := by
  have h1 : T = [] := List.eq_nil_iff_forall_not_mem.2 fun a ha => absurd rfl (h.t1 a.1 a.2 ha).1
  have h2 : L.filter (fun a => a.2.flag) = [] := List.eq_nil_iff_forall_not_mem.2 fun a ha => by
    obtain ⟨h1, h2⟩ := List.mem_filter.1 ha
    have := h.t3 rfl a.1 a.2 (fnd_mem hL h1)
    rw [this] at h2; cases h2
  rw [h1, h2]; rfl
/-- How many leases the threads below t have. -/
def cnt (L : List (Int × Ls)) (t : Nat) : Nat := (L.filter (fun a => decide (a.2.thread < (t : Int)))).length
theorem cnt_le (L : List (Int × Ls)) (t : Nat) : cnt L t ≤ L.length := List.length_filter_le _ _
theorem cnt_zero {leak : Int} {L : List (Int × Ls)} {T : List (Int × Int)} (h : Iv leak L T) (hL : Nd L) : cnt L 0 = 0 := by
  unfold cnt
  rw [List.length_eq_zero_iff, List.eq_nil_iff_forall_not_mem]
  intro a ha
  obtain ⟨h1, h2⟩ := List.mem_filter.1 ha
  have := (h.th a.1 a.2 (fnd_mem hL h1)).1
  simp at h2; omega
theorem cnt_all {leak : Int} {L : List (Int × Ls)} {T : List (Int × Int)} (h : Iv leak L T) (hL : Nd L) : cnt L 8 = L.length := by
  unfold cnt
  rw [List.filter_eq_self.2]
  intro a ha
  have := (h.th a.1 a.2 (fnd_mem hL ha)).1
  exact decide_eq_true (by omega)
theorem cnt_succ (L : List (Int × Ls)) (t : Nat) : cnt L (t + 1) = cnt L t + (L.filter (fun a => a.2.thread == (t : Int))).length := by
  unfold cnt
  induction L with
  | nil => rfl
  | cons a r ih =>
    by_cases h1 : a.2.thread < (t : Int)
    · have h2 : a.2.thread < ((t + 1 : Nat) : Int) := by omega
      have h3 : ¬ a.2.thread = (t : Int) := by omega
      rw [List.filter_cons_of_pos (by simpa using h2), List.filter_cons_of_pos (by simpa using h1), List.filter_cons_of_neg (by simpa using h3)]
      simp only [List.length_cons]; omega
    · by_cases h3 : a.2.thread = (t : Int)
      · have h2 : a.2.thread < ((t + 1 : Nat) : Int) := by omega
        rw [List.filter_cons_of_pos (by simpa using h2), List.filter_cons_of_neg (by simpa using h1), List.filter_cons_of_pos (by simpa using h3)]
        simp only [List.length_cons]; omega
      · have h2 : ¬ a.2.thread < ((t + 1 : Nat) : Int) := by omega
        rw [List.filter_cons_of_neg (by simpa using h2), List.filter_cons_of_neg (by simpa using h1), List.filter_cons_of_neg (by simpa using h3)]
        omega
theorem held_at {L : List (Int × Ls)} (hL : Nd L) {t k : Int} (h : k ∈ (L.filter (fun a => a.2.thread == t)).map Prod.fst) : ∃ x, fnd L k = some x ∧ x.thread = t := by
  obtain ⟨a, ha, rfl⟩ := List.mem_map.1 h
  obtain ⟨h1, h2⟩ := List.mem_filter.1 ha
  exact ⟨a.2, fnd_mem hL h1, by simpa using h2⟩
end Go.Proofs.YtbdcdofjcljliaaGreatDoor.Le
