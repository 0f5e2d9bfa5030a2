/- Slots as a list: thread, deadline, id. No program is named here. -/
import Derived.ProofKit
namespace Go.Proofs.YtbedboekfkobjaaGreatDoor.St
set_option linter.unusedVariables false

abbrev Sx := Int × Int × Int
def hit (t : Int) (x : Sx) : Bool := x.1 == t
def free (x : Sx) : Bool := x.2.2 == 0
/-- The first k are not so. -/
def Miss (p : Sx → Bool) (l : List Sx) (k : Nat) : Prop := ∀ j x, j < k → l[j]? = some x → p x = false
theorem Miss.zero (p : Sx → Bool) (l : List Sx) : Miss p l 0 := fun _ _ h => absurd h (by omega)
theorem Miss.succ {p : Sx → Bool} {l : List Sx} {k : Nat} {x : Sx} (h : Miss p l k) (hx : l[k]? = some x) (hp : p x = false) : Miss p l (k + 1) := by
  intro j y hj hy
  by_cases e : j = k
  · subst e; rw [hx] at hy; injection hy with hy; subst hy; exact hp
  · exact h j y (by omega) hy
theorem ix_some {p : Sx → Bool} {l : List Sx} {k : Nat} {x : Sx} (h : Miss p l k) (hx : l[k]? = some x) (hp : p x = true) : l.findIdx? p = some k := by
  obtain ⟨hk, rfl⟩ := List.getElem?_eq_some_iff.1 hx
  rw [List.findIdx?_eq_some_iff_getElem]
  exact ⟨hk, hp, fun j hj => by rw [h j _ hj (List.getElem?_eq_getElem (by omega))]; simp⟩
theorem ix_none {p : Sx → Bool} {l : List Sx} (h : Miss p l l.length) : l.findIdx? p = none := by
  rw [List.findIdx?_eq_none_iff]
  intro x hx
  obtain ⟨j, hj, rfl⟩ := List.getElem_of_mem hx
  exact h j _ hj (List.getElem?_eq_getElem hj)
theorem ix_hit {p : Sx → Bool} {l : List Sx} {k : Nat} (h : l.findIdx? p = some k) : ∃ x, l[k]? = some x ∧ p x = true ∧ k < l.length := by
  rw [List.findIdx?_eq_some_iff_getElem] at h
  obtain ⟨hk, hp, _⟩ := h
  exact ⟨l[k], List.getElem?_eq_getElem hk, hp, hk⟩
/-- As the number that is told: -1 of none. -/
def ixZ (p : Sx → Bool) (l : List Sx) : Int := match l.findIdx? p with
  | some k => k
  | none => -1
theorem ixZ_some {p : Sx → Bool} {l : List Sx} {k : Nat} (h : l.findIdx? p = some k) : ixZ p l = k := by unfold ixZ; rw [h]
theorem ixZ_none {p : Sx → Bool} {l : List Sx} (h : l.findIdx? p = none) : ixZ p l = -1 := by unfold ixZ; rw [h]
/-- What is parked, filled, taken. -/
def parkL (l : List Sx) (t d : Int) : List Sx := if (l.findIdx? (hit t)).isSome then l else l ++ [(t, d, 0)]
def parkE (l : List Sx) (t : Int) : Int := if (l.findIdx? (hit t)).isSome then 10 else 0
def fillAt (l : List Sx) (k : Nat) (x : Sx) (i : Int) : List Sx := l.set k (x.1, x.2.1, i)
def waitN (l : List Sx) : Nat := l.countP free
theorem park_hit {l : List Sx} {t d : Int} {k : Nat} (h : l.findIdx? (hit t) = some k) : parkL l t d = l ∧ parkE l t = 10 := by simp [parkL, parkE, h]
theorem park_miss {l : List Sx} {t d : Int} (h : l.findIdx? (hit t) = none) : parkL l t d = l ++ [(t, d, 0)] ∧ parkE l t = 0 := by simp [parkL, parkE, h]
theorem park_len (l : List Sx) (t d : Int) : (parkL l t d).length ≤ l.length + 1 := by unfold parkL; split <;> simp
theorem fillAt_len (l : List Sx) (k : Nat) (x : Sx) (i : Int) : (fillAt l k x i).length = l.length := by simp [fillAt]
theorem erase_len {l : List Sx} {k : Nat} (h : k < l.length) : (l.eraseIdx k).length + 1 = l.length := by rw [List.length_eraseIdx]; simp [h]; omega
theorem waitN_snoc {l : List Sx} {k : Nat} {x : Sx} (h : l[k]? = some x) : waitN (l.take (k + 1)) = waitN (l.take k) + (if free x then 1 else 0) := by
  rw [List.take_add_one, h]
  simp [waitN, List.countP_append, List.countP_cons]
theorem waitN_le (l : List Sx) : waitN l ≤ l.length := List.countP_le_length

/-! ### Who parked first -/
/-- Threads that park, of which the first have got these. -/
def stt : List Int → List Int → List Sx
  | [], _ => []
  | t :: R, [] => (t, 1, 0) :: stt R []
  | t :: R, h :: H => (t, 1, h) :: stt R H
theorem stt_len : ∀ R H, (stt R H).length = R.length
  | [], _ => rfl
  | t :: R, [] => by simp [stt, stt_len R []]
  | t :: R, h :: H => by simp [stt, stt_len R H]
theorem stt_at : ∀ (R H : List Int) (k : Nat) (x : Sx), (stt R H)[k]? = some x → R[k]? = some x.1 ∧ x.2.1 = 1 ∧ x.2.2 = H.getD k 0
  | [], _, k, x, h => by simp [stt] at h
  | t :: R, [], 0, x, h => by simp [stt] at h; subst h; simp
  | t :: R, [], k + 1, x, h => by simpa using stt_at R [] k x (by simpa [stt] using h)
  | t :: R, a :: H, 0, x, h => by simp [stt] at h; subst h; simp
  | t :: R, a :: H, k + 1, x, h => by simpa using stt_at R H k x (by simpa [stt] using h)
theorem stt_get (R H : List Int) {k : Nat} {t : Int} (h : R[k]? = some t) : (stt R H)[k]? = some (t, 1, H.getD k 0) := by
  have hk : k < (stt R H).length := by rw [stt_len]; exact (List.getElem?_eq_some_iff.1 h).1
  have h1 := List.getElem?_eq_getElem hk
  obtain ⟨a, b, c⟩ := stt_at R H k _ h1
  rw [h1]
  rw [h] at a
  injection a with a
  have : (stt R H)[k] = ((stt R H)[k].1, (stt R H)[k].2.1, (stt R H)[k].2.2) := rfl
  rw [this, ← a, b, c]
theorem stt_snoc (R : List Int) (t : Int) : stt (R ++ [t]) [] = stt R [] ++ [(t, 1, 0)] := by
  induction R with
  | nil => rfl
  | cons a R ih => simp [stt, ih]
theorem stt_thread (R H : List Int) (t : Int) : ((stt R H).findIdx? (hit t)).isSome = decide (t ∈ R) := by
  rw [List.findIdx?_isSome, Bool.eq_iff_iff, List.any_eq_true, decide_eq_true_eq]
  constructor
  · rintro ⟨x, hx, he⟩
    obtain ⟨j, hj, rfl⟩ := List.getElem_of_mem hx
    obtain ⟨a, _, _⟩ := stt_at R H j _ (List.getElem?_eq_getElem hj)
    simp [hit] at he
    rw [he] at a
    exact List.mem_of_getElem? a
  · intro h
    obtain ⟨j, hj, rfl⟩ := List.getElem_of_mem h
    refine ⟨_, List.mem_of_getElem? (stt_get R H (List.getElem?_eq_getElem hj)), by simp [hit]⟩
theorem getD_one {H : List Int} {j : Nat} (hH : ∀ h ∈ H, h ≠ 0) (hj : j < H.length) : H.getD j 0 ≠ 0 := by
  rw [List.getD_eq_getElem?_getD, List.getElem?_eq_getElem hj]
  exact hH _ (List.getElem_mem hj)
theorem stt_free {R H : List Int} (hH : ∀ h ∈ H, h ≠ 0) (hl : H.length < R.length) : (stt R H).findIdx? free = some H.length := by
  have hx := stt_get R H (List.getElem?_eq_getElem hl)
  refine ix_some (fun j x hj h => ?_) hx (by simp [free])
  obtain ⟨_, _, c⟩ := stt_at R H j x h
  have := getD_one hH hj
  simp only [free, c]
  simpa using this
theorem stt_full {R H : List Int} (hH : ∀ h ∈ H, h ≠ 0) (hl : R.length ≤ H.length) : (stt R H).findIdx? free = none := by
  refine ix_none (fun j x hj h => ?_)
  rw [stt_len] at hj
  obtain ⟨_, _, c⟩ := stt_at R H j x h
  have := getD_one hH (show j < H.length by omega)
  simp only [free, c]
  simpa using this
theorem stt_fill {R H : List Int} (hl : H.length < R.length) (i : Int) : fillAt (stt R H) H.length (R[H.length], 1, 0) i = stt R (H ++ [i]) := by
  apply List.ext_getElem?
  intro k
  unfold fillAt
  rw [List.getElem?_set]
  by_cases hk : k < R.length
  · have h1 := stt_get R H (List.getElem?_eq_getElem hk)
    have h2 := stt_get R (H ++ [i]) (List.getElem?_eq_getElem hk)
    rw [h2]
    split
    · rename_i e
      subst e
      simp [stt_len, hl]
    · rename_i e
      rw [h1]
      congr 3
      simp only [List.getD_eq_getElem?_getD, List.getElem?_append]
      split
      · rfl
      · have q1 : H[k]? = none := List.getElem?_eq_none (by omega)
        have q2 : [i][k - H.length]? = none := List.getElem?_eq_none (by simp; omega)
        rw [q1, q2]
  · rw [List.getElem?_eq_none (by rw [stt_len]; omega)]
    split
    · omega
    · exact (List.getElem?_eq_none (l := stt R (H ++ [i])) (by rw [stt_len]; omega)).symm
theorem stt_head (t : Int) (R H : List Int) : stt (t :: R) H = (t, 1, H.getD 0 0) :: stt R H.tail := by cases H <;> simp [stt]
theorem stt_drop {R H : List Int} {i : Nat} {t : Int} (h : R[i]? = some t) : stt (R.drop i) (H.drop i) = (t, 1, H.getD i 0) :: stt (R.drop (i + 1)) (H.drop (i + 1)) := by
  obtain ⟨hi, rfl⟩ := List.getElem?_eq_some_iff.1 h
  rw [List.drop_eq_getElem_cons hi, stt_head]
  simp [List.tail_drop, List.getD_eq_getElem?_getD]
theorem first_hit (t d i : Int) (l : List Sx) : ((t, d, i) :: l).findIdx? (hit t) = some 0 := by simp [List.findIdx?_cons, hit]

/-! ### Who leaves -/
/-- Threads that wait. -/
def wt (R : List Int) : List Sx := R.map fun t => (t, 3, 0)
theorem wt_len (R : List Int) : (wt R).length = R.length := by simp [wt]
theorem wt_thread (R : List Int) (t : Int) : ((wt R).findIdx? (hit t)).isSome = decide (t ∈ R) := by
  rw [List.findIdx?_isSome, Bool.eq_iff_iff, List.any_eq_true, decide_eq_true_eq]
  constructor
  · rintro ⟨x, hx, he⟩
    simp [wt] at hx
    obtain ⟨a, ha, rfl⟩ := hx
    simp [hit] at he
    exact he ▸ ha
  · intro h
    exact ⟨(t, 3, 0), by simp [wt]; exact h, by simp [hit]⟩
theorem wt_snoc (R : List Int) (t : Int) : wt (R ++ [t]) = wt R ++ [(t, 3, 0)] := by simp [wt]
/-- All but the thread's. -/
def others (t : Int) (l : List Sx) : List Sx := l.filter fun x => !hit t x
theorem others_none {t : Int} {l : List Sx} (h : l.findIdx? (hit t) = none) : others t l = l := by
  rw [List.findIdx?_eq_none_iff] at h
  refine List.filter_eq_self.2 fun x hx => ?_
  rw [h x hx]; rfl
theorem wt_leave : ∀ {R : List Int} (hn : R.Nodup) {t : Int} {k : Nat}, (wt R).findIdx? (hit t) = some k → others t (wt R) = (wt R).eraseIdx k
  | [], _, t, k, h => by simp [wt] at h
  | a :: R, hn, t, k, h => by
    rw [List.nodup_cons] at hn
    have hc : wt (a :: R) = (a, 3, 0) :: wt R := rfl
    rw [hc] at h ⊢
    rw [List.findIdx?_cons] at h
    by_cases e : a = t
    · subst e
      have e1 : hit a (a, 3, 0) = true := by simp [hit]
      rw [if_pos e1] at h
      injection h with h
      subst h
      have h2 : others a (wt R) = wt R := others_none (by
        have := wt_thread R a
        rw [decide_eq_false hn.1] at this
        cases hq : (wt R).findIdx? (hit a) with
        | none => rfl
        | some q => rw [hq] at this; cases this)
      simp [others, e1] at h2 ⊢
      exact h2
    · have e1 : hit t (a, 3, 0) = false := by simp [hit, e]
      rw [if_neg (by rw [e1]; simp)] at h
      cases hq : (wt R).findIdx? (hit t) with
      | none => rw [hq] at h; cases h
      | some q =>
        rw [hq] at h
        simp at h
        subst h
        have := wt_leave hn.2 hq
        simp [others, e1] at this ⊢
        exact this
theorem wt_erase (R : List Int) (k : Nat) : (wt R).eraseIdx k = wt (R.eraseIdx k) := by
  simp [wt, List.eraseIdx_eq_take_drop_succ, List.map_take, List.map_drop]
theorem wt_wait (R : List Int) : waitN (wt R) = R.length := by
  unfold waitN
  rw [List.countP_eq_length.2, wt_len]
  intro x hx
  simp [wt] at hx
  obtain ⟨t, _, rfl⟩ := hx
  rfl
theorem wt_free (t : Int) (R : List Int) : (wt (t :: R)).findIdx? free = some 0 := by simp [wt, List.findIdx?_cons, free]
theorem wt_at {R : List Int} {k : Nat} {x : Sx} (h : (wt R)[k]? = some x) : ∃ t, R[k]? = some t ∧ x = (t, 3, 0) := by
  simp [wt] at h
  obtain ⟨t, h1, rfl⟩ := h
  exact ⟨t, h1, rfl⟩
end Go.Proofs.YtbedboekfkobjaaGreatDoor.St
