/- Plain mathematics of lists without a number twice. -/
namespace Go.Proofs.YtmnjdmcocifogaaGreatDoor.Sn

/-- A number's place, or -1. -/
def sIdx (l : List Int) (x : Int) : Int := if x ∈ l then (l.idxOf x : Int) else -1
theorem sIdx_hit (l : List Int) (x : Int) (k : Nat) (h : l[k]? = some x) (hn : x ∉ l.take k) : sIdx l x = k := by
  have hk := (List.getElem?_eq_some_iff.1 h).1
  have hm : x ∈ l := List.mem_of_getElem? h
  have e : l = l.take k ++ l.drop k := (List.take_append_drop k l).symm
  have hd : l.drop k = x :: l.drop (k + 1) := by
    rw [List.drop_eq_getElem_cons hk]
    congr 1
    exact (List.getElem?_eq_some_iff.1 h).2
  unfold sIdx
  rw [if_pos hm]
  conv => lhs; rw [e]
  rw [List.idxOf_append, if_neg hn, hd, List.idxOf_cons_self]
  simp; omega
theorem sIdx_miss (l : List Int) (x : Int) (h : x ∉ l) : sIdx l x = -1 := by simp [sIdx, h]
theorem sIdx_neg (l : List Int) (x : Int) : sIdx l x < 0 ↔ x ∉ l := by
  unfold sIdx; split <;> simp_all <;> omega
theorem sIdx_lt (l : List Int) (x : Int) : sIdx l x < l.length := by
  unfold sIdx
  split
  · next h => have := List.idxOf_lt_length_of_mem h; omega
  · omega
theorem take_snoc {α : Type} {l : List α} {k : Nat} {x : α} (h : l[k]? = some x) : l.take (k + 1) = l.take k ++ [x] := by
  obtain ⟨hk, rfl⟩ := List.getElem?_eq_some_iff.1 h
  exact List.take_succ_eq_append_getElem hk
theorem not_mem_snoc {l : List Int} {k : Nat} {x y : Int} (h : l[k]? = some y) (hn : x ∉ l.take k) (hne : x ≠ y) : x ∉ l.take (k + 1) := by
  rw [take_snoc h]
  simp [hn, hne]

def sWith (l : List Int) (n : Int) : List Int := if n ∈ l then l else l ++ [n]
def sWithout (l : List Int) (n : Int) : List Int := l.filter (fun x => x != n)
def sOf (l : List Int) : List Int := l.foldl sWith []
theorem sOf_snoc (l : List Int) (x : Int) : sOf (l ++ [x]) = sWith (sOf l) x := by simp [sOf, List.foldl_append]
theorem sOf_take {l : List Int} {k : Nat} {x : Int} (h : l[k]? = some x) : sOf (l.take (k + 1)) = sWith (sOf (l.take k)) x := by rw [take_snoc h, sOf_snoc]
theorem mem_sWith (l : List Int) (n x : Int) : x ∈ sWith l n ↔ x ∈ l ∨ x = n := by
  unfold sWith; split
  · next h => exact ⟨.inl, fun h' => h'.elim id (fun e => e ▸ h)⟩
  · simp
theorem mem_fold (l : List Int) : ∀ (a : List Int) (x : Int), x ∈ l.foldl sWith a ↔ x ∈ a ∨ x ∈ l := by
  induction l with
  | nil => intro a x; simp
  | cons y l ih => intro a x; rw [List.foldl_cons, ih, mem_sWith, List.mem_cons, or_assoc]
theorem mem_sOf (l : List Int) (x : Int) : x ∈ sOf l ↔ x ∈ l := by rw [sOf, mem_fold]; simp
theorem nodup_sWith {l : List Int} (h : l.Nodup) (n : Int) : (sWith l n).Nodup := by
  unfold sWith; split
  · exact h
  · next hn => rw [List.nodup_append]; exact ⟨h, by simp, fun a ha b hb => by simp at hb; subst hb; exact fun e => hn (e ▸ ha)⟩
theorem nodup_fold (l : List Int) : ∀ a : List Int, a.Nodup → (l.foldl sWith a).Nodup := by
  induction l with
  | nil => intro a h; exact h
  | cons y l ih => intro a h; exact ih _ (nodup_sWith h y)
theorem nodup_sOf (l : List Int) : (sOf l).Nodup := nodup_fold l [] List.nodup_nil
theorem nodup_sWithout {l : List Int} (h : l.Nodup) (n : Int) : (sWithout l n).Nodup := h.filter _
theorem mem_sWithout (l : List Int) (n x : Int) : x ∈ sWithout l n ↔ x ∈ l ∧ x ≠ n := by simp [sWithout]
theorem sWith_len (l : List Int) (n : Int) : (sWith l n).length ≤ l.length + 1 := by unfold sWith; split <;> simp
theorem fold_len (l : List Int) : ∀ a : List Int, (l.foldl sWith a).length ≤ a.length + l.length := by
  induction l with
  | nil => intro a; simp
  | cons y l ih => intro a; have := ih (sWith a y); have := sWith_len a y; simp only [List.foldl_cons, List.length_cons]; omega
theorem sOf_len (l : List Int) : (sOf l).length ≤ l.length := by have := fold_len l []; simpa [sOf] using this
theorem sWithout_len (l : List Int) (n : Int) : (sWithout l n).length ≤ l.length := List.length_filter_le _ _
theorem sWithout_none {l : List Int} {n : Int} (h : n ∉ l) : sWithout l n = l := by
  unfold sWithout
  exact List.filter_eq_self.2 fun x hx => by simp; exact fun e => h (e ▸ hx)
/-- What stands ahead of its place, and what stands behind it. -/
theorem sWithout_cut {l : List Int} {n : Int} {k : Nat} (hnd : l.Nodup) (h : l[k]? = some n) : l.take k ++ l.drop (k + 1) = sWithout l n := by
  have hk := (List.getElem?_eq_some_iff.1 h).1
  have hd : l.drop k = n :: l.drop (k + 1) := by
    rw [List.drop_eq_getElem_cons hk]
    congr 1
    exact (List.getElem?_eq_some_iff.1 h).2
  have e : l = l.take k ++ n :: l.drop (k + 1) := by rw [← hd, List.take_append_drop]
  have hnd' := hnd
  rw [e, List.nodup_append] at hnd'
  obtain ⟨_, h2, h3⟩ := hnd'
  have a1 : n ∉ l.take k := fun hm => h3 n hm n (by simp) rfl
  have a2 : n ∉ l.drop (k + 1) := (List.nodup_cons.1 h2).1
  conv => rhs; rw [e]
  unfold sWithout
  rw [List.filter_append, List.filter_cons]
  have b1 := sWithout_none a1
  have b2 := sWithout_none a2
  unfold sWithout at b1 b2
  rw [b1, b2]
  simp
theorem sIdx_get {l : List Int} {x : Int} (h : x ∈ l) : ∃ k : Nat, sIdx l x = k ∧ k < l.length ∧ l[k]? = some x := by
  refine ⟨l.idxOf x, by simp [sIdx, h], List.idxOf_lt_length_of_mem h, ?_⟩
  rw [List.getElem?_eq_getElem (List.idxOf_lt_length_of_mem h), List.getElem_idxOf]
def U64s (l : List Int) : Prop := ∀ x ∈ l, 0 ≤ x ∧ x ≤ 18446744073709551615
theorem U64s.with_ {l : List Int} (h : U64s l) {n : Int} (h0 : 0 ≤ n) (h1 : n ≤ 18446744073709551615) : U64s (sWith l n) := fun x hx => by
  rcases (mem_sWith l n x).1 hx with hx | rfl
  · exact h x hx
  · exact ⟨h0, h1⟩
theorem U64s.without {l : List Int} (h : U64s l) (n : Int) : U64s (sWithout l n) := fun x hx => h x ((mem_sWithout l n x).1 hx).1
theorem U64s.of {l : List Int} (h : U64s l) : U64s (sOf l) := fun x hx => h x ((mem_sOf l x).1 hx)
theorem U64s.take {l : List Int} (h : U64s l) (k : Nat) : U64s (l.take k) := fun x hx => h x (List.mem_of_mem_take hx)
theorem U64s.get {l : List Int} (h : U64s l) {k : Nat} {x : Int} (hx : l[k]? = some x) : 0 ≤ x ∧ x ≤ 18446744073709551615 := h x (List.mem_of_getElem? hx)

/-- In the order in which they came first. -/
theorem order_sOf (l : List Int) : (sOf l).Pairwise (fun a b => l.idxOf a < l.idxOf b) := by
  induction h : l.length generalizing l with
  | zero => obtain rfl := List.eq_nil_of_length_eq_zero h; simp [sOf]
  | succ n ih =>
    obtain ⟨l, y, rfl⟩ : ∃ l' y, l = l' ++ [y] := ⟨l.dropLast, l.getLast (by intro e; simp [e] at h), (List.dropLast_concat_getLast _).symm⟩
    have ih := ih l (by simpa using h)
    have keep : (sOf l).Pairwise (fun a b => (l ++ [y]).idxOf a < (l ++ [y]).idxOf b) := by
      refine ih.imp_of_mem fun {a b} ha hb hab => ?_
      rw [List.idxOf_append, if_pos ((mem_sOf l a).1 ha), List.idxOf_append, if_pos ((mem_sOf l b).1 hb)]
      exact hab
    rw [sOf_snoc]
    unfold sWith
    split
    · exact keep
    · next hy =>
      rw [List.pairwise_append]
      refine ⟨keep, by simp, fun a ha b hb => ?_⟩
      simp at hb
      subst hb
      have hbl : b ∉ l := fun h => hy ((mem_sOf l b).2 h)
      have hal := (mem_sOf l a).1 ha
      rw [List.idxOf_append, if_pos hal, List.idxOf_append, if_neg hbl]
      have := List.idxOf_lt_length_of_mem hal
      omega
def sLast (l : List Int) (k : Nat) : Int := if k = 0 then -1 else sIdx l ((sOf l).getD (k - 1) 0)
theorem sIdx_mem {l : List Int} {x : Int} (h : x ∈ l) : sIdx l x = l.idxOf x := by simp [sIdx, h]
theorem sLast_lt {l : List Int} {k : Nat} {x : Int} (h : (sOf l)[k]? = some x) : sLast l k < sIdx l x := by
  have hx : x ∈ l := (mem_sOf l x).1 (List.mem_of_getElem? h)
  unfold sLast
  split
  · rw [sIdx_mem hx]; omega
  · next hk =>
    obtain ⟨hkl, rfl⟩ := List.getElem?_eq_some_iff.1 h
    have hk1 : k - 1 < (sOf l).length := by omega
    rw [List.getD_eq_getElem?_getD, List.getElem?_eq_getElem hk1]
    have := List.pairwise_iff_getElem.1 (order_sOf l) (k - 1) k hk1 hkl (by omega)
    rw [Option.getD_some, sIdx_mem hx, sIdx_mem ((mem_sOf l _).1 (List.getElem_mem hk1))]
    omega
theorem sLast_succ {l : List Int} {k : Nat} {x : Int} (h : (sOf l)[k]? = some x) : sLast l (k + 1) = sIdx l x := by
  unfold sLast
  rw [if_neg (by omega), List.getD_eq_getElem?_getD, Nat.add_sub_cancel, h]
  rfl
theorem sIdx_nodup {l : List Int} {k : Nat} {x : Int} (hd : l.Nodup) (h : l[k]? = some x) : sIdx l x = k := by
  apply sIdx_hit l x k h
  intro hm
  obtain ⟨j, hj, hx⟩ := List.mem_iff_getElem.1 hm
  obtain ⟨hk, hx'⟩ := List.getElem?_eq_some_iff.1 h
  rw [List.getElem_take] at hx
  rw [List.length_take] at hj
  have := List.pairwise_iff_getElem.1 hd j k (by omega) hk (by omega)
  rw [hx, hx'] at this
  exact this rfl
/-- Without all of them. -/
def sOut (l : List Int) (s : List Int) : List Int := l.foldl sWithout s
theorem sOut_take {l s : List Int} {k : Nat} {x : Int} (h : l[k]? = some x) : sOut (l.take (k + 1)) s = sWithout (sOut (l.take k) s) x := by
  unfold sOut
  rw [take_snoc h, List.foldl_append]
  rfl
theorem mem_sOut (l : List Int) : ∀ (s : List Int) (x : Int), x ∈ sOut l s ↔ x ∈ s ∧ x ∉ l := by
  induction l with
  | nil => intro s x; simp [sOut]
  | cons y l ih =>
    intro s x
    have := ih (sWithout s y) x
    unfold sOut at this ⊢
    rw [List.foldl_cons, this, mem_sWithout]
    simp only [List.mem_cons, not_or]
    exact ⟨fun ⟨⟨a, b⟩, c⟩ => ⟨a, b, c⟩, fun ⟨a, b, c⟩ => ⟨⟨a, b⟩, c⟩⟩
theorem sOut_all (l : List Int) : sOut l (sOf l) = [] := by
  apply List.eq_nil_iff_forall_not_mem.2
  intro x hx
  have := (mem_sOut l (sOf l) x).1 hx
  exact this.2 ((mem_sOf l x).1 this.1)
theorem sOut_len (l : List Int) : ∀ s : List Int, (sOut l s).length ≤ s.length := by
  induction l with
  | nil => intro s; exact Nat.le_refl _
  | cons y l ih => intro s; exact Nat.le_trans (ih (sWithout s y)) (sWithout_len s y)
theorem sBack (s : List Int) (n : Int) : sWith (sWithout s n) n = sWithout s n ++ [n] := by
  unfold sWith
  rw [if_neg (by rw [mem_sWithout]; simp)]
theorem sBack_idx (s : List Int) (n : Int) : sIdx (sWith (sWithout s n) n) n = ((sWith (sWithout s n) n).length : Int) - 1 := by
  rw [sBack, sIdx_hit _ n (sWithout s n).length (by simp) (by simp [mem_sWithout])]
  simp
theorem sWithout_with (s : List Int) (n : Int) : sWithout (sWith s n) n = sWithout s n := by
  unfold sWith
  split
  · rfl
  · simp [sWithout]
end Go.Proofs.YtmnjdmcocifogaaGreatDoor.Sn
