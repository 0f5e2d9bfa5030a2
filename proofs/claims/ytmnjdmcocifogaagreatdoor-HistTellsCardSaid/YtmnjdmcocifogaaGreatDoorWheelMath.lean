/- Plain mathematics of timers: a list of keys with their ticks, by ticks, and then by keys. -/
namespace Go.Proofs.YtmnjdmcocifogaaGreatDoor.Wl

/-- Does a timer (key, tick) stand ahead of another one? -/
def bf (a b : Int × Int) : Bool := decide (a.2 < b.2) || (decide (a.2 = b.2) && decide (a.1 < b.1))
theorem bf_iff (a b : Int × Int) : bf a b = true ↔ a.2 < b.2 ∨ (a.2 = b.2 ∧ a.1 < b.1) := by simp [bf]
theorem bf_irrefl (a : Int × Int) : ¬ bf a a = true := by rw [bf_iff]; omega
theorem bf_trans {a b c : Int × Int} (h : bf a b = true) (k : bf b c = true) : bf a c = true := by rw [bf_iff] at *; omega
theorem bf_total {a b : Int × Int} (h : a ≠ b) (k : ¬ bf a b = true) : bf b a = true := by
  rw [bf_iff] at *
  have : ¬ (a.1 = b.1 ∧ a.2 = b.2) := fun ⟨h1, h2⟩ => h (Prod.ext h1 h2)
  omega

/-- Two lists that rise and have the same members are one. -/
theorem eq_of_mem {α : Type} {r : α → α → Prop} (irr : ∀ a, ¬ r a a) (tr : ∀ {a b c}, r a b → r b c → r a c) :
    ∀ {l₁ l₂ : List α}, l₁.Pairwise r → l₂.Pairwise r → (∀ x, x ∈ l₁ ↔ x ∈ l₂) → l₁ = l₂
  | [], [], _, _, _ => rfl
  | [], b :: l, _, _, h => absurd ((h b).2 (by simp)) (by simp)
  | a :: l, [], _, _, h => absurd ((h a).1 (by simp)) (by simp)
  | a :: l, b :: l', h1, h2, h => by
    rw [List.pairwise_cons] at h1 h2
    have e : a = b := by
      rcases List.mem_cons.1 ((h a).1 (by simp)) with e | e
      · exact e
      · rcases List.mem_cons.1 ((h b).2 (by simp)) with e' | e'
        · exact e'.symm
        · exact absurd (tr (h1.1 b e') (h2.1 a e)) (irr a)
    subst e
    congr 1
    refine eq_of_mem irr tr h1.2 h2.2 (fun x => ?_)
    have hx := h x
    simp only [List.mem_cons] at hx
    constructor
    · intro m
      rcases hx.1 (.inr m) with e | e
      · subst e; exact absurd (h1.1 x m) (irr x)
      · exact e
    · intro m
      rcases hx.2 (.inr m) with e | e
      · subst e; exact absurd (h2.1 x m) (irr x)
      · exact e

/-- Timers as they stand. -/
structure Tms (l : List (Int × Int)) : Prop where
  srt : l.Pairwise (fun a b => bf a b = true)
  nd : (l.map Prod.fst).Nodup
  ok : ∀ a ∈ l, 0 ≤ a.1 ∧ a.1 ≤ 18446744073709551615 ∧ 0 ≤ a.2 ∧ a.2 ≤ 1152921504606846976

theorem Tms.nil : Tms [] := ⟨List.Pairwise.nil, List.nodup_nil, fun _ h => by cases h⟩
theorem Tms.filter {l : List (Int × Int)} (h : Tms l) (p : Int × Int → Bool) : Tms (l.filter p) :=
  ⟨h.srt.filter p, h.nd.sublist (List.filter_sublist.map _), fun a ha => h.ok a (List.mem_filter.1 ha).1⟩
theorem Tms.uniq {l : List (Int × Int)} (h : Tms l) {k t t' : Int} (h1 : (k, t) ∈ l) (h2 : (k, t') ∈ l) : t = t' := by
  have nd := h.nd
  clear h
  induction l with
  | nil => cases h1
  | cons x l ih =>
    rw [List.map_cons, List.nodup_cons] at nd
    rcases List.mem_cons.1 h1 with e1 | e1 <;> rcases List.mem_cons.1 h2 with e2 | e2
    · rw [← e1] at e2; injection e2 with _ e2; exact e2.symm
    · subst e1; exact absurd (List.mem_map.2 ⟨_, e2, rfl⟩) nd.1
    · subst e2; exact absurd (List.mem_map.2 ⟨_, e1, rfl⟩) nd.1
    · exact ih e1 e2 nd.2
theorem Tms.mem_key {l : List (Int × Int)} {k : Int} : k ∈ l.map Prod.fst ↔ ∃ t, (k, t) ∈ l := by
  rw [List.mem_map]
  constructor
  · rintro ⟨⟨a, b⟩, h, rfl⟩; exact ⟨b, h⟩
  · rintro ⟨t, h⟩; exact ⟨_, h, rfl⟩

/-- Without a key's timer. -/
def wo (l : List (Int × Int)) (k : Int) : List (Int × Int) := l.filter (fun a => a.1 != k)
theorem mem_wo {l : List (Int × Int)} {k : Int} {a : Int × Int} : a ∈ wo l k ↔ a ∈ l ∧ a.1 ≠ k := by simp [wo]
theorem wo_key {l : List (Int × Int)} {k : Int} : k ∉ (wo l k).map Prod.fst := by
  intro h
  obtain ⟨t, ht⟩ := Tms.mem_key.1 h
  exact (mem_wo.1 ht).2 rfl
theorem wo_none {l : List (Int × Int)} {k : Int} (h : k ∉ l.map Prod.fst) : wo l k = l := by
  unfold wo
  rw [List.filter_eq_self]
  intro a ha
  simp
  intro e
  exact h (List.mem_map.2 ⟨a, ha, e⟩)
theorem wo_len (l : List (Int × Int)) (k : Int) : (wo l k).length ≤ l.length := List.length_filter_le _ _
theorem wo_len_has {l : List (Int × Int)} (hn : (l.map Prod.fst).Nodup) {k : Int} (h : k ∈ l.map Prod.fst) : (wo l k).length + 1 = l.length := by
  induction l with
  | nil => cases h
  | cons x l ih =>
    rw [List.map_cons, List.nodup_cons] at hn
    by_cases e : x.1 = k
    · subst e
      have := wo_none hn.1
      unfold wo at this ⊢
      simp [this]
    · have h' : k ∈ l.map Prod.fst := by
        rcases List.mem_cons.1 h with e' | e'
        · exact absurd e'.symm e
        · exact e'
      have := ih hn.2 h'
      unfold wo at this ⊢
      simp [e]
      exact this

/-- A timer put in its place. -/
def ins (t : Int × Int) (l : List (Int × Int)) : List (Int × Int) := l.filter (fun a => bf a t) ++ t :: l.filter (fun a => !bf a t)
theorem mem_ins {t a : Int × Int} {l : List (Int × Int)} : a ∈ ins t l ↔ a = t ∨ a ∈ l := by
  unfold ins
  simp only [List.mem_append, List.mem_cons, List.mem_filter]
  cases bf a t <;> simp <;> constructor <;> rintro (h | h) <;> simp [h]
theorem ins_perm (t : Int × Int) (l : List (Int × Int)) : (ins t l).Perm (t :: l) := by
  unfold ins
  exact List.perm_middle.trans ((List.filter_append_perm _ l).cons t)
theorem ins_len (t : Int × Int) (l : List (Int × Int)) : (ins t l).length = l.length + 1 := by simpa using (ins_perm t l).length_eq
theorem Tms.ins {l : List (Int × Int)} (h : Tms l) {t : Int × Int} (hk : t.1 ∉ l.map Prod.fst) (ht : 0 ≤ t.1 ∧ t.1 ≤ 18446744073709551615 ∧ 0 ≤ t.2 ∧ t.2 ≤ 1152921504606846976) : Tms (ins t l) := by
  refine ⟨?_, ?_, fun a ha => (mem_ins.1 ha).elim (fun e => e ▸ ht) (h.ok a)⟩
  · unfold Wl.ins
    rw [List.pairwise_append]
    refine ⟨h.srt.filter _, List.pairwise_cons.2 ⟨fun a ha => ?_, h.srt.filter _⟩, fun a ha b hb => ?_⟩
    · have hm := List.mem_filter.1 ha
      refine bf_total (fun e => hk ?_) (by simpa using hm.2)
      subst e; exact List.mem_map.2 ⟨_, hm.1, rfl⟩
    · have ha' : bf a t = true := (List.mem_filter.1 ha).2
      rcases List.mem_cons.1 hb with e | e
      · subst e; exact ha'
      · have hm := List.mem_filter.1 e
        refine bf_trans ha' (bf_total (fun e => hk ?_) (by simpa using hm.2))
        subst e; exact List.mem_map.2 ⟨_, hm.1, rfl⟩
  · rw [((ins_perm t l).map Prod.fst).nodup_iff]
    exact List.nodup_cons.2 ⟨hk, h.nd⟩

/-- Those whose tick has come, and those that are left. -/
def due (l : List (Int × Int)) (now : Int) : List (Int × Int) := l.filter (fun a => decide (a.2 ≤ now))
def left (l : List (Int × Int)) (now : Int) : List (Int × Int) := l.filter (fun a => !decide (a.2 ≤ now))
theorem mem_due {l : List (Int × Int)} {now : Int} {a : Int × Int} : a ∈ due l now ↔ a ∈ l ∧ a.2 ≤ now := by simp [due]
theorem mem_left {l : List (Int × Int)} {now : Int} {a : Int × Int} : a ∈ left l now ↔ a ∈ l ∧ now < a.2 := by simp [left]
theorem due_left_len (l : List (Int × Int)) (now : Int) : (due l now).length + (left l now).length = l.length := by
  have := (List.filter_append_perm (fun a : Int × Int => decide (a.2 ≤ now)) l).length_eq
  simpa [due, left] using this

/-- A list whose first i have p, and whose others haven't, parts there. -/
theorem parts {α : Type} {p : α → Bool} : ∀ {l : List α} {i : Nat}, (∀ j x, j < i → l[j]? = some x → p x = true) → (∀ j x, i ≤ j → l[j]? = some x → p x = false) → l.filter p = l.take i ∧ l.filter (fun x => !p x) = l.drop i := by
  intro l i h1 h2
  have e : l = l.take i ++ l.drop i := (List.take_append_drop i l).symm
  have f1 : (l.take i).filter p = l.take i := by
    rw [List.filter_eq_self]
    intro x hx
    obtain ⟨j, hj⟩ := List.mem_iff_getElem?.1 hx
    rw [List.getElem?_take] at hj
    split at hj
    · exact h1 j x (by assumption) hj
    · cases hj
  have f2 : (l.drop i).filter p = [] := by
    rw [List.filter_eq_nil_iff]
    intro x hx
    obtain ⟨j, hj⟩ := List.mem_iff_getElem?.1 hx
    rw [List.getElem?_drop] at hj
    simp [h2 (i + j) x (by omega) hj]
  have g1 : (l.take i).filter (fun x => !p x) = [] := by
    rw [List.filter_eq_nil_iff]
    intro x hx
    obtain ⟨j, hj⟩ := List.mem_iff_getElem?.1 hx
    rw [List.getElem?_take] at hj
    split at hj
    · simp [h1 j x (by assumption) hj]
    · cases hj
  have g2 : (l.drop i).filter (fun x => !p x) = l.drop i := by
    rw [List.filter_eq_self]
    intro x hx
    obtain ⟨j, hj⟩ := List.mem_iff_getElem?.1 hx
    rw [List.getElem?_drop] at hj
    simp [h2 (i + j) x (by omega) hj]
  constructor
  · conv => lhs; rw [e]
    rw [List.filter_append, f1, f2, List.append_nil]
  · conv => lhs; rw [e]
    rw [List.filter_append, g1, g2, List.nil_append]
theorem Tms.at {l : List (Int × Int)} (h : Tms l) {i j : Nat} {a b : Int × Int} (hij : i < j) (ha : l[i]? = some a) (hb : l[j]? = some b) : bf a b = true := by
  obtain ⟨hi, rfl⟩ := List.getElem?_eq_some_iff.1 ha
  obtain ⟨hj, rfl⟩ := List.getElem?_eq_some_iff.1 hb
  exact List.pairwise_iff_getElem.1 h.srt i j hi hj hij
theorem Tms.due_at {l : List (Int × Int)} (h : Tms l) {now : Int} {i : Nat} (h1 : ∀ j x, j < i → l[j]? = some x → x.2 ≤ now) (h2 : ∀ x, l[i]? = some x → now < x.2) : due l now = l.take i ∧ left l now = l.drop i := by
  refine parts (p := fun a : Int × Int => decide (a.2 ≤ now)) (fun j x hj hx => by simpa using h1 j x hj hx) (fun j x hj hx => ?_)
  have hlt : i < l.length := by have := (List.getElem?_eq_some_iff.1 hx).1; omega
  have hi := h2 _ (List.getElem?_eq_getElem hlt)
  rcases Nat.lt_or_eq_of_le hj with hj | rfl
  · have := (bf_iff _ _).1 (h.at hj (List.getElem?_eq_getElem hlt) hx)
    simp; omega
  · rw [List.getElem?_eq_getElem hlt] at hx
    injection hx with hx
    subst hx
    simpa using hi
theorem Tms.ins_at {l : List (Int × Int)} (h : Tms l) {t : Int × Int} {i : Nat} (h1 : ∀ j x, j < i → l[j]? = some x → bf x t = true) (h2 : ∀ x, l[i]? = some x → bf x t = false) : Wl.ins t l = l.take i ++ t :: l.drop i := by
  unfold Wl.ins
  have := parts (p := fun a : Int × Int => bf a t) (l := l) (i := i) (fun j x hj hx => h1 j x hj hx) (fun j x hj hx => by
    have hlt : i < l.length := by have := (List.getElem?_eq_some_iff.1 hx).1; omega
    have hi := h2 _ (List.getElem?_eq_getElem hlt)
    rcases Nat.lt_or_eq_of_le hj with hj | rfl
    · have hb := h.at hj (List.getElem?_eq_getElem hlt) hx
      cases hc : bf x t
      · rfl
      · rw [bf_trans hb hc] at hi; cases hi
    · rw [List.getElem?_eq_getElem hlt] at hx
      injection hx with hx
      subst hx
      exact hi)
  rw [this.1, this.2]

/-- What a wheel does: arming, by the document. -/
def cut (t : Int) : Int := if t ≤ 1152921504606846976 then t else 1152921504606846976
def full (l : List (Int × Int)) (k : Int) : Bool := decide (1024 ≤ (wo l k).length)
def arm (l : List (Int × Int)) (k t : Int) : List (Int × Int) := if full l k then l else ins (k, cut t) (wo l k)
theorem cut_ok {t : Int} (h : 0 ≤ t) : 0 ≤ cut t ∧ cut t ≤ 1152921504606846976 := by unfold cut; split <;> omega
theorem Tms.put {l : List (Int × Int)} (h : Tms l) {k t : Int} (hk : 0 ≤ k ∧ k ≤ 18446744073709551615) (ht : 0 ≤ t ∧ t ≤ 1152921504606846976) : Tms (Wl.ins (k, t) (wo l k)) :=
  (h.filter _).ins wo_key ⟨hk.1, hk.2, ht.1, ht.2⟩
theorem Tms.arm {l : List (Int × Int)} (h : Tms l) {k t : Int} (hk : 0 ≤ k ∧ k ≤ 18446744073709551615) (ht : 0 ≤ t) : Tms (arm l k t) := by
  unfold Wl.arm
  split
  · exact h
  · exact h.put hk (cut_ok ht)
theorem mem_put {l : List (Int × Int)} {k t : Int} {a : Int × Int} : a ∈ ins (k, t) (wo l k) ↔ a = (k, t) ∨ (a ∈ l ∧ a.1 ≠ k) := by rw [mem_ins, mem_wo]
theorem put_len_has {l : List (Int × Int)} (hn : (l.map Prod.fst).Nodup) {k t : Int} (h : k ∈ l.map Prod.fst) : (ins (k, t) (wo l k)).length = l.length := by
  rw [ins_len, wo_len_has hn h]
theorem put_len_new {l : List (Int × Int)} {k t : Int} (h : k ∉ l.map Prod.fst) : (ins (k, t) (wo l k)).length = l.length + 1 := by
  rw [ins_len, wo_none h]
theorem full_has {l : List (Int × Int)} (hn : (l.map Prod.fst).Nodup) {k : Int} (h : k ∈ l.map Prod.fst) (hl : l.length ≤ 1024) : full l k = false := by
  have := wo_len_has hn h
  simp [full]; omega
theorem full_new {l : List (Int × Int)} {k : Int} (h : k ∉ l.map Prod.fst) : full l k = decide (1024 ≤ l.length) := by
  rw [full, wo_none h]
theorem arm_len {l : List (Int × Int)} (hl : l.length ≤ 1024) (k t : Int) : (arm l k t).length ≤ 1024 := by
  unfold arm
  split
  · exact hl
  · next h => rw [ins_len]; simp [full] at h; omega
theorem arm_len1 (l : List (Int × Int)) (k t : Int) : (arm l k t).length ≤ l.length + 1 := by
  unfold arm
  split
  · omega
  · rw [ins_len]; have := wo_len l k; omega

/-- The least tick. -/
theorem Tms.least {l : List (Int × Int)} (h : Tms l) {a : Int × Int} (ha : l[0]? = some a) : ∀ b ∈ l, a.2 ≤ b.2 := by
  intro b hb
  obtain ⟨j, hj⟩ := List.mem_iff_getElem?.1 hb
  rcases Nat.eq_zero_or_pos j with rfl | hp
  · rw [ha] at hj; injection hj with hj; subst hj; omega
  · have := (bf_iff _ _).1 (h.at hp ha hj); omega

/-- What is due is what stands in that order and is due: whatever rises so and has the same keys. -/
theorem Tms.due_keys {l : List (Int × Int)} (h : Tms l) {now : Int} {tk : Int → Int} (htk : ∀ k t, (k, t) ∈ l → tk k = t) {ks : List Int} (hp : ks.Pairwise (fun a b => bf (a, tk a) (b, tk b) = true)) (hm : ∀ k, k ∈ ks ↔ ∃ t, (k, t) ∈ l ∧ t ≤ now) : ks = (due l now).map Prod.fst := by
  refine eq_of_mem (r := fun a b => bf (a, tk a) (b, tk b) = true) (fun a => bf_irrefl _) (fun h k => bf_trans h k) hp ?_ (fun k => ?_)
  · rw [List.pairwise_map]
    refine ((h.filter _).srt).imp_of_mem (S := fun a b : Int × Int => bf (a.1, tk a.1) (b.1, tk b.1) = true) (fun {a b} ha hb hab => ?_)
    rw [htk a.1 a.2 (List.mem_filter.1 ha).1, htk b.1 b.2 (List.mem_filter.1 hb).1]
    exact hab
  · rw [hm, Tms.mem_key]
    constructor
    · rintro ⟨t, h1, h2⟩; exact ⟨t, mem_due.2 ⟨h1, h2⟩⟩
    · rintro ⟨t, h1⟩; exact ⟨t, (mem_due.1 h1).1, (mem_due.1 h1).2⟩
end Go.Proofs.YtmnjdmcocifogaaGreatDoor.Wl
