/- A part of the claim: the texts Base2. -/
import Derived.Test.YthmdiaingolfnaaGreatDoorRows
import Derived.Test.YthmdiaingolfnaaGreatDoorZBase1
import Ieee.Arith
import Derived.Shelf.SlSortCmp.Whole1
import Derived.Shelf.SlMaps.Clone
import Derived.Maps.RangeWalk
import Derived.Maps.Ext
import Derived.WalkLawsBesides
import Derived.Laws.FloatArith
import Derived.Laws.Externs
namespace Go.Proofs.YthmdiaingolfnaaGreatDoor.Wl
def bf (a b : Int × Int) : Bool := decide (a.2 < b.2) || (decide (a.2 = b.2) && decide (a.1 < b.1))
theorem bf_iff (a b : Int × Int) : bf a b = true ↔ a.2 < b.2 ∨ (a.2 = b.2 ∧ a.1 < b.1) := by simp [bf]
theorem bf_irrefl (a : Int × Int) : ¬ bf a a = true := by rw [bf_iff]; omega
theorem bf_trans {a b c : Int × Int} (h : bf a b = true) (k : bf b c = true) : bf a c = true := by rw [bf_iff] at *; omega
theorem bf_total {a b : Int × Int} (h : a ≠ b) (k : ¬ bf a b = true) : bf b a = true := by
  rw [bf_iff] at *
  have : ¬ (a.1 = b.1 ∧ a.2 = b.2) := fun ⟨h1, h2⟩ => h (Prod.ext h1 h2)
  omega
theorem eq_of_mem {α : Type} {r : α → α → Prop} (irr : ∀ a, ¬ r a a) (tr : ∀ {a b c}, r a b → r b c → r a c) :
    ∀ {l₁ l₂ : List α}, l₁.Pairwise r → l₂.Pairwise r → (∀ x, x ∈ l₁ ↔ x ∈ l₂) → l₁ = l₂
  | [], [], _, _, _ => rfl
  | [], b :: l, _, _, h => absurd ((h b).2 (by simp)) (by simp)
  | a :: l, [], _, _, h => absurd ((h a).1 (by simp)) (by simp)
  | a :: l, b :: l', h1, h2, h => by
    rw [List.pairwise_cons] at h1 h2
    have e : a = b := by
      rcases List.mem_cons.1 ((h a).1 (by simp)) with e | e
      · exact e
      · rcases List.mem_cons.1 ((h b).2 (by simp)) with e' | e'
        · exact e'.symm
        · exact absurd (tr (h1.1 b e') (h2.1 a e)) (irr a)
    subst e
    congr 1
    refine eq_of_mem irr tr h1.2 h2.2 (fun x => ?_)
    have hx := h x
    simp only [List.mem_cons] at hx
    constructor
    · intro m
      rcases hx.1 (.inr m) with e | e
      · subst e; exact absurd (h1.1 x m) (irr x)
      · exact e
    · intro m
      rcases hx.2 (.inr m) with e | e
      · subst e; exact absurd (h2.1 x m) (irr x)
      · exact e
structure Tms (l : List (Int × Int)) : Prop where
  srt : l.Pairwise (fun a b => bf a b = true)
  nd : (l.map Prod.fst).Nodup
  ok : ∀ a ∈ l, 0 ≤ a.1 ∧ a.1 ≤ 18446744073709551615 ∧ 0 ≤ a.2 ∧ a.2 ≤ 1152921504606846976
theorem Tms.nil : Tms [] := ⟨List.Pairwise.nil, List.nodup_nil, fun _ h => by cases h⟩
theorem Tms.filter {l : List (Int × Int)} (h : Tms l) (p : Int × Int → Bool) : Tms (l.filter p) :=
  ⟨h.srt.filter p, h.nd.sublist (List.filter_sublist.map _), fun a ha => h.ok a (List.mem_filter.1 ha).1⟩
theorem Tms.uniq {l : List (Int × Int)} (h : Tms l) {k t t' : Int} (h1 : (k, t) ∈ l) (h2 : (k, t') ∈ l) : t = t' := by
  have nd := h.nd
  clear h
  induction l with
  | nil => cases h1
  | cons x l ih =>
    rw [List.map_cons, List.nodup_cons] at nd
    rcases List.mem_cons.1 h1 with e1 | e1 <;> rcases List.mem_cons.1 h2 with e2 | e2
    · rw [← e1] at e2; injection e2 with _ e2; exact e2.symm
    · subst e1; exact absurd (List.mem_map.2 ⟨_, e2, rfl⟩) nd.1
    · subst e2; exact absurd (List.mem_map.2 ⟨_, e1, rfl⟩) nd.1
    · exact ih e1 e2 nd.2
theorem Tms.mem_key {l : List (Int × Int)} {k : Int} : k ∈ l.map Prod.fst ↔ ∃ t, (k, t) ∈ l := by
  rw [List.mem_map]
  constructor
  · rintro ⟨⟨a, b⟩, h, rfl⟩; exact ⟨b, h⟩
  · rintro ⟨t, h⟩; exact ⟨_, h, rfl⟩
def wo (l : List (Int × Int)) (k : Int) : List (Int × Int) := l.filter (fun a => a.1 != k)
theorem mem_wo {l : List (Int × Int)} {k : Int} {a : Int × Int} : a ∈ wo l k ↔ a ∈ l ∧ a.1 ≠ k := by simp [wo]
theorem wo_key {l : List (Int × Int)} {k : Int} : k ∉ (wo l k).map Prod.fst := by
  intro h
  obtain ⟨t, ht⟩ := Tms.mem_key.1 h
  exact (mem_wo.1 ht).2 rfl
theorem wo_none {l : List (Int × Int)} {k : Int} (h : k ∉ l.map Prod.fst) : wo l k = l := by
  unfold wo
  rw [List.filter_eq_self]
  intro a ha
  simp
  intro e
  exact h (List.mem_map.2 ⟨a, ha, e⟩)
theorem wo_len (l : List (Int × Int)) (k : Int) : (wo l k).length ≤ l.length := List.length_filter_le _ _
theorem wo_len_has {l : List (Int × Int)} (hn : (l.map Prod.fst).Nodup) {k : Int} (h : k ∈ l.map Prod.fst) : (wo l k).length + 1 = l.length := by
  induction l with
  | nil => cases h
  | cons x l ih =>
    rw [List.map_cons, List.nodup_cons] at hn
    by_cases e : x.1 = k
    · subst e
      have := wo_none hn.1
      unfold wo at this ⊢
      simp [this]
    · have h' : k ∈ l.map Prod.fst := by
        rcases List.mem_cons.1 h with e' | e'
        · exact absurd e'.symm e
        · exact e'
      have := ih hn.2 h'
      unfold wo at this ⊢
      simp [e]
      exact this
def ins (t : Int × Int) (l : List (Int × Int)) : List (Int × Int) := l.filter (fun a => bf a t) ++ t :: l.filter (fun a => !bf a t)
theorem mem_ins {t a : Int × Int} {l : List (Int × Int)} : a ∈ ins t l ↔ a = t ∨ a ∈ l := by
  unfold ins
  simp only [List.mem_append, List.mem_cons, List.mem_filter]
  cases bf a t <;> simp <;> constructor <;> rintro (h | h) <;> simp [h]
theorem ins_perm (t : Int × Int) (l : List (Int × Int)) : (ins t l).Perm (t :: l) := by
  unfold ins
  exact List.perm_middle.trans ((List.filter_append_perm _ l).cons t)
theorem ins_len (t : Int × Int) (l : List (Int × Int)) : (ins t l).length = l.length + 1 := by simpa using (ins_perm t l).length_eq
theorem Tms.ins {l : List (Int × Int)} (h : Tms l) {t : Int × Int} (hk : t.1 ∉ l.map Prod.fst) (ht : 0 ≤ t.1 ∧ t.1 ≤ 18446744073709551615 ∧ 0 ≤ t.2 ∧ t.2 ≤ 1152921504606846976) : Tms (ins t l) := by
  refine ⟨?_, ?_, fun a ha => (mem_ins.1 ha).elim (fun e => e ▸ ht) (h.ok a)⟩
  · unfold Wl.ins
    rw [List.pairwise_append]
    refine ⟨h.srt.filter _, List.pairwise_cons.2 ⟨fun a ha => ?_, h.srt.filter _⟩, fun a ha b hb => ?_⟩
    · have hm := List.mem_filter.1 ha
      refine bf_total (fun e => hk ?_) (by simpa using hm.2)
      subst e; exact List.mem_map.2 ⟨_, hm.1, rfl⟩
    · have ha' : bf a t = true := (List.mem_filter.1 ha).2
      rcases List.mem_cons.1 hb with e | e
      · subst e; exact ha'
      · have hm := List.mem_filter.1 e
        refine bf_trans ha' (bf_total (fun e => hk ?_) (by simpa using hm.2))
        subst e; exact List.mem_map.2 ⟨_, hm.1, rfl⟩
  · rw [((ins_perm t l).map Prod.fst).nodup_iff]
    exact List.nodup_cons.2 ⟨hk, h.nd⟩
def due (l : List (Int × Int)) (now : Int) : List (Int × Int) := l.filter (fun a => decide (a.2 ≤ now))
def left (l : List (Int × Int)) (now : Int) : List (Int × Int) := l.filter (fun a => !decide (a.2 ≤ now))
theorem mem_due {l : List (Int × Int)} {now : Int} {a : Int × Int} : a ∈ due l now ↔ a ∈ l ∧ a.2 ≤ now := by simp [due]
theorem parts {α : Type} {p : α → Bool} : ∀ {l : List α} {i : Nat}, (∀ j x, j < i → l[j]? = some x → p x = true) → (∀ j x, i ≤ j → l[j]? = some x → p x = false) → l.filter p = l.take i ∧ l.filter (fun x => !p x) = l.drop i := by
  intro l i h1 h2
  have e : l = l.take i ++ l.drop i := (List.take_append_drop i l).symm
  have f1 : (l.take i).filter p = l.take i := by
    rw [List.filter_eq_self]
    intro x hx
    obtain ⟨j, hj⟩ := List.mem_iff_getElem?.1 hx
    rw [List.getElem?_take] at hj
    split at hj
    · exact h1 j x (by assumption) hj
    · cases hj
  have f2 : (l.drop i).filter p = [] := by
    rw [List.filter_eq_nil_iff]
    intro x hx
    obtain ⟨j, hj⟩ := List.mem_iff_getElem?.1 hx
    rw [List.getElem?_drop] at hj
    simp [h2 (i + j) x (by omega) hj]
  have g1 : (l.take i).filter (fun x => !p x) = [] := by
    rw [List.filter_eq_nil_iff]
    intro x hx
    obtain ⟨j, hj⟩ := List.mem_iff_getElem?.1 hx
    rw [List.getElem?_take] at hj
    split at hj
    · simp [h1 j x (by assumption) hj]
    · cases hj
  have g2 : (l.drop i).filter (fun x => !p x) = l.drop i := by
    rw [List.filter_eq_self]
    intro x hx
    obtain ⟨j, hj⟩ := List.mem_iff_getElem?.1 hx
    rw [List.getElem?_drop] at hj
    simp [h2 (i + j) x (by omega) hj]
  constructor
  · conv => lhs; rw [e]
    rw [List.filter_append, f1, f2, List.append_nil]
  · conv => lhs; rw [e]
    rw [List.filter_append, g1, g2, List.nil_append]
theorem Tms.at {l : List (Int × Int)} (h : Tms l) {i j : Nat} {a b : Int × Int} (hij : i < j) (ha : l[i]? = some a) (hb : l[j]? = some b) : bf a b = true := by
  obtain ⟨hi, rfl⟩ := List.getElem?_eq_some_iff.1 ha
  obtain ⟨hj, rfl⟩ := List.getElem?_eq_some_iff.1 hb
  exact List.pairwise_iff_getElem.1 h.srt i j hi hj hij
theorem Tms.ins_at {l : List (Int × Int)} (h : Tms l) {t : Int × Int} {i : Nat} (h1 : ∀ j x, j < i → l[j]? = some x → bf x t = true) (h2 : ∀ x, l[i]? = some x → bf x t = false) : Wl.ins t l = l.take i ++ t :: l.drop i := by
  unfold Wl.ins
  have := parts (p := fun a : Int × Int => bf a t) (l := l) (i := i) (fun j x hj hx => h1 j x hj hx) (fun j x hj hx => by
    have hlt : i < l.length := by have := (List.getElem?_eq_some_iff.1 hx).1; omega
    have hi := h2 _ (List.getElem?_eq_getElem hlt)
    rcases Nat.lt_or_eq_of_le hj with hj | rfl
    · have hb := h.at hj (List.getElem?_eq_getElem hlt) hx
      cases hc : bf x t
      · rfl
      · rw [bf_trans hb hc] at hi; cases hi
    · rw [List.getElem?_eq_getElem hlt] at hx
      injection hx with hx
      subst hx
      exact hi)
  rw [this.1, this.2]
def cut (t : Int) : Int := if t ≤ 1152921504606846976 then t else 1152921504606846976
def full (l : List (Int × Int)) (k : Int) : Bool := decide (1024 ≤ (wo l k).length)
def arm (l : List (Int × Int)) (k t : Int) : List (Int × Int) := if full l k then l else ins (k, cut t) (wo l k)
theorem cut_ok {t : Int} (h : 0 ≤ t) : 0 ≤ cut t ∧ cut t ≤ 1152921504606846976 := by unfold cut; split <;> omega
theorem Tms.put {l : List (Int × Int)} (h : Tms l) {k t : Int} (hk : 0 ≤ k ∧ k ≤ 18446744073709551615) (ht : 0 ≤ t ∧ t ≤ 1152921504606846976) : Tms (Wl.ins (k, t) (wo l k)) :=
  (h.filter _).ins wo_key ⟨hk.1, hk.2, ht.1, ht.2⟩
theorem Tms.arm {l : List (Int × Int)} (h : Tms l) {k t : Int} (hk : 0 ≤ k ∧ k ≤ 18446744073709551615) (ht : 0 ≤ t) : Tms (arm l k t) := by
  unfold Wl.arm
  split
  · exact h
  · exact h.put hk (cut_ok ht)
theorem mem_put {l : List (Int × Int)} {k t : Int} {a : Int × Int} : a ∈ ins (k, t) (wo l k) ↔ a = (k, t) ∨ (a ∈ l ∧ a.1 ≠ k) := by rw [mem_ins, mem_wo]
theorem put_len_has {l : List (Int × Int)} (hn : (l.map Prod.fst).Nodup) {k t : Int} (h : k ∈ l.map Prod.fst) : (ins (k, t) (wo l k)).length = l.length := by
  rw [ins_len, wo_len_has hn h]
theorem put_len_new {l : List (Int × Int)} {k t : Int} (h : k ∉ l.map Prod.fst) : (ins (k, t) (wo l k)).length = l.length + 1 := by
  rw [ins_len, wo_none h]
theorem full_has {l : List (Int × Int)} (hn : (l.map Prod.fst).Nodup) {k : Int} (h : k ∈ l.map Prod.fst) (hl : l.length ≤ 1024) : full l k = false := by
  have := wo_len_has hn h
  simp [full]; omega
theorem full_new {l : List (Int × Int)} {k : Int} (h : k ∉ l.map Prod.fst) : full l k = decide (1024 ≤ l.length) := by
  rw [full, wo_none h]
theorem Tms.due_keys {l : List (Int × Int)} (h : Tms l) {now : Int} {tk : Int → Int} (htk : ∀ k t, (k, t) ∈ l → tk k = t) {ks : List Int} (hp : ks.Pairwise (fun a b => bf (a, tk a) (b, tk b) = true)) (hm : ∀ k, k ∈ ks ↔ ∃ t, (k, t) ∈ l ∧ t ≤ now) : ks = (due l now).map Prod.fst := by
  refine eq_of_mem (r := fun a b => bf (a, tk a) (b, tk b) = true) (fun a => bf_irrefl _) (fun h k => bf_trans h k) hp ?_ (fun k => ?_)
  · rw [List.pairwise_map]
    refine ((h.filter _).srt).imp_of_mem (S := fun a b : Int × Int => bf (a.1, tk a.1) (b.1, tk b.1) = true) (fun {a b} ha hb hab => ?_)
    rw [htk a.1 a.2 (List.mem_filter.1 ha).1, htk b.1 b.2 (List.mem_filter.1 hb).1]
    exact hab
  · rw [hm, Tms.mem_key]
    constructor
    · rintro ⟨t, h1, h2⟩; exact ⟨t, mem_due.2 ⟨h1, h2⟩⟩
    · rintro ⟨t, h1⟩; exact ⟨t, (mem_due.1 h1).1, (mem_due.1 h1).2⟩
end Go.Proofs.YthmdiaingolfnaaGreatDoor.Wl
namespace Go.Proofs.YthmdiaingolfnaaGreatDoor.Fl
open Ieee
def rhe (a b : Nat) : Nat := a / b + (if b < 2 * (a % b) ∨ (b = 2 * (a % b) ∧ (a / b) % 2 = 1) then 1 else 0)
theorem rhe_iff {a b k : Nat} (hb : 0 < b) (hk : 0 < k) : k ≤ rhe a b ↔ (2 * k - 1) * b < 2 * a ∨ ((2 * k - 1) * b = 2 * a ∧ k % 2 = 0) := by
  have hr : a % b < b := Nat.mod_lt _ hb
  have ha : b * (a / b) + a % b = a := Nat.div_add_mod a b
  unfold rhe
  generalize a / b = q at *
  generalize a % b = r at *
  subst ha
  rcases Nat.lt_trichotomy k (q + 1) with h | h | h
  · have h1 : k ≤ q + (if b < 2 * r ∨ (b = 2 * r ∧ q % 2 = 1) then 1 else 0) := by omega
    have h2 : (2 * k - 1) * b < 2 * (b * q + r) := by
      have e1 : (2 * k - 1) * b + b = 2 * k * b := by
        rw [← Nat.succ_mul]; congr 1; omega
      have e2 : 2 * k * b ≤ 2 * (b * q) := by
        rw [Nat.mul_assoc, Nat.mul_comm k b]
        exact Nat.mul_le_mul_left _ (Nat.mul_le_mul_left _ (by omega))
      omega
    exact ⟨fun _ => .inl h2, fun _ => h1⟩
  · subst h
    have e1 : (2 * (q + 1) - 1) * b = 2 * (b * q) + b := by
      have : 2 * (q + 1) - 1 = 2 * q + 1 := by omega
      rw [this, Nat.succ_mul, Nat.mul_assoc, Nat.mul_comm q b]
    rw [e1]
    by_cases hc : b < 2 * r ∨ (b = 2 * r ∧ q % 2 = 1)
    · rw [if_pos hc]
      exact ⟨fun _ => hc.elim (fun h => .inl (by omega)) (fun h => .inr ⟨by omega, by omega⟩), fun _ => by omega⟩
    · rw [if_neg hc]
      refine ⟨fun h => by omega, fun h => absurd ?_ hc⟩
      exact h.elim (fun h => .inl (by omega)) (fun h => .inr ⟨by omega, by omega⟩)
  · have h1 : ¬ k ≤ q + (if b < 2 * r ∨ (b = 2 * r ∧ q % 2 = 1) then 1 else 0) := by split <;> omega
    have h2 : 2 * (b * q + r) < (2 * k - 1) * b := by
      have e1 : (2 * q + 3) * b ≤ (2 * k - 1) * b := Nat.mul_le_mul_right _ (by omega)
      have e2 : (2 * q + 3) * b = 2 * (b * q) + 3 * b := by rw [Nat.add_mul, Nat.mul_assoc, Nat.mul_comm q b]
      omega
    exact ⟨fun h => absurd h h1, fun h => by omega⟩
theorem rhe_mono {a b c d : Nat} (hb : 0 < b) (hd : 0 < d) (h : a * d ≤ c * b) : rhe a b ≤ rhe c d := by
  rcases Nat.eq_zero_or_pos (rhe a b) with e | hk
  · omega
  have h1 := (rhe_iff hb hk).1 (Nat.le_refl _)
  generalize rhe a b = k at *
  rw [rhe_iff hd hk]
  have e1 : (2 * k - 1) * d * b = (2 * k - 1) * b * d := by rw [Nat.mul_assoc, Nat.mul_comm d b, ← Nat.mul_assoc]
  have e2 : 2 * a * d ≤ 2 * c * b := by rw [Nat.mul_assoc, Nat.mul_assoc]; omega
  rcases h1 with h1 | ⟨h1, h2⟩
  · refine .inl (Nat.lt_of_mul_lt_mul_right (a := b) ?_)
    rw [e1]
    exact Nat.lt_of_lt_of_le (Nat.mul_lt_mul_of_pos_right h1 hd) e2
  · have e3 : (2 * k - 1) * d * b ≤ 2 * c * b := by rw [e1, h1]; exact e2
    have e4 := Nat.le_of_mul_le_mul_right e3 hb
    rcases Nat.lt_or_eq_of_le e4 with h | h
    · exact .inl h
    · exact .inr ⟨h, h2⟩
theorem rhe_eq {a b c d : Nat} (hb : 0 < b) (hd : 0 < d) (h : a * d = c * b) : rhe a b = rhe c d :=
  Nat.le_antisymm (rhe_mono hb hd (by omega)) (rhe_mono hd hb (by omega))
theorem rhe_exact {a b : Nat} (hb : 0 < b) : rhe (a * b) b = a := by
  unfold rhe
  rw [Nat.mul_div_cancel _ hb, Nat.mul_mod_left]
  simp; omega
theorem log_le {n k : Nat} (hn : 0 < n) (h : 2 ^ k ≤ n) : k ≤ n.log2 := (Nat.le_log2 (by omega)).2 h
theorem pow_log {n : Nat} (hn : 0 < n) : 2 ^ n.log2 ≤ n := Nat.log2_self_le (by omega)
theorem lt_log (n : Nat) : n < 2 ^ (n.log2 + 1) := Nat.lt_log2_self
theorem log_mono {m n : Nat} (hm : 0 < m) (h : m ≤ n) : m.log2 ≤ n.log2 := log_le (by omega) (Nat.le_trans (pow_log hm) h)
theorem log_shift {n : Nat} (hn : 0 < n) (s : Nat) : (n * 2 ^ s).log2 = n.log2 + s := by
  have h1 : n.log2 + s ≤ (n * 2 ^ s).log2 := log_le (Nat.mul_pos hn (Nat.two_pow_pos _)) (by rw [Nat.pow_add]; exact Nat.mul_le_mul_right _ (pow_log hn))
  have h2 : (n * 2 ^ s).log2 < n.log2 + s + 1 := by
    rw [Nat.log2_lt (by have := Nat.mul_pos hn (Nat.two_pow_pos s); omega)]
    have : n * 2 ^ s < 2 ^ (n.log2 + 1) * 2 ^ s := Nat.mul_lt_mul_of_pos_right (lt_log n) (Nat.two_pow_pos _)
    rw [← Nat.pow_add] at this
    rwa [show n.log2 + s + 1 = n.log2 + 1 + s by omega]
  omega
theorem small_gap {n drop : Nat} (h : n.log2 + 2 < drop) : 2 * n < 2 ^ drop := by
  have h1 := lt_log n
  have h2 : 2 ^ (n.log2 + 2) ≤ 2 ^ drop := Nat.pow_le_pow_right (by omega) (by omega)
  rw [Nat.pow_succ] at h2
  omega
theorem cut_even (neg : Bool) (n drop : Nat) : Toward.even.cut neg n drop = rhe n (2 ^ drop) := by
  unfold Toward.cut rhe
  by_cases h : drop ≤ n.log2 + 2
  · rw [Nat.min_eq_left h, Nat.one_shiftLeft]
    simp only []
    congr 1
    generalize n % 2 ^ drop = r
    generalize n / 2 ^ drop = q
    generalize 2 ^ drop = g
    by_cases h1 : g < 2 * r <;> by_cases h2 : g = 2 * r <;> by_cases h3 : q % 2 = 1 <;> simp [h1, h2, h3]
  · rw [Nat.min_eq_right (by omega), Nat.one_shiftLeft]
    have h1 : 2 * n < 2 ^ (n.log2 + 2) := by have := lt_log n; rw [Nat.pow_succ]; omega
    have h2 : 2 * n < 2 ^ drop := small_gap (by omega)
    simp only []
    have d1 : n / 2 ^ (n.log2 + 2) = 0 := Nat.div_eq_of_lt (by omega)
    have d2 : n % 2 ^ (n.log2 + 2) = n := Nat.mod_eq_of_lt (by omega)
    have d3 : n / 2 ^ drop = 0 := Nat.div_eq_of_lt (by omega)
    have d4 : n % 2 ^ drop = n := Nat.mod_eq_of_lt (by omega)
    rw [d1, d2, d3, d4]
    have h3 : ¬ (2 ^ (n.log2 + 2) < 2 * n) := by omega
    have h4 : ¬ (2 ^ (n.log2 + 2) = 2 * n) := by omega
    have h5 : ¬ (2 ^ drop < 2 * n) := by omega
    have h6 : ¬ (2 ^ drop = 2 * n) := by omega
    simp [h3, h5, h6]
theorem cut_zero (neg : Bool) (n drop : Nat) : Toward.zero.cut neg n drop = n / 2 ^ drop := by
  unfold Toward.cut
  by_cases h : drop ≤ n.log2 + 2
  · rw [Nat.min_eq_left h, Nat.one_shiftLeft]; simp
  · rw [Nat.min_eq_right (by omega), Nat.one_shiftLeft]
    have h1 : 2 * n < 2 ^ (n.log2 + 2) := by have := lt_log n; rw [Nat.pow_succ]; omega
    have h2 : 2 * n < 2 ^ drop := small_gap (by omega)
    simp only []
    rw [Nat.div_eq_of_lt (by omega), Nat.div_eq_of_lt (by omega)]
    simp
abbrev B : Nat := 4503599627370496
abbrev INF : Nat := 9218868437227405312
abbrev SG : Nat := 9223372036854775808
theorem B_is : B = 4503599627370496 := rfl
theorem INF_is : INF = 9218868437227405312 := rfl
theorem SG_is : SG = 9223372036854775808 := rfl
theorem binade_eq : double.binade = B := by decide
theorem inf_eq : double.infRung = INF := by decide
theorem sign_eq : double.signWeight = SG := by decide
theorem least_eq : double.leastPlace = -1074 := by decide
def rung (z N : Nat) : Nat := min ((max (N.log2 - 52) z - z) * B + rhe N (2 ^ max (N.log2 - 52) z)) INF
theorem rung_mono (z : Nat) {M N : Nat} (hM : 0 < M) (h : M ≤ N) : rung z M ≤ rung z N := by
  have hl := log_mono hM h
  have hN : 0 < N := by omega
  unfold rung
  suffices (max (M.log2 - 52) z - z) * B + rhe M (2 ^ max (M.log2 - 52) z) ≤ (max (N.log2 - 52) z - z) * B + rhe N (2 ^ max (N.log2 - 52) z) by omega
  have hl2 : max (M.log2 - 52) z ≤ max (N.log2 - 52) z := by omega
  have hupM : M.log2 ≤ max (M.log2 - 52) z + 52 := by omega
  have hloN : max (M.log2 - 52) z < max (N.log2 - 52) z → N.log2 = max (N.log2 - 52) z + 52 := by omega
  have hz : z ≤ max (M.log2 - 52) z := by omega
  generalize max (M.log2 - 52) z = L at *
  generalize max (N.log2 - 52) z = L' at *
  rcases Nat.lt_or_eq_of_le hl2 with hlt | rfl
  · have h1 : rhe M (2 ^ L) ≤ 2 * B := by
      have e : rhe (2 * B * 2 ^ L) (2 ^ L) = 2 * B := rhe_exact (Nat.two_pow_pos _)
      rw [← e]
      refine rhe_mono (Nat.two_pow_pos _) (Nat.two_pow_pos _) (Nat.mul_le_mul_right _ ?_)
      have h2 := lt_log M
      have h3 : 2 ^ (M.log2 + 1) ≤ 2 ^ (L + 52 + 1) := Nat.pow_le_pow_right (by omega) (by omega)
      have h4 : 2 ^ (L + 52 + 1) = 2 * B * 2 ^ L := by rw [show L + 52 + 1 = 53 + L by omega, Nat.pow_add]; rfl
      omega
    have h2 : B ≤ rhe N (2 ^ L') := by
      have e : rhe (B * 2 ^ L') (2 ^ L') = B := rhe_exact (Nat.two_pow_pos _)
      conv => lhs; rw [← e]
      refine rhe_mono (Nat.two_pow_pos _) (Nat.two_pow_pos _) (Nat.mul_le_mul_right _ ?_)
      have h3 := pow_log hN
      rw [hloN hlt, Nat.pow_add, Nat.mul_comm] at h3
      exact h3
    have h3 : (L - z) * B + B ≤ (L' - z) * B := by rw [← Nat.succ_mul]; exact Nat.mul_le_mul_right _ (by omega)
    omega
  · exact Nat.add_le_add_left (rhe_mono (Nat.two_pow_pos _) (Nat.two_pow_pos _) (Nat.mul_le_mul_right _ h)) _
theorem near_eq (neg : Bool) {m : Nat} (hm : 0 < m) {p b : Int} (hb : b ≤ p) (hb' : b ≤ -1074) : double.nearest neg m p = double.word neg (rung (-1074 - b).toNat (m * 2 ^ (p - b).toNat)) := by
  unfold Format.nearest
  rw [if_neg (by omega)]
  simp only []
  rw [least_eq, binade_eq, inf_eq, cut_even]
  obtain ⟨s, hs⟩ : ∃ s : Nat, p = b + s := ⟨(p - b).toNat, by omega⟩
  obtain ⟨z, hz⟩ : ∃ z : Nat, b = -1074 - z := ⟨(-1074 - b).toNat, by omega⟩
  have e1 : (p - b).toNat = s := by omega
  have e2 : (-1074 - b).toNat = z := by omega
  rw [e1, e2]
  have e3 := log_shift hm s
  unfold rung
  rw [e3]
  have e4 : max (p + m.log2 - 52) (-1074) = b + (max (m.log2 + s - 52) z : Nat) := by omega
  have e5 : (double.fractionBits : Int) = 52 := rfl
  rw [e5, e4]
  generalize hL : max (m.log2 + s - 52) z = L
  have hzL : z ≤ L := by omega
  have e6 : (b + (L : Int) - -1074).toNat = L - z := by omega
  rw [e6]
  congr 3
  rw [Nat.shiftLeft_eq]
  refine rhe_eq (Nat.two_pow_pos _) (Nat.two_pow_pos _) ?_
  rw [Nat.mul_assoc, Nat.mul_assoc, ← Nat.pow_add, ← Nat.pow_add]
  congr 2
  omega
def V (r : Nat) : Nat := if r < B then r else (B + r % B) * 2 ^ (r / B - 1)
theorem V_pos {r : Nat} (h : 0 < r) : 0 < V r := by
  unfold V
  split
  · exact h
  · exact Nat.mul_pos (by have : 0 < B := by decide
                          omega) (Nat.two_pow_pos _)
theorem rung_V {r : Nat} (h : r ≤ INF) (h0 : 0 < r) : rung 0 (V r) = r := by
  unfold V
  split
  · next hr =>
    have hl : r.log2 < 52 := by rw [Nat.log2_lt (by omega)]; exact hr
    unfold rung
    rw [show max (r.log2 - 52) 0 = 0 by omega]
    rw [show (2 : Nat) ^ 0 = 1 by rfl]
    have := rhe_exact (a := r) (b := 1) (by omega)
    rw [Nat.mul_one] at this
    rw [this]
    omega
  · next hr =>
    have hB : 0 < B := by decide
    have hm : r % B < B := Nat.mod_lt _ hB
    have hd : 1 ≤ r / B := by rw [Nat.le_div_iff_mul_le hB]; omega
    have hrd : B * (r / B) + r % B = r := Nat.div_add_mod r B
    generalize r % B = t at *
    generalize r / B = q at *
    have hl : ((B + t) * 2 ^ (q - 1)).log2 = 52 + (q - 1) := by
      rw [log_shift (by omega)]
      have h1 : 52 ≤ (B + t).log2 := log_le (by omega) (Nat.le_add_right B t)
      have h2 : (B + t).log2 < 53 := by
        rw [Nat.log2_lt (by omega)]
        have : (2 : Nat) ^ 53 = B + B := by decide
        omega
      omega
    unfold rung
    rw [hl, show max (52 + (q - 1) - 52) 0 = q - 1 by omega, rhe_exact (Nat.two_pow_pos _)]
    have : (q - 1 - 0) * B + (B + t) = r := by
      rw [← hrd, show B * q = B * (q - 1) + B by rw [← Nat.mul_succ]; congr 1; omega, Nat.mul_comm, Nat.sub_zero]
      omega
    rw [this]
    omega
theorem V_mono {r r' : Nat} (h : r ≤ r') : V r ≤ V r' := by
  have hB : 0 < B := by decide
  unfold V
  by_cases h1 : r < B
  · rw [if_pos h1]
    by_cases h2 : r' < B
    · rw [if_pos h2]; exact h
    · rw [if_neg h2]
      have : B + r' % B ≤ (B + r' % B) * 2 ^ (r' / B - 1) := Nat.le_mul_of_pos_right _ (Nat.two_pow_pos _)
      omega
  · have h2 : ¬ r' < B := by omega
    rw [if_neg h1, if_neg h2]
    have hd : 1 ≤ r / B := by rw [Nat.le_div_iff_mul_le hB]; omega
    have hdd : r / B ≤ r' / B := Nat.div_le_div_right h
    have hm : r % B < B := Nat.mod_lt _ hB
    have e1 : B * (r / B) + r % B = r := Nat.div_add_mod r B
    have e2 : B * (r' / B) + r' % B = r' := Nat.div_add_mod r' B
    rcases Nat.lt_or_eq_of_le hdd with hlt | heq
    · have h3 : (B + r % B) * 2 ^ (r / B - 1) ≤ B * 2 ^ (r / B) := by
        rw [show r / B = (r / B - 1) + 1 by omega, Nat.pow_succ, Nat.mul_comm _ 2, ← Nat.mul_assoc]
        simp only [Nat.add_sub_cancel]
        exact Nat.mul_le_mul_right _ (by omega)
      have h4 : B * 2 ^ (r / B) ≤ (B + r' % B) * 2 ^ (r' / B - 1) := Nat.mul_le_mul (by omega) (Nat.pow_le_pow_right (by omega) (by omega))
      omega
    · rw [heq]
      rw [heq] at e1
      exact Nat.mul_le_mul_right _ (by omega)
theorem V_le {r r' : Nat} (hr : r ≤ INF) (hr' : r' ≤ INF) : V r ≤ V r' ↔ r ≤ r' := by
  refine ⟨fun h => ?_, V_mono⟩
  rcases Nat.eq_zero_or_pos r with rfl | h0
  · omega
  rcases Nat.eq_zero_or_pos r' with rfl | h0'
  · have h1 := V_pos h0
    have h2 : V 0 = 0 := by decide
    omega
  · have := rung_mono 0 (V_pos h0) h
    rwa [rung_V hr h0, rung_V hr' h0'] at this
def sg (x : Nat) : Bool := decide (SG ≤ x)
def rg (x : Nat) : Nat := if SG ≤ x then x - SG else x
theorem rg_lt {x : Nat} (hx : x < 18446744073709551616) : rg x < SG := by have := SG_is; unfold rg; split <;> omega
theorem read_parts {x : Nat} (hx : x < 18446744073709551616) : (x / SG % 2 == 1) = sg x ∧ x % SG = rg x := by
  have hS := SG_is
  unfold sg rg
  by_cases h : SG ≤ x
  · rw [if_pos h]
    have e1 : x / SG = 1 := by rw [SG_is] at *; omega
    have e2 : x % SG = x - SG := by rw [SG_is] at *; omega
    rw [e1, e2]
    simp [h]
  · rw [if_neg h]
    have e1 : x / SG = 0 := by rw [SG_is] at *; omega
    have e2 : x % SG = x := by rw [SG_is] at *; omega
    rw [e1, e2]
    simp [h]
def isN (x : Nat) : Bool := decide (INF < rg x)
theorem read_eq {x : Nat} (hx : x < 18446744073709551616) :
    (rg x < INF ∧ ∃ m : Nat, ∃ e : Int, double.read x = .number (sg x) m e ∧ -1074 ≤ e ∧ e ≤ 971 ∧ m * 2 ^ (e + 1074).toNat = V (rg x) ∧ (m = 0 ↔ rg x = 0) ∧ m < 2 * B) ∨
    (rg x = INF ∧ double.read x = .infinity (sg x)) ∨ (INF < rg x ∧ double.read x = .nan (sg x) (rg x - INF)) := by
  have hr := rg_lt hx
  have i1 := INF_is
  have i2 := B_is
  obtain ⟨h1, h2⟩ := read_parts hx
  unfold Format.read
  rw [sign_eq, binade_eq, inf_eq, least_eq, h1, h2]
  simp only []
  generalize rg x = r at *
  by_cases c1 : r < B
  · rw [if_pos c1]
    refine .inl ⟨by omega, r, -1074, rfl, by omega, by omega, ?_, Iff.rfl, by omega⟩
    unfold V
    rw [if_pos c1]
    simp
  · rw [if_neg c1]
    by_cases c2 : r < INF
    · rw [if_pos c2]
      have hB : 0 < B := by decide
      have hd : 1 ≤ r / B := by rw [Nat.le_div_iff_mul_le hB]; omega
      have hd2 : r / B < 2047 := by rw [Nat.div_lt_iff_lt_mul hB]; rw [i1] at c2; rw [i2]; omega
      have hm : r % B < B := Nat.mod_lt _ hB
      refine .inl ⟨c2, B + r % B, -1074 + ((r / B - 1 : Nat) : Int), rfl, by omega, by omega, ?_, by omega, by omega⟩
      unfold V
      rw [if_neg c1]
      congr 2
      omega
    · rw [if_neg c2]
      by_cases c3 : r = INF
      · rw [if_pos c3]; exact .inr (.inl ⟨c3, rfl⟩)
      · rw [if_neg c3]; exact .inr (.inr ⟨by omega, rfl⟩)
theorem INF_SG : INF < SG := by decide
def Ko (x : Nat) : Int := if sg x then -(rg x : Int) else (rg x : Int)
theorem shl_cmp {m n : Nat} {i j : Int} (hi : -1074 ≤ i) (hj : -1074 ≤ j) :
    m * 2 ^ (i + 1074).toNat = (m * 2 ^ (i - min i j).toNat) * 2 ^ (min i j + 1074).toNat ∧ n * 2 ^ (j + 1074).toNat = (n * 2 ^ (j - min i j).toNat) * 2 ^ (min i j + 1074).toNat := by
  constructor
  · rw [Nat.mul_assoc, ← Nat.pow_add]; congr 2; omega
  · rw [Nat.mul_assoc, ← Nat.pow_add]; congr 2; omega
theorem cmp_int {a b c d : Int} (h1 : a < b ↔ c < d) (h2 : a = b ↔ c = d) : compare a b = compare c d := by
  simp only [compare, compareOfLessAndEq]
  by_cases e1 : a < b
  · rw [if_pos e1, if_pos (h1.1 e1)]
  · rw [if_neg e1, if_neg (fun h => e1 (h1.2 h))]
    by_cases e2 : a = b
    · rw [if_pos e2, if_pos (h2.1 e2)]
    · rw [if_neg e2, if_neg (fun h => e2 (h2.2 h))]
theorem signed_eq (s : Bool) (m u : Nat) : signed s m u = if s then -((m * 2 ^ u : Nat) : Int) else ((m * 2 ^ u : Nat) : Int) := by
  unfold signed; rw [Nat.shiftLeft_eq]
theorem order_eq {x y : Nat} (hx : x < 18446744073709551616) (hy : y < 18446744073709551616) : double.order x y = if isN x || isN y then none else some (compare (Ko x) (Ko y)) := by
  have iS := INF_SG
  unfold Format.order isN Ko
  rcases read_eq hx with ⟨lx, m, i, ex, hi, hi', hm, hm0, -⟩ | ⟨lx, ex⟩ | ⟨lx, ex⟩
  · rcases read_eq hy with ⟨ly, n, j, ey, hj, hj', hn, hn0, -⟩ | ⟨ly, ey⟩ | ⟨ly, ey⟩
    · rw [ex, ey]
      have c1 : decide (INF < rg x) = false := by simp; omega
      have c2 : decide (INF < rg y) = false := by simp; omega
      rw [c1, c2]
      simp only [Datum.order, Bool.or_self, Bool.false_eq_true, if_false]
      congr 1
      rw [signed_eq, signed_eq]
      obtain ⟨e1, e2⟩ := shl_cmp (m := m) (n := n) hi hj
      rw [hm] at e1
      rw [hn] at e2
      generalize m * 2 ^ (i - min i j).toNat = M at *
      generalize n * 2 ^ (j - min i j).toNat = N at *
      have hp : 0 < 2 ^ (min i j + 1074).toNat := Nat.two_pow_pos _
      generalize 2 ^ (min i j + 1074).toNat = p at *
      have le1 : ∀ {A C : Nat}, A ≤ C ↔ A * p ≤ C * p := fun {A C} => ⟨fun h => Nat.mul_le_mul_right _ h, fun h => Nat.le_of_mul_le_mul_right h hp⟩
      have hMN : M ≤ N ↔ rg x ≤ rg y := by rw [le1, ← e1, ← e2]; exact V_le (by omega) (by omega)
      have hNM : N ≤ M ↔ rg y ≤ rg x := by rw [le1, ← e1, ← e2]; exact V_le (by omega) (by omega)
      have hM0 : M = 0 ↔ rg x = 0 := by
        have h1 : V 0 = 0 := by decide
        have h2 : V (rg x) ≤ V 0 ↔ rg x ≤ 0 := V_le (by omega) (by omega)
        rw [e1, h1] at h2
        constructor
        · intro e; subst e; simp at h2; exact h2
        · intro e; have := h2.2 (by omega)
          rcases Nat.eq_zero_or_pos M with h | h
          · exact h
          · have := Nat.mul_pos h hp; omega
      have hN0 : N = 0 ↔ rg y = 0 := by
        have h1 : V 0 = 0 := by decide
        have h2 : V (rg y) ≤ V 0 ↔ rg y ≤ 0 := V_le (by omega) (by omega)
        rw [e2, h1] at h2
        constructor
        · intro e; subst e; simp at h2; exact h2
        · intro e; have := h2.2 (by omega)
          rcases Nat.eq_zero_or_pos N with h | h
          · exact h
          · have := Nat.mul_pos h hp; omega
      clear e1 e2 le1 hm hn
      cases sg x <;> cases sg y <;> simp only [Bool.false_eq_true, if_false, if_true] <;> apply cmp_int <;> omega
    · rw [ex, ey]
      have c1 : decide (INF < rg x) = false := by simp; omega
      have c2 : decide (INF < rg y) = false := by simp; omega
      rw [c1, c2]
      simp only [Datum.order, Bool.or_self, Bool.false_eq_true, if_false]
      congr 1
      cases sg x <;> cases sg y <;> simp only [Bool.false_eq_true, if_false, if_true, compare, compareOfLessAndEq] <;> (repeat' split) <;> first | rfl | omega
    · rw [ex, ey]
      simp [Datum.order, ly]
  · rcases read_eq hy with ⟨ly, n, j, ey, hj, hj', hn, hn0, -⟩ | ⟨ly, ey⟩ | ⟨ly, ey⟩
    · rw [ex, ey]
      have c1 : decide (INF < rg x) = false := by simp; omega
      have c2 : decide (INF < rg y) = false := by simp; omega
      rw [c1, c2]
      simp only [Datum.order, Bool.or_self, Bool.false_eq_true, if_false]
      congr 1
      cases sg x <;> cases sg y <;> simp only [Bool.false_eq_true, if_false, if_true, compare, compareOfLessAndEq] <;> (repeat' split) <;> first | rfl | omega
    · rw [ex, ey]
      have c1 : decide (INF < rg x) = false := by simp; omega
      have c2 : decide (INF < rg y) = false := by simp; omega
      rw [c1, c2]
      simp only [Datum.order, Bool.or_self, Bool.false_eq_true, if_false]
      congr 1
      rw [lx, ly]
      cases sg x <;> cases sg y <;> decide
    · rw [ex, ey]
      simp [Datum.order, ly]
  · rw [ex]
    simp [Datum.order, lx]
end Go.Proofs.YthmdiaingolfnaaGreatDoor.Fl
namespace Go.Proofs.YthmdiaingolfnaaGreatDoor.Sf
open Go.ChangeShapes Go.WideShapes Go.ChangeAt Go.RowKit Rw Go.Shelf Go.Sort
set_option linter.unusedVariables false
def suF (k : Nat) : Nat := if k = 6 then 160 else if k = 14 then 170 else if k = 15 then 171 else if k = 20 then 183 else if k = 21 then 184 else if k = 22 then 185 else if k = 23 then 186 else if k = 24 then 187 else if k = 25 then 188 else if k = 26 then 189 else if k = 27 then 190 else if k = 28 then 191 else if k = 29 then 192 else if k = 46 then 204 else if k = 47 then 205 else if k = 48 then 206 else if k = 49 then 207 else if k = 50 then 208 else if k = 57 then 219 else 0
def suT (k : Nat) : Nat := if k = 0 then 0 else if k = 3 then 3 else if k = 4 then 4 else if k = 5 then 5 else if k = 9 then 9 else if k = 22 then 54 else if k = 24 then 22 else if k = 25 then 254 else if k = 39 then 173 else if k = 45 then 279 else if k = 46 then 280 else if k = 50 then 231 else if k = 53 then 286 else if k = 55 then 22 else if k = 66 then 293 else if k = 70 then 296 else if k = 76 then 308 else if k = 77 then 309 else 0
def suRen : Ren := { f := suF, t := suT, g := fun x => x }
theorem suLays : SlLaysF.n6 Tryz.prog suRen := {
  mixed := by kernel_rfl
  f6 := ⟨ "slices.SortFunc[[]uint64,uint64]", by kernel_rfl, by kernel_rfl⟩
  f14 := ⟨ "slices.pdqsortCmpFunc[uint64]", by kernel_rfl, by kernel_rfl⟩
  f15 := by kernel_rfl
  f20 := ⟨ "slices.insertionSortCmpFunc[uint64]", by kernel_rfl, by kernel_rfl⟩
  f21 := ⟨ "slices.heapSortCmpFunc[uint64]", by kernel_rfl, by kernel_rfl⟩
  f22 := ⟨ "slices.breakPatternsCmpFunc[uint64]", by kernel_rfl, by kernel_rfl⟩
  f23 := ⟨ "slices.choosePivotCmpFunc[uint64]", by kernel_rfl, by kernel_rfl⟩
  f24 := ⟨ "slices.reverseRangeCmpFunc[uint64]", by kernel_rfl, by kernel_rfl⟩
  f25 := ⟨ "slices.partialInsertionSortCmpFunc[uint64]", by kernel_rfl, by kernel_rfl⟩
  f26 := ⟨ "slices.partitionEqualCmpFunc[uint64]", by kernel_rfl, by kernel_rfl⟩
  f27 := ⟨ "slices.partitionCmpFunc[uint64]", by kernel_rfl, by kernel_rfl⟩
  f28 := by kernel_rfl
  f29 := by kernel_rfl
  f46 := ⟨ "slices.siftDownCmpFunc[uint64]", by kernel_rfl, by kernel_rfl⟩
  f47 := by kernel_rfl
  f48 := by kernel_rfl
  f49 := ⟨ "slices.medianAdjacentCmpFunc[uint64]", by kernel_rfl, by kernel_rfl⟩
  f50 := ⟨ "slices.medianCmpFunc[uint64]", by kernel_rfl, by kernel_rfl⟩
  f57 := ⟨ "slices.order2CmpFunc[uint64]", by kernel_rfl, by kernel_rfl⟩
  t0 := by kernel_rfl
  a0 := fun w => by kernel_rfl
  z0 := fun w => by kernel_rfl
  v0 := fun w => by kernel_rfl
  t3 := by kernel_rfl
  a3 := fun w => by kernel_rfl
  z3 := fun w => by kernel_rfl
  v3 := fun w => by kernel_rfl
  t4 := by kernel_rfl
  a4 := fun w => by kernel_rfl
  z4 := fun w => by kernel_rfl
  v4 := fun w => by kernel_rfl
  t5 := by kernel_rfl
  a5 := fun w => by kernel_rfl
  z5 := fun w => by kernel_rfl
  v5 := fun w => by kernel_rfl
  t9 := by kernel_rfl
  a9 := fun w => by kernel_rfl
  z9 := fun w => by kernel_rfl
  v9 := fun w => by kernel_rfl
  t22 := by kernel_rfl
  a22 := fun w => by kernel_rfl
  z22 := fun w => by kernel_rfl
  v22 := fun w => by kernel_rfl
  a24 := fun w => by kernel_rfl
  z24 := fun w => by kernel_rfl
  t25 := by kernel_rfl
  a25 := fun w => by kernel_rfl
  z25 := fun w => by kernel_rfl
  v25 := fun w => by kernel_rfl
  t39 := by kernel_rfl
  a39 := fun w => by kernel_rfl
  z39 := fun w => by kernel_rfl
  v39 := fun w => by kernel_rfl
  t45 := by kernel_rfl
  a45 := fun w => by kernel_rfl
  z45 := fun w => by kernel_rfl
  v45 := fun w => by kernel_rfl
  t46 := by kernel_rfl
  a46 := fun w => by kernel_rfl
  z46 := fun w => by kernel_rfl
  v46 := fun w => by kernel_rfl
  t50 := by kernel_rfl
  a50 := fun w => by kernel_rfl
  z50 := fun w => by kernel_rfl
  v50 := fun w => by kernel_rfl
  t53 := by kernel_rfl
  a53 := fun w => by kernel_rfl
  z53 := fun w => by kernel_rfl
  v53 := fun w => by kernel_rfl
  t55 := by kernel_rfl
  a55 := fun w => by kernel_rfl
  z55 := fun w => by kernel_rfl
  v55 := fun w => by kernel_rfl
  t66 := by kernel_rfl
  a66 := fun w => by kernel_rfl
  z66 := fun w => by kernel_rfl
  v66 := fun w => by kernel_rfl
  t70 := by kernel_rfl
  a70 := fun w => by kernel_rfl
  z70 := fun w => by kernel_rfl
  v70 := fun w => by kernel_rfl
  t76 := by kernel_rfl
  a76 := fun w => by kernel_rfl
  z76 := fun w => by kernel_rfl
  v76 := fun w => by kernel_rfl
  t77 := by kernel_rfl
  a77 := fun w => by kernel_rfl
  z77 := fun w => by kernel_rfl
  v77 := fun w => by kernel_rfl }
end Go.Proofs.YthmdiaingolfnaaGreatDoor.Sf
namespace Go.Proofs.YthmdiaingolfnaaGreatDoor.Sf
open Go.ChangeShapes Go.WideShapes Go.ChangeAt Go.RowKit Rw Go.Shelf Go.Sort
set_option linter.unusedVariables false
end Go.Proofs.YthmdiaingolfnaaGreatDoor.Sf
namespace Go.Proofs.YthmdiaingolfnaaGreatDoor.Sf
open Go.ChangeShapes Go.WideShapes Go.ChangeAt Go.RowKit Rw Go.Shelf
set_option linter.unusedVariables false
end Go.Proofs.YthmdiaingolfnaaGreatDoor.Sf
namespace Go.Proofs.YthmdiaingolfnaaGreatDoor.Wl
open Go.ChangeShapes Go.WideShapes Go.ChangeAt Go.RowKit Go.Maps Rw Sl Sn Ck
set_option linter.unusedVariables false
structure Tel (D : DataW Unit) (l : List (Int × Int)) : Prop where
  hit : ∀ k t, (k, t) ∈ l → ∀ z, D.atKey (.int .u64 k) z = .lit (.int .u64 t)
  has : ∀ k, Maps.has D (.int .u64 k) = decide (k ∈ l.map Prod.fst)
  size : Maps.size D = l.length
theorem lit_ne {k k' : Int} (h : k' ≠ k) : Lit.int .u64 k' ≠ Lit.int .u64 k := fun e => h (by injection e)
theorem Tel.miss {D : DataW Unit} {l : List (Int × Int)} (h : Tel D l) {k : Int} (hk : k ∉ l.map Prod.fst) (z : DataW Unit) : D.atKey (.int .u64 k) z = z :=
  Maps.atKey_of_not_has (by rw [h.has]; simpa using hk) z
theorem Tel.put {D : DataW Unit} {l : List (Int × Int)} (h : Tel D l) (hl : Tms l) (hT : Maps.Tidy D) (k t : Int) : Tel (D.put (.int .u64 k) (.lit (.int .u64 t))) (ins (k, t) (wo l k)) := by
  refine ⟨fun k' t' hm z => ?_, fun k' => ?_, ?_⟩
  · rcases mem_put.1 hm with e | ⟨hm, hne⟩
    · injection e with e1 e2
      subst e1 e2
      exact Maps.atKey_put_same (k := .int .u64 _) hT.isMap trivial _ _
    · rw [Maps.atKey_put_other (lit_ne hne)]
      exact h.hit k' t' hm z
  · by_cases e : k' = k
    · subst e
      rw [Maps.has_put_same (k := .int .u64 _) hT.isMap trivial, decide_eq_true]
      exact Tms.mem_key.2 ⟨t, mem_put.2 (.inl rfl)⟩
    · rw [Maps.has_put_other (lit_ne e), h.has]
      congr 1
      rw [Tms.mem_key, Tms.mem_key, eq_iff_iff]
      constructor
      · rintro ⟨t', ht⟩; exact ⟨t', mem_put.2 (.inr ⟨ht, e⟩)⟩
      · rintro ⟨t', ht⟩
        rcases mem_put.1 ht with e' | ⟨h1, -⟩
        · injection e' with e1 _; exact absurd e1 e
        · exact ⟨t', h1⟩
  · rw [Maps.size_put hT, h.has, h.size]
    by_cases hk : k ∈ l.map Prod.fst
    · rw [put_len_has hl.nd hk]; simp [hk]
    · rw [put_len_new hk]; simp [hk]
theorem Tel.del {D : DataW Unit} {l : List (Int × Int)} (h : Tel D l) (hl : Tms l) (hT : Maps.Tidy D) (k : Int) : Tel (D.del (.int .u64 k)) (wo l k) := by
  refine ⟨fun k' t' hm z => ?_, fun k' => ?_, ?_⟩
  · obtain ⟨hm, hne⟩ := mem_wo.1 hm
    rw [Maps.atKey_del_other (lit_ne hne)]
    exact h.hit k' t' hm z
  · by_cases e : k' = k
    · subst e
      rw [Maps.has_del_same, decide_eq_false wo_key]
    · rw [Maps.has_del_other (lit_ne e), h.has]
      congr 1
      rw [Tms.mem_key, Tms.mem_key, eq_iff_iff]
      constructor
      · rintro ⟨t', ht⟩; exact ⟨t', mem_wo.2 ⟨ht, e⟩⟩
      · rintro ⟨t', ht⟩; exact ⟨t', (mem_wo.1 ht).1⟩
  · have h1 := Maps.size_del (k := .int .u64 k) hT
    rw [h.has, h.size] at h1
    by_cases hk : k ∈ l.map Prod.fst
    · have := wo_len_has hl.nd hk
      simp [hk] at h1
      omega
    · rw [wo_none hk]
      simp [hk] at h1
      exact h1
theorem Tel.nil : Tel (.map []) [] := ⟨fun _ _ h => (by cases h), fun _ => rfl, rfl⟩
def Mw (w : World) (m : Nat) (l : List (Int × Int)) : Prop := ∃ D, w.ownsMap Tryz.prog 22 (plainElem Tryz.prog 22) m l.length D ∧ Tel D l
theorem own_tight {w : World} {b n : Nat} {D : DataW Unit} (h : w.ownsMap Tryz.prog 22 (plainElem Tryz.prog 22) b n D) : w.ownsMap Tryz.prog 22 (plainElem Tryz.prog 22) b (Maps.size D) D := by
  obtain ⟨es, clock, hb, F, hs, hD⟩ := h
  refine ⟨es, clock, hb, F, ?_, hD⟩
  rw [hD]
  show es.size ≤ (List.foldr DataW.insert [] _).length
  rw [length_sorted]
  simp
theorem Mw.mk {w : World} {m n : Nat} {D : DataW Unit} {l : List (Int × Int)} (h : w.ownsMap Tryz.prog 22 (plainElem Tryz.prog 22) m n D) (ht : Tel D l) : Mw w m l := ⟨D, ht.size ▸ own_tight h, ht⟩
theorem Mw.kept {w w' : World} {m : Nat} {l : List (Int × Int)} (h : Mw w m l) {row : Option Nat} (hg : w.grownBy w' row) (hne : some m ≠ row) : Mw w' m l := by
  obtain ⟨D, h1, h2⟩ := h
  exact ⟨D, h1.kept hg hne, h2⟩
theorem Mw.lt {w : World} {m : Nat} {l : List (Int × Int)} (h : Mw w m l) : m < w.heap.size := by
  obtain ⟨D, h1, h2⟩ := h
  exact h1.lt
theorem Mw.block {w w' : World} {m : Nat} {l : List (Int × Int)} (h : Mw w m l) (hb : w'.heap[m]? = w.heap[m]?) : Mw w' m l := by
  obtain ⟨D, ⟨es, clock, h1, h2⟩, h3⟩ := h
  exact ⟨D, ⟨es, clock, hb.trans h1, h2⟩, h3⟩
structure Wh (w : World) (p m : Nat) (l : List (Int × Int)) : Prop where
  cell : w.cell? ⟨p, 0, none⟩ = some (.map (some m))
  own : Mw w m l
  tms : Tms l
theorem Wh.lt {w : World} {p m : Nat} {l : List (Int × Int)} (h : Wh w p m l) : p < w.heap.size ∧ m < w.heap.size := ⟨Lw.lt_heap h.cell, h.own.lt⟩
theorem Wh.ne {w : World} {p m : Nat} {l : List (Int × Int)} (h : Wh w p m l) : p ≠ m := by
  intro e
  subst e
  obtain ⟨D, ⟨es, clock, h1, h2⟩, h3⟩ := h.own
  have hc := h.cell
  simp [World.cell?, h1] at hc
theorem Wh.kept {w w' : World} {p m : Nat} {l : List (Int × Int)} (h : Wh w p m l) {row : Option Nat} (hg : w.grownBy w' row) (hp : some p ≠ row) (hm : some m ≠ row) : Wh w' p m l :=
  ⟨hg.cell h.cell hp, h.own.kept hg hm, h.tms⟩
theorem Wh.below {w w' : World} {p m B : Nat} {l : List (Int × Int)} (h : Wh w p m l) (hb : Below B w w') (hp : p < B) (hm : m < B) : Wh w' p m l :=
  ⟨(hb.cell (p := ⟨p, 0, none⟩) hp).trans h.cell, h.own.block (hb.block m hm), h.tms⟩
theorem Wh.later {w w' : World} {p m : Nat} {l : List (Int × Int)} (h : Wh w p m l) (hb : Below w.heap.size w w') : Wh w' p m l := h.below hb h.lt.1 h.lt.2
theorem Wh.turned {w w' : World} {p m : Nat} {l l' : List (Int × Int)} (h : Wh w p m l) (hg : w.grownBy w' (some m)) (ho : Mw w' m l') (ht : Tms l') : Wh w' p m l' :=
  ⟨hg.cell h.cell (fun e => h.ne (by injection e)), ho, ht⟩
theorem law : Keyed Tryz.prog 22 := int_keyed Tryz.underlying22
theorem zeroE (w : World) : (zeroValue 22).run Tryz.prog w = .ok (.int .u64 0) w := by kernel_rfl
theorem wf64 {k : Int} (h : 0 ≤ k ∧ k ≤ 18446744073709551615) : (Lit.int .u64 k).wf = true := Sn.wf_u64 h
theorem key64 {k : Int} (h : 0 ≤ k ∧ k ≤ 18446744073709551615) : keyOf Tryz.prog 22 (.int .u64 k) = some (.int .u64 k) := keyOf_int_mk Tryz.underlying22 (wf64 h)
theorem new_any (w : World) :
    Calls Tryz.prog 77 #[] w fun e w' => e = .returned (.pointer (some ⟨w.heap.size + 1, 0, none⟩)) ∧ Wh w' (w.heap.size + 1) w.heap.size [] ∧ Below w.heap.size w w' ∧ w'.heap.size = w.heap.size + 2 := by
  have hmm := @run_makeMap Tryz.prog
  go_enter Tryz.func77, Tryz.ntmps77
  go_wp2
  go_ret
  refine ⟨rfl, ⟨by go_simp, Mw.mk ((World.ownsMap_made w _ _ _).alloc _) Tel.nil, Tms.nil⟩, ((Below.refl _ _).alloc (Nat.le_refl _) _).alloc (by simp) _, by simp⟩
theorem len_any (w : World) (p m : Nat) (l : List (Int × Int)) (h : Wh w p m l) :
    Calls Tryz.prog 290 #[.pointer (some ⟨p, 0, none⟩)] w fun e w' => e = .returned (.int .i64 l.length) ∧ w = w' := by
  obtain ⟨hc, ⟨D, ho, ht⟩, -⟩ := h
  have hs := Lib.hid ht.size
  clear ht
  go_enter Tryz.func290, Tryz.ntmps290
  go_wp2_with (at_len; refine wpList_len_own _ rfl _ 200 rfl 22 22 Tryz.underlying200 _ m l.length D rfl ho ?_)
  go_ret
  exact ⟨by rw [hs.out]; rfl, rfl⟩
def tick (l : List (Int × Int)) (k : Int) : Int := ((l.find? (fun a => a.1 == k)).map Prod.snd).getD 0
theorem tick_hit {l : List (Int × Int)} (h : Tms l) {k t : Int} (hm : (k, t) ∈ l) : tick l k = t := by
  unfold tick
  cases hf : l.find? (fun a => a.1 == k) with
  | none => exact absurd (List.find?_eq_none.1 hf _ hm) (by simp)
  | some a =>
    have h1 := List.mem_of_find?_eq_some hf
    have h2 := List.find?_some hf
    simp at h2
    subst h2
    exact h.uniq (t := a.2) h1 hm
theorem tick_miss {l : List (Int × Int)} {k : Int} (hm : k ∉ l.map Prod.fst) : tick l k = 0 := by
  unfold tick
  cases hf : l.find? (fun a => a.1 == k) with
  | none => rfl
  | some a =>
    have h1 := List.mem_of_find?_eq_some hf
    have h2 := List.find?_some hf
    simp at h2
    exact absurd (List.mem_map.2 ⟨a, h1, h2⟩) hm
theorem Tel.tick {D : DataW Unit} {l : List (Int × Int)} (h : Tel D l) (ht : Tms l) (k : Int) : D.atKey (.int .u64 k) (.lit (.int .u64 0)) = .lit (.int .u64 (tick l k)) := by
  by_cases hk : k ∈ l.map Prod.fst
  · obtain ⟨t, hm⟩ := Tms.mem_key.1 hk
    rw [h.hit k t hm, tick_hit ht hm]
  · rw [h.miss hk, tick_miss hk]
theorem lit_inj {a b : Int} (h : (DataW.lit (.int .u64 a) : DataW Unit) = .lit (.int .u64 b)) : a = b := by
  injection h with h; injection h
section
variable (w : World) {ops : Array Oper} {rest : List Oper} {o : Oper} {a : Act} {Q : Exit → Act → World → Prop}
theorem look_ok (hg : o.guard = none) (m x : Operand) (hop : o.op = Op.lookup 200 m x true) (b n : Nat) (D : DataW Unit) (l : List (Int × Int)) (k : Int) (hk : 0 ≤ k ∧ k ≤ 18446744073709551615)
    (hm : a.eval m = .map (some b)) (ho : w.ownsMap Tryz.prog 22 (plainElem Tryz.prog 22) b n D) (ht : Tel D l) (tms : Tms l) (hx : a.eval x = .int .u64 k)
    (hK : wpList Tryz.prog ops Q rest (a.put o.dst (.tuple #[.int .u64 (Wl.tick l k), .bool (decide (k ∈ l.map Prod.fst))])) w) : wpList Tryz.prog ops Q (o :: rest) a w := by
  refine wpList_lookup_own_ok_int w hg m x 200 hop 22 22 .u64 law Tryz.underlying200 Tryz.underlying22 (zeroE _) b n D hm ho _ _ hx (key64 hk) ?_
  intro c hat hwc
  rw [ht.tick tms k] at hat
  obtain rfl := lit_inj hat
  rw [ht.has]
  exact hK
end
end Go.Proofs.YthmdiaingolfnaaGreatDoor.Wl
namespace Go.Proofs.YthmdiaingolfnaaGreatDoor.Wl
open Go.ChangeShapes Go.WideShapes Go.ChangeAt Go.RowKit Go.Maps Rw Sl Sn Ck
set_option linter.unusedVariables false
theorem cut_add {t : Int} : cAdd t 0 = cut t := by unfold cAdd cut; simp
theorem grown_two (w : World) (a b : Obj) (row : Option Nat) : w.grownBy ((w.alloc a).alloc b).drew row :=
  ⟨rfl, rfl, rfl, by simp; omega, fun k hk _ => (Below.heap_alloc (w.alloc a) b k (by simp; omega)).trans (Below.heap_alloc w a k hk)⟩
def armE (l : List (Int × Int)) (k : Int) : Int := if full l k then 11 else 0
set_option maxRecDepth 100000 in
set_option maxHeartbeats 2000000 in
theorem arm_put (w : World) (p m : Nat) (l : List (Int × Int)) (k t : Int) (h : Wh w p m l) (hk : 0 ≤ k ∧ k ≤ 18446744073709551615) (ht : 0 ≤ t ∧ t ≤ 18446744073709551615) (hl : l.length ≤ 1024) (hf : full l k = false) :
    Calls Tryz.prog 117 #[.pointer (some ⟨p, 0, none⟩), .int .u64 k, .int .u64 t] w fun e w' => e = .returned (.int .i64 0) ∧ Wh w' p m (ins (k, cut t) (wo l k)) ∧ w.grownBy w' (some m) := by
  have H := Lib.hid h
  obtain ⟨hc, ⟨D, ho, htel⟩, tms⟩ := h
  have hlen : ∀ ty, (Builtin.len_ #[200] ty #[.map (some m)]).run Tryz.prog w = .ok (.int .i64 l.length) w := fun ty => by rw [ho.len Tryz.underlying200 ty, htel.size]
  have hpl := H.out.lt.1
  have hml := H.out.lt.2
  have hne := H.out.ne
  have HT := Lib.hid htel
  have HM := Lib.hid tms
  have HK := Lib.hid hk
  have HA := Lib.hid ht
  have HO := Lib.hid ho
  have HF := Lib.hid hf
  clear htel tms hk ht hf
  by_cases hin : k ∈ l.map Prod.fst
  · have hd : decide (k ∈ l.map Prod.fst) = true := decide_eq_true hin
    clear hin
    go_enter Tryz.func117, Tryz.ntmps117
    go_wp2_with (at_lookup; refine look_ok _ rfl _ _ rfl m l.length D l k HK.out rfl ho HT.out HM.out rfl ?_)
    refine reg_start 8 (fun w' => w'.cell? ⟨p, 0, none⟩ = some (.map (some m))) (by kernel_rfl) (by kernel_rfl) ?_
    intro hT
    have HR := Lib.hid hT
    clear hT hlen
    refine reg_load 0 HR.out rfl (by kernel_rfl) (by decide) (fun _ _ _ _ h => h) hc rfl ?_
    apply Exists.intro
    refine ⟨fun w' hw => by (go_simp; exact rfl), ?_⟩
    refine reg_load 1 HR.out rfl (by kernel_rfl) (by decide) (fun _ _ _ _ h => h) hc rfl ?_
    apply Exists.intro
    refine ⟨fun w' hw => by (go_simp; exact rfl), ?_⟩
    refine reg_load 2 HR.out rfl (by kernel_rfl) (by decide) (fun _ _ _ _ h => h) hc rfl ?_
    apply Exists.intro
    refine ⟨fun w' hw => by (go_simp; exact rfl), ?_⟩
    refine reg_load 3 HR.out rfl (by kernel_rfl) (by decide) (fun _ _ _ _ h => h) hc rfl ?_
    apply Exists.intro
    refine ⟨fun w' hw => by (go_simp; exact rfl), ?_⟩
    refine reg_load 4 HR.out rfl (by kernel_rfl) (by decide) (fun _ _ _ _ h => h) hc rfl ?_
    apply Exists.intro
    refine ⟨fun w' hw => by (go_simp; exact rfl), ?_⟩
    refine reg_load 5 HR.out rfl (by kernel_rfl) (by decide) (fun _ _ _ _ h => h) hc rfl ?_
    apply Exists.intro
    refine ⟨fun w' hw => by (go_simp; exact rfl), ?_⟩
    refine reg_only 6 rfl (by kernel_rfl) rfl ?_
    unfold Oper.wp
    go_simp
    refine (Ck.at_any _ _ HA.out.1 HA.out.2).mono ?_
    rintro e w1 ⟨rfl, rfl⟩
    have hc1 := alloc_cell (w := w.drew) (a := ⟨p, 0, none⟩) hc (bx (cAdd t 0))
    refine ⟨hc1, ?_⟩
    refine reg_only 7 rfl (by kernel_rfl) rfl ?_
    unfold Oper.wp
    go_simp
    refine (Ck.now_any _ _).mono ?_
    rintro e w1 ⟨rfl, rfl⟩
    have hc2 := alloc_cell hc1 (bx (cAdd t 0))
    refine ⟨hc2, ?_⟩
    refine reg_only 8 rfl (by kernel_rfl) rfl ?_
    unfold Oper.wp
    go_simp
    obtain ⟨w3, hrun, ho3, hg3⟩ := ((ho.alloc (bx (cAdd t 0))).alloc (bx (cAdd t 0))).drew.update law Tryz.underlying200 (by unfold maxLen; omega) (key64 HK.out) (plainElem_int Tryz.underlying22 (wf64 (k := cAdd t 0) ⟨cAdd_lo _ _ HA.out.1 (by omega), cAdd_u _ _⟩))
    rw [hrun]
    go_simp
    refine reg_done (by kernel_rfl) ?_
    have hgw : w.grownBy w3 (some m) := World.grownBy.andThen (grown_two w (bx (cAdd t 0)) (bx (cAdd t 0)) (some m)) hg3 (fun j hj => .inr hj)
    rw [cut_add] at ho3
    have HG := Lib.hid (H.out.turned hgw (Mw.mk ho3 (HT.out.put HM.out (ho.tidy law) k (cut t))) (HM.out.put HK.out (cut_ok HA.out.1)))
    have HGW := Lib.hid hgw
    clear hgw hg3 ho3 hrun hc hc1 hc2
    go_wp2
    go_ret
    exact ⟨rfl, HG.out, HGW.out⟩
  · have hd : decide (k ∈ l.map Prod.fst) = false := decide_eq_false hin
    have hlt : l.length < 1024 := by
      have := HF.out
      rw [full_new hin] at this
      simpa using this
    clear hin
    go_enter Tryz.func117, Tryz.ntmps117
    go_wp2_with (at_lookup; refine look_ok _ rfl _ _ rfl m l.length D l k HK.out rfl ho HT.out HM.out rfl ?_)
    refine reg_start 8 (fun w' => w'.cell? ⟨p, 0, none⟩ = some (.map (some m))) (by kernel_rfl) (by kernel_rfl) ?_
    intro hT
    have HR := Lib.hid hT
    clear hT hlen
    refine reg_load 0 HR.out rfl (by kernel_rfl) (by decide) (fun _ _ _ _ h => h) hc rfl ?_
    apply Exists.intro
    refine ⟨fun w' hw => by (go_simp; exact rfl), ?_⟩
    refine reg_load 1 HR.out rfl (by kernel_rfl) (by decide) (fun _ _ _ _ h => h) hc rfl ?_
    apply Exists.intro
    refine ⟨fun w' hw => by (go_simp; exact rfl), ?_⟩
    refine reg_load 2 HR.out rfl (by kernel_rfl) (by decide) (fun _ _ _ _ h => h) hc rfl ?_
    apply Exists.intro
    refine ⟨fun w' hw => by (go_simp; exact rfl), ?_⟩
    refine reg_load 3 HR.out rfl (by kernel_rfl) (by decide) (fun _ _ _ _ h => h) hc rfl ?_
    apply Exists.intro
    refine ⟨fun w' hw => by (go_simp; exact rfl), ?_⟩
    refine reg_load 4 HR.out rfl (by kernel_rfl) (by decide) (fun _ _ _ _ h => h) hc rfl ?_
    apply Exists.intro
    refine ⟨fun w' hw => by (go_simp; exact rfl), ?_⟩
    refine reg_load 5 HR.out rfl (by kernel_rfl) (by decide) (fun _ _ _ _ h => h) hc rfl ?_
    apply Exists.intro
    refine ⟨fun w' hw => by (go_simp; exact rfl), ?_⟩
    refine reg_only 6 rfl (by kernel_rfl) rfl ?_
    unfold Oper.wp
    go_simp
    refine (Ck.at_any _ _ HA.out.1 HA.out.2).mono ?_
    rintro e w1 ⟨rfl, rfl⟩
    have hc1 := alloc_cell (w := w.drew) (a := ⟨p, 0, none⟩) hc (bx (cAdd t 0))
    refine ⟨hc1, ?_⟩
    refine reg_only 7 rfl (by kernel_rfl) rfl ?_
    unfold Oper.wp
    go_simp
    refine (Ck.now_any _ _).mono ?_
    rintro e w1 ⟨rfl, rfl⟩
    have hc2 := alloc_cell hc1 (bx (cAdd t 0))
    refine ⟨hc2, ?_⟩
    refine reg_only 8 rfl (by kernel_rfl) rfl ?_
    unfold Oper.wp
    go_simp
    obtain ⟨w3, hrun, ho3, hg3⟩ := ((ho.alloc (bx (cAdd t 0))).alloc (bx (cAdd t 0))).drew.update law Tryz.underlying200 (by unfold maxLen; omega) (key64 HK.out) (plainElem_int Tryz.underlying22 (wf64 (k := cAdd t 0) ⟨cAdd_lo _ _ HA.out.1 (by omega), cAdd_u _ _⟩))
    rw [hrun]
    go_simp
    refine reg_done (by kernel_rfl) ?_
    have hgw : w.grownBy w3 (some m) := World.grownBy.andThen (grown_two w (bx (cAdd t 0)) (bx (cAdd t 0)) (some m)) hg3 (fun j hj => .inr hj)
    rw [cut_add] at ho3
    have HG := Lib.hid (H.out.turned hgw (Mw.mk ho3 (HT.out.put HM.out (ho.tidy law) k (cut t))) (HM.out.put HK.out (cut_ok HA.out.1)))
    have HGW := Lib.hid hgw
    clear hgw hg3 ho3 hrun hc hc1 hc2
    go_wp2
    go_ret
    exact ⟨rfl, HG.out, HGW.out⟩
set_option maxRecDepth 100000 in
theorem arm_full (w : World) (p m : Nat) (l : List (Int × Int)) (k t : Int) (h : Wh w p m l) (hk : 0 ≤ k ∧ k ≤ 18446744073709551615) (hl : l.length ≤ 1024) (hf : full l k = true) :
    Calls Tryz.prog 117 #[.pointer (some ⟨p, 0, none⟩), .int .u64 k, .int .u64 t] w fun e w' => e = .returned (.int .i64 11) ∧ w = w' := by
  have H := Lib.hid h
  obtain ⟨hc, ⟨D, ho, htel⟩, tms⟩ := h
  have hin : k ∉ l.map Prod.fst := fun hin => by rw [full_has tms.nd hin hl] at hf; cases hf
  rw [full_new hin] at hf
  have hfl : 1024 ≤ l.length := by simpa using hf
  have hlen : ∀ ty, (Builtin.len_ #[200] ty #[.map (some m)]).run Tryz.prog w = .ok (.int .i64 l.length) w := fun ty => by rw [ho.len Tryz.underlying200 ty, htel.size]
  have hd : decide (k ∈ l.map Prod.fst) = false := decide_eq_false hin
  have HT := Lib.hid htel
  have HM := Lib.hid tms
  have HK := Lib.hid hk
  clear htel tms hk hf hin
  go_enter Tryz.func117, Tryz.ntmps117
  go_wp2_with (at_lookup; refine look_ok _ rfl _ _ rfl m l.length D l k HK.out rfl ho HT.out HM.out rfl ?_)
  go_ret
  exact ⟨rfl, rfl⟩
theorem arm_any (w : World) (p m : Nat) (l : List (Int × Int)) (k t : Int) (h : Wh w p m l) (hk : 0 ≤ k ∧ k ≤ 18446744073709551615) (ht : 0 ≤ t ∧ t ≤ 18446744073709551615) (hl : l.length ≤ 1024) :
    Calls Tryz.prog 117 #[.pointer (some ⟨p, 0, none⟩), .int .u64 k, .int .u64 t] w fun e w' => e = .returned (.int .i64 (armE l k)) ∧ Wh w' p m (arm l k t) ∧ w.grownBy w' (some m) := by
  unfold armE arm
  cases hf : full l k with
  | true => exact (arm_full w p m l k t h hk hl hf).mono fun e w' ⟨h1, h2⟩ => ⟨h1, by subst h2; exact h, by subst h2; exact World.grownBy.refl _ _⟩
  | false => exact arm_put w p m l k t h hk ht hl hf
end Go.Proofs.YthmdiaingolfnaaGreatDoor.Wl
namespace Go.Proofs.YthmdiaingolfnaaGreatDoor.Wl
open Go.ChangeShapes Go.WideShapes Go.ChangeAt Go.RowKit Go.Maps Rw Sl Sn Ck Go.Sort
set_option linter.unusedVariables false
theorem isnan_any (x : Int) (w : World) : Calls Tryz.prog 172 #[.int .u64 x] w fun e w' => e = .returned (.bool false) ∧ w = w' := by
  go_enter Tryz.func172, Tryz.ntmps172
  go_wp2
  go_ret
  exact ⟨by simp, rfl⟩
def cmpI (x y : Int) : Int := if x < y then -1 else if y < x then 1 else 0
theorem compare_any (x y : Int) (w : World) : Calls Tryz.prog 163 #[.int .u64 x, .int .u64 y] w fun e w' => e = .returned (.int .i64 (cmpI x y)) ∧ w = w' := by
  rcases Int.lt_trichotomy x y with h | h | h
  · have e1 : cmpI x y = -1 := by unfold cmpI; rw [if_pos h]
    rw [e1]
    clear e1
    go_enter Tryz.func163, Tryz.ntmps163
    go_wp2_with (first | (go_at_call 172; refine (isnan_any _ _).mono ?_; rintro e w' ⟨rfl, rfl⟩))
    go_ret
    exact ⟨rfl, rfl⟩
  · subst h
    have e1 : cmpI x x = 0 := by unfold cmpI; simp
    rw [e1]
    clear e1
    go_enter Tryz.func163, Tryz.ntmps163
    go_wp2_with (first | (go_at_call 172; refine (isnan_any _ _).mono ?_; rintro e w' ⟨rfl, rfl⟩))
    go_ret
    exact ⟨rfl, rfl⟩
  · have e1 : cmpI x y = 1 := by unfold cmpI; rw [if_neg (by omega), if_pos h]
    have h2 : ¬ x < y := by omega
    have h3 : decide (x < y) = false := decide_eq_false h2
    rw [e1]
    clear e1 h2
    go_enter Tryz.func163, Tryz.ntmps163
    go_wp2_with (first | (go_at_call 172; refine (isnan_any _ _).mono ?_; rintro e w' ⟨rfl, rfl⟩))
    go_ret
    exact ⟨rfl, rfl⟩
def orI (a b : Int) : Int := if a = 0 then b else a
theorem or_any (g : Nat) (a b : Int) (w : World) (h0 : w.cell? ⟨g, 0, none⟩ = some (.int .i64 a)) (h1 : w.cell? ⟨g, 1, none⟩ = some (.int .i64 b)) :
    Calls Tryz.prog 162 #[.slice (some ⟨g, 0, none⟩) 2 2] w fun e w' => e = .returned (.int .i64 (orI a b)) ∧ w = w' := by
  by_cases ha : a = 0
  · subst ha
    have e1 : orI 0 b = b := by unfold orI; simp
    rw [e1]
    clear e1
    by_cases hb : b = 0
    · subst hb
      go_enter Tryz.func162, Tryz.ntmps162
      go_wp2_with fail
      refine wp_loop_rounds 3 ?_
      rw [rounds_succ]
      go_wp2_with fail
      rw [rounds_succ]
      go_wp2_with fail
      rw [rounds_succ]
      go_wp2_with fail
      go_ret
      exact ⟨rfl, rfl⟩
    · have hq : (b != 0) = true := by simpa using hb
      clear hb
      go_enter Tryz.func162, Tryz.ntmps162
      go_wp2_with fail
      refine wp_loop_rounds 3 ?_
      rw [rounds_succ]
      go_wp2_with fail
      rw [rounds_succ]
      go_wp2_with fail
      go_ret
      exact ⟨rfl, rfl⟩
  · have e1 : orI a b = a := by unfold orI; rw [if_neg ha]
    have hq : (a != 0) = true := by simpa using ha
    rw [e1]
    clear e1 ha
    go_enter Tryz.func162, Tryz.ntmps162
    go_wp2_with fail
    refine wp_loop_rounds 3 ?_
    rw [rounds_succ]
    go_wp2_with fail
    go_ret
    exact ⟨rfl, rfl⟩
theorem look_run {w : World} {b n : Nat} {D : DataW Unit} {l : List (Int × Int)} {k : Int} (hk : 0 ≤ k ∧ k ≤ 18446744073709551615) (ho : w.ownsMap Tryz.prog 22 (plainElem Tryz.prog 22) b n D) (ht : Tel D l) (tms : Tms l) :
    (Instr.lookup 200 (.map (some b)) (.int .u64 k) false).run Tryz.prog w = .ok (.int .u64 (Wl.tick l k)) w := by
  obtain ⟨c, hrun, hat, -⟩ := ho.lookup_int law Tryz.underlying200 Tryz.underlying22 (zeroE _) (key64 hk)
  rw [ht.tick tms k] at hat
  obtain rfl := lit_inj hat
  exact hrun
theorem grow_one (w : World) (o : Obj) : (w.alloc o).drew = grow (w.drewN 1) #[o] := by
  rw [← alloc_eq_grow]; rfl
def cf (l : List (Int × Int)) (x y : Int) : Int := orI (cmpI (Wl.tick l x) (Wl.tick l y)) (cmpI x y)
set_option maxRecDepth 100000 in
set_option maxHeartbeats 4000000 in
theorem clo_any (w : World) (q p m n : Nat) (D : DataW Unit) (l : List (Int × Int)) (x y : Int) (hx : 0 ≤ x ∧ x ≤ 18446744073709551615) (hy : 0 ≤ y ∧ y ≤ 18446744073709551615)
    (hq : w.cell? ⟨q, 0, none⟩ = some (.pointer (some ⟨p, 0, none⟩))) (hp : w.cell? ⟨p, 0, none⟩ = some (.map (some m))) (ho : w.ownsMap Tryz.prog 22 (plainElem Tryz.prog 22) m n D) (ht : Tel D l) (tms : Tms l) :
    Calls Tryz.prog 161 #[.int .u64 x, .int .u64 y, .pointer (some ⟨q, 0, none⟩)] w fun e w' => e = .returned (.int .i64 (cf l x y)) ∧ ∃ a os, w' = grow (w.drewN a) os := by
  have HX := Lib.hid hx
  have HY := Lib.hid hy
  have HT := Lib.hid ht
  have HM := Lib.hid tms
  have HO := Lib.hid ho
  clear hx hy ht tms ho
  go_enter Tryz.func161, Tryz.ntmps161
  go_wp2_with fail
  refine reg_start 16 (fun w' => w'.cell? ⟨q, 0, none⟩ = some (.pointer (some ⟨p, 0, none⟩)) ∧ w'.cell? ⟨p, 0, none⟩ = some (.map (some m)) ∧ w'.ownsMap Tryz.prog 22 (plainElem Tryz.prog 22) m n D) (by kernel_rfl) (by kernel_rfl) ?_
  intro hT
  have HR := Lib.hid hT
  clear hT
  have hS : (fun w' : World => w'.cell? ⟨q, 0, none⟩ = some (.pointer (some ⟨p, 0, none⟩)) ∧ w'.cell? ⟨p, 0, none⟩ = some (.map (some m)) ∧ w'.ownsMap Tryz.prog 22 (plainElem Tryz.prog 22) m n D) w.drew := ⟨hq, hp, HO.out.drew⟩
  have HS := Lib.hid hS
  clear hS
  refine reg_load 0 HR.out rfl (by kernel_rfl) (by decide) (fun _ _ _ _ h => h) HS.out rfl ?_
  apply Exists.intro
  refine ⟨fun w' hw => by (obtain ⟨h1, h2, h3⟩ := hw; go_simp; exact rfl), ?_⟩
  refine reg_load 1 HR.out rfl (by kernel_rfl) (by decide) (fun _ _ _ _ h => h) HS.out rfl ?_
  apply Exists.intro
  refine ⟨fun w' hw => by (obtain ⟨h1, h2, h3⟩ := hw; go_simp; exact rfl), ?_⟩
  refine reg_load 2 HR.out rfl (by kernel_rfl) (by decide) (fun _ _ _ _ h => h) HS.out rfl ?_
  apply Exists.intro
  refine ⟨fun w' hw => by (obtain ⟨h1, h2, h3⟩ := hw; go_simp; exact rfl), ?_⟩
  refine reg_load 3 HR.out rfl (by kernel_rfl) (by decide) (fun _ _ _ _ h => h) HS.out rfl ?_
  apply Exists.intro
  refine ⟨fun w' hw => by (obtain ⟨h1, h2, h3⟩ := hw; go_simp; exact rfl), ?_⟩
  refine reg_load 4 HR.out rfl (by kernel_rfl) (by decide) (fun _ _ _ _ h => h) HS.out rfl ?_
  apply Exists.intro
  refine ⟨fun w' hw => by (obtain ⟨h1, h2, h3⟩ := hw; go_simp; exact rfl), ?_⟩
  refine reg_load 5 HR.out rfl (by kernel_rfl) (by decide) (fun _ _ _ _ h => h) HS.out rfl ?_
  apply Exists.intro
  refine ⟨fun w' hw => by (obtain ⟨h1, h2, h3⟩ := hw; have hl := look_run HX.out h3 HT.out HM.out; go_simp; exact rfl), ?_⟩
  refine reg_load 6 HR.out rfl (by kernel_rfl) (by decide) (fun _ _ _ _ h => h) HS.out rfl ?_
  apply Exists.intro
  refine ⟨fun w' hw => by (obtain ⟨h1, h2, h3⟩ := hw; go_simp; exact rfl), ?_⟩
  refine reg_load 7 HR.out rfl (by kernel_rfl) (by decide) (fun _ _ _ _ h => h) HS.out rfl ?_
  apply Exists.intro
  refine ⟨fun w' hw => by (obtain ⟨h1, h2, h3⟩ := hw; go_simp; exact rfl), ?_⟩
  refine reg_load 8 HR.out rfl (by kernel_rfl) (by decide) (fun _ _ _ _ h => h) HS.out rfl ?_
  apply Exists.intro
  refine ⟨fun w' hw => by (obtain ⟨h1, h2, h3⟩ := hw; go_simp; exact rfl), ?_⟩
  refine reg_load 9 HR.out rfl (by kernel_rfl) (by decide) (fun _ _ _ _ h => h) HS.out rfl ?_
  apply Exists.intro
  refine ⟨fun w' hw => by (obtain ⟨h1, h2, h3⟩ := hw; go_simp; exact rfl), ?_⟩
  refine reg_load 10 HR.out rfl (by kernel_rfl) (by decide) (fun _ _ _ _ h => h) HS.out rfl ?_
  apply Exists.intro
  refine ⟨fun w' hw => by (obtain ⟨h1, h2, h3⟩ := hw; go_simp; exact rfl), ?_⟩
  refine reg_load 11 HR.out rfl (by kernel_rfl) (by decide) (fun _ _ _ _ h => h) HS.out rfl ?_
  apply Exists.intro
  refine ⟨fun w' hw => by (obtain ⟨h1, h2, h3⟩ := hw; have hl := look_run HY.out h3 HT.out HM.out; go_simp; exact rfl), ?_⟩
  refine reg_load 13 HR.out rfl (by kernel_rfl) (by decide) (fun _ _ _ _ h => h) HS.out rfl ?_
  apply Exists.intro
  refine ⟨fun w' hw => by (obtain ⟨h1, h2, h3⟩ := hw; go_simp; exact rfl), ?_⟩
  refine reg_load 14 HR.out rfl (by kernel_rfl) (by decide) (fun _ _ _ _ h => h) HS.out rfl ?_
  apply Exists.intro
  refine ⟨fun w' hw => by (obtain ⟨h1, h2, h3⟩ := hw; go_simp; exact rfl), ?_⟩
  refine reg_only 12 rfl (by kernel_rfl) rfl ?_
  unfold Oper.wp
  go_simp
  refine (compare_any _ _ _).mono ?_
  rintro e w1 ⟨rfl, rfl⟩
  refine ⟨HS.out, ?_⟩
  refine reg_only 15 rfl (by kernel_rfl) rfl ?_
  unfold Oper.wp
  go_simp
  refine (compare_any _ _ _).mono ?_
  rintro e w1 ⟨rfl, rfl⟩
  refine ⟨HS.out, ?_⟩
  refine reg_only 16 rfl (by kernel_rfl) rfl ?_
  unfold Oper.wp
  go_simp
  refine reg_only 17 rfl (by kernel_rfl) rfl ?_
  unfold Oper.wp
  go_simp
  refine (or_any _ (cmpI (Wl.tick l x) (Wl.tick l y)) (cmpI x y) _ (by go_simp) (by go_simp)).mono ?_
  rintro e w1 ⟨rfl, rfl⟩
  go_simp
  refine reg_only 18 rfl (by kernel_rfl) rfl ?_
  unfold Oper.wp
  go_simp
  refine reg_done (by kernel_rfl) ?_
  go_wp2_with fail
  go_ret
  exact ⟨rfl, 1, _, grow_one w _⟩
theorem ins0_any (p : Option Addr) (cap : Nat) (fv : Value) (w : World) :
    Calls Tryz.prog 183 #[.slice p 0 cap, .int .i64 0, .int .i64 0, fv] w fun e w' => e = .returned (.tuple #[]) ∧ w = w' := by
  go_enter Tryz.func183, Tryz.ntmps183
  go_wp2
  refine wp_loop_rounds 1 ?_
  rw [rounds_succ]
  go_wp2
  go_end0
  exact ⟨rfl, rfl⟩
theorem pdq0_any (p : Option Addr) (cap : Nat) (lim : Int) (fv : Value) (w : World) :
    Calls Tryz.prog 170 #[.slice p 0 cap, .int .i64 0, .int .i64 0, .int .i64 lim, fv] w fun e w' => e = .returned (.tuple #[]) ∧ w = w' := by
  go_enter Tryz.func170, Tryz.ntmps170
  go_wp2
  refine wp_loop_rounds 1 ?_
  rw [rounds_succ]
  go_wp2_with (go_at_call 183; refine (ins0_any _ _ _ _).mono ?_; rintro e w' ⟨rfl, rfl⟩)
  (try simp only [Exit.inBlock, Exit.then])
  refine bodyPost_ret (results_none rfl _ _ _) rfl ?_
  exact ⟨rfl, rfl⟩
theorem blen_any (n : Nat) (w : World) (h : n ≤ 9223372036854775807) : Calls Tryz.prog 171 #[.int .u64 n] w fun e w' => e = .returned (.int .i64 (Lib.bitLen n)) ∧ w = w' := by
  have h := Any.bits_Len (SlLaysF0.n15.bits (P := Tryz.prog) (ρ := Sf.suRen) { Sf.suLays with }) (n : Int) w (by omega) (by omega)
  exact h.mono fun e w' ⟨h1, h2⟩ => ⟨by simpa using h1, h2.symm⟩
theorem sort0_any (p : Option Addr) (cap : Nat) (fv : Value) (w : World) :
    Calls Tryz.prog 160 #[.slice p 0 cap, fv] w fun e w' => e = .returned (.tuple #[]) ∧ w = w' := by
  have hl := fun w => blen_any 0 w (by omega)
  simp only [Int.natCast_zero] at hl
  go_enter Tryz.func160, Tryz.ntmps160
  go_wp2_with (first | (go_at_call 171; refine (hl _).mono ?_; rintro e w' ⟨rfl, rfl⟩) | (go_at_call 170; refine (pdq0_any _ _ _ _ _).mono ?_; rintro e w' ⟨rfl, rfl⟩))
  go_end0
  exact ⟨rfl, rfl⟩
end Go.Proofs.YthmdiaingolfnaaGreatDoor.Wl
namespace Go.Proofs.YthmdiaingolfnaaGreatDoor.Wl
open Go.ChangeShapes Go.WideShapes Go.ChangeAt Go.RowKit Go.Maps Rw Sl Sn Ck
set_option linter.unusedVariables false
def first : List (Int × Int) → Int
  | [] => 0
  | a :: _ => a.2
theorem left_struck {left : Lit → Bool} {x k : Int} : (left (.int .u64 k) && !(Lit.int .u64 k).sameKey (.int .u64 x)) = false ↔ left (.int .u64 k) = false ∨ k = x := by
  have : (Lit.int .u64 k).sameKey (.int .u64 x) = decide (k = x) := by simp [Lit.sameKey]
  rw [this]
  cases left (.int .u64 k) <;> simp
theorem Tel.of_at {D : DataW Unit} {l : List (Int × Int)} (h : Tel D l) (ht : Tms l) {x c : Int} (hat : ∀ zd, D.atKey (.int .u64 x) zd = .lit (.int .u64 c)) : (x, c) ∈ l := by
  by_cases hx : x ∈ l.map Prod.fst
  · obtain ⟨t, hm⟩ := Tms.mem_key.1 hx
    have := h.hit x t hm (.lit (.int .u64 0))
    rw [hat] at this
    obtain rfl := lit_inj this
    exact hm
  · have h1 := h.miss hx (.lit (.int .u64 (c + 1)))
    rw [hat] at h1
    have := lit_inj h1
    omega
end Go.Proofs.YthmdiaingolfnaaGreatDoor.Wl
namespace Go.Proofs.YthmdiaingolfnaaGreatDoor.Sf
open Go.ChangeShapes Go.WideShapes Go.ChangeAt Go.RowKit Rw Go.Shelf Go.Sort
set_option linter.unusedVariables false
section
variable {α : Type} [Inhabited α]
theorem put_block (enc : α → Value) (w : World) (b n : Nat) (d : Array α) (os : Array Obj) {cur : Array Value} {e : TypeId} (h : w.heap[b]? = some (.cells cur e (0, 0))) :
    (sortWorld enc w b 0 n d os).heap[b]? = some (.cells (putCells enc 0 d cur) e (0, 0)) := by
  have hlt : b < w.heap.size := (Array.getElem?_eq_some_iff.1 h).1
  unfold sortWorld grow putRow mapBlock Go.Sort.ahead
  simp only [Array.getElem?_append, Array.size_modify, hlt, if_true, Array.getElem?_modify, h]
  rfl
theorem put_other (enc : α → Value) (w : World) (b n : Nat) (d : Array α) (os : Array Obj) {k : Nat} (hk : k < w.heap.size) (hne : k ≠ b) :
    (sortWorld enc w b 0 n d os).heap[k]? = w.heap[k]? := by
  unfold sortWorld grow putRow mapBlock Go.Sort.ahead
  simp only [Array.getElem?_append, Array.size_modify, hk, if_true, Array.getElem?_modify]
  rw [if_neg (fun e => hne e.symm)]
theorem put_grown (enc : α → Value) (w : World) (b n : Nat) (d : Array α) (os : Array Obj) : w.grownBy (sortWorld enc w b 0 n d os) (some b) :=
  ⟨rfl, rfl, rfl, by unfold sortWorld grow putRow mapBlock Go.Sort.ahead; simp, fun k hk hne => put_other enc w b n d os hk (fun e => hne (by rw [e]))⟩
theorem put_take (enc : α → Value) (d : Array α) (cur : Array Value) (h : d.size ≤ cur.size) : (putCells enc 0 d cur).toList.take d.size = d.toList.map enc := by
  apply List.ext_getElem?
  intro j
  rw [List.getElem?_take, List.getElem?_map]
  by_cases hj : j < d.size
  · rw [if_pos hj]
    unfold putCells
    simp [hj, Nat.lt_of_lt_of_le hj h]
  · rw [if_neg hj, List.getElem?_eq_none (by simpa using Nat.le_of_not_lt hj)]
    rfl
theorem sort_own {ρ : Ren} (L : SlLaysF.n6 Tryz.prog ρ) (enc : α → Value) (h1 : OneCell enc) (cf : α → α → Int) (hO : SWO (ltOf cf)) (g : Nat) (cb : Array Value) (eg : ∀ args w, (callFunc g args).run Tryz.prog w = .ok (.enter g args) w)
    (w : World) (base : Nat) (e : TypeId) (A : Option Addr) (c : Nat) (acc : List α) (hrow : w.ownsRow base e 1 (.slice A acc.length c) acc.length (acc.map enc)) (hpos : 0 < acc.length) (hsz : acc.length < 4611686018427387904)
    (hcmp : ∀ W', w.grownBy W' (Value.slice A acc.length c).ownBlock → ∀ x y : α, Calls Tryz.prog g (#[enc x, enc y] ++ cb) W' fun e w' => e = .returned (.int .i64 (cf x y)) ∧ ∃ q os', w' = grow (W'.drewN q) os') :
    Calls Tryz.prog (ρ.f 6) #[.slice A acc.length c, .func (.func g) #[] cb] w fun e' w' => e' = .returned (.tuple #[]) ∧ ∃ acc' : List α, acc'.Perm acc ∧ acc'.Pairwise (fun x y => ltOf cf y x = false) ∧
      w'.ownsRow base e 1 (.slice A acc.length c) acc.length (acc'.map enc) ∧ w.grownBy w' (Value.slice A acc.length c).ownBlock := by
  have hrow' := hrow
  rcases hrow.2 with ⟨_, h0⟩ | ⟨b, cap, cur, hs, hbase, hb, hnc, hcm, hcs, htake⟩
  · omega
  injection hs with hA _ hc
  subst hA hc
  have hlt : b < w.heap.size := (Array.getElem?_eq_some_iff.1 hb).1
  have hH : Holds enc w b 0 acc.toArray := by
    intro j hj
    have hj' : j < acc.length := by simpa using hj
    constructor
    · rw [Nat.zero_add, hrow.cellAt j (by rw [Nat.mul_one]; exact hj'), List.getElem?_map, List.getElem?_eq_getElem hj']
      simp [hj']
    · simp [World.frozen?, hb]
  have hcm1 : CmpLays1 Tryz.prog g cb enc cf b 0 acc.toArray.size w := fun m os dk hs x y => hcmp _ (put_grown enc w b m dk os) x y
  have hcon := Any.slices_SortFunc L enc h1 cf hO g cb b 0 c acc.toArray w eg hcm1 hH hlt (by simpa using hsz)
  simp only [List.size_toArray] at hcon
  refine hcon.mono ?_
  rintro e' w' ⟨rfl, d', n, os, hp, hsrt, rfl⟩
  have hd' : d'.size = acc.length := by simpa using hp.1
  refine ⟨rfl, d'.toList, ?_, ?_, ?_, put_grown enc w b n d' os⟩
  · have h2 := hp.2.2
    have e1 : d'.extract 0 acc.length = d' := by rw [← hd']; simp
    have e2 : acc.toArray.extract 0 acc.length = acc.toArray := by simp
    rw [e1, e2] at h2
    exact h2
  · rw [List.pairwise_iff_getElem]
    intro i j hi hj hij
    have := hsrt i j (Nat.zero_le _) hij (by simpa [hd'] using hj)
    simp at hi hj
    simpa [hi, hj] using this
  · refine ⟨by simp [hd'], .inr ⟨b, c, _, rfl, hbase, put_block enc w b n d' os hb, hnc, hcm, ?_, ?_⟩⟩
    · rw [← hcs]; simp [putCells]
    · rw [Nat.mul_one, ← hd']
      exact put_take enc d' cur (by rw [hcs, Nat.mul_one, hd']; exact hnc)
end
end Go.Proofs.YthmdiaingolfnaaGreatDoor.Sf
namespace Go.Proofs.YthmdiaingolfnaaGreatDoor.Wl
open Go.ChangeShapes Go.WideShapes Go.ChangeAt Go.RowKit Go.Maps Rw Sl Sn Ck Go.Sort
set_option linter.unusedVariables false
abbrev U : Type := {x : Int // 0 ≤ x ∧ x ≤ 18446744073709551615}
instance : Inhabited U := ⟨⟨0, by omega⟩⟩
def encU (u : U) : Value := .int .u64 u.1
theorem encU_one : OneCell encU := fun _ => rfl
def cfU (l : List (Int × Int)) (x y : U) : Int := cf l x.1 y.1
theorem cf_neg {l : List (Int × Int)} (x y : Int) : cf l x y < 0 ↔ bf (x, Wl.tick l x) (y, Wl.tick l y) = true := by
  rw [bf_iff]
  unfold cf orI cmpI
  show _ ↔ Wl.tick l x < Wl.tick l y ∨ (Wl.tick l x = Wl.tick l y ∧ x < y)
  generalize Wl.tick l x = a
  generalize Wl.tick l y = b
  by_cases h1 : a < b
  · simp [h1]
  · by_cases h2 : b < a
    · simp [h1, h2]; omega
    · simp [h1, h2]
      by_cases h3 : x < y
      · simp [h3]; omega
      · by_cases h4 : y < x <;> simp [h3, h4]
theorem ltU {l : List (Int × Int)} (x y : U) : ltOf (cfU l) x y = bf (x.1, Wl.tick l x.1) (y.1, Wl.tick l y.1) := by
  have := cf_neg (l := l) x.1 y.1
  unfold ltOf cfU
  cases h : bf (x.1, Wl.tick l x.1) (y.1, Wl.tick l y.1)
  · simp only [decide_eq_false_iff_not]; rw [this, h]; simp
  · simp only [decide_eq_true_eq]; rw [this, h]
theorem swoU (l : List (Int × Int)) : SWO (ltOf (cfU l)) where
  irrefl x := by rw [ltU]; have := bf_irrefl (x.1, Wl.tick l x.1); simpa using this
  trans x y z h1 h2 := by rw [ltU] at *; exact bf_trans h1 h2
  ntrans x y z h1 h2 := by
    rw [ltU] at *
    have h1' : ¬ bf (x.1, Wl.tick l x.1) (y.1, Wl.tick l y.1) = true := by rw [h1]; simp
    have h2' : ¬ bf (y.1, Wl.tick l y.1) (z.1, Wl.tick l z.1) = true := by rw [h2]; simp
    have : ¬ bf (x.1, Wl.tick l x.1) (z.1, Wl.tick l z.1) = true := by rw [bf_iff] at *; omega
    simpa using this
theorem rises {l : List (Int × Int)} {acc : List U} (h : acc.Pairwise (fun x y => ltOf (cfU l) y x = false)) (hn : (acc.map Subtype.val).Nodup) :
    (acc.map Subtype.val).Pairwise (fun a b => bf (a, Wl.tick l a) (b, Wl.tick l b) = true) := by
  rw [List.pairwise_map]
  have hn' := List.pairwise_map.1 hn
  refine (h.and hn').imp ?_
  rintro x y ⟨h1, h2⟩
  rw [ltU] at h1
  refine bf_total (fun e => h2 ?_) (by rw [h1]; simp)
  injection e with e1 _
  exact e1.symm
def rem (l : List (Int × Int)) (ks : List Int) : List (Int × Int) := l.filter (fun a => !ks.contains a.1)
theorem rem_nil (l : List (Int × Int)) : rem l [] = l := by simp [rem]
theorem rem_snoc (l : List (Int × Int)) (ks : List Int) (k : Int) : wo (rem l ks) k = rem l (ks ++ [k]) := by
  unfold wo rem
  rw [List.filter_filter]
  congr 1
  funext a
  by_cases h : a.1 = k <;> simp [h]
theorem rem_due {l : List (Int × Int)} (h : Tms l) (now : Int) : rem l ((due l now).map Prod.fst) = left l now := by
  unfold rem left
  refine List.filter_congr (fun a ha => ?_)
  congr 1
  rw [List.contains_eq_mem]
  congr 1
  rw [eq_iff_iff, Tms.mem_key]
  constructor
  · rintro ⟨t, ht⟩
    obtain ⟨h1, h2⟩ := mem_due.1 ht
    have := h.uniq (k := a.1) (t := a.2) ha h1
    omega
  · intro h1
    exact ⟨a.2, mem_due.2 ⟨ha, h1⟩⟩
theorem Tms.rem {l : List (Int × Int)} (h : Tms l) (ks : List Int) : Tms (rem l ks) := h.filter _
theorem cut_le {t now : Int} (h : t ≤ 1152921504606846976) : t ≤ cut now ↔ t ≤ now := by unfold cut; split <;> omega
theorem sort_due (w : World) (q p m n : Nat) (D : DataW Unit) (l : List (Int × Int)) (base : Nat) (A : Option Addr) (c : Nat) (acc : List U) (hrow : w.ownsRow base 22 1 (.slice A acc.length c) acc.length (acc.map encU))
    (hq : w.cell? ⟨q, 0, none⟩ = some (.pointer (some ⟨p, 0, none⟩))) (hp : w.cell? ⟨p, 0, none⟩ = some (.map (some m))) (ho : w.ownsMap Tryz.prog 22 (plainElem Tryz.prog 22) m n D) (ht : Tel D l) (tms : Tms l) (hsz : acc.length ≤ 1024)
    (bq : q < base) (bp : p < base) (bm : m < base) :
    Calls Tryz.prog 160 #[.slice A acc.length c, .func (.func 161) #[] #[.pointer (some ⟨q, 0, none⟩)]] w fun e' w' => e' = .returned (.tuple #[]) ∧ ∃ acc' : List U, acc'.Perm acc ∧ acc'.Pairwise (fun x y => ltOf (cfU l) y x = false) ∧
      w'.ownsRow base 22 1 (.slice A acc.length c) acc.length (acc'.map encU) ∧ w.grownBy w' (Value.slice A acc.length c).ownBlock := by
  by_cases h0 : acc = []
  · subst h0
    refine (sort0_any A c _ w).mono ?_
    rintro e w' ⟨rfl, rfl⟩
    exact ⟨rfl, [], List.Perm.refl _, List.Pairwise.nil, hrow, World.grownBy.refl _ _⟩
  · have hpos : 0 < acc.length := List.length_pos_iff.2 h0
    have eg : ∀ args w, (callFunc 161 args).run Tryz.prog w = .ok (.enter 161 args) w := enters_of Tryz.func161 (by kernel_rfl) rfl
    have hne : ∀ g, g < base → some g ≠ (Value.slice A acc.length c).ownBlock := fun g hg => row_ne hrow hg
    exact Sf.sort_own Sf.suLays encU encU_one (cfU l) (swoU l) 161 #[.pointer (some ⟨q, 0, none⟩)] eg w base 22 A c acc hrow hpos (by omega)
      (fun W' hg x y => clo_any W' q p m n D l x.1 y.1 x.2 y.2 (hg.cell hq (hne _ bq)) (hg.cell hp (hne _ bp)) (ho.kept hg (hne _ bm)) ht tms)
set_option maxRecDepth 100000 in
set_option maxHeartbeats 8000000 in
theorem due_any (w : World) (p m : Nat) (l : List (Int × Int)) (now : Int) (h : Wh w p m l) (hnow : 0 ≤ now ∧ now ≤ 18446744073709551615) (hl : l.length ≤ 1024) :
    Calls Tryz.prog 156 #[.pointer (some ⟨p, 0, none⟩), .int .u64 now] w fun e w' => ∃ A c, e = .returned (.slice A (due l now).length c) ∧
      w'.ownsRow w.heap.size 22 1 (.slice A (due l now).length c) (due l now).length (((due l now).map Prod.fst).map (Value.int .u64)) ∧ Wh w' p m (left l now) ∧ w.grownBy w' (some m) := by
  have H := Lib.hid h
  obtain ⟨i0, hi, hz0, hz1, hz2⟩ := info_parts info_u64
  have hpl := h.lt.1
  have hml := h.lt.2
  have hpm := h.ne
  obtain ⟨hc, ⟨D, ho, ht⟩, tms⟩ := h
  have HT := Lib.hid ht
  have HM := Lib.hid tms
  have HNW := Lib.hid hnow
  have HPM := Lib.hid hpm
  clear ht tms hnow hpm
  go_enter Tryz.func156, Tryz.ntmps156
  go_wp2_with fail
  refine (Ck.at_any _ _ HNW.out.1 HNW.out.2).mono ?_
  rintro e w' ⟨rfl, rfl⟩
  rw [cut_add]
  have hcp : (((w.alloc (.cells #[.pointer (some ⟨p, 0, none⟩)] 148)).alloc (bx (cut now))).alloc (.cells #[.int .u64 (cut now)] 39)).cell? ⟨p, 0, none⟩ = some (.map (some m)) := alloc_cell (alloc_cell (alloc_cell hc _) _) _
  go_wp2_with (at_range; refine wpList_range_own _ rfl _ 200 rfl 22 22 law Tryz.underlying200 _ m l.length D rfl (((ho.alloc _).alloc _).alloc _) ?_; intro w0 hrg0 hg0 hs0)
  have e3 : (((w.alloc (.cells #[.pointer (some ⟨p, 0, none⟩)] 148)).alloc (bx (cut now))).alloc (.cells #[.int .u64 (cut now)] 39)).heap.size = w.heap.size + 3 := by simp
  rw [e3] at hrg0 hs0
  go_frame
  simp only [e3]
  have k0 : w0.cell? ⟨w.heap.size, 0, none⟩ = some (.pointer (some ⟨p, 0, none⟩)) := hg0.cell (by go_simp) (by simp)
  have k1 : w0.cell? ⟨p, 0, none⟩ = some (.map (some m)) := hg0.cell hcp (by simp)
  have k2 : w0.cell? ⟨w.heap.size + 2, 0, none⟩ = some (.int .u64 (cut now)) := hg0.cell (by go_simp) (by simp)
  have k3 : w.grownBy w0 none := ⟨hg0.os, hg0.tape, hg0.output, by omega, fun k hk _ => (hg0.block k (by rw [e3]; omega) (by simp)).trans ((Below.heap_alloc _ _ _ (by simp; omega)).trans ((Below.heap_alloc _ _ _ (by simp; omega)).trans (Below.heap_alloc _ _ _ hk)))⟩
  clear hg0 hcp e3
  go_loopw [6] (fun v wr => ∃ (lf : Lit → Bool) (cnt : Nat) (A : Option Addr) (c : Nat) (acc : List U), v = .slice A acc.length c ∧ wr.ranges Tryz.prog 22 (plainElem Tryz.prog 22) m (w.heap.size + 3) l.length D lf cnt ∧
      wr.ownsRow (w.heap.size + 4) 22 1 (.slice A acc.length c) acc.length (acc.map encU) ∧ wr.cell? ⟨w.heap.size, 0, none⟩ = some (.pointer (some ⟨p, 0, none⟩)) ∧ wr.cell? ⟨p, 0, none⟩ = some (.map (some m)) ∧ wr.cell? ⟨w.heap.size + 2, 0, none⟩ = some (.int .u64 (cut now)) ∧
      w.grownBy wr none ∧ w.heap.size + 4 ≤ wr.heap.size ∧ acc.length + cnt ≤ l.length ∧ Hid ((acc.map Subtype.val).Nodup ∧ ∀ k, k ∈ acc.map Subtype.val ↔ ∃ t, (k, t) ∈ l ∧ t ≤ now ∧ lf (.int .u64 k) = false))
    (fun _ wr => wr.rangeLeft m (w.heap.size + 3))
  case atStart =>
    refine ⟨_, _, none, 0, [], rfl, hrg0, World.ownsRow_nil _ _ _ _, k0, k1, k2, k3, by omega, by rw [HT.out.size]; simp, ⟨by simp, fun k => ⟨fun h => (by cases h), ?_⟩⟩⟩
    rintro ⟨t, h1, -, h3⟩
    rw [HT.out.has, decide_eq_true (Tms.mem_key.2 ⟨t, h1⟩)] at h3
    cases h3
  case round =>
    clear k0 k1 k2 k3 hrg0 hs0
    obtain ⟨lf, cnt, A, c, acc, rfl, hrg, hrow, k0, k1, k2, k3, k4, k5, hacc⟩ := hrel
    go_wp2_with (at_next; refine wpList_next_ranges_ii _ rfl _ rfl 22 22 .u64 .u64 law Tryz.underlying22 Tryz.underlying22 m (w.heap.size + 3) l.length _ _ _ rfl hrg ?_ ?_)
    · intro _ hl0
      have hown := Lib.hid hrg.owns
      have hac : Hid ((acc.map Subtype.val).Nodup ∧ ∀ k, k ∈ acc.map Subtype.val ↔ ∃ t, (k, t) ∈ l ∧ t ≤ now) := by
        refine ⟨hacc.out.1, fun k => ?_⟩
        rw [hacc.out.2]
        exact ⟨fun ⟨t, h1, h2, _⟩ => ⟨t, h1, h2⟩, fun ⟨t, h1, h2⟩ => ⟨t, h1, h2, hl0 _⟩⟩
      clear hacc hrg hl0
      go_wp2_with fail
      refine (sort_due wr w.heap.size p m l.length D l (w.heap.size + 4) A c acc hrow k0 k1 hown.out HT.out HM.out (by omega) (by omega) (by omega) (by omega)).mono ?_
      rintro e w2 ⟨rfl, acc2, hperm, hrise, hrow2, hg2⟩
      have hlen2 : acc2.length = acc.length := hperm.length_eq
      have hks : Hid (acc2.map Subtype.val = (due l now).map Prod.fst) := by
        have hp2 := hperm.map Subtype.val
        refine HM.out.due_keys (tk := Wl.tick l) (fun k t h => tick_hit HM.out h) (rises hrise (hp2.nodup_iff.2 hac.out.1)) (fun k => ?_)
        rw [hp2.mem_iff, hac.out.2]
      have hne : ∀ g, g < w.heap.size + 4 → some g ≠ (Value.slice A acc.length c).ownBlock := fun g hg => row_ne hrow hg
      have j0 : w2.cell? ⟨w.heap.size, 0, none⟩ = some (.pointer (some ⟨p, 0, none⟩)) := hg2.cell k0 (hne _ (by show w.heap.size < _; omega))
      have j1 : w2.cell? ⟨p, 0, none⟩ = some (.map (some m)) := hg2.cell k1 (hne _ (by show p < _; omega))
      have j3 : w.grownBy w2 none := k3.andThen hg2 (fun j hj => Or.inl (by have := (hrow.lt j hj).1; omega))
      have jm : Mw w2 m l := ⟨D, hown.out.kept hg2 (hne _ (by omega)), HT.out⟩
      have j4 : w.heap.size + 4 ≤ w2.heap.size := Nat.le_trans k4 hg2.size
      have HJ3 := Lib.hid j3
      have HJM := Lib.hid jm
      have HR2 := Lib.hid hrow2
      have HL2 := Lib.hid hlen2
      clear hown hac hperm hrise hg2 k0 k1 k2 k3 hrow hne j3 jm hrow2 hlen2
      go_wp2_with fail
      go_loopw [37] (fun i wr => ∃ k : Nat, i = .int .i64 k ∧ k ≤ acc.length ∧ Mw wr m (rem l ((acc2.map Subtype.val).take k)) ∧ wr.ownsRow (w.heap.size + 4) 22 1 (.slice A acc.length c) acc.length (acc2.map encU) ∧ wr.cell? ⟨w.heap.size, 0, none⟩ = some (.pointer (some ⟨p, 0, none⟩)) ∧ wr.cell? ⟨p, 0, none⟩ = some (.map (some m)) ∧ w.grownBy wr (some m)) (fun i _ => acc.length - (intOf i).toNat)
      case atStart => exact ⟨0, rfl, Nat.zero_le _, by rw [List.take_zero, rem_nil]; exact HJM.out, HR2.out, j0, j1, HJ3.out.but _⟩
      case round =>
        clear j0 j1 HJ3 HJM HR2
        obtain ⟨k, rfl, hk, hmw, hrow, i0c, i1c, hgw⟩ := hrel
        by_cases hlt : k < acc.length
        · obtain ⟨b, o, x, rfl, hb, hx, hcell⟩ := (Rd.own_rd hrow).get hlt
          obtain ⟨x, hx64⟩ := x
          change wr.cell? ⟨b, o + k, none⟩ = some (.int .u64 x) at hcell
          obtain ⟨D2, ho2, ht2⟩ := hmw
          have HT2 := Lib.hid ht2
          have hxv : (acc2.map Subtype.val)[k]? = some x := by rw [List.getElem?_map, hx]; rfl
          have HX := Lib.hid hxv
          have HX64 := Lib.hid hx64
          clear ht2 hx hxv hx64
          go_wp2_with (at_delete; refine wpList_delete_own _ rfl _ _ 200 22 rfl 22 law Tryz.underlying200 _ m _ D2 rfl ho2 _ _ rfl (key64 HX64.out) ?_; intro w3 ho3 ht3)
          have hg3 := ht3.grown
          have hne : (Value.slice (some ⟨b, o, none⟩) acc.length c).ownBlock ≠ some m := fun e => by have := (hrow.lt m e).1; omega
          go_roundw
          case rel =>
            refine ⟨k + 1, by go_num, by omega, ?_, hrow.kept hg3 (Or.inr hne), hg3.cell i0c (by simp; omega), hg3.cell i1c (fun e => HPM.out (by injection e)), hgw.andThen hg3 (fun j hj => .inr hj)⟩
            have e1 : (acc2.map Subtype.val).take (k + 1) = (acc2.map Subtype.val).take k ++ [x] := Sn.take_snoc HX.out
            rw [e1, ← rem_snoc]
            exact Mw.mk ho3 (HT2.out.del (HM.out.rem _) (ho2.tidy law) x)
          case measure => simp [intOf]; omega
        · have hk' : k = acc.length := by omega
          subst hk'
          have hn : acc.length = (due l now).length := by
            have := congrArg List.length hks.out
            simp at this
            rw [← this]; exact HL2.out.symm
          have e1 : (acc2.map Subtype.val).take acc.length = (due l now).map Prod.fst := by rw [List.take_of_length_le (by simp [HL2.out]), hks.out]
          rw [e1, rem_due HM.out] at hmw
          have HMW := Lib.hid hmw
          have HN := Lib.hid hn
          have HROW := Lib.hid hrow
          clear hmw hn e1 hrow
          go_wp2_with fail
          go_ret
          refine ⟨A, c, by rw [← HN.out]; rfl, ?_, H.out.turned hgw HMW.out (HM.out.filter _), hgw⟩
          have h1 := own_mono HROW.out (base' := w.heap.size) (by omega)
          rw [← HN.out, ← hks.out, List.map_map]
          exact h1
    · intro y t w1 cnt1 hwx hwc hlx hat hrg1 hlt hg1 hs1 hen
      have hm := HT.out.of_at HM.out hat
      have hy := (HM.out.ok _ hm).1
      have hy2 := (HM.out.ok _ hm).2.1
      have ht60 := (HM.out.ok _ hm).2.2.2
      have q0 : w1.cell? ⟨w.heap.size, 0, none⟩ = some (.pointer (some ⟨p, 0, none⟩)) := hg1.cell k0 (by simp)
      have q1 : w1.cell? ⟨p, 0, none⟩ = some (.map (some m)) := hg1.cell k1 (by simp; omega)
      have q2 : w1.cell? ⟨w.heap.size + 2, 0, none⟩ = some (.int .u64 (cut now)) := hg1.cell k2 (by simp)
      have q3 : w.grownBy w1 none := k3.andThen hg1 (fun j hj => by cases hj; exact Or.inl (by omega))
      have hrow1 := hrow.kept hg1 (Or.inr (row_ne hrow (by omega)).symm)
      have HMM := Lib.hid hm
      have q4 : w.heap.size + 4 ≤ w1.heap.size := by omega
      clear k0 k1 k2 k3 hm hat hg1 hs1
      by_cases hdue : t ≤ now
      · have hd : decide (t ≤ cut now) = true := by rw [decide_eq_true_eq, cut_le ht60]; exact hdue
        have HD := Lib.hid hdue
        clear hdue
        have hne : ∀ g, g < w.heap.size + 4 → some g ≠ (Value.slice A acc.length c).ownBlock := fun g hg => row_ne hrow hg
        have HNE := Lib.hid hne
        clear hne
        have hrd : Rd encU ((w1.alloc (bx (cut now))).alloc (.cells #[.int .u64 y] 22)) ((w1.alloc (bx (cut now))).heap.size + 1) (some ⟨(w1.alloc (bx (cut now))).heap.size, 0, none⟩) 1 1 [(⟨y, hy, hy2⟩ : U)] := rd_one (enc := encU) (w1.alloc (bx (cut now))) (⟨y, hy, hy2⟩ : U) 22
        rw [show (w1.alloc (bx (cut now))).heap.size = w1.heap.size + 1 by simp] at hrd
        have HRD := Lib.hid hrd
        have hmp : acc.map encU ++ [(⟨y, hy, hy2⟩ : U)].map encU = (acc ++ [(⟨y, hy, hy2⟩ : U)]).map encU := List.map_append.symm
        have HMP := Lib.hid hmp
        clear hrd hmp
        go_wp2_with fail
        refine (Ck.reached_any _ _ _).mono ?_
        rintro e w2 ⟨rfl, rfl⟩
        rw [hd]
        go_wp2_with (at_builtin; (refine append_rd _ rfl _ _ 54 rfl (w.heap.size + 4) 22 i0 (.int .u64 0) 8 Tryz.underlying54 hi hz0 hz1 hz2 rfl _ acc.length _ rfl ((hrow1.alloc _).alloc _) _ _ 1 1 [(⟨y, hy, hy2⟩ : U)] rfl HRD.out encU_one (acc.length + 1) rfl _ HMP.out (by unfold maxLen; omega) (by omega) (by simp; omega) ?_); intro A3 c3 w3 hrow3 hg3 hat3)
        have s3 := hg3.size
        simp at s3
        go_roundw
        case rel =>
          refine ⟨_, cnt1, A3, c3, acc ++ [⟨y, hy, hy2⟩], by simp, ((hrg1.alloc _).alloc _).kept hg3 (HNE.out _ (by omega)) (HNE.out _ (by omega)), by simpa using hrow3, hg3.cell (alloc_cell (alloc_cell q0 _) _) (HNE.out _ (by show w.heap.size < _; omega)),
            hg3.cell (alloc_cell (alloc_cell q1 _) _) (HNE.out _ (by show p < _; omega)), hg3.cell (alloc_cell (alloc_cell q2 _) _) (HNE.out _ (by show w.heap.size + 2 < _; omega)), ?_, by omega, by simp; omega, ?_, fun k => ?_⟩
          · refine ((q3.andThen (World.grownBy_alloc w1 _ none) (by simp)).andThen (World.grownBy_alloc _ _ none) (by simp)).andThen hg3 (fun j hj => Or.inl ?_)
            have := (hrow.lt j hj).1
            omega
          · rw [List.map_append, List.nodup_append]
            refine ⟨hacc.out.1, by simp, fun a ha b hb => ?_⟩
            simp at hb
            subst hb
            rintro rfl
            obtain ⟨t', h1, -, h3⟩ := (hacc.out.2 _).1 ha
            rw [hlx] at h3
            cases h3
          · rw [List.map_append, List.mem_append, hacc.out.2]
            constructor
            · rintro (⟨t', h1, h2, h3⟩ | h)
              · exact ⟨t', h1, h2, left_struck.2 (.inl h3)⟩
              · simp at h
                subst h
                exact ⟨t, HMM.out, HD.out, left_struck.2 (.inr rfl)⟩
            · rintro ⟨t', h1, h2, h3⟩
              rcases left_struck.1 h3 with h3 | rfl
              · exact .inl ⟨t', h1, h2, h3⟩
              · exact .inr (by simp)
        case measure => rw [(((hrg1.alloc _).alloc _).kept hg3 (HNE.out _ (by omega)) (HNE.out _ (by omega))).left_eq, hrg.left_eq]; exact hlt
      · have hd : decide (t ≤ cut now) = false := by rw [decide_eq_false_iff_not, cut_le ht60]; exact hdue
        have HD := Lib.hid hdue
        clear hdue
        go_wp2_with fail
        refine (Ck.reached_any _ _ _).mono ?_
        rintro e w2 ⟨rfl, rfl⟩
        rw [hd]
        go_wp2_with fail
        go_roundw
        case rel =>
          refine ⟨_, cnt1, A, c, acc, rfl, hrg1.alloc _, hrow1.alloc _, alloc_cell q0 _, alloc_cell q1 _, alloc_cell q2 _, q3.andThen (World.grownBy_alloc w1 _ none) (by simp), by simp; omega, by omega, hacc.out.1, fun k => ?_⟩
          rw [hacc.out.2]
          constructor
          · rintro ⟨t', h1, h2, h3⟩
            exact ⟨t', h1, h2, left_struck.2 (.inl h3)⟩
          · rintro ⟨t', h1, h2, h3⟩
            rcases left_struck.1 h3 with h3 | rfl
            · exact ⟨t', h1, h2, h3⟩
            · have := HM.out.uniq HMM.out h1
              have := HD.out
              omega
        case measure => rw [(hrg1.alloc _).left_eq, hrg.left_eq]; exact hlt
end Go.Proofs.YthmdiaingolfnaaGreatDoor.Wl
namespace Go.Proofs.YthmdiaingolfnaaGreatDoor.Wl
open Go.ChangeShapes Go.WideShapes Go.ChangeAt Go.RowKit Go.Maps Rw Sl Sn Ck
set_option linter.unusedVariables false
theorem Awake4_any (w : World) :
    Calls Tryz.prog 289 #[] w fun e w' => e = .returned (.bool true) ∧ Below w.heap.size w w' := by
  go_enter Tryz.func289, Tryz.ntmps289
  go_wp2_with fail
  refine (awake4_any _).mono ?_
  rintro e w' ⟨rfl, hb⟩
  go_wp2_with fail
  go_ret
  exact ⟨rfl, hb⟩
set_option maxRecDepth 100000 in
theorem awake5_any (w : World) :
    Calls Tryz.prog 288 #[] w fun e w' => e = .returned (.bool true) ∧ Below w.heap.size w w' := by
  go_enter Tryz.func288, Tryz.ntmps288
  go_wp2_with fail
  refine (Wl.new_any _).mono ?_
  rintro e w1 ⟨rfl, hw1, hb1, hs1⟩
  obtain ⟨p, hp⟩ : ∃ p, w.heap.size + 1 = p := ⟨_, rfl⟩
  obtain ⟨m, hm⟩ : ∃ m, w.heap.size = m := ⟨_, rfl⟩
  rw [hp] at hw1 ⊢
  have hm' : w.heap.size ≤ m := by omega
  have hs1' : w.heap.size ≤ w1.heap.size := by omega
  have hw1' : Wh w1 p m [] := by rw [← hm]; exact hw1
  clear hw1 hp hm hs1
  go_wp2_with fail
  refine (arm_any _ p m [] 7 5 hw1' (by decide) (by decide) (by decide)).mono ?_
  rintro e w2 ⟨rfl, hw2, hg2⟩
  have b2 : Below w.heap.size w w2 := hb1.grown hg2 hs1' (fun k hk => by cases hk; exact hm')
  clear hw1' hg2 hb1 hs1'
  go_wp2_with fail
  refine (arm_any _ p m _ 3 5 hw2 (by decide) (by decide) (by decide)).mono ?_
  rintro e w3 ⟨rfl, hw3, hg3⟩
  have b3 : Below w.heap.size w w3 := b2.grown hg3 b2.size (fun k hk => by cases hk; exact hm')
  clear hw2 hg3 b2
  go_wp2_with fail
  refine (arm_any _ p m _ 9 4 hw3 (by decide) (by decide) (by decide)).mono ?_
  rintro e w4 ⟨rfl, hw4, hg4⟩
  have b4 : Below w.heap.size w w4 := b3.grown hg4 b3.size (fun k hk => by cases hk; exact hm')
  have e4 : arm (arm (arm [] 7 5) 3 5) 9 4 = [(9, 4), (3, 5), (7, 5)] := by decide
  rw [e4] at hw4
  clear hw3 hg4 b3 e4
  go_wp2_with fail
  refine (Awake4_any _).mono ?_
  rintro e w5 ⟨rfl, hb5⟩
  have hw5 := hw4.later hb5
  have b5 : Below w.heap.size w w5 := b4.trans (hb5.mono b4.size)
  clear hw4 b4 hb5
  go_wp2_with fail
  refine (due_any _ p m _ 5 hw5 (by decide) (by decide)).mono ?_
  rintro e w6 ⟨A, c, rfl, hrow, hw6, hg6⟩
  have e6 : due [(9, 4), (3, 5), (7, 5)] 5 = [(9, 4), (3, 5), (7, 5)] := by decide
  have e7 : left [(9, 4), (3, 5), (7, 5)] 5 = [] := by decide
  rw [e6] at hrow
  rw [e7] at hw6
  rw [e6]
  have b6 : Below w.heap.size w w6 := b5.grown hg6 b5.size (fun k hk => by cases hk; exact hm')
  have hrow' : w6.ownsRow w5.heap.size 22 1 (.slice A 3 c) 3 ([9, 3, 7].map (Value.int .u64)) := hrow
  have HROW := Lib.hid hrow'
  clear hrow hrow' hg6 b5 hw5 e6 e7
  simp only [List.length_cons, List.length_nil, Nat.zero_add, Nat.reduceAdd]
  go_wp2_with fail
  refine (equal_any _ _ _ _ _ _ [9, 3, 7] [9, 3, 7] _ _ _ ((Rd.own_rd HROW.out).alloc (Nat.le_refl _) _) (rd_lit (xs := [9, 3, 7]) rfl (by simp) _ rfl)).mono ?_
  rintro e w7 ⟨rfl, q, rfl⟩
  have hbl : Below w6.heap.size w6 ((w6.alloc (.cells #[.int .u64 9, .int .u64 3, .int .u64 7] 22)).drewN q) := below_drewN ((Below.refl _ _).alloc (Nat.le_refl _) _) q
  have hw7 := hw6.later hbl
  have b7 := b6.trans (hbl.mono b6.size)
  clear hbl hw6 b6
  go_wp2_with fail
  refine (Wl.len_any _ p m _ hw7).mono ?_
  rintro e w8 ⟨rfl, rfl⟩
  go_wp2_with fail
  go_ret
  exact ⟨rfl, b7⟩
theorem Awake5_any (w : World) :
    Calls Tryz.prog 283 #[] w fun e w' => e = .returned (.bool true) ∧ Below w.heap.size w w' := by
  go_enter Tryz.func283, Tryz.ntmps283
  go_wp2_with fail
  refine (awake5_any _).mono ?_
  rintro e w' ⟨rfl, hb⟩
  go_wp2_with fail
  go_ret
  exact ⟨rfl, hb⟩
end Go.Proofs.YthmdiaingolfnaaGreatDoor.Wl
namespace Go.Proofs.YthmdiaingolfnaaGreatDoor.Fl
open Ieee
theorem format_eq : FloatKind.f64.format = double := rfl
def Z : Nat := 1074
theorem Z_is : Z = 1074 := rfl
theorem word_false (r : Nat) : double.word false r = r := rfl
def fl (n : Nat) : Nat := if n = 0 then 0 else rung 0 (n * 2 ^ Z)
theorem near_fl (n : Nat) : double.nearest false n 0 = fl n := by
  unfold fl
  by_cases h : n = 0
  · subst h; rw [if_pos rfl]; decide
  · rw [if_neg h, near_eq false (by omega) (p := 0) (b := -1074) (by omega) (by omega)]
    rw [show ((0 : Int) - -1074).toNat = Z from rfl, show ((-1074 : Int) - -1074).toNat = 0 from rfl, word_false]
theorem floatOf (n : Nat) : floatOfInt .f64 (n : Int) = fl n := by
  rw [← near_fl]
  unfold floatOfInt FloatKind.nearest
  first
    | rfl
    | (simp [FloatKind.encode, Format.write, format_eq])
theorem fl_mono {n m : Nat} (h : n ≤ m) : fl n ≤ fl m := by
  unfold fl
  by_cases h0 : n = 0
  · rw [if_pos h0]; omega
  · rw [if_neg h0, if_neg (by omega)]
    exact rung_mono 0 (Nat.mul_pos (by omega) (Nat.two_pow_pos _)) (Nat.mul_le_mul_right _ h)
theorem fl_top : fl 18446744073709551615 = 4895412794951729152 := by decide +kernel
theorem fl_lt {n : Nat} (h : n ≤ 18446744073709551615) : fl n ≤ 4895412794951729152 := by
  rw [← fl_top]; exact fl_mono h
theorem sg_small {x : Nat} (h : x < SG) : sg x = false ∧ rg x = x := by
  unfold sg rg
  have : ¬ SG ≤ x := by omega
  simp [this]
def pr (x y : Nat) : Nat := if V x * V y = 0 then 0 else rung 1074 (V x * V y)
theorem mul_eq {x y : Nat} (hx : x < INF) (hy : y < INF) : double.mul x y = some (pr x y) := by
  have iS := INF_SG
  obtain ⟨sx, rx⟩ := sg_small (x := x) (by omega)
  obtain ⟨sy, ry⟩ := sg_small (x := y) (by omega)
  have hSG := SG_is
  rcases read_eq (x := x) (by omega) with ⟨-, m, i, ex, hi, hi', hm, -, -⟩ | ⟨lx, -⟩ | ⟨lx, -⟩
  · rcases read_eq (x := y) (by omega) with ⟨-, n, j, ey, hj, hj', hn, -, -⟩ | ⟨ly, -⟩ | ⟨ly, -⟩
    · unfold Format.mul
      rw [ex, ey, sx, sy]
      simp only [Datum.product, Option.map_some, Bool.xor_self]
      rw [rx] at hm
      rw [ry] at hn
      have hv : m * n * 2 ^ (i + j + 2148).toNat = V x * V y := by
        rw [← hm, ← hn, show (i + j + 2148).toNat = (i + 1074).toNat + (j + 1074).toNat by omega, Nat.pow_add]
        rw [Nat.mul_mul_mul_comm]
      show some (double.nearest _ (m * n) (i + j)) = _
      unfold pr
      by_cases h0 : m * n = 0
      · rw [h0, Nat.zero_mul] at hv
        rw [if_pos hv.symm, h0]
        congr 1
      · have hp : 0 < m * n := by omega
        have hne : ¬ V x * V y = 0 := by
          rw [← hv]
          have := Nat.mul_pos hp (Nat.two_pow_pos (i + j + 2148).toNat)
          omega
        rw [if_neg hne, near_eq false hp (b := -2148) (by omega) (by omega), word_false]
        rw [← hv, show i + j - -2148 = i + j + 2148 by omega, show ((-1074 : Int) - -2148).toNat = 1074 from rfl]
    · rw [ry] at ly; omega
    · rw [ry] at ly; omega
  · rw [rx] at lx; omega
  · rw [rx] at lx; omega
theorem pr_mono {x x' y y' : Nat} (h1 : x ≤ x') (h2 : y ≤ y') : pr x y ≤ pr x' y' := by
  unfold pr
  have hle : V x * V y ≤ V x' * V y' := Nat.mul_le_mul (V_mono h1) (V_mono h2)
  by_cases h0 : V x * V y = 0
  · rw [if_pos h0]; omega
  · rw [if_neg h0, if_neg (by omega)]
    exact rung_mono 1074 (by omega) hle
def tr (r : Nat) : Nat := V r / 2 ^ Z
theorem tr_mono {r r' : Nat} (h : r ≤ r') : tr r ≤ tr r' := Nat.div_le_div_right (V_mono h)
theorem toInt_eq {r : Nat} (h : r < INF) : (double.read r).toInt .zero = some (tr r : Int) := by
  have iS := INF_SG
  have hSG := SG_is
  obtain ⟨sx, rx⟩ := sg_small (x := r) (by omega)
  rcases read_eq (x := r) (by omega) with ⟨-, m, e, ex, hi, hi', hm, -, -⟩ | ⟨lx, -⟩ | ⟨lx, -⟩
  · rw [ex, sx]
    unfold Datum.toInt Datum.integral
    simp only [cut_zero]
    rw [rx] at hm
    unfold tr signed
    rw [← hm]
    simp only [Bool.false_eq_true, if_false, Nat.shiftLeft_zero]
    congr 2
    by_cases he : 0 ≤ e
    · rw [show (-e).toNat = 0 by omega, Nat.pow_zero, Nat.div_one, Nat.shiftLeft_eq, show (e + 1074).toNat = e.toNat + Z by rw [Z_is]; omega, Nat.pow_add, ← Nat.mul_assoc, Nat.mul_div_cancel _ (Nat.two_pow_pos _)]
    · rw [show e.toNat = 0 by omega, Nat.shiftLeft_zero]
      have e1 : (2 : Nat) ^ Z = 2 ^ (-e).toNat * 2 ^ (e + 1074).toNat := by rw [← Nat.pow_add]; congr 1; rw [Z_is]; omega
      rw [e1, Nat.mul_div_mul_right _ _ (Nat.two_pow_pos _)]
  · rw [rx] at lx; omega
  · rw [rx] at lx; omega
abbrev ONE : Nat := 4607182418800017408
theorem ONE_is : ONE = 4607182418800017408 := rfl
theorem pr_top : pr 4895412794951729152 4607182418800017407 = 4895412794951729151 := by decide +kernel
theorem tr_top : tr 4895412794951729151 = 18446744073709549568 := by decide +kernel
theorem pr_lt {n x : Nat} (hn : n ≤ 18446744073709551615) (hx : x < ONE) : pr (fl n) x ≤ 4895412794951729151 := by
  rw [← pr_top]; exact pr_mono (fl_lt hn) (by have := ONE_is; omega)
theorem part_fits {n x : Nat} (hn : n ≤ 18446744073709551615) (hx : x < ONE) : tr (pr (fl n) x) ≤ 18446744073709549568 := by
  rw [← tr_top]; exact tr_mono (pr_lt hn hx)
def pos (x : Nat) : Bool := FloatKind.f64.format.order x 0 == some .gt
def ge1 (x : Nat) : Bool := FloatKind.f64.format.order x 4607182418800017408 == some .gt || FloatKind.f64.format.order x 4607182418800017408 == some .eq
def le (x y : Nat) : Bool := FloatKind.f64.format.order x y == some .lt || FloatKind.f64.format.order x y == some .eq
def part (n x : Nat) : Nat := if pos x then (if ge1 x then n else min n (tr (pr (fl n) x))) else 0
theorem cmp_gt (a b : Int) : (some (compare a b) == some Ordering.gt) = decide (b < a) := by
  rcases Int.lt_trichotomy a b with h | h | h
  · have : compare a b = .lt := by simp only [compare, compareOfLessAndEq]; rw [if_pos h]
    rw [this]; have : ¬ b < a := by omega
    simp [this]
  · subst h
    have : compare a a = .eq := by simp only [compare, compareOfLessAndEq]; simp
    rw [this]; simp
  · have : compare a b = .gt := by simp only [compare, compareOfLessAndEq]; rw [if_neg (by omega), if_neg (by omega)]
    rw [this]; simp [h]
theorem cmp_eq (a b : Int) : (some (compare a b) == some Ordering.eq) = decide (a = b) := by
  rcases Int.lt_trichotomy a b with h | h | h
  · have : compare a b = .lt := by simp only [compare, compareOfLessAndEq]; rw [if_pos h]
    rw [this]; have : ¬ a = b := by omega
    simp [this]
  · subst h
    have : compare a a = .eq := by simp only [compare, compareOfLessAndEq]; simp
    rw [this]; simp
  · have : compare a b = .gt := by simp only [compare, compareOfLessAndEq]; rw [if_neg (by omega), if_neg (by omega)]
    rw [this]; have : ¬ a = b := by omega
    simp [this]
theorem cmp_lt (a b : Int) : (some (compare a b) == some Ordering.lt) = decide (a < b) := by
  rcases Int.lt_trichotomy a b with h | h | h
  · have : compare a b = .lt := by simp only [compare, compareOfLessAndEq]; rw [if_pos h]
    rw [this]; simp [h]
  · subst h
    have : compare a a = .eq := by simp only [compare, compareOfLessAndEq]; simp
    rw [this]; simp
  · have : compare a b = .gt := by simp only [compare, compareOfLessAndEq]; rw [if_neg (by omega), if_neg (by omega)]
    rw [this]; have : ¬ a < b := by omega
    simp [this]
theorem Ko_small {x : Nat} (h : x < SG) : Ko x = x := by
  obtain ⟨h1, h2⟩ := sg_small h
  unfold Ko
  rw [h1, h2]
  simp
theorem isN_small {x : Nat} (h : x < SG) : isN x = decide (INF < x) := by unfold isN; rw [(sg_small h).2]
theorem pos_iff {x : Nat} (hx : x < 18446744073709551616) : pos x = true ↔ 0 < x ∧ x ≤ INF := by
  have i1 := INF_is
  have i2 := SG_is
  have i3 := INF_SG
  unfold pos
  have z1 : isN 0 = false := by decide
  have z2 : Ko 0 = 0 := by decide
  rw [format_eq, order_eq hx (by omega), z1, z2, Bool.or_false]
  by_cases h : x < SG
  · rw [isN_small h, Ko_small h]
    by_cases hn : INF < x
    · rw [decide_eq_true hn]
      exact ⟨fun h => by simp at h, fun h => by omega⟩
    · rw [decide_eq_false hn, if_neg (by simp), cmp_gt, decide_eq_true_eq]
      omega
  · have hs : sg x = true := by unfold sg; rw [decide_eq_true_eq]; omega
    by_cases hn : isN x = true
    · rw [hn, if_pos rfl]
      exact ⟨fun h => by simp at h, fun h => by omega⟩
    · have hn' : isN x = false := by simpa using hn
      rw [hn', if_neg (by simp), cmp_gt, decide_eq_true_eq]
      unfold Ko
      rw [hs]
      simp only [if_true]
      omega
theorem ge1_iff {x : Nat} (h0 : 0 < x) (h1 : x ≤ INF) : ge1 x = true ↔ ONE ≤ x := by
  have i1 := INF_is
  have i2 := SG_is
  have i3 := INF_SG
  have i4 := ONE_is
  unfold ge1
  rw [format_eq, order_eq (by omega) (by omega), isN_small (x := x) (by omega), isN_small (x := 4607182418800017408) (by omega), Ko_small (x := x) (by omega), Ko_small (x := 4607182418800017408) (by omega)]
  have a1 : decide (INF < x) = false := by simp; omega
  have a2 : decide (INF < 4607182418800017408) = false := by simp; omega
  rw [a1, a2]
  simp only [Bool.or_self, Bool.false_eq_true, if_false, cmp_gt, cmp_eq]
  simp; omega
end Go.Proofs.YthmdiaingolfnaaGreatDoor.Fl
namespace Go.Proofs.YthmdiaingolfnaaGreatDoor.Fl
open Go.ChangeShapes Go.WideShapes Go.ChangeAt Go.RowKit Rw Ck
set_option linter.unusedVariables false
theorem part_any (n x : Nat) (w : World) (hn : n ≤ 18446744073709551615) (hx : x < 18446744073709551616) :
    Calls Tryz.prog 285 #[.int .u64 (n : Int), .float .f64 x] w fun e w' => e = .returned (.int .u64 (part n x : Nat)) ∧ w = w' := by
  cases hp : pos x with
  | false =>
    have e1 : part n x = 0 := by unfold part; rw [hp]; rfl
    rw [e1]
    have h1 : (FloatKind.f64.format.order x 0 == some Ordering.gt) = false := hp
    clear e1 hp
    go_enter Tryz.func285, Tryz.ntmps285
    go_wp2
    go_ret
    exact ⟨rfl, rfl⟩
  | true =>
    have h1 : (FloatKind.f64.format.order x 0 == some Ordering.gt) = true := hp
    obtain ⟨x0, x1⟩ := (pos_iff hx).1 hp
    cases hg : ge1 x with
    | true =>
      have e1 : part n x = n := by unfold part; rw [hp, hg]; rfl
      rw [e1]
      have h2 : (FloatKind.f64.format.order x 4607182418800017408 == some Ordering.gt || FloatKind.f64.format.order x 4607182418800017408 == some Ordering.eq) = true := hg
      clear e1 hp hg x0 x1
      go_enter Tryz.func285, Tryz.ntmps285
      go_wp2
      go_ret
      exact ⟨rfl, rfl⟩
    | false =>
      have e1 : part n x = min n (tr (pr (fl n) x)) := by unfold part; rw [hp, hg]; rfl
      have h2 : (FloatKind.f64.format.order x 4607182418800017408 == some Ordering.gt || FloatKind.f64.format.order x 4607182418800017408 == some Ordering.eq) = false := hg
      have hlt : x < ONE := by
        have := ge1_iff x0 x1
        rw [hg] at this
        have i4 := ONE_is
        have : ¬ ONE ≤ x := fun h => by simp [h] at this
        omega
      have i1 := INF_is
      have i4 := ONE_is
      have hfl := fl_lt hn
      have hpl := pr_lt hn hlt
      have hfit := part_fits hn hlt
      have hf := floatOf n
      have hm : floatBits .mul .f64 (floatOfInt .f64 (n : Int)) x = some (pr (fl n) x) := by
        rw [hf]
        exact mul_eq (by omega) (by omega)
      have hc : floatToIntVal .f64 (pr (fl n) x) .u64 = some (tr (pr (fl n) x) : Int) := by
        unfold floatToIntVal
        have : (FloatKind.decode .f64 (pr (fl n) x)).toInt .zero = some (tr (pr (fl n) x) : Int) := toInt_eq (by omega)
        rw [this]
        simp only []
        rw [if_pos]
        simp [IntKind.min, IntKind.max, IntKind.bits, IntKind.signed]
        omega
      have r1 := fun w => run_float_arith (P := Tryz.prog) w .mul 28 .f64 _ _ _ hm
      have r2 := fun w => run_convert_float_int (P := Tryz.prog) w 28 22 .f64 .u64 _ _ (by kernel_rfl) Tryz.underlying22 hc
      have R3 : Hid (part n x = min n (tr (pr (fl n) x))) := e1
      generalize pr (fl n) x = q at *
      generalize tr q = t at *
      clear hm hc e1 hp hg x0 x1 hlt i1 i4 hfl hpl hf
      go_enter Tryz.func285, Tryz.ntmps285
      go_wp2
      go_ret
      refine ⟨?_, rfl⟩
      rw [R3.out]
      simp
      omega
theorem share14 (w : World) : Calls Tryz.prog 284 #[.int .u64 1, .int .u64 4] w fun e w' => e = .returned (.float .f64 4598175219545276416) ∧ w = w' := by
  have hm : floatBits .quo .f64 (floatOfInt .f64 1) (floatOfInt .f64 4) = some 4598175219545276416 := by decide +kernel
  have r1 := fun w => run_float_arith (P := Tryz.prog) w .quo 28 .f64 _ _ _ hm
  clear hm
  go_enter Tryz.func284, Tryz.ntmps284
  go_wp2
  go_ret
  exact ⟨rfl, rfl⟩
theorem part10 : part 10 4598175219545276416 = 2 := by decide +kernel
theorem order_quarter : (FloatKind.f64.format.order 4598175219545276416 4598175219545276416 == some Ordering.eq) = true := by decide +kernel
theorem awake6_any (w : World) :
    Calls Tryz.prog 281 #[] w fun e w' => e = .returned (.bool true) ∧ Below w.heap.size w w' := by
  have hq := order_quarter
  go_enter Tryz.func281, Tryz.ntmps281
  go_wp2_with fail
  refine (Wl.Awake5_any _).mono ?_
  rintro e w1 ⟨rfl, b1⟩
  go_wp2_with fail
  refine (share14 _).mono ?_
  rintro e w2 ⟨rfl, rfl⟩
  go_wp2_with fail
  refine (part_any 10 4598175219545276416 _ (by omega) (by omega)).mono ?_
  rintro e w2 ⟨rfl, rfl⟩
  rw [part10]
  go_wp2_with fail
  go_ret
  exact ⟨rfl, b1⟩
end Go.Proofs.YthmdiaingolfnaaGreatDoor.Fl
