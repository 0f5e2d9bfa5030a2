/- A map by numbers of 64 bits, told by a list of pairs, whatever its elements are: looked up, stored into, deleted from, ranged over. No program is named here. -/
import Derived.Test.YtbdcdofjcljliaaGreatDoorBase1
import Derived.Maps.RangeWalk
import Derived.Maps.Ext
namespace Go.Proofs.YtbdcdofjcljliaaGreatDoor.Mt
open Go Go.ChangeMaps Go.Maps Go.MapKept Go.RowKit
set_option linter.unusedVariables false

/-- How an element lies in memory, and what it is read as. -/
structure Enc (β : Type) where
  val : β → Value
  dat : β → DataW Unit
  R : Value → Option (DataW Unit × List MemPlace)
  mk_ : ∀ x, R (val x) = some (dat x, [])
  inv : ∀ v y, R v = some y → ∃ x, v = val x ∧ y = (dat x, [])
  inj : ∀ x y, dat x = dat y → x = y

section lists
variable {β : Type}
/-- What stands at a key. -/
def fnd (l : List (Int × β)) (k : Int) : Option β := (l.find? (fun a => a.1 == k)).map Prod.snd
/-- Without a key. -/
def wo (l : List (Int × β)) (k : Int) : List (Int × β) := l.filter (fun a => a.1 != k)
def Nd (l : List (Int × β)) : Prop := (l.map Prod.fst).Nodup
theorem mem_wo {l : List (Int × β)} {k : Int} {a : Int × β} : a ∈ wo l k ↔ a ∈ l ∧ a.1 ≠ k := by simp [wo]
theorem mem_key {l : List (Int × β)} {k : Int} : k ∈ l.map Prod.fst ↔ ∃ x, (k, x) ∈ l := by
  constructor
  · intro h
    obtain ⟨a, ha, rfl⟩ := List.mem_map.1 h
    exact ⟨a.2, ha⟩
  · rintro ⟨x, hx⟩; exact List.mem_map.2 ⟨_, hx, rfl⟩
theorem wo_key {l : List (Int × β)} {k : Int} : k ∉ (wo l k).map Prod.fst := by
  intro h
  obtain ⟨x, hx⟩ := mem_key.1 h
  exact (mem_wo.1 hx).2 rfl
theorem Nd.wo {l : List (Int × β)} (h : Nd l) (k : Int) : Nd (wo l k) := by
  unfold Nd Mt.wo at *
  exact h.sublist (List.Sublist.map _ List.filter_sublist)
theorem Nd.cons {l : List (Int × β)} (h : Nd l) (k : Int) (x : β) : Nd ((k, x) :: Mt.wo l k) := by
  have h1 := h.wo k
  unfold Nd at *
  rw [List.map_cons, List.nodup_cons]
  exact ⟨wo_key, h1⟩
theorem Nd.perm {l l' : List (Int × β)} (h : Nd l) (hp : l.Perm l') : Nd l' := by
  unfold Nd at *
  exact (hp.map Prod.fst).nodup_iff.1 h
theorem Nd.uniq {l : List (Int × β)} (h : Nd l) {k : Int} {x y : β} (hx : (k, x) ∈ l) (hy : (k, y) ∈ l) : x = y := by
  unfold Nd at h
  induction l with
  | nil => cases hx
  | cons a r ih =>
    rw [List.map_cons, List.nodup_cons] at h
    rcases List.mem_cons.1 hx with e1 | h1 <;> rcases List.mem_cons.1 hy with e2 | h2
    · rw [← e1] at e2; injection e2 with _ e2; exact e2.symm
    · exact absurd (mem_key.2 ⟨_, h2⟩) (by rw [← e1] at h; exact h.1)
    · exact absurd (mem_key.2 ⟨_, h1⟩) (by rw [← e2] at h; exact h.1)
    · exact ih h.2 h1 h2
theorem fnd_mem {l : List (Int × β)} (h : Nd l) {k : Int} {x : β} (hm : (k, x) ∈ l) : fnd l k = some x := by
  unfold fnd
  cases hf : l.find? (fun a => a.1 == k) with
  | none => exact absurd (List.find?_eq_none.1 hf _ hm) (by simp)
  | some a =>
    have h1 := List.mem_of_find?_eq_some hf
    have h2 := List.find?_some hf
    simp at h2
    subst h2
    simp only [Option.map_some]
    rw [h.uniq (k := a.1) (x := a.2) h1 hm]
theorem fnd_none {l : List (Int × β)} {k : Int} (hm : k ∉ l.map Prod.fst) : fnd l k = none := by
  unfold fnd
  cases hf : l.find? (fun a => a.1 == k) with
  | none => rfl
  | some a =>
    have h1 := List.mem_of_find?_eq_some hf
    have h2 := List.find?_some hf
    simp at h2
    exact absurd (List.mem_map.2 ⟨a, h1, h2⟩) hm
theorem fnd_some {l : List (Int × β)} {k : Int} {x : β} (h : fnd l k = some x) : (k, x) ∈ l := by
  unfold fnd at h
  cases hf : l.find? (fun a => a.1 == k) with
  | none => rw [hf] at h; cases h
  | some a =>
    rw [hf] at h
    injection h with h
    have h2 := List.find?_some hf
    simp at h2
    subst h h2
    exact List.mem_of_find?_eq_some hf
theorem fnd_is {l : List (Int × β)} {k : Int} : (fnd l k).isSome = decide (k ∈ l.map Prod.fst) := by
  by_cases h : k ∈ l.map Prod.fst
  · rw [decide_eq_true h]
    cases hf : fnd l k with
    | none =>
      exfalso
      unfold fnd at hf
      cases hg : l.find? (fun a => a.1 == k) with
      | none =>
        obtain ⟨x, hx⟩ := mem_key.1 h
        exact absurd (List.find?_eq_none.1 hg _ hx) (by simp)
      | some a => rw [hg] at hf; cases hf
    | some x => rfl
  · rw [fnd_none h, decide_eq_false h]; rfl
theorem fnd_no {l : List (Int × β)} {k : Int} (h : fnd l k = none) : k ∉ l.map Prod.fst := by
  have := fnd_is (l := l) (k := k)
  rw [h] at this
  simpa using this.symm
theorem fnd_wo_same (l : List (Int × β)) (k : Int) : fnd (wo l k) k = none := fnd_none wo_key
theorem fnd_wo_ne (l : List (Int × β)) {k j : Int} (h : j ≠ k) : fnd (wo l k) j = fnd l j := by
  unfold fnd wo
  rw [find_filter_keep (f := fun a : Int × β => a.1 == j) (g := fun a => a.1 != k) (fun p hp => by simp at hp ⊢; omega)]
theorem fnd_cons_same (l : List (Int × β)) (k : Int) (x : β) : fnd ((k, x) :: l) k = some x := by simp [fnd]
theorem fnd_cons_ne (l : List (Int × β)) {k j : Int} (x : β) (h : j ≠ k) : fnd ((k, x) :: l) j = fnd l j := by
  have : ¬ k = j := fun e => h e.symm
  simp [fnd, this]
theorem fnd_perm {l l' : List (Int × β)} (h : Nd l) (hp : l.Perm l') (k : Int) : fnd l k = fnd l' k := by
  cases hf : fnd l k with
  | none =>
    have h1 := fnd_no hf
    exact (fnd_none (fun h2 => h1 ((hp.map Prod.fst).mem_iff.2 h2))).symm
  | some x => exact (fnd_mem (h.perm hp) (hp.mem_iff.1 (fnd_some hf))).symm
theorem wo_none {l : List (Int × β)} {k : Int} (h : k ∉ l.map Prod.fst) : wo l k = l := by
  unfold wo
  rw [List.filter_eq_self]
  intro a ha
  simp
  intro e
  exact h (List.mem_map.2 ⟨a, ha, e⟩)
theorem wo_len {l : List (Int × β)} (h : Nd l) {k : Int} (hk : k ∈ l.map Prod.fst) : (wo l k).length + 1 = l.length := by
  unfold Nd at h
  induction l with
  | nil => cases hk
  | cons a r ih =>
    rw [List.map_cons, List.nodup_cons] at h
    by_cases e : a.1 = k
    · have h1 : k ∉ r.map Prod.fst := e ▸ h.1
      have : wo (a :: r) k = wo r k := by unfold wo; rw [List.filter_cons_of_neg (by simp [e])]
      rw [this, wo_none h1]; rfl
    · have h1 : k ∈ r.map Prod.fst := by
        rcases List.mem_cons.1 hk with h2 | h2
        · exact absurd h2.symm e
        · exact h2
      have : wo (a :: r) k = a :: wo r k := by unfold wo; rw [List.filter_cons_of_pos (by simp [e])]
      rw [this, List.length_cons, List.length_cons, ih h.2 h1]
theorem wo_le (l : List (Int × β)) (k : Int) : (wo l k).length ≤ l.length := List.length_filter_le _ _
theorem perm_wo {l : List (Int × β)} (h : Nd l) {k : Int} {x : β} (hm : (k, x) ∈ l) : l.Perm ((k, x) :: wo l k) := by
  unfold Nd at h
  induction l with
  | nil => cases hm
  | cons a r ih =>
    rw [List.map_cons, List.nodup_cons] at h
    by_cases e : a.1 = k
    · have h1 : k ∉ r.map Prod.fst := e ▸ h.1
      have ha : a = (k, x) := by
        rcases List.mem_cons.1 hm with h2 | h2
        · exact h2.symm
        · exact absurd (mem_key.2 ⟨_, h2⟩) h1
      have : wo (a :: r) k = r := by
        have : wo (a :: r) k = wo r k := by unfold wo; rw [List.filter_cons_of_neg (by simp [e])]
        rw [this, wo_none h1]
      rw [this, ha]
    · have h1 : (k, x) ∈ r := by
        rcases List.mem_cons.1 hm with h2 | h2
        · exact absurd (by rw [← h2]) e
        · exact h2
      have : wo (a :: r) k = a :: wo r k := by unfold wo; rw [List.filter_cons_of_pos (by simp [e])]
      rw [this]
      exact ((ih h.2 h1).cons a).trans (List.Perm.swap _ _ _)
theorem wo_perm {l l' : List (Int × β)} (hp : l.Perm l') (k : Int) : (wo l k).Perm (wo l' k) := hp.filter _
end lists

section
variable {β : Type}
/-- A map's datum tells these pairs. -/
structure Tel (E : Enc β) (D : DataW Unit) (l : List (Int × β)) : Prop where
  hit : ∀ k x, (k, x) ∈ l → ∀ z, D.atKey (.int .u64 k) z = E.dat x
  has : ∀ k, Maps.has D (.int .u64 k) = decide (k ∈ l.map Prod.fst)
  size : Maps.size D = l.length
theorem lit_ne {k k' : Int} (h : k' ≠ k) : Lit.int .u64 k' ≠ Lit.int .u64 k := fun e => h (by injection e)
variable {E : Enc β} {D : DataW Unit} {l : List (Int × β)}
theorem Tel.nil : Tel E (.map []) [] := ⟨fun _ _ h => (by cases h), fun _ => rfl, rfl⟩
theorem Tel.perm (h : Tel E D l) {l' : List (Int × β)} (hp : l.Perm l') : Tel E D l' :=
  ⟨fun k x hm => h.hit k x (hp.mem_iff.2 hm), fun k => by rw [h.has]; congr 1; exact propext (hp.map Prod.fst).mem_iff, by rw [h.size, hp.length_eq]⟩
theorem Tel.at_ (h : Tel E D l) (hn : Nd l) (k : Int) (z : DataW Unit) : D.atKey (.int .u64 k) z = ((fnd l k).map E.dat).getD z := by
  cases hf : fnd l k with
  | none => exact Maps.atKey_of_not_has (by rw [h.has]; simpa using fnd_no hf) z
  | some x => exact h.hit k x (fnd_some hf) z
theorem Tel.put (h : Tel E D l) (hn : Nd l) (hT : Maps.Tidy D) (k : Int) (x : β) : Tel E (D.put (.int .u64 k) (E.dat x)) ((k, x) :: wo l k) := by
  refine ⟨fun k' t' hm z => ?_, fun k' => ?_, ?_⟩
  · rcases List.mem_cons.1 hm with e | hm
    · injection e with e1 e2
      subst e1 e2
      exact Maps.atKey_put_same (k := .int .u64 _) hT.isMap trivial _ _
    · obtain ⟨hm, hne⟩ := mem_wo.1 hm
      rw [Maps.atKey_put_other (lit_ne hne)]
      exact h.hit k' t' hm z
  · by_cases e : k' = k
    · subst e
      rw [Maps.has_put_same (k := .int .u64 _) hT.isMap trivial]
      simp
    · rw [Maps.has_put_other (lit_ne e), h.has]
      congr 1
      rw [List.map_cons, List.mem_cons, mem_key, mem_key, eq_iff_iff]
      constructor
      · rintro ⟨t', ht⟩; exact .inr ⟨t', mem_wo.2 ⟨ht, e⟩⟩
      · rintro (h1 | ⟨t', ht⟩)
        · exact absurd h1 e
        · exact ⟨t', (mem_wo.1 ht).1⟩
  · rw [Maps.size_put hT, h.has, h.size]
    by_cases hk : k ∈ l.map Prod.fst
    · rw [decide_eq_true hk, List.length_cons, wo_len hn hk]; simp
    · rw [decide_eq_false hk, List.length_cons, wo_none hk]; simp
theorem Tel.del (h : Tel E D l) (hn : Nd l) (hT : Maps.Tidy D) (k : Int) : Tel E (D.del (.int .u64 k)) (wo l k) := by
  refine ⟨fun k' t' hm z => ?_, fun k' => ?_, ?_⟩
  · obtain ⟨hm, hne⟩ := mem_wo.1 hm
    rw [Maps.atKey_del_other (lit_ne hne)]
    exact h.hit k' t' hm z
  · by_cases e : k' = k
    · subst e
      rw [Maps.has_del_same, decide_eq_false wo_key]
    · rw [Maps.has_del_other (lit_ne e), h.has]
      congr 1
      rw [mem_key, mem_key, eq_iff_iff]
      constructor
      · rintro ⟨t', ht⟩; exact ⟨t', mem_wo.2 ⟨ht, e⟩⟩
      · rintro ⟨t', ht⟩; exact ⟨t', (mem_wo.1 ht).1⟩
  · have h1 := Maps.size_del (k := .int .u64 k) hT
    rw [h.has, h.size] at h1
    by_cases hk : k ∈ l.map Prod.fst
    · have := wo_len hn hk
      simp [hk] at h1
      omega
    · rw [wo_none hk]
      simp [hk] at h1
      exact h1

/-- Block m holds a map that tells these pairs. -/
structure Mo (P : Program) (k : TypeId) (E : Enc β) (w : World) (m : Nat) (l : List (Int × β)) : Prop where
  own : ∃ D, w.ownsMap P k E.R m l.length D ∧ Tel E D l
  nd : Nd l
theorem own_tight {P : Program} {k : TypeId} {R : Value → Option (DataW Unit × List MemPlace)} {w : World} {b n : Nat} (h : w.ownsMap P k R b n D) : w.ownsMap P k R b (Maps.size D) D := by
  obtain ⟨es, clock, hb, F, hs, hD⟩ := h
  refine ⟨es, clock, hb, F, ?_, hD⟩
  rw [hD]
  show es.size ≤ (List.foldr DataW.insert [] _).length
  rw [length_sorted]
  simp
variable {P : Program} {k : TypeId} {w w' : World} {m : Nat}
theorem Mo.of {n : Nat} (h : w.ownsMap P k E.R m n D) (ht : Tel E D l) (hn : Nd l) : Mo P k E w m l := ⟨⟨D, ht.size ▸ own_tight h, ht⟩, hn⟩
theorem Mo.perm (h : Mo P k E w m l) {l' : List (Int × β)} (hp : l.Perm l') : Mo P k E w m l' := by
  obtain ⟨⟨D, h1, h2⟩, hn⟩ := h
  exact Mo.of h1 (h2.perm hp) (hn.perm hp)
theorem Mo.made (w : World) (P : Program) (k : TypeId) (E : Enc β) : Mo P k E (w.alloc (.map #[] 0)) w.heap.size [] := ⟨⟨_, World.ownsMap_made w P k E.R, Tel.nil⟩, List.nodup_nil⟩
theorem Mo.kept (h : Mo P k E w m l) {row : Option Nat} (hg : w.grownBy w' row) (hne : some m ≠ row) : Mo P k E w' m l := by
  obtain ⟨⟨D, h1, h2⟩, hn⟩ := h
  exact ⟨⟨D, h1.kept hg hne, h2⟩, hn⟩
theorem Mo.lt (h : Mo P k E w m l) : m < w.heap.size := by
  obtain ⟨⟨D, h1, h2⟩, hn⟩ := h
  exact h1.lt
theorem Mo.block (h : Mo P k E w m l) (hb : w'.heap[m]? = w.heap[m]?) : Mo P k E w' m l := by
  obtain ⟨⟨D, ⟨es, clock, h1, h2⟩, h3⟩, hn⟩ := h
  exact ⟨⟨D, ⟨es, clock, hb.trans h1, h2⟩, h3⟩, hn⟩
theorem Mo.alloc (h : Mo P k E w m l) (o : Obj) : Mo P k E (w.alloc o) m l := h.kept (World.grownBy_alloc w o none) (by simp)
theorem Mo.below (h : Mo P k E w m l) {B : Nat} (hb : Below B w w') (hm : m < B) : Mo P k E w' m l := h.block (hb.block m hm)
theorem Mo.later (h : Mo P k E w m l) (hb : Below w.heap.size w w') : Mo P k E w' m l := h.below hb h.lt
theorem Mo.no_cell (h : Mo P k E w m l) (o : Nat) (v : Value) : w.cell? ⟨m, o, none⟩ ≠ some v := by
  obtain ⟨⟨D, ⟨es, clock, h1, h2⟩, h3⟩, hn⟩ := h
  intro hc
  simp [World.cell?, h1] at hc
theorem Mo.setCell (h : Mo P k E w m l) {a : Addr} (ha : m ≠ a.block) (u : Value) : Mo P k E (w.setCell a u) m l := by
  obtain ⟨⟨D, h1, h2⟩, hn⟩ := h
  exact ⟨⟨D, h1.setCell ha u, h2⟩, hn⟩
end

section ops
variable {β : Type} {E : Enc β} {P : Program} {k e t : TypeId} (w : World) {ops : Array Oper} {rest : List Oper} {o : Oper} {a : Act} {Q : Exit → Act → World → Prop}
theorem wf_u64' {x : Int} (h : 0 ≤ x ∧ x ≤ 18446744073709551615) : (Lit.int .u64 x).wf = true := by
  simp [Lit.wf, IntKind.min, IntKind.max, IntKind.signed, IntKind.bits]
  omega
/-- 'v, ok := m[k]', run. -/
theorem run_look2 (hk : P.underlying k = some (.int .u64)) (ht : P.underlying t = some (.map k e)) (z0 : β) (hz : (zeroValue e).run P w = .ok (E.val z0) w) {b : Nat} {l : List (Int × β)} (h : Mo P k E w b l) {y : Int} (hy : 0 ≤ y ∧ y ≤ 18446744073709551615) :
    (Instr.lookup t (.map (some b)) (.int .u64 y) true).run P w = .ok (.tuple #[E.val ((fnd l y).getD z0), .bool (fnd l y).isSome]) w := by
  obtain ⟨⟨D, ho, hT⟩, hn⟩ := h
  obtain ⟨v, ps, hrun, hv⟩ := ho.look_ok (int_keyed hk) ht hz (E.mk_ z0) (keyOf_int_mk hk (wf_u64' hy))
  obtain ⟨x, rfl, hx⟩ := E.inv v _ hv
  injection hx with hx _
  have hxx : x = (fnd l y).getD z0 := by
    rw [hT.at_ hn] at hx
    cases hf : fnd l y with
    | none => rw [hf] at hx; exact (E.inj _ _ hx).symm
    | some q => rw [hf] at hx; exact (E.inj _ _ hx).symm
  rw [hrun, hxx, hT.has, ← fnd_is]
/-- 'm[k]', run. -/
theorem run_look1 (hk : P.underlying k = some (.int .u64)) (ht : P.underlying t = some (.map k e)) (z0 : β) (hz : (zeroValue e).run P w = .ok (E.val z0) w) {b : Nat} {l : List (Int × β)} (h : Mo P k E w b l) {y : Int} (hy : 0 ≤ y ∧ y ≤ 18446744073709551615) :
    (Instr.lookup t (.map (some b)) (.int .u64 y) false).run P w = .ok (E.val ((fnd l y).getD z0)) w := by
  obtain ⟨⟨D, ho, hT⟩, hn⟩ := h
  obtain ⟨v, ps, hrun, hv⟩ := ho.lookup (int_keyed hk) ht hz (E.mk_ z0) (keyOf_int_mk hk (wf_u64' hy))
  obtain ⟨x, rfl, hx⟩ := E.inv v _ hv
  injection hx with hx _
  have hxx : x = (fnd l y).getD z0 := by
    rw [hT.at_ hn] at hx
    cases hf : fnd l y with
    | none => rw [hf] at hx; exact (E.inj _ _ hx).symm
    | some q => rw [hf] at hx; exact (E.inj _ _ hx).symm
  rw [hrun, hxx]
/-- 'len(m)', run. -/
theorem run_len (ht : P.underlying t = some (.map k e)) {b : Nat} {l : List (Int × β)} (h : Mo P k E w b l) (ty : TypeId) : (Builtin.len_ #[t] ty #[.map (some b)]).run P w = .ok (.int .i64 l.length) w := by
  obtain ⟨⟨D, ho, hT⟩, hn⟩ := h
  rw [ho.len ht, hT.size]
/-- 'm[k] = v', run. -/
theorem run_put (hk : P.underlying k = some (.int .u64)) (ht : P.underlying t = some (.map k e)) {b : Nat} {l : List (Int × β)} (h : Mo P k E w b l) (hl : l.length < 4611686018427387904) {y : Int} (hy : 0 ≤ y ∧ y ≤ 18446744073709551615) (x : β) :
    ∃ w', (Instr.mapUpdate t (.map (some b)) (.int .u64 y) (E.val x)).run P w = .ok () w' ∧ Mo P k E w' b ((y, x) :: wo l y) ∧ w.grownBy w' (some b) := by
  obtain ⟨⟨D, ho, hT⟩, hn⟩ := h
  obtain ⟨w', hrun, h1, h2⟩ := ho.update (int_keyed hk) ht (by unfold maxLen; omega) (keyOf_int_mk hk (wf_u64' hy)) (E.mk_ x)
  exact ⟨w', hrun, Mo.of h1 (hT.put hn (ho.tidy (int_keyed hk)) y x) (hn.cons y x), h2⟩
/-- 'delete(m, k)', run. -/
theorem run_del (hk : P.underlying k = some (.int .u64)) (ht : P.underlying t = some (.map k e)) {b : Nat} {l : List (Int × β)} (h : Mo P k E w b l) {y : Int} (hy : 0 ≤ y ∧ y ≤ 18446744073709551615) (ty : TypeId) :
    ∃ w', (Builtin.delete_ #[t, k] ty #[.map (some b), .int .u64 y]).run P w = .ok (.tuple #[]) w' ∧ Mo P k E w' b (wo l y) ∧ w.grownBy w' (some b) := by
  obtain ⟨⟨D, ho, hT⟩, hn⟩ := h
  obtain ⟨w', hrun, h1, h2⟩ := ho.drop (int_keyed hk) ht (keyOf_int_mk hk (wf_u64' hy)) ty
  exact ⟨w', hrun, Mo.of h1 (hT.del hn (ho.tidy (int_keyed hk)) y) (hn.wo y), h2.grown⟩

theorem look2 (hg : o.guard = none) (m x : Operand) (t : TypeId) (hop : o.op = Op.lookup t m x true) (k e : TypeId) (hk : P.underlying k = some (.int .u64)) (ht : P.underlying t = some (.map k e)) (z0 : β) (hz : (zeroValue e).run P w = .ok (E.val z0) w) (b : Nat) (l : List (Int × β))
    (hm : a.eval m = .map (some b)) (h : Mo P k E w b l) (y : Int) (hy : 0 ≤ y ∧ y ≤ 18446744073709551615) (hx : a.eval x = .int .u64 y)
    (hK : wpList P ops Q rest (a.put o.dst (.tuple #[E.val ((fnd l y).getD z0), .bool (fnd l y).isSome])) w) : wpList P ops Q (o :: rest) a w := by
  refine wpList_plain hg fun K' hK' => ?_
  unfold Oper.wp
  simp [execOp, hop, hm, hx, run_look2 w hk ht z0 hz h hy, Result.andThen]
  exact hK' _ _ hK
theorem look1 (hg : o.guard = none) (m x : Operand) (t : TypeId) (hop : o.op = Op.lookup t m x false) (k e : TypeId) (hk : P.underlying k = some (.int .u64)) (ht : P.underlying t = some (.map k e)) (z0 : β) (hz : (zeroValue e).run P w = .ok (E.val z0) w) (b : Nat) (l : List (Int × β))
    (hm : a.eval m = .map (some b)) (h : Mo P k E w b l) (y : Int) (hy : 0 ≤ y ∧ y ≤ 18446744073709551615) (hx : a.eval x = .int .u64 y)
    (hK : wpList P ops Q rest (a.put o.dst (E.val ((fnd l y).getD z0))) w) : wpList P ops Q (o :: rest) a w := by
  refine wpList_plain hg fun K' hK' => ?_
  unfold Oper.wp
  simp [execOp, hop, hm, hx, run_look1 w hk ht z0 hz h hy, Result.andThen]
  exact hK' _ _ hK
theorem put1 (hg : o.guard = none) (m x v : Operand) (t : TypeId) (hop : o.op = Op.mapUpdate t m x v) (k e : TypeId) (hk : P.underlying k = some (.int .u64)) (ht : P.underlying t = some (.map k e)) (b : Nat) (l : List (Int × β))
    (hm : a.eval m = .map (some b)) (h : Mo P k E w b l) (hl : l.length < 4611686018427387904) (y : Int) (hy : 0 ≤ y ∧ y ≤ 18446744073709551615) (hx : a.eval x = .int .u64 y) (u : β) (hv : a.eval v = E.val u)
    (hK : ∀ w', Mo P k E w' b ((y, u) :: wo l y) → w.grownBy w' (some b) → wpList P ops Q rest (a.put o.dst undef) w') : wpList P ops Q (o :: rest) a w := by
  refine wpList_plain hg fun K' hK' => ?_
  obtain ⟨w', hrun, r1, r2⟩ := run_put w hk ht h hl hy u
  unfold Oper.wp
  simp [execOp, hop, hm, hx, hv, hrun, Result.andThen]
  exact hK' _ _ (hK w' r1 r2)
theorem del1 (hg : o.guard = none) (m x : Operand) (t k : TypeId) (hop : o.op = Op.call { callee := Callee.builtin Builtin.delete, args := #[m, x], argTypes := #[t, k] }) (e : TypeId) (hk : P.underlying k = some (.int .u64)) (ht : P.underlying t = some (.map k e)) (b : Nat) (l : List (Int × β))
    (hm : a.eval m = .map (some b)) (h : Mo P k E w b l) (y : Int) (hy : 0 ≤ y ∧ y ≤ 18446744073709551615) (hx : a.eval x = .int .u64 y)
    (hK : ∀ w', Mo P k E w' b (wo l y) → w.grownBy w' (some b) → wpList P ops Q rest (a.put o.dst (.tuple #[])) w') : wpList P ops Q (o :: rest) a w := by
  refine wpList_plain hg fun K' hK' => ?_
  obtain ⟨w', hrun, r1, r2⟩ := run_del w hk ht h hy o.type
  unfold Oper.wp
  simp [execOp, hop, resolve, invoke, builtin, hm, hx, hrun, Result.andThen]
  exact hK' _ _ (hK w' r1 r2)
theorem len1 (hg : o.guard = none) (m : Operand) (t : TypeId) (hop : o.op = Op.call { callee := Callee.builtin Builtin.len, args := #[m], argTypes := #[t] }) (k e : TypeId) (ht : P.underlying t = some (.map k e)) (b : Nat) (l : List (Int × β)) (hm : a.eval m = .map (some b)) (h : Mo P k E w b l)
    (hK : wpList P ops Q rest (a.put o.dst (.int .i64 l.length)) w) : wpList P ops Q (o :: rest) a w := by
  refine wpList_plain hg fun K' hK' => ?_
  unfold Oper.wp
  simp [execOp, hop, resolve, invoke, builtin, hm, run_len w ht h o.type, Result.andThen]
  exact hK' _ _ hK

/-- The map is ranged over: 'left' are the pairs that are still to come. -/
structure Rg (P : Program) (k : TypeId) (E : Enc β) (w : World) (b r : Nat) (l left : List (Int × β)) : Prop where
  rg : ∃ D lf cnt, w.ranges P k E.R b r l.length D lf cnt ∧ Tel E D l ∧ ∀ y, lf (.int .u64 y) = decide (y ∈ left.map Prod.fst)
  sub : ∀ z ∈ left, z ∈ l
  nd : Nd l
  ndl : Nd left
theorem Rg.mo {w : World} {b r : Nat} {l left : List (Int × β)} (h : Rg P k E w b r l left) : Mo P k E w b l := by
  obtain ⟨D, lf, cnt, h1, h2, _⟩ := h.rg
  exact ⟨⟨D, h1.owns, h2⟩, h.nd⟩
theorem Rg.kept {w w' : World} {b r : Nat} {l left : List (Int × β)} {row : Option Nat} (h : Rg P k E w b r l left) (hg : w.grownBy w' row) (hb : some b ≠ row) (hr : some r ≠ row) : Rg P k E w' b r l left := by
  obtain ⟨D, lf, cnt, h1, h2, h3⟩ := h.rg
  exact ⟨⟨D, lf, cnt, h1.kept hg hb hr, h2, h3⟩, h.sub, h.nd, h.ndl⟩
theorem Rg.alloc {w : World} {b r : Nat} {l left : List (Int × β)} (h : Rg P k E w b r l left) (o : Obj) : Rg P k E (w.alloc o) b r l left := h.kept (World.grownBy_alloc w o none) (by simp) (by simp)
theorem Rg.left_kept {w w' : World} {b r : Nat} {l left : List (Int × β)} {row : Option Nat} (h : Rg P k E w b r l left) (hg : w.grownBy w' row) (hb : some b ≠ row) (hr : some r ≠ row) : w'.rangeLeft b r = w.rangeLeft b r := by
  obtain ⟨D, lf, cnt, h1, h2, h3⟩ := h.rg
  rw [(h1.kept hg hb hr).left_eq, h1.left_eq]
theorem Rg.lt {w : World} {b r : Nat} {l left : List (Int × β)} (h : Rg P k E w b r l left) : r < w.heap.size ∧ b < w.heap.size ∧ r ≠ b := by
  obtain ⟨D, lf, cnt, h1, h2, h3⟩ := h.rg
  exact ⟨h1.lt, h1.owns.lt, h1.ne⟩
/-- 'range m' -/
theorem range1 (hg : o.guard = none) (m : Operand) (t : TypeId) (hop : o.op = Op.range t m) (k e : TypeId) (hk : P.underlying k = some (.int .u64)) (ht : P.underlying t = some (.map k e)) (b : Nat) (l : List (Int × β)) (hm : a.eval m = .map (some b)) (h : Mo P k E w b l)
    (hK : ∀ w', Rg P k E w' b w.heap.size l l → w.grownBy w' none → w'.heap.size = w.heap.size + 1 → wpList P ops Q rest (a.put o.dst (.pointer (some ⟨w.heap.size, 0, none⟩))) w') : wpList P ops Q (o :: rest) a w := by
  obtain ⟨⟨D, ho, hT⟩, hn⟩ := h
  exact wpList_range_own w hg m t hop k e (int_keyed hk) ht E.R b l.length D hm ho fun w' h1 h2 h3 => hK w' ⟨⟨D, _, _, h1, hT, hT.has⟩, fun _ h => h, hn, hn⟩ h2 h3
/-- The next pair. -/
theorem next1 (hg : o.guard = none) (it : Operand) (hop : o.op = Op.next it false) (k : TypeId) (hk : P.underlying k = some (.int .u64)) (b r : Nat) (l left : List (Int × β)) (hit : a.eval it = .pointer (some ⟨r, 0, none⟩)) (h : Rg P k E w b r l left)
    (hDone : left = [] → wpList P ops Q rest (a.put o.dst (.tuple #[.bool false])) w)
    (hMore : ∀ y x w', (y, x) ∈ left → 0 ≤ y ∧ y ≤ 18446744073709551615 → Rg P k E w' b r l (wo left y) → w'.rangeLeft b r < w.rangeLeft b r → w.grownBy w' (some r) → w'.heap.size = w.heap.size →
      (Instr.entry (.pointer (some ⟨r, 0, none⟩))).run P w' = .ok (.tuple #[.int .u64 y, E.val x]) w' → wpList P ops Q rest (a.put o.dst (.tuple #[.bool true, .int .u64 y, E.val x])) w') : wpList P ops Q (o :: rest) a w := by
  obtain ⟨⟨D, lf, cnt, hrg, hT, hlf⟩, hsub, hn, hnl⟩ := h
  refine wpList_next_ranges w hg it hop k (int_keyed hk) E.R (Value.int .u64) E.val (fun key kl hkey => by obtain ⟨x, rfl, _⟩ := Maps.keyOf_int_inv hk hkey; exact ⟨x, rfl⟩) (fun v y hv => by obtain ⟨c, rfl, _⟩ := E.inv v y hv; exact ⟨c, rfl⟩)
    b r l.length D lf cnt hit hrg (fun _ hl => hDone ?_) (fun y x kl z w' cnt' hkey hlk hv hat hrg' hlt hgr hsz hen => ?_)
  · cases left with
    | nil => rfl
    | cons a r => have := hlf a.1; rw [hl] at this; simp at this
  · obtain ⟨y', ey, rfl, hwy⟩ := Maps.keyOf_int_inv hk hkey
    injection ey with _ ey
    subst ey
    rw [hlf, decide_eq_true_eq] at hlk
    obtain ⟨x', hx'⟩ := mem_key.1 hlk
    rw [E.mk_ x] at hv
    injection hv with hv
    have hxe : x' = x := by
      have h1 := hT.hit y x' (hsub _ hx') (.map [])
      rw [hat, ← hv] at h1
      exact (E.inj _ _ h1).symm
    subst hxe
    have hy : 0 ≤ y ∧ y ≤ 18446744073709551615 := by
      simp [Lit.wf, IntKind.min, IntKind.max, IntKind.signed, IntKind.bits] at hwy
      omega
    refine hMore y x' w' hx' hy ⟨⟨D, _, _, hrg', hT, fun q => ?_⟩, fun z hz => hsub z (mem_wo.1 hz).1, hn, hnl.wo y⟩ ?_ hgr hsz hen
    · have e1 : (Lit.int .u64 q).sameKey (.int .u64 y) = decide (q = y) := by simp [Lit.sameKey]
      rw [hlf, e1]
      by_cases hq : q = y
      · subst hq
        rw [decide_eq_false (wo_key (l := left))]
        simp
      · rw [decide_eq_false hq]
        simp only [Bool.not_false, Bool.and_true]
        congr 1
        rw [mem_key, mem_key, eq_iff_iff]
        exact ⟨fun ⟨t', ht⟩ => ⟨t', mem_wo.2 ⟨ht, hq⟩⟩, fun ⟨t', ht⟩ => ⟨t', (mem_wo.1 ht).1⟩⟩
    · rw [hrg'.left_eq, hrg.left_eq]; exact hlt
end ops
end Go.Proofs.YtbdcdofjcljliaaGreatDoor.Mt
