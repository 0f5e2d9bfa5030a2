/- A part of the claim: the texts Base6. -/
import Derived.Test.YthmdiaingolfnaaGreatDoorZBase1
import Derived.Test.YthmdiaingolfnaaGreatDoorZBase2
import Derived.Maps.RangeWalk
import Derived.Maps.Ext
import Derived.WalkKit
import Derived.ProofKit
namespace Go.Proofs.YthmdiaingolfnaaGreatDoor.Mt
open Go Go.ChangeMaps Go.Maps Go.MapKept Go.RowKit
set_option linter.unusedVariables false
structure Enc (β : Type) where
  val : β → Value
  dat : β → DataW Unit
  R : Value → Option (DataW Unit × List MemPlace)
  mk_ : ∀ x, R (val x) = some (dat x, [])
  inv : ∀ v y, R v = some y → ∃ x, v = val x ∧ y = (dat x, [])
  inj : ∀ x y, dat x = dat y → x = y
section lists
variable {β : Type}
def fnd (l : List (Int × β)) (k : Int) : Option β := (l.find? (fun a => a.1 == k)).map Prod.snd
def wo (l : List (Int × β)) (k : Int) : List (Int × β) := l.filter (fun a => a.1 != k)
def Nd (l : List (Int × β)) : Prop := (l.map Prod.fst).Nodup
theorem mem_wo {l : List (Int × β)} {k : Int} {a : Int × β} : a ∈ wo l k ↔ a ∈ l ∧ a.1 ≠ k := by simp [wo]
theorem mem_key {l : List (Int × β)} {k : Int} : k ∈ l.map Prod.fst ↔ ∃ x, (k, x) ∈ l := by
  constructor
  · intro h
    obtain ⟨a, ha, rfl⟩ := List.mem_map.1 h
    exact ⟨a.2, ha⟩
  · rintro ⟨x, hx⟩; exact List.mem_map.2 ⟨_, hx, rfl⟩
theorem wo_key {l : List (Int × β)} {k : Int} : k ∉ (wo l k).map Prod.fst := by
  intro h
  obtain ⟨x, hx⟩ := mem_key.1 h
  exact (mem_wo.1 hx).2 rfl
theorem Nd.wo {l : List (Int × β)} (h : Nd l) (k : Int) : Nd (wo l k) := by
  unfold Nd Mt.wo at *
  exact h.sublist (List.Sublist.map _ List.filter_sublist)
theorem Nd.cons {l : List (Int × β)} (h : Nd l) (k : Int) (x : β) : Nd ((k, x) :: Mt.wo l k) := by
  have h1 := h.wo k
  unfold Nd at *
  rw [List.map_cons, List.nodup_cons]
  exact ⟨wo_key, h1⟩
theorem Nd.perm {l l' : List (Int × β)} (h : Nd l) (hp : l.Perm l') : Nd l' := by
  unfold Nd at *
  exact (hp.map Prod.fst).nodup_iff.1 h
theorem Nd.uniq {l : List (Int × β)} (h : Nd l) {k : Int} {x y : β} (hx : (k, x) ∈ l) (hy : (k, y) ∈ l) : x = y := by
  unfold Nd at h
  induction l with
  | nil => cases hx
  | cons a r ih =>
    rw [List.map_cons, List.nodup_cons] at h
    rcases List.mem_cons.1 hx with e1 | h1 <;> rcases List.mem_cons.1 hy with e2 | h2
    · rw [← e1] at e2; injection e2 with _ e2; exact e2.symm
    · exact absurd (mem_key.2 ⟨_, h2⟩) (by rw [← e1] at h; exact h.1)
    · exact absurd (mem_key.2 ⟨_, h1⟩) (by rw [← e2] at h; exact h.1)
    · exact ih h.2 h1 h2
theorem fnd_mem {l : List (Int × β)} (h : Nd l) {k : Int} {x : β} (hm : (k, x) ∈ l) : fnd l k = some x := by
  unfold fnd
  cases hf : l.find? (fun a => a.1 == k) with
  | none => exact absurd (List.find?_eq_none.1 hf _ hm) (by simp)
  | some a =>
    have h1 := List.mem_of_find?_eq_some hf
    have h2 := List.find?_some hf
    simp at h2
    subst h2
    simp only [Option.map_some]
    rw [h.uniq (k := a.1) (x := a.2) h1 hm]
theorem fnd_none {l : List (Int × β)} {k : Int} (hm : k ∉ l.map Prod.fst) : fnd l k = none := by
  unfold fnd
  cases hf : l.find? (fun a => a.1 == k) with
  | none => rfl
  | some a =>
    have h1 := List.mem_of_find?_eq_some hf
    have h2 := List.find?_some hf
    simp at h2
    exact absurd (List.mem_map.2 ⟨a, h1, h2⟩) hm
theorem fnd_some {l : List (Int × β)} {k : Int} {x : β} (h : fnd l k = some x) : (k, x) ∈ l := by
  unfold fnd at h
  cases hf : l.find? (fun a => a.1 == k) with
  | none => rw [hf] at h; cases h
  | some a =>
    rw [hf] at h
    injection h with h
    have h2 := List.find?_some hf
    simp at h2
    subst h h2
    exact List.mem_of_find?_eq_some hf
theorem fnd_is {l : List (Int × β)} {k : Int} : (fnd l k).isSome = decide (k ∈ l.map Prod.fst) := by
  by_cases h : k ∈ l.map Prod.fst
  · rw [decide_eq_true h]
    cases hf : fnd l k with
    | none =>
      exfalso
      unfold fnd at hf
      cases hg : l.find? (fun a => a.1 == k) with
      | none =>
        obtain ⟨x, hx⟩ := mem_key.1 h
        exact absurd (List.find?_eq_none.1 hg _ hx) (by simp)
      | some a => rw [hg] at hf; cases hf
    | some x => rfl
  · rw [fnd_none h, decide_eq_false h]; rfl
theorem fnd_no {l : List (Int × β)} {k : Int} (h : fnd l k = none) : k ∉ l.map Prod.fst := by
  have := fnd_is (l := l) (k := k)
  rw [h] at this
  simpa using this.symm
theorem wo_none {l : List (Int × β)} {k : Int} (h : k ∉ l.map Prod.fst) : wo l k = l := by
  unfold wo
  rw [List.filter_eq_self]
  intro a ha
  simp
  intro e
  exact h (List.mem_map.2 ⟨a, ha, e⟩)
theorem wo_len {l : List (Int × β)} (h : Nd l) {k : Int} (hk : k ∈ l.map Prod.fst) : (wo l k).length + 1 = l.length := by
  unfold Nd at h
  induction l with
  | nil => cases hk
  | cons a r ih =>
    rw [List.map_cons, List.nodup_cons] at h
    by_cases e : a.1 = k
    · have h1 : k ∉ r.map Prod.fst := e ▸ h.1
      have : wo (a :: r) k = wo r k := by unfold wo; rw [List.filter_cons_of_neg (by simp [e])]
      rw [this, wo_none h1]; rfl
    · have h1 : k ∈ r.map Prod.fst := by
        rcases List.mem_cons.1 hk with h2 | h2
        · exact absurd h2.symm e
        · exact h2
      have : wo (a :: r) k = a :: wo r k := by unfold wo; rw [List.filter_cons_of_pos (by simp [e])]
      rw [this, List.length_cons, List.length_cons, ih h.2 h1]
theorem wo_le (l : List (Int × β)) (k : Int) : (wo l k).length ≤ l.length := List.length_filter_le _ _
end lists
section
variable {β : Type}
structure Tel (E : Enc β) (D : DataW Unit) (l : List (Int × β)) : Prop where
  hit : ∀ k x, (k, x) ∈ l → ∀ z, D.atKey (.int .u64 k) z = E.dat x
  has : ∀ k, Maps.has D (.int .u64 k) = decide (k ∈ l.map Prod.fst)
  size : Maps.size D = l.length
theorem lit_ne {k k' : Int} (h : k' ≠ k) : Lit.int .u64 k' ≠ Lit.int .u64 k := fun e => h (by injection e)
variable {E : Enc β} {D : DataW Unit} {l : List (Int × β)}
theorem Tel.nil : Tel E (.map []) [] := ⟨fun _ _ h => (by cases h), fun _ => rfl, rfl⟩
theorem Tel.perm (h : Tel E D l) {l' : List (Int × β)} (hp : l.Perm l') : Tel E D l' :=
  ⟨fun k x hm => h.hit k x (hp.mem_iff.2 hm), fun k => by rw [h.has]; congr 1; exact propext (hp.map Prod.fst).mem_iff, by rw [h.size, hp.length_eq]⟩
theorem Tel.at_ (h : Tel E D l) (hn : Nd l) (k : Int) (z : DataW Unit) : D.atKey (.int .u64 k) z = ((fnd l k).map E.dat).getD z := by
  cases hf : fnd l k with
  | none => exact Maps.atKey_of_not_has (by rw [h.has]; simpa using fnd_no hf) z
  | some x => exact h.hit k x (fnd_some hf) z
theorem Tel.put (h : Tel E D l) (hn : Nd l) (hT : Maps.Tidy D) (k : Int) (x : β) : Tel E (D.put (.int .u64 k) (E.dat x)) ((k, x) :: wo l k) := by
  refine ⟨fun k' t' hm z => ?_, fun k' => ?_, ?_⟩
  · rcases List.mem_cons.1 hm with e | hm
    · injection e with e1 e2
      subst e1 e2
      exact Maps.atKey_put_same (k := .int .u64 _) hT.isMap trivial _ _
    · obtain ⟨hm, hne⟩ := mem_wo.1 hm
      rw [Maps.atKey_put_other (lit_ne hne)]
      exact h.hit k' t' hm z
  · by_cases e : k' = k
    · subst e
      rw [Maps.has_put_same (k := .int .u64 _) hT.isMap trivial]
      simp
    · rw [Maps.has_put_other (lit_ne e), h.has]
      congr 1
      rw [List.map_cons, List.mem_cons, mem_key, mem_key, eq_iff_iff]
      constructor
      · rintro ⟨t', ht⟩; exact .inr ⟨t', mem_wo.2 ⟨ht, e⟩⟩
      · rintro (h1 | ⟨t', ht⟩)
        · exact absurd h1 e
        · exact ⟨t', (mem_wo.1 ht).1⟩
  · rw [Maps.size_put hT, h.has, h.size]
    by_cases hk : k ∈ l.map Prod.fst
    · rw [decide_eq_true hk, List.length_cons, wo_len hn hk]; simp
    · rw [decide_eq_false hk, List.length_cons, wo_none hk]; simp
theorem Tel.del (h : Tel E D l) (hn : Nd l) (hT : Maps.Tidy D) (k : Int) : Tel E (D.del (.int .u64 k)) (wo l k) := by
  refine ⟨fun k' t' hm z => ?_, fun k' => ?_, ?_⟩
  · obtain ⟨hm, hne⟩ := mem_wo.1 hm
    rw [Maps.atKey_del_other (lit_ne hne)]
    exact h.hit k' t' hm z
  · by_cases e : k' = k
    · subst e
      rw [Maps.has_del_same, decide_eq_false wo_key]
    · rw [Maps.has_del_other (lit_ne e), h.has]
      congr 1
      rw [mem_key, mem_key, eq_iff_iff]
      constructor
      · rintro ⟨t', ht⟩; exact ⟨t', mem_wo.2 ⟨ht, e⟩⟩
      · rintro ⟨t', ht⟩; exact ⟨t', (mem_wo.1 ht).1⟩
  · have h1 := Maps.size_del (k := .int .u64 k) hT
    rw [h.has, h.size] at h1
    by_cases hk : k ∈ l.map Prod.fst
    · have := wo_len hn hk
      simp [hk] at h1
      omega
    · rw [wo_none hk]
      simp [hk] at h1
      exact h1
structure Mo (P : Program) (k : TypeId) (E : Enc β) (w : World) (m : Nat) (l : List (Int × β)) : Prop where
  own : ∃ D, w.ownsMap P k E.R m l.length D ∧ Tel E D l
  nd : Nd l
theorem own_tight {P : Program} {k : TypeId} {R : Value → Option (DataW Unit × List MemPlace)} {w : World} {b n : Nat} (h : w.ownsMap P k R b n D) : w.ownsMap P k R b (Maps.size D) D := by
  obtain ⟨es, clock, hb, F, hs, hD⟩ := h
  refine ⟨es, clock, hb, F, ?_, hD⟩
  rw [hD]
  show es.size ≤ (List.foldr DataW.insert [] _).length
  rw [length_sorted]
  simp
variable {P : Program} {k : TypeId} {w w' : World} {m : Nat}
theorem Mo.of {n : Nat} (h : w.ownsMap P k E.R m n D) (ht : Tel E D l) (hn : Nd l) : Mo P k E w m l := ⟨⟨D, ht.size ▸ own_tight h, ht⟩, hn⟩
theorem Mo.perm (h : Mo P k E w m l) {l' : List (Int × β)} (hp : l.Perm l') : Mo P k E w m l' := by
  obtain ⟨⟨D, h1, h2⟩, hn⟩ := h
  exact Mo.of h1 (h2.perm hp) (hn.perm hp)
theorem Mo.made (w : World) (P : Program) (k : TypeId) (E : Enc β) : Mo P k E (w.alloc (.map #[] 0)) w.heap.size [] := ⟨⟨_, World.ownsMap_made w P k E.R, Tel.nil⟩, List.nodup_nil⟩
theorem Mo.kept (h : Mo P k E w m l) {row : Option Nat} (hg : w.grownBy w' row) (hne : some m ≠ row) : Mo P k E w' m l := by
  obtain ⟨⟨D, h1, h2⟩, hn⟩ := h
  exact ⟨⟨D, h1.kept hg hne, h2⟩, hn⟩
theorem Mo.lt (h : Mo P k E w m l) : m < w.heap.size := by
  obtain ⟨⟨D, h1, h2⟩, hn⟩ := h
  exact h1.lt
theorem Mo.block (h : Mo P k E w m l) (hb : w'.heap[m]? = w.heap[m]?) : Mo P k E w' m l := by
  obtain ⟨⟨D, ⟨es, clock, h1, h2⟩, h3⟩, hn⟩ := h
  exact ⟨⟨D, ⟨es, clock, hb.trans h1, h2⟩, h3⟩, hn⟩
theorem Mo.alloc (h : Mo P k E w m l) (o : Obj) : Mo P k E (w.alloc o) m l := h.kept (World.grownBy_alloc w o none) (by simp)
theorem Mo.below (h : Mo P k E w m l) {B : Nat} (hb : Below B w w') (hm : m < B) : Mo P k E w' m l := h.block (hb.block m hm)
theorem Mo.later (h : Mo P k E w m l) (hb : Below w.heap.size w w') : Mo P k E w' m l := h.below hb h.lt
theorem Mo.no_cell (h : Mo P k E w m l) (o : Nat) (v : Value) : w.cell? ⟨m, o, none⟩ ≠ some v := by
  obtain ⟨⟨D, ⟨es, clock, h1, h2⟩, h3⟩, hn⟩ := h
  intro hc
  simp [World.cell?, h1] at hc
theorem Mo.setCell (h : Mo P k E w m l) {a : Addr} (ha : m ≠ a.block) (u : Value) : Mo P k E (w.setCell a u) m l := by
  obtain ⟨⟨D, h1, h2⟩, hn⟩ := h
  exact ⟨⟨D, h1.setCell ha u, h2⟩, hn⟩
end
section ops
variable {β : Type} {E : Enc β} {P : Program} {k e t : TypeId} (w : World) {ops : Array Oper} {rest : List Oper} {o : Oper} {a : Act} {Q : Exit → Act → World → Prop}
theorem wf_u64' {x : Int} (h : 0 ≤ x ∧ x ≤ 18446744073709551615) : (Lit.int .u64 x).wf = true := by
  simp [Lit.wf, IntKind.min, IntKind.max, IntKind.signed, IntKind.bits]
  omega
theorem run_look2 (hk : P.underlying k = some (.int .u64)) (ht : P.underlying t = some (.map k e)) (z0 : β) (hz : (zeroValue e).run P w = .ok (E.val z0) w) {b : Nat} {l : List (Int × β)} (h : Mo P k E w b l) {y : Int} (hy : 0 ≤ y ∧ y ≤ 18446744073709551615) :
    (Instr.lookup t (.map (some b)) (.int .u64 y) true).run P w = .ok (.tuple #[E.val ((fnd l y).getD z0), .bool (fnd l y).isSome]) w := by
  obtain ⟨⟨D, ho, hT⟩, hn⟩ := h
  obtain ⟨v, ps, hrun, hv⟩ := ho.look_ok (int_keyed hk) ht hz (E.mk_ z0) (keyOf_int_mk hk (wf_u64' hy))
  obtain ⟨x, rfl, hx⟩ := E.inv v _ hv
  injection hx with hx _
  have hxx : x = (fnd l y).getD z0 := by
    rw [hT.at_ hn] at hx
    cases hf : fnd l y with
    | none => rw [hf] at hx; exact (E.inj _ _ hx).symm
    | some q => rw [hf] at hx; exact (E.inj _ _ hx).symm
  rw [hrun, hxx, hT.has, ← fnd_is]
theorem run_look1 (hk : P.underlying k = some (.int .u64)) (ht : P.underlying t = some (.map k e)) (z0 : β) (hz : (zeroValue e).run P w = .ok (E.val z0) w) {b : Nat} {l : List (Int × β)} (h : Mo P k E w b l) {y : Int} (hy : 0 ≤ y ∧ y ≤ 18446744073709551615) :
    (Instr.lookup t (.map (some b)) (.int .u64 y) false).run P w = .ok (E.val ((fnd l y).getD z0)) w := by
  obtain ⟨⟨D, ho, hT⟩, hn⟩ := h
  obtain ⟨v, ps, hrun, hv⟩ := ho.lookup (int_keyed hk) ht hz (E.mk_ z0) (keyOf_int_mk hk (wf_u64' hy))
  obtain ⟨x, rfl, hx⟩ := E.inv v _ hv
  injection hx with hx _
  have hxx : x = (fnd l y).getD z0 := by
    rw [hT.at_ hn] at hx
    cases hf : fnd l y with
    | none => rw [hf] at hx; exact (E.inj _ _ hx).symm
    | some q => rw [hf] at hx; exact (E.inj _ _ hx).symm
  rw [hrun, hxx]
theorem run_len (ht : P.underlying t = some (.map k e)) {b : Nat} {l : List (Int × β)} (h : Mo P k E w b l) (ty : TypeId) : (Builtin.len_ #[t] ty #[.map (some b)]).run P w = .ok (.int .i64 l.length) w := by
  obtain ⟨⟨D, ho, hT⟩, hn⟩ := h
  rw [ho.len ht, hT.size]
theorem run_put (hk : P.underlying k = some (.int .u64)) (ht : P.underlying t = some (.map k e)) {b : Nat} {l : List (Int × β)} (h : Mo P k E w b l) (hl : l.length < 4611686018427387904) {y : Int} (hy : 0 ≤ y ∧ y ≤ 18446744073709551615) (x : β) :
    ∃ w', (Instr.mapUpdate t (.map (some b)) (.int .u64 y) (E.val x)).run P w = .ok () w' ∧ Mo P k E w' b ((y, x) :: wo l y) ∧ w.grownBy w' (some b) := by
  obtain ⟨⟨D, ho, hT⟩, hn⟩ := h
  obtain ⟨w', hrun, h1, h2⟩ := ho.update (int_keyed hk) ht (by unfold maxLen; omega) (keyOf_int_mk hk (wf_u64' hy)) (E.mk_ x)
  exact ⟨w', hrun, Mo.of h1 (hT.put hn (ho.tidy (int_keyed hk)) y x) (hn.cons y x), h2⟩
theorem run_del (hk : P.underlying k = some (.int .u64)) (ht : P.underlying t = some (.map k e)) {b : Nat} {l : List (Int × β)} (h : Mo P k E w b l) {y : Int} (hy : 0 ≤ y ∧ y ≤ 18446744073709551615) (ty : TypeId) :
    ∃ w', (Builtin.delete_ #[t, k] ty #[.map (some b), .int .u64 y]).run P w = .ok (.tuple #[]) w' ∧ Mo P k E w' b (wo l y) ∧ w.grownBy w' (some b) := by
  obtain ⟨⟨D, ho, hT⟩, hn⟩ := h
  obtain ⟨w', hrun, h1, h2⟩ := ho.drop (int_keyed hk) ht (keyOf_int_mk hk (wf_u64' hy)) ty
  exact ⟨w', hrun, Mo.of h1 (hT.del hn (ho.tidy (int_keyed hk)) y) (hn.wo y), h2.grown⟩
theorem look2 (hg : o.guard = none) (m x : Operand) (t : TypeId) (hop : o.op = Op.lookup t m x true) (k e : TypeId) (hk : P.underlying k = some (.int .u64)) (ht : P.underlying t = some (.map k e)) (z0 : β) (hz : (zeroValue e).run P w = .ok (E.val z0) w) (b : Nat) (l : List (Int × β))
    (hm : a.eval m = .map (some b)) (h : Mo P k E w b l) (y : Int) (hy : 0 ≤ y ∧ y ≤ 18446744073709551615) (hx : a.eval x = .int .u64 y)
    (hK : wpList P ops Q rest (a.put o.dst (.tuple #[E.val ((fnd l y).getD z0), .bool (fnd l y).isSome])) w) : wpList P ops Q (o :: rest) a w := by
  refine wpList_plain hg fun K' hK' => ?_
  unfold Oper.wp
  simp [execOp, hop, hm, hx, run_look2 w hk ht z0 hz h hy, Result.andThen]
  exact hK' _ _ hK
theorem look1 (hg : o.guard = none) (m x : Operand) (t : TypeId) (hop : o.op = Op.lookup t m x false) (k e : TypeId) (hk : P.underlying k = some (.int .u64)) (ht : P.underlying t = some (.map k e)) (z0 : β) (hz : (zeroValue e).run P w = .ok (E.val z0) w) (b : Nat) (l : List (Int × β))
    (hm : a.eval m = .map (some b)) (h : Mo P k E w b l) (y : Int) (hy : 0 ≤ y ∧ y ≤ 18446744073709551615) (hx : a.eval x = .int .u64 y)
    (hK : wpList P ops Q rest (a.put o.dst (E.val ((fnd l y).getD z0))) w) : wpList P ops Q (o :: rest) a w := by
  refine wpList_plain hg fun K' hK' => ?_
  unfold Oper.wp
  simp [execOp, hop, hm, hx, run_look1 w hk ht z0 hz h hy, Result.andThen]
  exact hK' _ _ hK
theorem put1 (hg : o.guard = none) (m x v : Operand) (t : TypeId) (hop : o.op = Op.mapUpdate t m x v) (k e : TypeId) (hk : P.underlying k = some (.int .u64)) (ht : P.underlying t = some (.map k e)) (b : Nat) (l : List (Int × β))
    (hm : a.eval m = .map (some b)) (h : Mo P k E w b l) (hl : l.length < 4611686018427387904) (y : Int) (hy : 0 ≤ y ∧ y ≤ 18446744073709551615) (hx : a.eval x = .int .u64 y) (u : β) (hv : a.eval v = E.val u)
    (hK : ∀ w', Mo P k E w' b ((y, u) :: wo l y) → w.grownBy w' (some b) → wpList P ops Q rest (a.put o.dst undef) w') : wpList P ops Q (o :: rest) a w := by
  refine wpList_plain hg fun K' hK' => ?_
  obtain ⟨w', hrun, r1, r2⟩ := run_put w hk ht h hl hy u
  unfold Oper.wp
  simp [execOp, hop, hm, hx, hv, hrun, Result.andThen]
  exact hK' _ _ (hK w' r1 r2)
theorem del1 (hg : o.guard = none) (m x : Operand) (t k : TypeId) (hop : o.op = Op.call { callee := Callee.builtin Builtin.delete, args := #[m, x], argTypes := #[t, k] }) (e : TypeId) (hk : P.underlying k = some (.int .u64)) (ht : P.underlying t = some (.map k e)) (b : Nat) (l : List (Int × β))
    (hm : a.eval m = .map (some b)) (h : Mo P k E w b l) (y : Int) (hy : 0 ≤ y ∧ y ≤ 18446744073709551615) (hx : a.eval x = .int .u64 y)
    (hK : ∀ w', Mo P k E w' b (wo l y) → w.grownBy w' (some b) → wpList P ops Q rest (a.put o.dst (.tuple #[])) w') : wpList P ops Q (o :: rest) a w := by
  refine wpList_plain hg fun K' hK' => ?_
  obtain ⟨w', hrun, r1, r2⟩ := run_del w hk ht h hy o.type
  unfold Oper.wp
  simp [execOp, hop, resolve, invoke, builtin, hm, hx, hrun, Result.andThen]
  exact hK' _ _ (hK w' r1 r2)
end ops
end Go.Proofs.YthmdiaingolfnaaGreatDoor.Mt
namespace Go.Proofs.YthmdiaingolfnaaGreatDoor.Le
open Go.ChangeShapes Go.WideShapes Go.ChangeAt Go.RowKit Go.Maps Rw Hi Mt
set_option linter.unusedVariables false
structure Ls where
  thread : Int
  since : Int
  flag : Bool
deriving DecidableEq
abbrev Z0 : Ls := ⟨0, 0, false⟩
abbrev eL : Enc Ls where
  val x := .agg #[.int .i64 x.thread, .int .u64 x.since, .bool x.flag]
  dat x := .agg [.lit (.int .i64 x.thread), .lit (.int .u64 x.since), .lit (.bool x.flag)]
  R v := match v with
    | .agg ⟨[.int .i64 t, .int .u64 s, .bool f]⟩ => some (.agg [.lit (.int .i64 t), .lit (.int .u64 s), .lit (.bool f)], [])
    | _ => none
  mk_ x := rfl
  inv v y h := by
    split at h
    · rename_i t s f
      injection h with h
      exact ⟨⟨t, s, f⟩, rfl, h.symm⟩
    · cases h
  inj x y h := by
    injection h with h
    injection h with h1 h
    injection h with h2 h
    injection h with h3 h
    injection h1 with h1; injection h1 with _ h1
    injection h2 with h2; injection h2 with _ h2
    injection h3 with h3; injection h3 with h3
    cases x; cases y; simp_all
abbrev eB : Enc Bool where
  val := .bool
  dat b := .lit (.bool b)
  R v := match v with
    | .bool b => some (.lit (.bool b), [])
    | _ => none
  mk_ x := rfl
  inv v y h := by
    split at h
    · rename_i b
      injection h with h
      exact ⟨b, rfl, h.symm⟩
    · cases h
  inj x y h := by injection h with h; injection h
abbrev ML (w : World) (a : Nat) (L : List (Int × Ls)) : Prop := Mo Tryz.prog 22 eL w a L
abbrev MB (w : World) (a : Nat) (M : List (Int × Bool)) : Prop := Mo Tryz.prog 22 eB w a M
theorem zeroL (w : World) : (zeroValue 214).run Tryz.prog w = .ok (eL.val Z0) w := by kernel_rfl
theorem zeroB (w : World) : (zeroValue 4).run Tryz.prog w = .ok (eB.val false) w := by kernel_rfl
structure At where
  p : Nat
  a : Nat
  b : Nat
  q : Nat
  m : Nat
structure Bk (w : World) (x : At) (leak : Int) (L : List (Int × Ls)) (M : List (Int × Bool)) (T : List (Int × Int)) : Prop where
  c0 : w.cell? ⟨x.p, 0, none⟩ = some (.int .u64 leak)
  c1 : w.cell? ⟨x.p, 1, none⟩ = some (.map (some x.a))
  c2 : w.cell? ⟨x.p, 2, none⟩ = some (.map (some x.b))
  c3 : w.cell? ⟨x.p, 3, none⟩ = some (.pointer (some ⟨x.q, 0, none⟩))
  leases : ML w x.a L
  marks : MB w x.b M
  wheel : Wl.Wh w x.q x.m T
  ab : x.a ≠ x.b
  am : x.a ≠ x.m
  bm : x.b ≠ x.m
abbrev ptr (p : Nat) : Value := .pointer (some ⟨p, 0, none⟩)
section
variable {w w' : World} {x : At} {leak : Int} {L : List (Int × Ls)} {M : List (Int × Bool)} {T : List (Int × Int)}
theorem Bk.lt (h : Bk w x leak L M T) : x.p < w.heap.size ∧ x.a < w.heap.size ∧ x.b < w.heap.size ∧ x.q < w.heap.size ∧ x.m < w.heap.size :=
  ⟨Lw.lt_heap h.c0, h.leases.lt, h.marks.lt, h.wheel.lt.1, h.wheel.lt.2⟩
theorem Bk.pa (h : Bk w x leak L M T) : x.p ≠ x.a := fun e => h.leases.no_cell 0 _ (e ▸ h.c0)
theorem Bk.pb (h : Bk w x leak L M T) : x.p ≠ x.b := fun e => h.marks.no_cell 0 _ (e ▸ h.c0)
theorem wh_no_cell {q m : Nat} (h : Wl.Wh w q m T) (o : Nat) (v : Value) : w.cell? ⟨m, o, none⟩ ≠ some v := by
  obtain ⟨D, ⟨es, clock, h1, h2⟩, h3⟩ := h.own
  intro hc
  simp [World.cell?, h1] at hc
theorem Bk.pm (h : Bk w x leak L M T) : x.p ≠ x.m := fun e => wh_no_cell h.wheel 0 _ (e ▸ h.c0)
theorem Bk.qa (h : Bk w x leak L M T) : x.q ≠ x.a := fun e => h.leases.no_cell 0 _ (e ▸ h.wheel.cell)
theorem Bk.qb (h : Bk w x leak L M T) : x.q ≠ x.b := fun e => h.marks.no_cell 0 _ (e ▸ h.wheel.cell)
theorem Bk.same (h : Bk w x leak L M T) (hp : w'.heap[x.p]? = w.heap[x.p]?) (ha : w'.heap[x.a]? = w.heap[x.a]?) (hb : w'.heap[x.b]? = w.heap[x.b]?) (hq : w'.heap[x.q]? = w.heap[x.q]?) (hm : w'.heap[x.m]? = w.heap[x.m]?) : Bk w' x leak L M T :=
  ⟨(World.cell?_of_block hp).trans h.c0, (World.cell?_of_block hp).trans h.c1, (World.cell?_of_block hp).trans h.c2, (World.cell?_of_block hp).trans h.c3, h.leases.block ha, h.marks.block hb, ⟨(World.cell?_of_block hq).trans h.wheel.cell, h.wheel.own.block hm, h.wheel.tms⟩, h.ab, h.am, h.bm⟩
theorem Bk.later (h : Bk w x leak L M T) (hb : Below w.heap.size w w') : Bk w' x leak L M T := by
  obtain ⟨h1, h2, h3, h4, h5⟩ := h.lt
  exact h.same (hb.block _ h1) (hb.block _ h2) (hb.block _ h3) (hb.block _ h4) (hb.block _ h5)
theorem Bk.turnL (h : Bk w x leak L M T) {L' : List (Int × Ls)} (hg : w.grownBy w' (some x.a)) (hL : ML w' x.a L') : Bk w' x leak L' M T := by
  obtain ⟨h1, h2, h3, h4, h5⟩ := h.lt
  have k : ∀ g, g < w.heap.size → g ≠ x.a → w'.heap[g]? = w.heap[g]? := fun g hg1 hg2 => hg.block g hg1 (fun e => hg2 (by injection e))
  have hp := k _ h1 h.pa
  have hq := k _ h4 h.qa
  exact ⟨(World.cell?_of_block hp).trans h.c0, (World.cell?_of_block hp).trans h.c1, (World.cell?_of_block hp).trans h.c2, (World.cell?_of_block hp).trans h.c3, hL, h.marks.block (k _ h3 h.ab.symm), ⟨(World.cell?_of_block hq).trans h.wheel.cell, h.wheel.own.block (k _ h5 h.am.symm), h.wheel.tms⟩, h.ab, h.am, h.bm⟩
theorem Bk.turnM (h : Bk w x leak L M T) {M' : List (Int × Bool)} (hg : w.grownBy w' (some x.b)) (hM : MB w' x.b M') : Bk w' x leak L M' T := by
  obtain ⟨h1, h2, h3, h4, h5⟩ := h.lt
  have k : ∀ g, g < w.heap.size → g ≠ x.b → w'.heap[g]? = w.heap[g]? := fun g hg1 hg2 => hg.block g hg1 (fun e => hg2 (by injection e))
  have hp := k _ h1 h.pb
  have hq := k _ h4 h.qb
  exact ⟨(World.cell?_of_block hp).trans h.c0, (World.cell?_of_block hp).trans h.c1, (World.cell?_of_block hp).trans h.c2, (World.cell?_of_block hp).trans h.c3, h.leases.block (k _ h2 h.ab), hM, ⟨(World.cell?_of_block hq).trans h.wheel.cell, h.wheel.own.block (k _ h5 h.bm.symm), h.wheel.tms⟩, h.ab, h.am, h.bm⟩
theorem Bk.turnT (h : Bk w x leak L M T) {T' : List (Int × Int)} (hg : w.grownBy w' (some x.m)) (hT : Wl.Wh w' x.q x.m T') : Bk w' x leak L M T' := by
  obtain ⟨h1, h2, h3, h4, h5⟩ := h.lt
  have k : ∀ g, g < w.heap.size → g ≠ x.m → w'.heap[g]? = w.heap[g]? := fun g hg1 hg2 => hg.block g hg1 (fun e => hg2 (by injection e))
  have hp := k _ h1 h.pm
  exact ⟨(World.cell?_of_block hp).trans h.c0, (World.cell?_of_block hp).trans h.c1, (World.cell?_of_block hp).trans h.c2, (World.cell?_of_block hp).trans h.c3, h.leases.block (k _ h2 h.am), h.marks.block (k _ h3 h.bm), hT, h.ab, h.am, h.bm⟩
theorem Bk.permL (h : Bk w x leak L M T) {L' : List (Int × Ls)} (hp : L.Perm L') : Bk w x leak L' M T := ⟨h.c0, h.c1, h.c2, h.c3, h.leases.perm hp, h.marks, h.wheel, h.ab, h.am, h.bm⟩
theorem Bk.permM (h : Bk w x leak L M T) {M' : List (Int × Bool)} (hp : M.Perm M') : Bk w x leak L M' T := ⟨h.c0, h.c1, h.c2, h.c3, h.leases, h.marks.perm hp, h.wheel, h.ab, h.am, h.bm⟩
end
abbrev U64 (k : Int) : Prop := 0 ≤ k ∧ k ≤ 18446744073709551615
section
variable (w : World) {ops : Array Oper} {rest : List Oper} {o : Oper} {a : Act} {Q : Exit → Act → World → Prop}
theorem lookL (hg : o.guard = none) (m x : Operand) (hop : o.op = Op.lookup 147 m x true) (b : Nat) (L : List (Int × Ls)) (hm : a.eval m = .map (some b)) (h : ML w b L) (y : Int) (hy : U64 y) (hx : a.eval x = .int .u64 y)
    (t s : Int) (f bb : Bool) (hq : (fnd L y).getD Z0 = ⟨t, s, f⟩) (hb : (fnd L y).isSome = bb)
    (hK : wpList Tryz.prog ops Q rest (a.put o.dst (.tuple #[.agg #[.int .i64 t, .int .u64 s, .bool f], .bool bb])) w) : wpList Tryz.prog ops Q (o :: rest) a w := by
  refine look2 w hg m x 147 hop 22 214 Tryz.underlying22 Tryz.underlying147 Z0 (zeroL w) b L hm h y hy hx ?_
  rw [hq, hb]
  exact hK
theorem lookL1 (hg : o.guard = none) (m x : Operand) (hop : o.op = Op.lookup 147 m x false) (b : Nat) (L : List (Int × Ls)) (hm : a.eval m = .map (some b)) (h : ML w b L) (y : Int) (hy : U64 y) (hx : a.eval x = .int .u64 y)
    (t s : Int) (f : Bool) (hq : (fnd L y).getD Z0 = ⟨t, s, f⟩)
    (hK : wpList Tryz.prog ops Q rest (a.put o.dst (.agg #[.int .i64 t, .int .u64 s, .bool f])) w) : wpList Tryz.prog ops Q (o :: rest) a w := by
  refine look1 w hg m x 147 hop 22 214 Tryz.underlying22 Tryz.underlying147 Z0 (zeroL w) b L hm h y hy hx ?_
  rw [hq]
  exact hK
end
section
variable (w : World) (x : At) (leak : Int) (L : List (Int × Ls)) (M : List (Int × Bool)) (T : List (Int × Int)) (id : Int)
set_option maxRecDepth 100000 in
theorem of_any (h : Bk w x leak L M T) (hid : U64 id) (t s : Int) (f bb : Bool) (hq : (fnd L id).getD Z0 = ⟨t, s, f⟩) (hb : (fnd L id).isSome = bb) :
    Calls Tryz.prog 145 #[ptr x.p, .int .u64 id] w fun e w' => e = .returned (.tuple #[.agg #[.int .i64 t, .int .u64 s, .bool f], .bool bb]) ∧ Below w.heap.size w w' := by
  have c1 := h.c1
  have H := Lib.hid h
  have HI := Lib.hid hid
  have HQ := Lib.hid hq
  have HB := Lib.hid hb
  have hlp := h.lt.1
  clear h hid hq hb
  go_enter Tryz.func145, Tryz.ntmps145
  go_wp2_with (at_lookup; refine lookL _ rfl _ _ rfl x.a L rfl (H.out.leases.later ((Below.refl _ _).alloc (Nat.le_refl _) _)) id HI.out rfl t s f bb HQ.out HB.out ?_)
  refine bodyPost_ret (v := .tuple #[.agg #[.int .i64 t, .int .u64 s, .bool f], .bool bb]) ?_ rfl ⟨rfl, ?_⟩
  · simp [results, Tryz.results145, go_sem]
  · exact ((Below.refl _ _).alloc (Nat.le_refl _) _).alloc (by simp) _
set_option maxRecDepth 100000 in
theorem holder_any (h : Bk w x leak L M T) (hid : U64 id) (t s : Int) (f bb : Bool) (hq : (fnd L id).getD Z0 = ⟨t, s, f⟩) (hb : (fnd L id).isSome = bb) :
    Calls Tryz.prog 130 #[ptr x.p, .int .u64 id] w fun e w' => e = .returned (.tuple #[.int .i64 t, .bool bb]) ∧ Below w.heap.size w w' := by
  go_enter Tryz.func130, Tryz.ntmps130
  go_wp2_with fail
  refine (of_any w x leak L M T id h hid t s f bb hq hb).mono ?_
  rintro e w1 ⟨rfl, hb1⟩
  go_wp2_with fail
  go_ret2
  exact ⟨rfl, hb1.alloc hb1.size _⟩
def holds (L : List (Int × Ls)) (id t : Int) : Bool := (fnd L id).isSome && ((fnd L id).getD Z0).thread == t
def wr (L : List (Int × Ls)) (id t : Int) : Int := if holds L id t = true then 0 else 5
set_option maxRecDepth 100000 in
theorem wrong_any (th : Int) (h : Bk w x leak L M T) (hid : U64 id) :
    Calls Tryz.prog 100 #[ptr x.p, .int .u64 id, .int .i64 th] w fun e w' => e = .returned (.int .i64 (wr L id th)) ∧ Below w.heap.size w w' := by
  obtain ⟨⟨t, s, f⟩, hq⟩ : ∃ q, (fnd L id).getD Z0 = q := ⟨_, rfl⟩
  obtain ⟨bb, hb⟩ : ∃ b, (fnd L id).isSome = b := ⟨_, rfl⟩
  unfold wr holds
  rw [hq, hb]
  have H := Lib.hid (holder_any w x leak L M T id h hid t s f bb hq hb)
  clear h hid hq hb
  cases bb
  · go_enter Tryz.func100, Tryz.ntmps100
    go_wp2_with fail
    refine H.out.mono ?_
    rintro e w1 ⟨rfl, hb1⟩
    go_wp2_with fail
    go_ret
    exact ⟨rfl, hb1⟩
  · by_cases ht : t = th
    · subst ht
      have e5 : (if (true && t == t) = true then (0 : Int) else 5) = 0 := by simp
      rw [e5]
      go_enter Tryz.func100, Tryz.ntmps100
      go_wp2_with fail
      refine H.out.mono ?_
      rintro e w1 ⟨rfl, hb1⟩
      go_wp2_with fail
      go_ret
      exact ⟨rfl, hb1⟩
    · have hne : (t != th) = true := by simpa using ht
      have e5 : (if (true && t == th) = true then (0 : Int) else 5) = 5 := by simp [ht]
      rw [e5]
      clear ht
      go_enter Tryz.func100, Tryz.ntmps100
      go_wp2_with fail
      refine H.out.mono ?_
      rintro e w1 ⟨rfl, hb1⟩
      go_wp2_with fail
      go_ret
      exact ⟨rfl, hb1⟩
theorem fr_below {a b : Option Nat} {w0 w1 : World} (hb : Below w0.heap.size w0 w1) : Fr a b w0 w1 := ⟨hb.os, hb.tape, hb.output, hb.size, fun k hk _ _ => hb.block k hk⟩
theorem fr_grown1 {a b : Option Nat} {w0 w1 : World} (h : w0.grownBy w1 a) : Fr a b w0 w1 := Fr.of_grown h (.inr (.inl rfl))
theorem fr_grown2 {a b : Option Nat} {w0 w1 : World} (h : w0.grownBy w1 b) : Fr a b w0 w1 := Fr.of_grown h (.inr (.inr rfl))
theorem Fr.tr {a b : Option Nat} {w0 w1 w2 : World} (h : Fr a b w0 w1) (h' : Fr a b w1 w2) : Fr a b w0 w2 := h.then h' (fun k e _ => .inl e.symm) (fun k e _ => .inr e.symm)
set_option maxRecDepth 100000 in
theorem mark_no (th : Int) (h : Bk w x leak L M T) (hid : U64 id) (hw : holds L id th = false) :
    Calls Tryz.prog 69 #[ptr x.p, .int .u64 id, .int .i64 th] w fun e w' => e = .returned (.int .i64 5) ∧ Below w.heap.size w w' := by
  have H := Lib.hid (wrong_any w x leak L M T id th h hid)
  have e1 : wr L id th = 5 := by unfold wr; rw [hw]; rfl
  rw [e1] at H
  clear h hid hw e1
  go_enter Tryz.func69, Tryz.ntmps69
  go_wp2_with fail
  refine H.out.mono ?_
  rintro e w1 ⟨rfl, hb1⟩
  go_wp2_with fail
  go_ret
  exact ⟨rfl, hb1⟩
set_option maxRecDepth 100000 in
theorem mark_ok (th : Int) (h : Bk w x leak L M T) (hid : U64 id) (hw : holds L id th = true) (hM : M.length ≤ 1000000) :
    Calls Tryz.prog 69 #[ptr x.p, .int .u64 id, .int .i64 th] w fun e w' => e = .returned (.int .i64 0) ∧ Bk w' x leak L ((id, true) :: wo M id) T ∧ Fr (some x.b) none w w' := by
  have H := Lib.hid (wrong_any w x leak L M T id th h hid)
  have e1 : wr L id th = 0 := by unfold wr; rw [hw]; rfl
  rw [e1] at H
  have HK := Lib.hid h
  have HI := Lib.hid hid
  clear h hid hw e1
  go_enter Tryz.func69, Tryz.ntmps69
  go_wp2_with fail
  refine H.out.mono ?_
  rintro e w1 ⟨rfl, hb1⟩
  have k1 := HK.out.later hb1
  have c2 := k1.c2
  have HK1 := Lib.hid k1
  have HB1 := Lib.hid hb1
  clear k1 hb1 HK H
  go_wp2_with (at_mapUpdate; refine put1 _ rfl _ _ _ 102 rfl 22 4 Tryz.underlying22 Tryz.underlying102 x.b M rfl HK1.out.marks (by omega) id HI.out rfl true rfl ?_; intro w2 hM2 hg2; have HK2 := Lib.hid (HK1.out.turnM hg2 hM2); have HG2 := Lib.hid hg2; clear hM2 hg2)
  go_ret
  exact ⟨rfl, HK2.out, Fr.tr (fr_below HB1.out) (fr_grown1 HG2.out)⟩
theorem forget_any (h : Bk w x leak L M T) (hid : U64 id) :
    Calls Tryz.prog 60 #[ptr x.p, .int .u64 id] w fun e w' => e = .returned (.tuple #[]) ∧ Bk w' x leak L (wo M id) T ∧ Fr (some x.b) none w w' := by
  have c2 := h.c2
  have HK := Lib.hid h
  have HI := Lib.hid hid
  clear h hid
  go_enter Tryz.func60, Tryz.ntmps60
  go_wp2_with (at_delete; refine del1 _ rfl _ _ 102 22 rfl 4 Tryz.underlying22 Tryz.underlying102 x.b M rfl HK.out.marks id HI.out rfl ?_; intro w2 hM2 hg2; have HK2 := Lib.hid (HK.out.turnM hg2 hM2); have HG2 := Lib.hid hg2; clear hM2 hg2)
  exact bodyPost_end (v := .tuple #[]) (by simp [results, Tryz.results60]) rfl ⟨rfl, HK2.out, fr_grown1 HG2.out⟩
theorem marked_any (h : Bk w x leak L M T) (hid : U64 id) (bb : Bool) (hb : (fnd M id).getD false = bb) :
    Calls Tryz.prog 21 #[ptr x.p, .int .u64 id] w fun e w' => e = .returned (.bool bb) ∧ w = w' := by
  have c2 := h.c2
  have hl := run_look1 (E := eB) w Tryz.underlying22 Tryz.underlying102 false (zeroB w) h.marks hid
  rw [hb] at hl
  have hl' : (Instr.lookup 102 (.map (some x.b)) (.int .u64 id) false).run Tryz.prog w = .ok (.bool bb) w := hl
  clear h hid hb hl
  go_enter Tryz.func21, Tryz.ntmps21
  go_wp2_with fail
  go_ret
  exact ⟨by simp, rfl⟩
end
end Go.Proofs.YthmdiaingolfnaaGreatDoor.Le
namespace Go.Proofs.YthmdiaingolfnaaGreatDoor.Le
open Go.ChangeShapes Go.WideShapes Go.ChangeAt Go.RowKit Go.Maps Rw Hi Mt Ck
set_option linter.unusedVariables false
set_option maxRecDepth 100000 in
theorem new_any (w : World) (leak : Int) :
    Calls Tryz.prog 36 #[.int .u64 leak] w fun e w' => ∃ x, e = .returned (ptr x.p) ∧ Bk w' x leak [] [] [] ∧ Below w.heap.size w w' ∧ w.heap.size ≤ x.p ∧ w.heap.size ≤ x.a ∧ w.heap.size ≤ x.b ∧ w.heap.size ≤ x.q ∧ w.heap.size ≤ x.m := by
  have hmm := @run_makeMap Tryz.prog
  go_enter Tryz.func36, Tryz.ntmps36
  go_wp2_with fail
  refine (Wl.new_any _).mono ?_
  rintro e w1 ⟨rfl, hwh, hb1, hs1⟩
  have b0 : Below w.heap.size w ((w.alloc (.map #[] 0)).alloc (.map #[] 0)) := ((Below.refl _ w).alloc (Nat.le_refl _) _).alloc (by simp) _
  simp at hb1 hs1 hwh
  have m1 : ML w1 w.heap.size [] := ((Mo.made w Tryz.prog 22 eL).alloc _).below hb1 (by omega)
  have m2 : MB w1 (w.heap.size + 1) [] := by
    have h := Mo.made (w.alloc (.map #[] 0)) Tryz.prog 22 eB
    simp at h
    exact h.below hb1 (by omega)
  have HW := Lib.hid hwh
  have HM1 := Lib.hid m1
  have HM2 := Lib.hid m2
  have HB := Lib.hid (b0.trans (hb1.mono (by omega)))
  have HS1 := Lib.hid hs1
  clear hwh m1 m2 b0 hb1 hs1
  go_wp2_with fail
  go_ret
  have hs1 := HS1.out
  refine ⟨⟨w1.heap.size, w.heap.size, w.heap.size + 1, w.heap.size + 3, w.heap.size + 2⟩, rfl, ⟨by go_simp, by go_simp, by go_simp, by go_simp, HM1.out.alloc _, HM2.out.alloc _, HW.out.later ((Below.refl _ _).alloc (Nat.le_refl _) _), by simp, by simp, by simp⟩, HB.out.alloc (by omega) _, by simp; omega, by simp, by simp, by simp, by simp⟩
section
variable (w : World) (x : At) (leak : Int) (L : List (Int × Ls)) (M : List (Int × Bool)) (T : List (Int × Int)) (id th now : Int)
theorem begin_range (h : Bk w x leak L M T) (ht : th < 0 ∨ 8 ≤ th) :
    Calls Tryz.prog 87 #[ptr x.p, .int .u64 id, .int .i64 th, .int .u64 now] w fun e w' => e = .returned (.int .i64 2) ∧ w = w' := by
  by_cases h0 : th < 0
  · have q1 : decide (th < 0) = true := decide_eq_true h0
    clear h ht h0
    go_enter Tryz.func87, Tryz.ntmps87
    go_wp2_with fail
    go_ret
    exact ⟨rfl, rfl⟩
  · have q1 : decide (th < 0) = false := decide_eq_false h0
    have q2 : decide (8 ≤ th) = true := decide_eq_true (by omega)
    clear h ht h0
    go_enter Tryz.func87, Tryz.ntmps87
    go_wp2_with fail
    go_ret
    exact ⟨rfl, rfl⟩
set_option maxRecDepth 100000 in
theorem begin_had (h : Bk w x leak L M T) (hid : U64 id) (h0 : 0 ≤ th) (h8 : th < 8) (hb : (fnd L id).isSome = true) :
    Calls Tryz.prog 87 #[ptr x.p, .int .u64 id, .int .i64 th, .int .u64 now] w fun e w' => e = .returned (.int .i64 10) ∧ Below w.heap.size w w' := by
  have q1 : decide (th < 0) = false := decide_eq_false (by omega)
  have q2 : decide (8 ≤ th) = false := decide_eq_false (by omega)
  obtain ⟨⟨t, s, f⟩, hq⟩ : ∃ q, (fnd L id).getD Z0 = q := ⟨_, rfl⟩
  have c1 := h.c1
  have HK := Lib.hid h
  have HI := Lib.hid hid
  have HQ := Lib.hid hq
  have HB := Lib.hid hb
  clear h hid hq hb h0 h8
  go_enter Tryz.func87, Tryz.ntmps87
  go_wp2_with (at_lookup; refine lookL _ rfl _ _ rfl x.a L rfl HK.out.leases id HI.out rfl t s f true HQ.out HB.out ?_)
  go_ret
  exact ⟨rfl, (Below.refl _ _).alloc (Nat.le_refl _) _⟩
set_option maxRecDepth 100000 in
theorem begin_no_leak (h : Bk w x 0 L M T) (hid : U64 id) (h0 : 0 ≤ th) (h8 : th < 8) (hb : (fnd L id).isSome = false) (hl : L.length < 1024) :
    Calls Tryz.prog 87 #[ptr x.p, .int .u64 id, .int .i64 th, .int .u64 now] w fun e w' => e = .returned (.int .i64 0) ∧ Bk w' x 0 ((id, ⟨th, now, false⟩) :: wo L id) M T ∧ Fr (some x.a) (some x.m) w w' := by
  have q1 : decide (th < 0) = false := decide_eq_false (by omega)
  have q2 : decide (8 ≤ th) = false := decide_eq_false (by omega)
  obtain ⟨⟨t, s, f⟩, hq⟩ : ∃ q, (fnd L id).getD Z0 = q := ⟨_, rfl⟩
  have c1 := h.c1
  have hlp := h.lt.1
  have HK := Lib.hid h
  have HI := Lib.hid hid
  have HQ := Lib.hid hq
  have HB := Lib.hid hb
  have q3 : decide ((1024 : Int) ≤ (L.length : Int)) = false := decide_eq_false (by omega)
  have hll : ∀ o, ∀ ty, (Builtin.len_ #[147] ty #[.map (some x.a)]).run Tryz.prog (w.alloc o) = .ok (.int .i64 L.length) (w.alloc o) := fun o ty => run_len (E := eL) _ Tryz.underlying147 (h.leases.alloc o) ty
  clear h hid hq hb h0 h8
  go_enter Tryz.func87, Tryz.ntmps87
  go_wp2_with (first
    | (at_lookup; refine lookL _ rfl _ _ rfl x.a L rfl HK.out.leases id HI.out rfl t s f false HQ.out HB.out ?_)
    | (at_mapUpdate; refine put1 _ rfl _ _ _ 147 rfl 22 214 Tryz.underlying22 Tryz.underlying147 x.a L rfl (HK.out.leases.alloc _) (by omega) id HI.out rfl (⟨th, now, false⟩ : Ls) rfl ?_; intro w2 hL2 hg2; have k2 := (HK.out.later ((Below.refl _ w).alloc (Nat.le_refl _) _)).turnL hg2 hL2; have d0 := k2.c0; have HK2 := Lib.hid k2; have HG2 := Lib.hid hg2; clear k2 hL2 hg2 hll))
  go_ret
  exact ⟨rfl, HK2.out, Fr.tr (fr_below ((Below.refl _ w).alloc (Nat.le_refl _) _)) (fr_grown1 HG2.out)⟩
set_option maxRecDepth 100000 in
theorem begin_leak (h : Bk w x leak L M T) (hid : U64 id) (hnow : U64 now) (hlk : U64 leak) (hlk0 : leak ≠ 0) (h0 : 0 ≤ th) (h8 : th < 8) (hb : (fnd L id).isSome = false) (hl : L.length < 1024) (hT : T.length ≤ 1024) :
    Calls Tryz.prog 87 #[ptr x.p, .int .u64 id, .int .i64 th, .int .u64 now] w fun e w' => e = .returned (.int .i64 0) ∧ Bk w' x leak ((id, ⟨th, now, false⟩) :: wo L id) M (Wl.arm T id (cAdd now leak)) ∧ Fr (some x.a) (some x.m) w w' := by
  have q1 : decide (th < 0) = false := decide_eq_false (by omega)
  have q2 : decide (8 ≤ th) = false := decide_eq_false (by omega)
  obtain ⟨⟨t, s, f⟩, hq⟩ : ∃ q, (fnd L id).getD Z0 = q := ⟨_, rfl⟩
  have c1 := h.c1
  have hlp := h.lt.1
  have hpm := h.pm
  have HK := Lib.hid h
  have HI := Lib.hid hid
  have HN := Lib.hid hnow
  have HL := Lib.hid hlk
  have HQ := Lib.hid hq
  have HB := Lib.hid hb
  have q3 : decide ((1024 : Int) ≤ (L.length : Int)) = false := decide_eq_false (by omega)
  have q4 : (leak != 0) = true := by simpa using hlk0
  have hll : ∀ o, ∀ ty, (Builtin.len_ #[147] ty #[.map (some x.a)]).run Tryz.prog (w.alloc o) = .ok (.int .i64 L.length) (w.alloc o) := fun o ty => run_len (E := eL) _ Tryz.underlying147 (h.leases.alloc o) ty
  clear h hid hnow hlk hlk0 hq hb h0 h8
  go_enter Tryz.func87, Tryz.ntmps87
  go_wp2_with (first
    | (at_lookup; refine lookL _ rfl _ _ rfl x.a L rfl HK.out.leases id HI.out rfl t s f false HQ.out HB.out ?_)
    | (at_mapUpdate; refine put1 _ rfl _ _ _ 147 rfl 22 214 Tryz.underlying22 Tryz.underlying147 x.a L rfl (HK.out.leases.alloc _) (by omega) id HI.out rfl (⟨th, now, false⟩ : Ls) rfl ?_; intro w2 hL2 hg2; have k2 := (HK.out.later ((Below.refl _ w).alloc (Nat.le_refl _) _)).turnL hg2 hL2; have d0 := k2.c0; have d3 := k2.c3; have HK2 := Lib.hid k2; have HG2 := Lib.hid hg2; clear k2 hL2 hg2 hll))
  refine reg_start 12 (fun w' => w'.cell? ⟨x.p, 0, none⟩ = some (.int .u64 leak) ∧ w'.cell? ⟨x.p, 3, none⟩ = some (.pointer (some ⟨x.q, 0, none⟩))) (by kernel_rfl) (by kernel_rfl) ?_
  intro hTT
  have HR := Lib.hid hTT
  clear hTT
  refine reg_load 0 HR.out rfl (by kernel_rfl) (by decide) (fun _ _ _ _ h => h) ⟨d0, d3⟩ rfl ?_
  apply Exists.intro
  refine ⟨fun w' hw => by (obtain ⟨hw0, hw3⟩ := hw; go_simp; exact rfl), ?_⟩
  refine reg_load 1 HR.out rfl (by kernel_rfl) (by decide) (fun _ _ _ _ h => h) ⟨d0, d3⟩ rfl ?_
  apply Exists.intro
  refine ⟨fun w' hw => by (obtain ⟨hw0, hw3⟩ := hw; go_simp; exact rfl), ?_⟩
  refine reg_load 2 HR.out rfl (by kernel_rfl) (by decide) (fun _ _ _ _ h => h) ⟨d0, d3⟩ rfl ?_
  apply Exists.intro
  refine ⟨fun w' hw => by (obtain ⟨hw0, hw3⟩ := hw; go_simp; exact rfl), ?_⟩
  refine reg_load 3 HR.out rfl (by kernel_rfl) (by decide) (fun _ _ _ _ h => h) ⟨d0, d3⟩ rfl ?_
  apply Exists.intro
  refine ⟨fun w' hw => by (obtain ⟨hw0, hw3⟩ := hw; go_simp; exact rfl), ?_⟩
  refine reg_load 4 HR.out rfl (by kernel_rfl) (by decide) (fun _ _ _ _ h => h) ⟨d0, d3⟩ rfl ?_
  apply Exists.intro
  refine ⟨fun w' hw => by (obtain ⟨hw0, hw3⟩ := hw; go_simp; exact rfl), ?_⟩
  refine reg_load 5 HR.out rfl (by kernel_rfl) (by decide) (fun _ _ _ _ h => h) ⟨d0, d3⟩ rfl ?_
  apply Exists.intro
  refine ⟨fun w' hw => by (obtain ⟨hw0, hw3⟩ := hw; go_simp; exact rfl), ?_⟩
  refine reg_load 6 HR.out rfl (by kernel_rfl) (by decide) (fun _ _ _ _ h => h) ⟨d0, d3⟩ rfl ?_
  apply Exists.intro
  refine ⟨fun w' hw => by (obtain ⟨hw0, hw3⟩ := hw; go_simp; exact rfl), ?_⟩
  refine reg_load 7 HR.out rfl (by kernel_rfl) (by decide) (fun _ _ _ _ h => h) ⟨d0, d3⟩ rfl ?_
  apply Exists.intro
  refine ⟨fun w' hw => by (obtain ⟨hw0, hw3⟩ := hw; go_simp; exact rfl), ?_⟩
  refine reg_load 8 HR.out rfl (by kernel_rfl) (by decide) (fun _ _ _ _ h => h) ⟨d0, d3⟩ rfl ?_
  apply Exists.intro
  refine ⟨fun w' hw => by (obtain ⟨hw0, hw3⟩ := hw; go_simp; exact rfl), ?_⟩
  refine reg_load 9 HR.out rfl (by kernel_rfl) (by decide) (fun _ _ _ _ h => h) ⟨d0, d3⟩ rfl ?_
  apply Exists.intro
  refine ⟨fun w' hw => by (obtain ⟨hw0, hw3⟩ := hw; go_simp; exact rfl), ?_⟩
  refine reg_only 10 rfl (by kernel_rfl) rfl ?_
  unfold Oper.wp
  go_simp
  refine (Ck.add_any now leak _ HN.out.1 HN.out.2 HL.out.1 HL.out.2).mono ?_
  rintro e w3 ⟨rfl, rfl⟩
  refine ⟨⟨d0, d3⟩, ?_⟩
  refine reg_only 11 rfl (by kernel_rfl) rfl ?_
  unfold Oper.wp
  go_simp
  refine (Wl.arm_any w2.drew x.q x.m T id (cAdd now leak) (HK2.out.wheel.later ((Below.refl _ _).drew)) HI.out ⟨cAdd_lo _ _ HN.out.1 HL.out.1, cAdd_u _ _⟩ hT).mono ?_
  rintro e w3 ⟨rfl, hw3, hg3⟩
  have k3 := (HK2.out.later ((Below.refl _ _).drew)).turnT hg3 hw3
  have HK3 := Lib.hid k3
  refine ⟨⟨k3.c0, k3.c3⟩, ?_⟩
  have HG3 := Lib.hid hg3
  clear k3 hw3 hg3
  refine reg_done (by kernel_rfl) ?_
  go_wp2_with fail
  go_ret
  exact ⟨rfl, HK3.out, Fr.tr (fr_below ((Below.refl _ w).alloc (Nat.le_refl _) _)) (Fr.tr (fr_grown1 HG2.out) (Fr.tr (fr_below ((Below.refl _ _).drew)) (fr_grown2 HG3.out)))⟩
end
end Go.Proofs.YthmdiaingolfnaaGreatDoor.Le
namespace Go.Proofs.YthmdiaingolfnaaGreatDoor.Le
open Go.ChangeShapes Go.WideShapes Go.ChangeAt Go.RowKit Go.Maps Rw Hi Mt Ck
set_option linter.unusedVariables false
def flg (L : List (Int × Ls)) (id : Int) : List (Int × Ls) := (id, ⟨((fnd L id).getD Z0).thread, ((fnd L id).getD Z0).since, true⟩) :: wo L id
def flgs (L : List (Int × Ls)) (ids : List Int) : List (Int × Ls) := ids.foldl flg L
theorem flg_len (L : List (Int × Ls)) (id : Int) : (flg L id).length ≤ L.length + 1 := by
  have := wo_le L id
  simp [flg]; omega
theorem flgs_len (ids : List Int) : ∀ L : List (Int × Ls), (flgs L ids).length ≤ L.length + ids.length := by
  induction ids with
  | nil => intro L; simp [flgs]
  | cons y l ih => intro L; have h1 := ih (flg L y); have h2 := flg_len L y; simp [flgs] at *; omega
theorem flgs_snoc (L : List (Int × Ls)) (ids : List Int) (y : Int) : flgs L (ids ++ [y]) = flg (flgs L ids) y := by simp [flgs]
set_option maxHeartbeats 2000000 in
set_option maxRecDepth 100000 in
theorem leaks_any (w : World) (x : At) (leak : Int) (L : List (Int × Ls)) (M : List (Int × Bool)) (T : List (Int × Int)) (now : Int) (h : Bk w x leak L M T) (hnow : U64 now) (hT : T.length ≤ 1024) (hL : L.length ≤ 1000000) :
    Calls Tryz.prog 151 #[ptr x.p, .int .u64 now] w fun e w' => ∃ (A : Option Addr) (c : Nat), e = .returned (.slice A (Wl.due T now).length c) ∧ w'.ownsRow w.heap.size 22 1 (.slice A (Wl.due T now).length c) (Wl.due T now).length (((Wl.due T now).map Prod.fst).map (Value.int .u64)) ∧
      Bk w' x leak (flgs L ((Wl.due T now).map Prod.fst)) M (Wl.left T now) ∧ Fr (some x.a) (some x.m) w w' := by
  have c3 := h.c3
  obtain ⟨hlp, hla, hlb, hlq, hlm⟩ := h.lt
  have HK := Lib.hid h
  have HN := Lib.hid hnow
  have htms := h.wheel.tms
  have hdl : (Wl.due T now).length ≤ 1024 := Nat.le_trans (by unfold Wl.due; exact List.length_filter_le _ _) hT
  have hu : ∀ a ∈ Wl.due T now, U64 a.1 := fun a ha => ⟨(htms.ok a (Wl.mem_due.1 ha).1).1, (htms.ok a (Wl.mem_due.1 ha).1).2.1⟩
  have HU := Lib.hid hu
  clear h hnow htms hu
  go_enter Tryz.func151, Tryz.ntmps151
  go_wp2_with fail
  refine (Wl.due_any w x.q x.m T now HK.out.wheel HN.out hT).mono ?_
  rintro e w1 ⟨A, c, rfl, hrow, hwh, hg⟩
  obtain ⟨D, hD⟩ : ∃ D, Wl.due T now = D := ⟨_, rfl⟩
  rw [hD] at hrow hdl HU ⊢
  obtain ⟨n, hn⟩ : ∃ n, D.length = n := ⟨_, rfl⟩
  rw [hn] at hrow hdl ⊢
  have HN2 := Lib.hid hn
  have HD := Lib.hid hD
  have HK1 := Lib.hid (HK.out.turnT hg hwh)
  have HF1 := Lib.hid (show Fr (some x.a) (some x.m) w w1 from fr_grown2 hg)
  have HR := Lib.hid hrow
  have hsz1 := hg.size
  clear hrow hwh hg hn hD
  go_wp2_with fail
  go_loopw [19] (fun s19 wr => ∃ k : Nat, s19 = .int .i64 k ∧ k ≤ n ∧ w.heap.size ≤ wr.heap.size ∧ Bk wr x leak (flgs L ((D.map Prod.fst).take k)) M (Wl.left T now) ∧ wr.ownsRow w.heap.size 22 1 (.slice A n c) n ((D.map Prod.fst).map (Value.int .u64)) ∧ Hid (Fr (some x.a) (some x.m) w wr)) (fun s19 _ => n - (intOf s19).toNat)
  case atStart => exact ⟨0, rfl, Nat.zero_le _, hsz1, HK1.out, HR.out, HF1.out⟩
  case round =>
    clear HK1 HF1 HR hsz1
    obtain ⟨k, rfl, hk, hsz, hbk, hrow, hfr⟩ := hrel
    by_cases hkn : k < n
    · have qk : decide ((k : Int) < (n : Int)) = true := decide_eq_true (by omega)
      obtain ⟨b, o, y, hA, hbl, hy, hcy⟩ := (Rd.own_rd hrow).get hkn
      subst hA
      have hyu : U64 y := by
        rw [List.getElem?_map] at hy
        obtain ⟨a0, ha0, rfl⟩ := Option.map_eq_some_iff.1 hy
        exact HU.out a0 (List.mem_of_getElem? ha0)
      obtain ⟨⟨t, s, f⟩, hq⟩ : ∃ q, (fnd (flgs L ((D.map Prod.fst).take k)) y).getD Z0 = q := ⟨_, rfl⟩
      have k1 := hbk.c1
      have hlt := hbk.lt
      have HBK := Lib.hid hbk
      have HROW := Lib.hid hrow
      have HY := Lib.hid hy
      have HYU := Lib.hid hyu
      have HQ := Lib.hid hq
      have hlk : (flgs L ((D.map Prod.fst).take k)).length < 4611686018427387904 := by
        have := flgs_len ((D.map Prod.fst).take k) L
        rw [List.length_take] at this
        omega
      obtain ⟨hlt1, hlt2, -, -, -⟩ := hlt
      have HLK := Lib.hid hlk
      clear hbk hrow hy hyu hq hlk
      go_wp2_with (at_lookup; refine lookL1 _ rfl _ _ rfl x.a _ rfl HBK.out.leases y HYU.out rfl t s f HQ.out ?_)
      obtain ⟨wz, hwz⟩ : ∃ wz, wz = (wr.alloc (.cells #[.int .i64 t, .int .u64 s, .bool true] 214)) := ⟨_, rfl⟩
      have z0 : wz.cell? ⟨wr.heap.size, 0, none⟩ = some (.int .i64 t) := by rw [hwz]; go_simp
      have z1 : wz.cell? ⟨wr.heap.size, 1, none⟩ = some (.int .u64 s) := by rw [hwz]; go_simp
      have z2 : wz.cell? ⟨wr.heap.size, 2, none⟩ = some (.bool true) := by rw [hwz]; go_simp
      have bz : Below wr.heap.size wr wz := by rw [hwz]; exact (Below.refl _ wr).alloc (Nat.le_refl _) _
      have gz : wr.grownBy wz none := ⟨bz.os, bz.tape, bz.output, bz.size, fun g hg _ => bz.block g hg⟩
      have zk := HBK.out.later bz
      have zp := zk.c1
      have HZK := Lib.hid zk
      have HZR := Lib.hid (HROW.out.kept gz (Or.inr (by simp [Value.ownBlock])))
      have HGZ := Lib.hid gz
      have HZF := Lib.hid (Fr.tr hfr.out (fr_below bz : Fr (some x.a) (some x.m) wr wz))
      have szz := bz.size
      rw [← hwz]
      clear hwz zk gz bz hcy hfr HBK HROW k1
      refine reg_start 6 (fun w' => w'.cell? ⟨x.p, 1, none⟩ = some (.map (some x.a)) ∧ w'.cell? ⟨wr.heap.size, 0, none⟩ = some (.int .i64 t) ∧ w'.cell? ⟨wr.heap.size, 1, none⟩ = some (.int .u64 s) ∧ w'.cell? ⟨wr.heap.size, 2, none⟩ = some (.bool true)) (by kernel_rfl) (by kernel_rfl) ?_
      intro hTT
      have HRR := Lib.hid hTT
      clear hTT
      refine reg_load 0 HRR.out rfl (by kernel_rfl) (by decide) (fun _ _ _ _ h => h) ⟨zp, z0, z1, z2⟩ rfl ?_
      apply Exists.intro
      refine ⟨fun w' hw => by (obtain ⟨hw0, hw1, hw2, hw3⟩ := hw; go_simp; exact rfl), ?_⟩
      refine reg_load 1 HRR.out rfl (by kernel_rfl) (by decide) (fun _ _ _ _ h => h) ⟨zp, z0, z1, z2⟩ rfl ?_
      apply Exists.intro
      refine ⟨fun w' hw => by (obtain ⟨hw0, hw1, hw2, hw3⟩ := hw; go_simp; exact rfl), ?_⟩
      refine reg_load 2 HRR.out rfl (by kernel_rfl) (by decide) (fun _ _ _ _ h => h) ⟨zp, z0, z1, z2⟩ rfl ?_
      apply Exists.intro
      refine ⟨fun w' hw => by (obtain ⟨hw0, hw1, hw2, hw3⟩ := hw; go_simp; exact rfl), ?_⟩
      refine reg_load 3 HRR.out rfl (by kernel_rfl) (by decide) (fun _ _ _ _ h => h) ⟨zp, z0, z1, z2⟩ rfl ?_
      apply Exists.intro
      refine ⟨fun w' hw => by (obtain ⟨hw0, hw1, hw2, hw3⟩ := hw; go_simp; exact rfl), ?_⟩
      refine reg_load 4 HRR.out rfl (by kernel_rfl) (by decide) (fun _ _ _ _ h => h) ⟨zp, z0, z1, z2⟩ rfl ?_
      apply Exists.intro
      refine ⟨fun w' hw => by (obtain ⟨hw0, hw1, hw2, hw3⟩ := hw; go_simp; exact rfl), ?_⟩
      refine reg_load 5 HRR.out rfl (by kernel_rfl) (by decide) (fun _ _ _ _ h => h) ⟨zp, z0, z1, z2⟩ rfl ?_
      apply Exists.intro
      refine ⟨fun w' hw => by (obtain ⟨hw0, hw1, hw2, hw3⟩ := hw; go_simp; exact rfl), ?_⟩
      refine reg_only 6 rfl (by kernel_rfl) rfl ?_
      unfold Oper.wp
      go_simp
      obtain ⟨w3, hrun, hL3, hg3⟩ := run_put (E := eL) wz.drew Tryz.underlying22 Tryz.underlying147 (HZK.out.later ((Below.refl _ _).drew)).leases HLK.out HYU.out (⟨t, s, true⟩ : Ls)
      have hrun' : (Instr.mapUpdate 147 (.map (some x.a)) (.int .u64 y) (.agg #[.int .i64 t, .int .u64 s, .bool true])).run Tryz.prog wz.drew = .ok () w3 := hrun
      rw [hrun']
      go_simp
      refine reg_done (by kernel_rfl) ?_
      have k3 := (HZK.out.later ((Below.refl _ _).drew)).turnL hg3 hL3
      have HK3 := Lib.hid k3
      have HG3 := Lib.hid hg3
      have hd3 : wz.grownBy w3 (some x.a) := ⟨hg3.os, hg3.tape.trans rfl, hg3.output, hg3.size, hg3.block⟩
      clear hrun hrun' hL3 hg3 k3 z0 z1 z2 zp
      go_wp2_with fail
      go_roundw
      case rel =>
        refine ⟨k + 1, by go_num, by omega, ?_, ?_, ?_, ?_⟩
        · have := HG3.out.size; simp at this; omega
        · have e1 : (D.map Prod.fst).take (k + 1) = (D.map Prod.fst).take k ++ [y] := by
            obtain ⟨hj, e⟩ := List.getElem?_eq_some_iff.1 HY.out
            rw [List.take_succ_eq_append_getElem hj, e]
          rw [e1, flgs_snoc]
          unfold flg
          rw [HQ.out]
          exact HK3.out
        · exact (show wz.drew.ownsRow _ _ _ _ _ _ from HZR.out).kept HG3.out (Or.inr (fun e => by have := (HZR.out.lt _ e).1; omega))
        · exact Fr.tr HZF.out (Fr.tr (fr_below ((Below.refl _ wz).drew)) (fr_grown1 HG3.out))
      case measure => simp [intOf]; omega
    · have qk : decide ((k : Int) < (n : Int)) = false := decide_eq_false (by omega)
      obtain rfl : k = n := by omega
      have e1 : (D.map Prod.fst).take k = D.map Prod.fst := by rw [List.take_of_length_le]; simp [HN2.out]
      rw [e1] at hbk
      have HBK := Lib.hid hbk
      have HROW := Lib.hid hrow
      clear hbk hrow
      go_wp2_with fail
      go_ret
      exact ⟨A, c, by rw [HD.out, HN2.out]; rfl, by rw [HD.out, HN2.out]; exact HROW.out, by rw [HD.out]; exact HBK.out, hfr.out⟩
end Go.Proofs.YthmdiaingolfnaaGreatDoor.Le
