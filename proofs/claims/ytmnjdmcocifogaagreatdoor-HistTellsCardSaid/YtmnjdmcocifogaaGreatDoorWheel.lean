/- Wheels: what a wheel is in memory; contracts of New, Len, At, Disarm, Clone, Arm. -/
import Derived.Test.YtmnjdmcocifogaaGreatDoorAwake4
import Derived.Test.YtmnjdmcocifogaaGreatDoorWheelMath
import Derived.Test.YtmnjdmcocifogaaGreatDoorReg
import Derived.Test.YtmnjdmcocifogaaGreatDoorMapClone
import Derived.Maps.RangeWalk
import Derived.Maps.Ext
namespace Go.Proofs.YtmnjdmcocifogaaGreatDoor.Wl
open Go.ChangeShapes Go.WideShapes Go.ChangeAt Go.RowKit Go.Maps Rw Sl Sn Ck
set_option linter.unusedVariables false

/-- A map that tells these timers. -/
structure Tel (D : DataW Unit) (l : List (Int × Int)) : Prop where
  hit : ∀ k t, (k, t) ∈ l → ∀ z, D.atKey (.int .u64 k) z = .lit (.int .u64 t)
  has : ∀ k, Maps.has D (.int .u64 k) = decide (k ∈ l.map Prod.fst)
  size : Maps.size D = l.length
theorem lit_ne {k k' : Int} (h : k' ≠ k) : Lit.int .u64 k' ≠ Lit.int .u64 k := fun e => h (by injection e)
theorem Tel.miss {D : DataW Unit} {l : List (Int × Int)} (h : Tel D l) {k : Int} (hk : k ∉ l.map Prod.fst) (z : DataW Unit) : D.atKey (.int .u64 k) z = z :=
  Maps.atKey_of_not_has (by rw [h.has]; simpa using hk) z
theorem Tel.put {D : DataW Unit} {l : List (Int × Int)} (h : Tel D l) (hl : Tms l) (hT : Maps.Tidy D) (k t : Int) : Tel (D.put (.int .u64 k) (.lit (.int .u64 t))) (ins (k, t) (wo l k)) := by
  refine ⟨fun k' t' hm z => ?_, fun k' => ?_, ?_⟩
  · rcases mem_put.1 hm with e | ⟨hm, hne⟩
    · injection e with e1 e2
      subst e1 e2
      exact Maps.atKey_put_same (k := .int .u64 _) hT.isMap trivial _ _
    · rw [Maps.atKey_put_other (lit_ne hne)]
      exact h.hit k' t' hm z
  · by_cases e : k' = k
    · subst e
      rw [Maps.has_put_same (k := .int .u64 _) hT.isMap trivial, decide_eq_true]
      exact Tms.mem_key.2 ⟨t, mem_put.2 (.inl rfl)⟩
    · rw [Maps.has_put_other (lit_ne e), h.has]
      congr 1
      rw [Tms.mem_key, Tms.mem_key, eq_iff_iff]
      constructor
      · rintro ⟨t', ht⟩; exact ⟨t', mem_put.2 (.inr ⟨ht, e⟩)⟩
      · rintro ⟨t', ht⟩
        rcases mem_put.1 ht with e' | ⟨h1, -⟩
        · injection e' with e1 _; exact absurd e1 e
        · exact ⟨t', h1⟩
  · rw [Maps.size_put hT, h.has, h.size]
    by_cases hk : k ∈ l.map Prod.fst
    · rw [put_len_has hl.nd hk]; simp [hk]
    · rw [put_len_new hk]; simp [hk]
theorem Tel.del {D : DataW Unit} {l : List (Int × Int)} (h : Tel D l) (hl : Tms l) (hT : Maps.Tidy D) (k : Int) : Tel (D.del (.int .u64 k)) (wo l k) := by
  refine ⟨fun k' t' hm z => ?_, fun k' => ?_, ?_⟩
  · obtain ⟨hm, hne⟩ := mem_wo.1 hm
    rw [Maps.atKey_del_other (lit_ne hne)]
    exact h.hit k' t' hm z
  · by_cases e : k' = k
    · subst e
      rw [Maps.has_del_same, decide_eq_false wo_key]
    · rw [Maps.has_del_other (lit_ne e), h.has]
      congr 1
      rw [Tms.mem_key, Tms.mem_key, eq_iff_iff]
      constructor
      · rintro ⟨t', ht⟩; exact ⟨t', mem_wo.2 ⟨ht, e⟩⟩
      · rintro ⟨t', ht⟩; exact ⟨t', (mem_wo.1 ht).1⟩
  · have h1 := Maps.size_del (k := .int .u64 k) hT
    rw [h.has, h.size] at h1
    by_cases hk : k ∈ l.map Prod.fst
    · have := wo_len_has hl.nd hk
      simp [hk] at h1
      omega
    · rw [wo_none hk]
      simp [hk] at h1
      exact h1
theorem Tel.nil : Tel (.map []) [] := ⟨fun _ _ h => (by cases h), fun _ => rfl, rfl⟩

/-- The map of the world that tells these timers. -/
def Mw (w : World) (m : Nat) (l : List (Int × Int)) : Prop := ∃ D, w.ownsMap Tryz.prog 23 (plainElem Tryz.prog 23) m l.length D ∧ Tel D l
theorem own_tight {w : World} {b n : Nat} {D : DataW Unit} (h : w.ownsMap Tryz.prog 23 (plainElem Tryz.prog 23) b n D) : w.ownsMap Tryz.prog 23 (plainElem Tryz.prog 23) b (Maps.size D) D := by
  obtain ⟨es, clock, hb, F, hs, hD⟩ := h
  refine ⟨es, clock, hb, F, ?_, hD⟩
  rw [hD]
  show es.size ≤ (List.foldr DataW.insert [] _).length
  rw [length_sorted]
  simp
theorem Mw.mk {w : World} {m n : Nat} {D : DataW Unit} {l : List (Int × Int)} (h : w.ownsMap Tryz.prog 23 (plainElem Tryz.prog 23) m n D) (ht : Tel D l) : Mw w m l := ⟨D, ht.size ▸ own_tight h, ht⟩
theorem Mw.kept {w w' : World} {m : Nat} {l : List (Int × Int)} (h : Mw w m l) {row : Option Nat} (hg : w.grownBy w' row) (hne : some m ≠ row) : Mw w' m l := by
  obtain ⟨D, h1, h2⟩ := h
  exact ⟨D, h1.kept hg hne, h2⟩
theorem Mw.lt {w : World} {m : Nat} {l : List (Int × Int)} (h : Mw w m l) : m < w.heap.size := by
  obtain ⟨D, h1, h2⟩ := h
  exact h1.lt
theorem Mw.block {w w' : World} {m : Nat} {l : List (Int × Int)} (h : Mw w m l) (hb : w'.heap[m]? = w.heap[m]?) : Mw w' m l := by
  obtain ⟨D, ⟨es, clock, h1, h2⟩, h3⟩ := h
  exact ⟨D, ⟨es, clock, hb.trans h1, h2⟩, h3⟩

/-- A wheel of these timers: its struct at block p, its map at block m. -/
structure Wh (w : World) (p m : Nat) (l : List (Int × Int)) : Prop where
  cell : w.cell? ⟨p, 0, none⟩ = some (.map (some m))
  own : Mw w m l
  tms : Tms l
theorem Wh.lt {w : World} {p m : Nat} {l : List (Int × Int)} (h : Wh w p m l) : p < w.heap.size ∧ m < w.heap.size := ⟨Lw.lt_heap h.cell, h.own.lt⟩
theorem Wh.ne {w : World} {p m : Nat} {l : List (Int × Int)} (h : Wh w p m l) : p ≠ m := by
  intro e
  subst e
  obtain ⟨D, ⟨es, clock, h1, h2⟩, h3⟩ := h.own
  have hc := h.cell
  simp [World.cell?, h1] at hc
theorem Wh.kept {w w' : World} {p m : Nat} {l : List (Int × Int)} (h : Wh w p m l) {row : Option Nat} (hg : w.grownBy w' row) (hp : some p ≠ row) (hm : some m ≠ row) : Wh w' p m l :=
  ⟨hg.cell h.cell hp, h.own.kept hg hm, h.tms⟩
theorem Wh.below {w w' : World} {p m B : Nat} {l : List (Int × Int)} (h : Wh w p m l) (hb : Below B w w') (hp : p < B) (hm : m < B) : Wh w' p m l :=
  ⟨(hb.cell (p := ⟨p, 0, none⟩) hp).trans h.cell, h.own.block (hb.block m hm), h.tms⟩
theorem Wh.later {w w' : World} {p m : Nat} {l : List (Int × Int)} (h : Wh w p m l) (hb : Below w.heap.size w w') : Wh w' p m l := h.below hb h.lt.1 h.lt.2
theorem Wh.turned {w w' : World} {p m : Nat} {l l' : List (Int × Int)} (h : Wh w p m l) (hg : w.grownBy w' (some m)) (ho : Mw w' m l') (ht : Tms l') : Wh w' p m l' :=
  ⟨hg.cell h.cell (fun e => h.ne (by injection e)), ho, ht⟩

theorem law : Keyed Tryz.prog 23 := int_keyed Tryz.underlying23
theorem zeroE (w : World) : (zeroValue 23).run Tryz.prog w = .ok (.int .u64 0) w := by kernel_rfl
theorem wf64 {k : Int} (h : 0 ≤ k ∧ k ≤ 18446744073709551615) : (Lit.int .u64 k).wf = true := Sn.wf_u64 h
theorem key64 {k : Int} (h : 0 ≤ k ∧ k ≤ 18446744073709551615) : keyOf Tryz.prog 23 (.int .u64 k) = some (.int .u64 k) := keyOf_int_mk Tryz.underlying23 (wf64 h)

theorem new_any (w : World) :
    Calls Tryz.prog 121 #[] w fun e w' => e = .returned (.pointer (some ⟨w.heap.size + 1, 0, none⟩)) ∧ Wh w' (w.heap.size + 1) w.heap.size [] ∧ Below w.heap.size w w' ∧ w'.heap.size = w.heap.size + 2 := by
  have hmm := @run_makeMap Tryz.prog
  go_enter Tryz.func121, Tryz.ntmps121
  go_wp2
  go_ret
  refine ⟨rfl, ⟨by go_simp, Mw.mk ((World.ownsMap_made w _ _ _).alloc _) Tel.nil, Tms.nil⟩, ((Below.refl _ _).alloc (Nat.le_refl _) _).alloc (by simp) _, by simp⟩

theorem len_any (w : World) (p m : Nat) (l : List (Int × Int)) (h : Wh w p m l) :
    Calls Tryz.prog 125 #[.pointer (some ⟨p, 0, none⟩)] w fun e w' => e = .returned (.int .i64 l.length) ∧ w = w' := by
  obtain ⟨hc, ⟨D, ho, ht⟩, -⟩ := h
  have hs := Lib.hid ht.size
  clear ht
  go_enter Tryz.func125, Tryz.ntmps125
  go_wp2_with (at_len; refine wpList_len_own _ rfl _ 177 rfl 23 23 Tryz.underlying177 _ m l.length D rfl ho ?_)
  go_ret
  exact ⟨by rw [hs.out]; rfl, rfl⟩
theorem len_nil (w : World) :
    Calls Tryz.prog 125 #[.pointer none] w fun e w' => e = .returned (.int .i64 0) ∧ w = w' := by
  go_enter Tryz.func125, Tryz.ntmps125
  go_wp2
  go_ret
  exact ⟨rfl, rfl⟩

/-- A key's tick, or 0. -/
def tick (l : List (Int × Int)) (k : Int) : Int := ((l.find? (fun a => a.1 == k)).map Prod.snd).getD 0
theorem tick_hit {l : List (Int × Int)} (h : Tms l) {k t : Int} (hm : (k, t) ∈ l) : tick l k = t := by
  unfold tick
  cases hf : l.find? (fun a => a.1 == k) with
  | none => exact absurd (List.find?_eq_none.1 hf _ hm) (by simp)
  | some a =>
    have h1 := List.mem_of_find?_eq_some hf
    have h2 := List.find?_some hf
    simp at h2
    subst h2
    exact h.uniq (t := a.2) h1 hm
theorem tick_miss {l : List (Int × Int)} {k : Int} (hm : k ∉ l.map Prod.fst) : tick l k = 0 := by
  unfold tick
  cases hf : l.find? (fun a => a.1 == k) with
  | none => rfl
  | some a =>
    have h1 := List.mem_of_find?_eq_some hf
    have h2 := List.find?_some hf
    simp at h2
    exact absurd (List.mem_map.2 ⟨a, h1, h2⟩) hm
theorem Tel.tick {D : DataW Unit} {l : List (Int × Int)} (h : Tel D l) (ht : Tms l) (k : Int) : D.atKey (.int .u64 k) (.lit (.int .u64 0)) = .lit (.int .u64 (tick l k)) := by
  by_cases hk : k ∈ l.map Prod.fst
  · obtain ⟨t, hm⟩ := Tms.mem_key.1 hk
    rw [h.hit k t hm, tick_hit ht hm]
  · rw [h.miss hk, tick_miss hk]
theorem tick_ok {l : List (Int × Int)} (h : Tms l) (k : Int) : 0 ≤ Wl.tick l k ∧ Wl.tick l k ≤ 1152921504606846976 := by
  by_cases hk : k ∈ l.map Prod.fst
  · obtain ⟨t, hm⟩ := Tms.mem_key.1 hk
    rw [tick_hit h hm]
    exact ⟨(h.ok _ hm).2.2.1, (h.ok _ hm).2.2.2⟩
  · rw [tick_miss hk]; omega

theorem lit_inj {a b : Int} (h : (DataW.lit (.int .u64 a) : DataW Unit) = .lit (.int .u64 b)) : a = b := by
  injection h with h; injection h
section
variable (w : World) {ops : Array Oper} {rest : List Oper} {o : Oper} {a : Act} {Q : Exit → Act → World → Prop}
/-- 'tick, had := m[k]' -/
theorem look_ok (hg : o.guard = none) (m x : Operand) (hop : o.op = Op.lookup 177 m x true) (b n : Nat) (D : DataW Unit) (l : List (Int × Int)) (k : Int) (hk : 0 ≤ k ∧ k ≤ 18446744073709551615)
    (hm : a.eval m = .map (some b)) (ho : w.ownsMap Tryz.prog 23 (plainElem Tryz.prog 23) b n D) (ht : Tel D l) (tms : Tms l) (hx : a.eval x = .int .u64 k)
    (hK : wpList Tryz.prog ops Q rest (a.put o.dst (.tuple #[.int .u64 (Wl.tick l k), .bool (decide (k ∈ l.map Prod.fst))])) w) : wpList Tryz.prog ops Q (o :: rest) a w := by
  refine wpList_lookup_own_ok_int w hg m x 177 hop 23 23 .u64 law Tryz.underlying177 Tryz.underlying23 (zeroE _) b n D hm ho _ _ hx (key64 hk) ?_
  intro c hat hwc
  rw [ht.tick tms k] at hat
  obtain rfl := lit_inj hat
  rw [ht.has]
  exact hK
end

end Go.Proofs.YtmnjdmcocifogaaGreatDoor.Wl
