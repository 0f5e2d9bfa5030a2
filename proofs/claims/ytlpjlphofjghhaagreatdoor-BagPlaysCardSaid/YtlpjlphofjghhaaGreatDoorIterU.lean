/- slices.Sorted(maps.Keys(m)), m a bag's entries: its keys, rising. -/
import Derived.Test.YtlpjlphofjghhaaGreatDoorBagE
import Derived.Test.YtlpjlphofjghhaaGreatDoorBase8
import Derived.Shelf.SlIterI.Sorted
import Derived.Sort.MapsRangeIn
namespace Go.Proofs.YtlpjlphofjghhaaGreatDoor.Iu
open Go Go.ChangeMaps Go.Maps Go.MapKept Go.RowKit Go.Sort Go.Shelf Rw Mt Ba
set_option linter.unusedVariables false

section
variable {β : Type} {E : Enc β} {P : Program} {k e t : TypeId} {F : Fence} {n : Nat} (w : World) {ops : Array Oper} {rest : List Oper} {o : Oper} {a : Act} {Q : Exit → Act → World → Prop}
/-- 'range m', within a fence. -/
theorem range1In (hg : o.guard = none) (m : Operand) (t : TypeId) (hop : o.op = Op.range t m) (k e : TypeId) (hk : P.underlying k = some (.int .u64)) (ht : P.underlying t = some (.map k e)) (b : Nat) (l : List (Int × β)) (hm : a.eval m = .map (some b)) (h : Mo P k E w b l)
    (hK : ∀ w', Rg P k E w' b w.heap.size l l → w.grownBy w' none → w'.heap.size = w.heap.size + 1 → wpListIn F n P ops Q rest (a.put o.dst (.pointer (some ⟨w.heap.size, 0, none⟩))) w') : wpListIn F n P ops Q (o :: rest) a w := by
  obtain ⟨⟨D, ho, hT⟩, hn⟩ := h
  exact wpListIn_range_own w hg m t hop k e (int_keyed hk) ht E.R b l.length D hm ho fun w' h1 h2 h3 => hK w' ⟨⟨D, _, _, h1, hT, hT.has⟩, fun _ h => h, hn, hn⟩ h2 h3
/-- The next pair, within a fence. -/
theorem next1In (hg : o.guard = none) (it : Operand) (hop : o.op = Op.next it false) (k : TypeId) (hk : P.underlying k = some (.int .u64)) (b r : Nat) (l left : List (Int × β)) (hit : a.eval it = .pointer (some ⟨r, 0, none⟩)) (h : Rg P k E w b r l left)
    (hDone : left = [] → wpListIn F n P ops Q rest (a.put o.dst (.tuple #[.bool false])) w)
    (hMore : ∀ y x w', (y, x) ∈ left → 0 ≤ y ∧ y ≤ 18446744073709551615 → Rg P k E w' b r l (wo left y) → w'.rangeLeft b r < w.rangeLeft b r → w.grownBy w' (some r) → w'.heap.size = w.heap.size →
      (Instr.entry (.pointer (some ⟨r, 0, none⟩))).run P w' = .ok (.tuple #[.int .u64 y, E.val x]) w' → wpListIn F n P ops Q rest (a.put o.dst (.tuple #[.bool true, .int .u64 y, E.val x])) w') : wpListIn F n P ops Q (o :: rest) a w := by
  obtain ⟨⟨D, lf, cnt, hrg, hT, hlf⟩, hsub, hn, hnl⟩ := h
  refine wpListIn_next_ranges w hg it hop k (int_keyed hk) E.R (Value.int .u64) E.val (fun key kl hkey => by obtain ⟨x, rfl, _⟩ := Maps.keyOf_int_inv hk hkey; exact ⟨x, rfl⟩) (fun v y hv => by obtain ⟨c, rfl, _⟩ := E.inv v y hv; exact ⟨c, rfl⟩)
    b r l.length D lf cnt hit hrg (fun _ hl => hDone ?_) (fun y x kl z w' cnt' hkey hlk hv hat hrg' hlt hgr hsz hen => ?_)
  · cases left with
    | nil => rfl
    | cons a r => have := hlf a.1; rw [hl] at this; simp at this
  · obtain ⟨y', ey, rfl, hwy⟩ := Maps.keyOf_int_inv hk hkey
    injection ey with _ ey
    subst ey
    rw [hlf, decide_eq_true_eq] at hlk
    obtain ⟨x', hx'⟩ := mem_key.1 hlk
    rw [E.mk_ x] at hv
    injection hv with hv
    have hxe : x' = x := by
      have h1 := hT.hit y x' (hsub _ hx') (.map [])
      rw [hat, ← hv] at h1
      exact (E.inj _ _ h1).symm
    subst hxe
    have hy : 0 ≤ y ∧ y ≤ 18446744073709551615 := by
      simp [Lit.wf, IntKind.min, IntKind.max, IntKind.signed, IntKind.bits] at hwy
      omega
    refine hMore y x' w' hx' hy ⟨⟨D, _, _, hrg', hT, fun q => ?_⟩, fun z hz => hsub z (mem_wo.1 hz).1, hn, hnl.wo y⟩ ?_ hgr hsz hen
    · have e1 : (Lit.int .u64 q).sameKey (.int .u64 y) = decide (q = y) := by simp [Lit.sameKey]
      rw [hlf, e1]
      by_cases hq : q = y
      · subst hq
        rw [decide_eq_false (wo_key (l := left))]
        simp
      · rw [decide_eq_false hq]
        simp only [Bool.not_false, Bool.and_true]
        congr 1
        rw [mem_key, mem_key, eq_iff_iff]
        exact ⟨fun ⟨t', ht⟩ => ⟨t', mem_wo.2 ⟨ht, hq⟩⟩, fun ⟨t', ht⟩ => ⟨t', (mem_wo.1 ht).1⟩⟩
    · rw [hrg'.left_eq, hrg.left_eq]; exact hlt
theorem Rg.walks {w w' : World} {b r : Nat} {l left : List (Int × β)} (h : Rg P k E w b r l left) (hk : KeepsWalks w w') : Rg P k E w' b r l left ∧ w'.rangeLeft b r = w.rangeLeft b r := by
  obtain ⟨⟨D, lf, cnt, h1, h2, h3⟩, h4, h5, h6⟩ := h
  exact ⟨⟨⟨D, lf, cnt, h1.of_walks hk, h2, h3⟩, h4, h5, h6⟩, by rw [(h1.of_walks hk).left_eq, h1.left_eq]⟩
theorem Rg.iter {w : World} {b r : Nat} {l left : List (Int × β)} (h : Rg P k E w b r l left) : ∃ o : Obj, w.heap[r]? = some o ∧ o.isWalk = true := by
  obtain ⟨⟨D, lf, cnt, h1, h2, h3⟩, h4, h5, h6⟩ := h
  exact h1.iter_walk
end
abbrev eU : Int → Value := Value.int .u64
set_option maxRecDepth 100000 in
set_option maxHeartbeats 1000000 in
/-- The iterator that maps.Keys hands back, at whatever loop. -/
theorem keys1 (n : Nat) (hn : 1 ≤ n) (l Bm b : Nat) (L : List (Int × Option Nat)) (J : List Int → World → Prop)
    (hY : ∀ pre x W, J pre W → pre.length < L.length → YieldAt Fence.wide (n - 1) Tryz.prog l #[eU x] W fun e W' => e = .returned (.bool true) ∧ J (pre ++ [x]) W' ∧ KeepsWalks W W')
    (W : World) (hJ : AbidesFrom W.heap.size J) (hm : W.cell? ⟨Bm, 0, none⟩ = some (.map (some b))) (h : MP W b L) (h0 : J [] W) :
    CallsIn Fence.wide n Tryz.prog 176 #[.func (.yield l) #[] #[], .pointer (some ⟨Bm, 0, none⟩)] W fun e W' => (∃ v, e = .returned v) ∧ ∃ ss : List Int, ss.Perm (L.map Prod.fst) ∧ J ss W' := by
  refine callsIn_of_wp Tryz.func176 rfl trivial ?_ rfl
  simp only [Tryz.ntmps176, List.size_toArray, List.length_cons, List.length_nil, Nat.reduceAdd, Nat.reduceSub, Array.replicate_succ, Array.replicate_zero, List.push_toArray, List.append_toArray, List.nil_append, List.cons_append]
  gi_wp2_with (first
    | (gi_at_range; refine range1In _ rfl _ 108 rfl 30 113 Tryz.underlying30 Tryz.underlying108 b L rfl h ?_; intro w0 hrg0 hg0 hs0)
    | gi_in)
  go_frame
  gi_loopw [3] (fun _ wr => ∃ (left seen : List (Int × Option Nat)), Rg Tryz.prog 30 eP wr b W.heap.size L left ∧ (seen ++ left).Perm L ∧ J (seen.map Prod.fst) wr)
    (fun _ wr => wr.rangeLeft b W.heap.size)
  case atStart => exact ⟨L, [], hrg0, List.Perm.refl _, hJ [] W w0 none h0 hg0 (fun r e => by cases e)⟩
  case round =>
    obtain ⟨left, seen, hrg, hC, hJs⟩ := hrel
    gi_wp2_with (first
      | (gi_at_next; refine next1In _ rfl _ rfl 30 Tryz.underlying30 b W.heap.size L left rfl hrg ?_ ?_)
      | gi_in)
    · intro hl0
      gi_wp2
      go_end0
      rw [hl0, List.append_nil] at hC
      exact ⟨⟨_, rfl⟩, _, hC.map _, hJs⟩
    · intro y x w2 hmem hy0 hy1 hrg2 hlt hg2 hs2 hen
      have hJ2 : J (seen.map Prod.fst) w2 := hJ _ wr w2 (some W.heap.size) hJs hg2 (fun r e => by cases e; exact ⟨Nat.le_refl _, Rg.iter hrg⟩)
      have hlen : (seen.map Prod.fst).length < L.length := by
        have h1 := hC.length_eq
        have h2 : 0 < left.length := List.length_pos_of_mem hmem
        simp at h1 ⊢; omega
      obtain ⟨fn, tmps, assign, body, hyy, hR⟩ := hY _ y w2 hJ2 hlen
      have hnd := hrg.ndl
      clear hs2
      gi_wp2
      refine hR.mono ?_
      rintro e W3 ⟨rfl, hJ3, hk3⟩
      gi_wp2
      obtain ⟨hrg3, hl3⟩ := Rg.walks hrg2 hk3
      go_roundw
      case rel => exact ⟨wo left y, seen ++ [(y, x)], hrg3, by rw [List.append_assoc]; exact (List.Perm.append_left seen (perm_wo hnd hmem).symm).trans hC, by simpa using hJ3⟩
      case measure => rw [hl3]; exact hlt
theorem keys_in (n : Nat) (mb : Option Nat) (w : World) :
    CallsIn Fence.wide n Tryz.prog 125 #[.map mb] w fun e w' => e = .returned (.func (.func 176) #[] #[.pointer (some ⟨w.heap.size, 0, none⟩)]) ∧ w' = w.alloc (.cells #[.map mb] 108) := by
  refine callsIn_of_wp Tryz.func125 rfl trivial ?_ rfl
  simp only [Tryz.ntmps125, List.size_toArray, List.length_cons, List.length_nil, Nat.reduceAdd, Nat.reduceSub, Array.replicate_succ, Array.replicate_zero, List.push_toArray, List.append_toArray, List.nil_append, List.cons_append]
  gi_wp2
  go_ret
  exact ⟨rfl, rfl⟩
/-- What it hands back tells the keys. -/
theorem keys_gives (n : Nat) (hn : 1 ≤ n) (Bm b : Nat) (L : List (Int × Option Nat)) (w : World) (hBm : Bm < w.heap.size) (hm : w.cell? ⟨Bm, 0, none⟩ = some (.map (some b))) (h : MP w b L) :
    SeqGives Fence.wide n Tryz.prog 176 #[.pointer (some ⟨Bm, 0, none⟩)] eU (fun ss => ss.Perm (L.map Prod.fst)) L.length w := fun l J W hW hJ hY h0 =>
  keys1 n hn l Bm b L J hY W hJ ((hW.cell (p := ⟨Bm, 0, none⟩) hBm).trans hm) (h.below hW h.lt) h0

def ren : Ren := { f := fun _ => 0, t := fun k => if k = 24 then 27 else if k = 26 then 30 else 0, g := fun x => x }
abbrev rec_ (fn : FuncId) (sv : Value) (Bs D : Nat) (st : LoopState) (pend : Option Code) : Loop := AnyZI.apRec ren fn sv Bs D st pend
/-- Between two rounds of AppendSeq's loop. -/
structure Ap (w0 : World) (fn : FuncId) (sv : Value) (Bs l D : Nat) (ss : List Int) (W : World) : Prop where
  box : ∃ v, W.heap[Bs]? = some (.cells #[v] 27 (0, 0)) ∧ W.ownsRow w0.heap.size 30 1 v ss.length (ss.map eU)
  L : W.heap[l]? = some (.loop (rec_ fn sv Bs D .ready none))
  K : W.heap[D]? = some (.deferred (some []))
  below : Below w0.heap.size w0 W
theorem ap_abides (w0 : World) (fn : FuncId) (sv : Value) (Bs l D B : Nat) (hB : w0.heap.size ≤ B) : AbidesFrom B (Ap w0 fn sv Bs l D) := fun s W W' row h hg hrow => by
  have hrow' : ∀ r, row = some r → ∃ o : Obj, W.heap[r]? = some o ∧ o.isWalk = true := fun r e => (hrow r e).2
  obtain ⟨v, hv, hr⟩ := h.box
  exact ⟨⟨v, (grownBy_keeps hg hrow' hv rfl).trans hv, ownsRow_abides_a hr hg hrow'⟩, (grownBy_keeps hg hrow' h.L rfl).trans h.L, (grownBy_keeps hg hrow' h.K rfl).trans h.K,
    h.below.grown hg h.below.size (fun k e => Nat.le_trans hB (hrow k e).1)⟩
theorem ne_box {W : World} {base : Nat} {v : Value} {k : Nat} {xs : List Value} (h : W.ownsRow base 30 1 v k xs) {j : Nat} {o : Obj} (hj : W.heap[j]? = some o) (hno : ∀ cur, o ≠ .cells cur 30 (0, 0)) : some j ≠ v.ownBlock := by
  rcases ownsRow_ne_a h hj hno with e | e
  · rw [e]; simp
  · exact fun e' => e e'.symm
set_option maxRecDepth 100000 in
set_option maxHeartbeats 2000000 in
/-- A round: one more is appended. -/
theorem ap_yield (m : Nat) (w0 : World) (fn : FuncId) (sv : Value) (Bs l D : Nat) (hBl : Bs ≠ l) (hDl : D ≠ l) (hDB : D ≠ Bs) (h0B : w0.heap.size ≤ Bs) (h0l : w0.heap.size ≤ l)
    (N : Nat) (hN : N ≤ 1000000) (ss : List Int) (x : Int) (W : World) (h : Ap w0 fn sv Bs l D ss W) (hlen : ss.length < N) :
    YieldAt Fence.wide m Tryz.prog l #[eU x] W fun e W' => e = .returned (.bool true) ∧ Ap w0 fn sv Bs l D (ss ++ [x]) W' ∧ KeepsWalks W W' := by
  obtain ⟨i0, hi, hz0, hz1, hz2⟩ := info_parts Sl.info_u64
  obtain ⟨v, hv, hrow⟩ := h.box
  refine ⟨fn, #[.slice none 0 0, sv, .pointer (some ⟨Bs, 0, none⟩), undef, .slice none 0 0, undef, sv, eU x, undef, undef, undef, undef, undef], AnyZI.apAssign ren, AnyZI.apBody ren, by simpa [AnyZI.apRec] using run_yield (P := Tryz.prog) (args := #[eU x]) h.L rfl, roundIn_of_wpIn (show Fence.wide.fn fn from trivial) ?_⟩
  have hl : l < W.heap.size := (Array.getElem?_eq_some_iff.1 h.L).1
  have hbr := run_beginRound (P := Tryz.prog) h.L rfl
  obtain ⟨W2, hW2⟩ : ∃ W2, W.putObj l (.loop { rec_ fn sv Bs D .ready none with state := .busy }) = W2 := ⟨_, rfl⟩
  rw [hW2] at hbr
  have hg2 : W.grownBy W2 (some l) := by rw [← hW2]; exact grownBy_putObj_a _ _ _
  have hk2 : KeepsWalks W W2 := by rw [← hW2]; exact KeepsWalks.putObj _ h.L rfl
  have hv2 : W2.heap[Bs]? = some (.cells #[v] 27 (0, 0)) := by rw [← hW2]; exact (World.putObj_heap_other hBl).trans hv
  have hK2 : W2.heap[D]? = some (.deferred (some [])) := by rw [← hW2]; exact (World.putObj_heap_other hDl).trans h.K
  have hL2 : W2.heap[l]? = some (.loop { rec_ fn sv Bs D .ready none with state := .busy }) := by rw [← hW2]; exact World.putObj_heap_same hl
  have hrow2 : W2.ownsRow w0.heap.size 30 1 v ss.length (ss.map eU) := hrow.kept hg2 (ownsRow_ne_a hrow h.L (fun cur e => by cases e))
  have hb2 : Below w0.heap.size w0 W2 := h.below.grown hg2 h.below.size (fun k e => by cases e; exact h0l)
  obtain ⟨hc2, hf2⟩ := cell_of_box_a hv2
  have hBlt : Bs < W2.heap.size := (Array.getElem?_eq_some_iff.1 hv2).1
  have hl2 : l < W2.heap.size := (Array.getElem?_eq_some_iff.1 hL2).1
  have hDlt : D < W2.heap.size := (Array.getElem?_eq_some_iff.1 hK2).1
  have n1 := ne_box hrow2 hv2 (fun cur e => by cases e)
  have n2 := ne_box hrow2 hL2 (fun cur e => by cases e)
  have n3 := ne_box hrow2 hK2 (fun cur e => by cases e)
  clear hW2
  unfold AnyZI.apAssign
  simp only [ren, reduceIte, Nat.reduceEqDiff]
  gi_wp2_with gi_round_op_a
  unfold AnyZI.apBody
  simp only [reduceIte, Nat.reduceEqDiff]
  gi_wp2_with (first
    | (gi_at_builtin; refine wpListIn_append_own _ rfl _ _ 27 rfl w0.heap.size 30 i0 (.int .u64 0) 1 8 Tryz.underlying27 hi hz0 hz1 hz2 rfl (by decide) _ _ _ rfl (hrow2.alloc _) ⟨W2.heap.size, 0, none⟩ 1 1 [eU x] rfl rfl (cell_one_new _ _ _) (by simp [Value.oneCell']) (by unfold maxLen; omega) (by omega) (by have := hb2.size; simp; omega) ?_; intro v' w3 hown' hg3 hnil3
       have hv3 : w3.heap[Bs]? = some (.cells #[v] 27 (0, 0)) := (hg3.block Bs (by simp; omega) n1).trans ((Below.heap_alloc _ _ Bs hBlt).trans hv2)
       obtain ⟨hc3, hf3⟩ := cell_of_box_a hv3
       obtain ⟨g', cap', cur', rfl, hbase', hgb', hr1, hr2, hr3, hr4⟩ : ∃ g' cap' cur', v' = .slice (some ⟨g', 0, none⟩) (ss.length + 1) cap' ∧ w0.heap.size ≤ g' ∧ w3.heap[g']? = some (.cells cur' 30 (0, 0)) ∧ ss.length + 1 ≤ cap' ∧ cap' ≤ maxLen ∧ cur'.size = cap' * 1 ∧ cur'.toList.take ((ss.length + 1) * 1) = ss.map eU ++ [eU x] := by
         rcases hown'.2 with ⟨_, h0⟩ | h'
         · exact absurd h0 (by omega)
         · exact h'
       go_frame)
    | gi_round_op_a)
  have hg3' : (W2.alloc (.cells #[eU x] 30)).grownBy w3 v.ownBlock := hg3
  have hL3 : w3.heap[l]? = some (.loop { rec_ fn sv Bs D .ready none with state := .busy }) := (hg3'.block l (by simp; omega) n2).trans ((Below.heap_alloc _ _ l hl2).trans hL2)
  have hK3 : w3.heap[D]? = some (.deferred (some [])) := (hg3'.block D (by simp; omega) n3).trans ((Below.heap_alloc _ _ D hDlt).trans hK2)
  obtain ⟨w4, hw4⟩ : ∃ w4, w3.setCell ⟨Bs, 0, none⟩ (.slice (some ⟨g', 0, none⟩) (ss.length + 1) cap') = w4 := ⟨_, rfl⟩
  rw [hw4]
  have hg4 : w3.grownBy w4 (some Bs) := by rw [← hw4]; exact grownBy_setCell0_a _ _ _
  have hv4 : w4.heap[Bs]? = some (.cells #[.slice (some ⟨g', 0, none⟩) (ss.length + 1) cap'] 27 (0, 0)) := by rw [← hw4]; exact heap_setCell_box_a _ hv3
  have hL4 : w4.heap[l]? = some (.loop { rec_ fn sv Bs D .ready none with state := .busy }) := (hg4.block l (Array.getElem?_eq_some_iff.1 hL3).1 (fun e => hBl (by cases e; rfl))).trans hL3
  have hK4 : w4.heap[D]? = some (.deferred (some [])) := (hg4.block D (Array.getElem?_eq_some_iff.1 hK3).1 (fun e => hDB (by cases e; rfl))).trans hK3
  have hrow4 := hown'.kept hg4 (ownsRow_ne_a hown' hv3 (fun cur e => by cases e))
  have hl4 : l < w4.heap.size := (Array.getElem?_eq_some_iff.1 hL4).1
  have hb3 : Below w0.heap.size w0 w3 := (hb2.alloc hb2.size _).grown hg3' (by have := hb2.size; simp; omega) (fun k e => (hrow2.lt k e).1)
  have hb4 : Below w0.heap.size w0 w4 := hb3.grown hg4 hb3.size (fun k e => by cases e; exact h0B)
  have hk4 : KeepsWalks W w4 := ((hk2.trans (KeepsWalks.alloc _ _)).trans (KeepsWalks.of_grownBy hg3' (ownsRow_not_walk_a (hrow2.alloc _)))).trans (by rw [← hw4]; exact KeepsWalks.setCell _ _ _)
  clear hw4
  refine ⟨_, _, run_endRound none hL4, rfl, ⟨⟨_, (World.putObj_heap_other hBl).trans hv4, ?_⟩, World.putObj_heap_same hl4, (World.putObj_heap_other hDl).trans hK4, hb4.grown (grownBy_putObj_a _ _ _) hb4.size (fun k e => by cases e; exact h0l)⟩, hk4.trans (KeepsWalks.putObj _ hL4 rfl)⟩
  have := hrow4.kept (grownBy_putObj_a w4 l (.loop { { rec_ fn sv Bs D .ready none with state := .busy } with state := if (none : Option Code).isNone then .ready else .done, pending := none })) (ownsRow_ne_a hrow4 hL4 (fun cur e => by cases e))
  simpa using this
set_option maxRecDepth 100000 in
set_option maxHeartbeats 2000000 in
theorem appendSeq_in (n : Nat) (hn : 2 ≤ n) (g : Nat) (lb : Array Value) (eg : ∀ args w, (callFunc g args).run Tryz.prog w = .ok (.enter g args) w)
    (S : List Int → Prop) (N : Nat) (hN : N ≤ 1000000) (w : World) (hseq : SeqGives Fence.wide (n - 1) Tryz.prog g lb eU S N w) :
    CallsIn Fence.wide n Tryz.prog 197 #[.slice none 0 0, .func (.func g) #[] lb] w fun e w' => ∃ (v : Value) (ss : List Int), e = .returned v ∧ S ss ∧ w'.ownsRow w.heap.size 30 1 v ss.length (ss.map eU) ∧ Below w.heap.size w w' := by
  have h1 : 1 ≤ n := by omega
  refine callsIn_of_wp_marks Tryz.func197 rfl trivial ?_ rfl
  simp only [Tryz.ntmps197, List.size_toArray, List.length_cons, List.length_nil, Nat.reduceAdd, Nat.reduceSub, Array.replicate_succ, Array.replicate_zero, List.push_toArray, List.append_toArray, List.nil_append, List.cons_append]
  gi_wp2
  refine wpIn_rangeFunc ?_
  intro fn hfn
  obtain ⟨W0, hW0⟩ : ∃ W0, w.alloc (.cells #[.slice none 0 0] 27) = W0 := ⟨_, rfl⟩
  have hs0 : W0.heap.size = w.heap.size + 1 := by rw [← hW0]; simp
  have hv0 : W0.heap[w.heap.size]? = some (.cells #[.slice none 0 0] 27 (0, 0)) := by rw [← hW0]; exact World.alloc_heap_new w _
  have hb0 : Below w.heap.size w W0 := by rw [← hW0]; exact (Below.refl _ w).alloc (Nat.le_refl _) _
  rw [hW0]
  obtain ⟨W1, hW1⟩ : ∃ W1, (W0.alloc (.deferred (some []))).alloc (.loop (rec_ fn (.func (.func g) #[] lb) w.heap.size W0.heap.size .ready none)) = W1 := ⟨_, rfl⟩
  have hold : ∀ k, k < W0.heap.size → W1.heap[k]? = W0.heap[k]? := fun k hk => by
    rw [← hW1]; exact (Below.heap_alloc _ _ k (by simp; omega)).trans (Below.heap_alloc _ _ k hk)
  have hb1 : Below w.heap.size w W1 := by rw [← hW1]; exact (hb0.alloc hb0.size _).alloc (by have := hb0.size; simp; omega) _
  have hs1 : W1.heap.size = W0.heap.size + 2 := by rw [← hW1]; simp
  have hM : Ap w fn (.func (.func g) #[] lb) w.heap.size (W0.heap.size + 1) W0.heap.size [] W1 :=
    ⟨⟨_, (hold w.heap.size (by omega)).trans hv0, ⟨rfl, .inl ⟨rfl, rfl⟩⟩⟩,
     by rw [← hW1]; have := World.alloc_heap_new (W0.alloc (.deferred (some []))) (.loop (rec_ fn (.func (.func g) #[] lb) w.heap.size W0.heap.size .ready none)); rwa [World.size_alloc] at this,
     by rw [← hW1]; exact (Below.heap_alloc _ _ _ (by simp)).trans (World.alloc_heap_new W0 _), hb1⟩
  refine ⟨W0.heap.size + 1, [{ target := .collected W0.heap.size, args := #[] }], W1, { target := .fn (.func g) lb, args := #[.func (.yield (W0.heap.size + 1)) #[] #[]] }, W1, g,
    #[.func (.yield (W0.heap.size + 1)) #[] #[]] ++ lb, W1, ?_, ?_, ?_, ?_, fun _ => h1, ?_⟩
  · rw [← hW1]; exact run_enterLoop_outer _ _ _ _ _
  · simp [resolve, go_sem]
  · intro f' hf'; trivial
  · simp [invoke, go_sem, eg]
  · refine (hseq (W0.heap.size + 1) (Ap w fn (.func (.func g) #[] lb) w.heap.size (W0.heap.size + 1) W0.heap.size) W1 hb1 (ap_abides _ _ _ _ _ _ _ hb1.size)
      (fun pre x W hJ hl => ap_yield (n - 1 - 1) w fn _ w.heap.size (W0.heap.size + 1) W0.heap.size (by omega) (by omega) (by omega) (Nat.le_refl _) (by omega) N hN pre x W hJ hl) hM).mono ?_
    rintro e W2 ⟨⟨v0, rfl⟩, ss, hS, h2⟩
    obtain ⟨v, hv, hrow⟩ := h2.box
    have hend := run_endLoop (P := Tryz.prog) h2.L (by simp [AnyZI.apRec])
    obtain ⟨W3, hW3⟩ : ∃ W3, W2.putObj (W0.heap.size + 1) (.loop { rec_ fn (.func (.func g) #[] lb) w.heap.size W0.heap.size .ready none with state := .exhausted }) = W3 := ⟨_, rfl⟩
    rw [hW3] at hend
    have hg3 : W2.grownBy W3 (some (W0.heap.size + 1)) := by rw [← hW3]; exact grownBy_putObj_a _ _ _
    have hv3 : W3.heap[w.heap.size]? = some (.cells #[v] 27 (0, 0)) := by rw [← hW3]; exact (World.putObj_heap_other (by omega)).trans hv
    have hK3 : W3.heap[W0.heap.size]? = some (.deferred (some [])) := by rw [← hW3]; exact (World.putObj_heap_other (by omega)).trans h2.K
    have hrow3 := hrow.kept hg3 (ownsRow_ne_a hrow h2.L (fun cur e => by cases e))
    have hb3 : Below w.heap.size w W3 := h2.below.grown hg3 h2.below.size (fun k e => by cases e; omega)
    obtain ⟨hc3, hf3⟩ := cell_of_box_a hv3
    clear hW3
    refine ⟨none, W3, hend, ?_⟩
    gi_wp2
    rw [← hs0]
    refine ⟨by simp, .inl ⟨_, _, rfl, run_takeDeferred hK3, ?_⟩⟩
    exact ⟨_, results_tmp rfl _ _ _, v, ss, rfl, hS, hrow3.kept (grownBy_putObj_a _ _ _) (ownsRow_ne_a hrow3 hK3 (fun cur e => by cases e)), hb3.grown (grownBy_putObj_a _ _ _) hb3.size (fun k e => by cases e; omega)⟩
theorem collect_any (g : Nat) (lb : Array Value) (eg : ∀ args w, (callFunc g args).run Tryz.prog w = .ok (.enter g args) w)
    (S : List Int → Prop) (N : Nat) (hN : N ≤ 1000000) (w : World) (hseq : SeqGives Fence.wide 3 Tryz.prog g lb eU S N w) :
    Calls Tryz.prog 174 #[.func (.func g) #[] lb] w fun e w' => ∃ (v : Value) (ss : List Int), e = .returned v ∧ S ss ∧ w'.ownsRow w.heap.size 30 1 v ss.length (ss.map eU) ∧ Below w.heap.size w w' := by
  have H := Lib.hid (callsIn_wide.1 (appendSeq_in 4 (by omega) g lb eg S N hN w hseq))
  clear hseq
  go_enter Tryz.func174, Tryz.ntmps174
  go_wp2_with fail
  refine H.out.mono ?_
  rintro e w' ⟨v, ss, rfl, hS, hrow, hb⟩
  have HR := Lib.hid (And.intro hS hrow)
  clear hS hrow
  go_wp2_with fail
  go_ret
  exact ⟨v, ss, rfl, HR.out.1, HR.out.2, hb⟩
theorem sorted_in (g : Nat) (lb : Array Value) (eg : ∀ args w, (callFunc g args).run Tryz.prog w = .ok (.enter g args) w)
    (S : List Int → Prop) (N : Nat) (hN : N ≤ 200) (hS : ∀ ss, S ss → ss.length ≤ N) (w : World) (hseq : SeqGives Fence.wide 3 Tryz.prog g lb eU S N w) :
    Calls Tryz.prog 124 #[.func (.func g) #[] lb] w fun e w' => ∃ (A : Option Addr) (c : Nat) (ss ks : List Int), e = .returned (.slice A ks.length c) ∧ S ss ∧ ks.Perm ss ∧ ks.Pairwise (· ≤ ·) ∧ Rd (Value.int .u64) w' w'.heap.size A ks.length c ks ∧ Below w.heap.size w w' := by
  have HC := Lib.hid (collect_any g lb eg S N (by omega) w hseq)
  have HS := Lib.hid hS
  clear hS hseq
  go_enter Tryz.func124, Tryz.ntmps124
  go_wp2_with fail
  refine HC.out.mono ?_
  rintro e w1 ⟨v, ss, rfl, hs, hrow, hb⟩
  obtain ⟨A, c, rfl⟩ := own_slice hrow
  have hl := HS.out ss hs
  have HROW := Lib.hid hrow
  have HB := Lib.hid hb
  have HSS := Lib.hid hs
  clear hrow hb hs
  go_wp2_with fail
  refine (So.sortU_any w1 w.heap.size A ss.length c ss rfl HROW.out (by omega)).mono ?_
  rintro e w2 ⟨rfl, ks, hp, hris, hrd, hg2⟩
  have hlen := hp.length_eq
  have HP := Lib.hid hp
  have HRIS := Lib.hid hris
  have HRD := Lib.hid hrd
  have HG2 := Lib.hid hg2
  clear hp hris hrd hg2
  go_wp2_with fail
  go_ret
  exact ⟨A, c, ss, ks, by rw [hlen]; rfl, HSS.out, HP.out, HRIS.out, by rw [hlen]; exact HRD.out, HB.out.grown HG2.out HB.out.size (fun k hk => (HROW.out.lt k hk).1)⟩
theorem rising_eq {a b : List Int} (hp : a.Perm b) (ha : a.Pairwise (· ≤ ·)) (hb : b.Pairwise (· < ·)) : a = b :=
  hp.eq_of_pairwise (fun x y _ _ h1 h2 => Int.le_antisymm h1 h2) ha (hb.imp (fun h => Int.le_of_lt h))
/-- IDs. -/
theorem ids_any {C R : Nat → Prop} (w : World) (p a : Nat) (D : List (Int × Ex)) (S : List Int) (h : Bx C R w p a D S) (hl : D.length ≤ 200) :
    Calls Tryz.prog 61 #[ptr p] w fun e w' => ∃ A c, e = .returned (.slice A D.length c) ∧ Rd (Value.int .u64) w' w'.heap.size A D.length c (D.map Prod.fst) ∧ Below w.heap.size w w' := by
  obtain ⟨L, h, rfl⟩ := h
  have c0 := h.c0
  have HM := Lib.hid h.mo
  have HRI := Lib.hid (ris_keys.1 h.ri)
  have hlt := h.lt
  have hw : Below w.heap.size w (w.alloc (.cells #[.map (some a)] 108)) := (Below.refl _ w).alloc (Nat.le_refl _) _
  have HSEQ := Lib.hid (keys_gives 3 (by omega) w.heap.size a (bl L) (w.alloc (.cells #[.map (some a)] 108)) (by simp) (by simp) (h.mo.later hw))
  have HW := Lib.hid hw
  have hll : (bl L).length ≤ 200 := by simpa [bl] using hl
  clear h hw
  go_enter Tryz.func61, Tryz.ntmps61
  go_wp2_with fail
  refine (callsIn_wide.1 (keys_in 3 (some a) w)).mono ?_
  rintro e w1 ⟨rfl, rfl⟩
  go_wp2_with fail
  refine (sorted_in _ _ (enters_of Tryz.func176 (by kernel_rfl) rfl) _ (bl L).length hll (fun ss hs => by rw [hs.length_eq]; simp) _ HSEQ.out).mono ?_
  rintro e w2 ⟨A, c, ss, ks, rfl, hs, hp, hris, hrd, hb⟩
  have hks : ks = (ab L).map Prod.fst := by
    have h1 : ((bl L).map Prod.fst).Pairwise (· < ·) := by rw [bl_keys]; exact HRI.out
    have h2 := rising_eq (hp.trans hs) hris h1
    rw [h2, bl_keys]
    simp [ab, Function.comp_def]
  have hkl : ks.length = (ab L).length := by rw [hks]; simp
  have HKS := Lib.hid hks
  have HRD := Lib.hid hrd
  have HB := Lib.hid (HW.out.trans (hb.mono (by simp)))
  have HKL := Lib.hid hkl
  clear hs hp hris hrd hb hks hkl
  go_wp2_with fail
  go_ret
  exact ⟨A, c, by rw [← HKL.out]; rfl, by rw [← HKL.out, ← HKS.out]; exact HRD.out, HB.out⟩
end Go.Proofs.YtlpjlphofjghhaaGreatDoor.Iu
