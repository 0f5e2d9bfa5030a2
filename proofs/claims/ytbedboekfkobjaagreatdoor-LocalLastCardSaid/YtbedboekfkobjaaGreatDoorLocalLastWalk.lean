/- The walk of hackneylaw12.LocalLast. -/
import Derived.Test.YtbedboekfkobjaaGreatDoorAwake12
namespace Go.Proofs.YtbedboekfkobjaaGreatDoor.Lc
open Go.ChangeShapes Go.WideShapes Go.ChangeAt Go.RowKit Rw Hi Sl
set_option linter.unusedVariables false

theorem last4_snoc (l : List Int) (x : Int) : last4 (last4 l ++ [x]) = last4 (l ++ [x]) := by
  unfold last4
  by_cases h : l.length ≤ 4
  · rw [Nat.sub_eq_zero_of_le h]; rfl
  · have e : (l.drop (l.length - 4)).length = 4 := by simp; omega
    simp only [List.length_append, e, List.length_cons, List.length_nil]
    rw [List.drop_append_of_le_length (by rw [e]; omega), List.drop_append_of_le_length (by omega), List.drop_drop]
    congr 2
    omega
theorem last4_get (l : List Int) (k : Nat) (hk : k < min 4 l.length) : (last4 l)[min 4 l.length - k - 1]? = l[l.length - 1 - k]? := by
  unfold last4
  rw [List.getElem?_drop]
  congr 1
  omega
/-- The wanted rows: slices in the 8 cells of block q. -/
structure Wn (X : Nat → Prop) (w : World) (B q : Nat) (M : Nat → List Int) : Prop where
  at_ : ∀ i, i < 8 → ∃ A n c, w.cell? ⟨q, i, none⟩ = some (.slice A n c) ∧ (M i).length = n ∧ w.ownsRow B 27 1 (.slice A n c) n ((M i).map (Value.int .u64)) ∧ ∀ g, (Value.slice A n c).ownBlock = some g → X g ∧ g ≠ q
  sep : ∀ i j, i < 8 → j < 8 → i ≠ j → ∀ v v' g, w.cell? ⟨q, i, none⟩ = some v → w.cell? ⟨q, j, none⟩ = some v' → v.ownBlock = some g → v'.ownBlock ≠ some g
  free : ∀ i, i < 8 → w.frozen? ⟨q, i, none⟩ = false
  lo : B ≤ q
  qx : X q
  xb : ∀ g, X g → g < w.heap.size
theorem Wn.keep {X : Nat → Prop} {w w' : World} {B q : Nat} {M : Nat → List Int} (h : Wn X w B q M) (hs : w.heap.size ≤ w'.heap.size) (hk : ∀ g, X g → w'.heap[g]? = w.heap[g]?) : Wn X w' B q M := by
  have hq := hk q h.qx
  have hc : ∀ i, w'.cell? ⟨q, i, none⟩ = w.cell? ⟨q, i, none⟩ := fun i => by unfold World.cell?; simp only [hq]
  refine ⟨fun i hi => ?_, fun i j hi hj hij v v' g h1 h2 h3 => h.sep i j hi hj hij v v' g ((hc i).symm.trans h1) ((hc j).symm.trans h2) h3, fun i hi => ?_, h.lo, h.qx, fun g hg => Nat.lt_of_lt_of_le (h.xb g hg) hs⟩
  · obtain ⟨A, n, c, h1, h2, h3, h4⟩ := h.at_ i hi
    exact ⟨A, n, c, (hc i).trans h1, h2, own_same h3 (fun g hg => hk g (h4 g hg).1), h4⟩
  · unfold World.frozen?; simp only [hq]; exact h.free i hi
theorem Wn.later {X : Nat → Prop} {w w' : World} {B q : Nat} {M : Nat → List Int} (h : Wn X w B q M) (hb : Below w.heap.size w w') : Wn X w' B q M := h.keep hb.size (fun g hg => hb.block g (h.xb g hg))
theorem Wn.fr {X : Nat → Prop} {w w' : World} {B q p : Nat} {M : Nat → List Int} (h : Wn X w B q M) (hf : Fr (some p) none w w') (hp : ¬ X p) : Wn X w' B q M :=
  h.keep hf.size (fun g hg => hf.block g (h.xb g hg) (fun e => by injection e with e; exact hp (e ▸ hg)) (fun e => by cases e))
theorem Wn.put {X : Nat → Prop} {w w1 : World} {B q i : Nat} {M : Nat → List Int} {A A' : Option Addr} {n c n' c' : Nat} {x : Int} (h : Wn X w B q M) (hi : i < 8) (h0 : w.cell? ⟨q, i, none⟩ = some (.slice A n c)) (hg : w.grownBy w1 (Value.slice A n c).ownBlock)
    (ho : w1.ownsRow B 27 1 (.slice A' n' c') n' ((M i ++ [x]).map (Value.int .u64))) (hn' : (M i ++ [x]).length = n') (hA : (Value.slice A' n' c').ownBlock = (Value.slice A n c).ownBlock ∨ ∃ g, (Value.slice A' n' c').ownBlock = some g ∧ w.heap.size ≤ g) :
    Wn (fun g => X g ∨ (Value.slice A' n' c').ownBlock = some g) (w1.setCell ⟨q, i, none⟩ (.slice A' n' c')) B q (upd M i (M i ++ [x])) := by
  obtain ⟨A0, n0, c0, k0, k1, k2, k3⟩ := h.at_ i hi
  rw [h0] at k0
  injection k0 with k0
  injection k0 with e1 e2 e3
  subst e1 e2 e3
  have hqo : some q ≠ (Value.slice A n c).ownBlock := fun e => (k3 q e.symm).2 rfl
  have hql : q < w.heap.size := h.xb q h.qx
  have hc1 : ∀ j, w1.cell? ⟨q, j, none⟩ = w.cell? ⟨q, j, none⟩ := fun j => World.cell?_of_block (hg.block q hql hqo)
  have hq' : ∀ g, (Value.slice A' n' c').ownBlock = some g → g ≠ q := fun g hg' e => by
    rcases hA with e2 | ⟨g2, e2, h2⟩
    · exact (k3 g (e2.symm.trans hg')).2 e
    · rw [e2] at hg'; injection hg' with hg'; omega
  have hcs : ∀ j, j ≠ i → (w1.setCell ⟨q, i, none⟩ (.slice A' n' c')).cell? ⟨q, j, none⟩ = w.cell? ⟨q, j, none⟩ := fun j hj => (World.cell?_setCell_other _ _ _ _ (fun e => by injection e with _ e; omega)).trans (hc1 j)
  have hci : (w1.setCell ⟨q, i, none⟩ (.slice A' n' c')).cell? ⟨q, i, none⟩ = some (.slice A' n' c') := World.cell?_setCell_same _ _ _ ((hc1 i).trans h0)
  have hother : ∀ j, j < 8 → j ≠ i → ∀ v g, w.cell? ⟨q, j, none⟩ = some v → v.ownBlock = some g → (Value.slice A' n' c').ownBlock ≠ some g := fun j hj hji v g hv hvg e => by
    obtain ⟨A2, n2, c2, m0, _, _, m3⟩ := h.at_ j hj
    rw [hv] at m0
    injection m0 with m0
    subst m0
    rcases hA with e2 | ⟨g2, e2, h2⟩
    · exact h.sep j i hj hi hji _ _ g hv h0 hvg (e2.symm.trans e)
    · rw [e2] at e; injection e with e; have := h.xb g (m3 g hvg).1; omega
  refine ⟨fun j hj => ?_, fun j k hj hk hjk v v' g h1 h2 h3 => ?_, fun j hj => ?_, h.lo, .inl h.qx, fun g hg' => ?_⟩
  · by_cases e : j = i
    · subst e
      rw [upd_same]
      exact ⟨A', n', c', hci, hn', own_same ho (fun g hg' => heap_setCell_other _ _ g _ (fun e => hq' g hg' e)), fun g hg' => ⟨.inr hg', hq' g hg'⟩⟩
    · rw [upd_ne M _ e]
      obtain ⟨A2, n2, c2, m0, m1, m2, m3⟩ := h.at_ j hj
      refine ⟨A2, n2, c2, (hcs j e).trans m0, m1, own_same (own_same m2 (fun g hg' => hg.block g (h.xb g (m3 g hg').1) (fun e2 => h.sep j i hj hi e _ _ g m0 h0 hg' e2.symm))) (fun g hg' => heap_setCell_other _ _ g _ (fun e2 => (m3 g hg').2 e2)), fun g hg' => ⟨.inl (m3 g hg').1, (m3 g hg').2⟩⟩
  · by_cases ej : j = i
    · subst ej
      rw [hci] at h1
      injection h1 with h1
      subst h1
      intro e2
      exact hother k hk (fun e => hjk e.symm) v' g ((hcs k (fun e => hjk e.symm)).symm.trans h2) e2 h3
    · by_cases ek : k = i
      · subst ek
        rw [hci] at h2
        injection h2 with h2
        subst h2
        exact hother j hj ej v g ((hcs j ej).symm.trans h1) h3
      · exact h.sep j k hj hk hjk v v' g ((hcs j ej).symm.trans h1) ((hcs k ek).symm.trans h2) h3
  · have : w1.frozen? ⟨q, j, none⟩ = w.frozen? ⟨q, j, none⟩ := by unfold World.frozen?; simp only [hg.block q hql hqo]
    simpa [this] using h.free j hj
  · have hsz : (w1.setCell ⟨q, i, none⟩ (.slice A' n' c')).heap.size = w1.heap.size := by simp
    rw [hsz]
    rcases hg' with hg' | hg'
    · exact Nat.lt_of_lt_of_le (h.xb g hg') hg.size
    · exact (ho.lt g hg').2

/-- What is left of each, once the first t threads' were taken. -/
def Lk (M : Nat → List Int) (t : Nat) : Nat → List Int := fun j => if j < t then [] else last4 (M j)
/-- While they are taken. -/
structure Zz (X : Nat → Prop) (w0 w : World) (p q : Nat) (M : Nat → List Int) (FA : Nat → Option Addr) (Fn Fc : Nat → Nat) (L : Nat → List Int) : Prop where
  l : Lo X w w0.heap.size p L
  m : Wn X w w0.heap.size q M
  v : ∀ j, j < 8 → w.cell? ⟨q, j, none⟩ = some (.slice (FA j) (Fn j) (Fc j))
  b : Below w0.heap.size w0 w
section
variable {X : Nat → Prop} {w0 w w' : World} {p q : Nat} {M : Nat → List Int} {FA : Nat → Option Addr} {Fn Fc : Nat → Nat} {L L' : Nat → List Int}
theorem Zz.same (h : Zz X w0 w p q M FA Fn Fc L) (he : ∀ i, i < 8 → L' i = L i) : Zz X w0 w p q M FA Fn Fc L' := ⟨h.l.same he, h.m, h.v, h.b⟩
theorem Zz.take (h : Zz X w0 w p q M FA Fn Fc L) (hl : Lo X w' w0.heap.size p L') (hf : Fr (some p) none w w') : Zz X w0 w' p q M FA Fn Fc L' :=
  ⟨hl, h.m.fr hf h.l.px, fun j hj => (hf.cell (p := ⟨q, j, none⟩) (h.m.xb q h.m.qx) (fun e => by injection e with e; exact h.l.px (e ▸ h.m.qx)) (fun e => by cases e)).trans (h.v j hj), h.b.trans (fr_bel hf h.b.size h.l.lo)⟩
theorem Zz.rd (h : Zz X w0 w p q M FA Fn Fc L) {j : Nat} (hj : j < 8) : Rd (Value.int .u64) w w.heap.size (FA j) (Fn j) (Fc j) (M j) := by
  obtain ⟨A, n, c, h1, h2, h3, _⟩ := h.m.at_ j hj
  rw [h.v j hj] at h1
  injection h1 with h1
  injection h1 with e1 e2 e3
  subst e1 e2 e3
  exact Rd.own_rd h3
end

set_option maxRecDepth 100000 in
theorem last_long (A : Option Addr) (n c : Nat) (w : World) (hT : Tx.Tab w) (hn : n ≤ 9223372036854775807) (h : 100 < n) :
    Calls Tryz.prog 8 #[.slice A n c] w fun e w' => e = .returned (.bool true) ∧ Below w.heap.size w w' := by
  have t0 : decide ((100 : Int) < (n : Int)) = true := decide_eq_true (by omega)
  have t0' : decide (100 < n) = true := decide_eq_true (by omega)
  go_enter Tryz.func8, Tryz.ntmps8
  go_wp2_with fail
  refine (awake12_any _ hT).mono ?_
  rintro e w1 ⟨rfl, hb1⟩
  go_wp2_with fail
  go_ret
  exact ⟨rfl, hb1⟩

set_option maxHeartbeats 8000000 in
set_option maxRecDepth 100000 in
theorem last_any (A0 : Option Addr) (N c0 : Nat) (xs : List Int) (w : World) (hT : Tx.Tab w) (h : Rd (Value.int .u64) w w.heap.size A0 N c0 xs) (hN : N ≤ 100) (hok : ∀ x ∈ xs, 0 ≤ x ∧ x ≤ 18446744073709551615) :
    Calls Tryz.prog 8 #[.slice A0 N c0] w fun e w' => e = .returned (.bool true) ∧ Below w.heap.size w w' := by
  obtain ⟨i0, hi0, hz0, hz1, hz2⟩ := info_parts info_u64
  have HT := Lib.hid hT
  have R' := Lib.hid h
  have HK := Lib.hid hok
  have t0 : decide ((100 : Int) < (N : Int)) = false := decide_eq_false (by omega)
  have t0' : decide (100 < N) = false := decide_eq_false (by omega)
  clear hT h hok
  go_enter Tryz.func8, Tryz.ntmps8
  go_wp2_with fail
  refine (awake12_any _ HT.out).mono ?_
  rintro e w1 ⟨rfl, hb1⟩
  go_wp2_with fail
  refine (new_any (fun _ => False) _ w.heap.size hb1.size (fun g hg => hg.elim)).mono ?_
  rintro e w2 ⟨p, rfl, h2, hp2, hb2⟩
  have b2 : Below w.heap.size w w2 := hb1.trans (hb2.mono hb1.size)
  have hs2 := b2.size
  have hpl := h2.lt
  have hba : Below w2.heap.size w2 (w2.alloc (.cells #[.slice none 0 0, .slice none 0 0, .slice none 0 0, .slice none 0 0, .slice none 0 0, .slice none 0 0, .slice none 0 0, .slice none 0 0] 78)) := (Below.refl _ _).alloc (Nat.le_refl _) _
  have h3 := (h2.shun (X' := fun g => g = w2.heap.size) (fun g hg => .inr (by rw [hg]; exact Nat.le_refl _))).later hba
  have hw3 : Wn (fun g => g = w2.heap.size) (w2.alloc (.cells #[.slice none 0 0, .slice none 0 0, .slice none 0 0, .slice none 0 0, .slice none 0 0, .slice none 0 0, .slice none 0 0, .slice none 0 0] 78)) w.heap.size w2.heap.size (fun _ => []) := by
    have hcell : ∀ i, i < 8 → (w2.alloc (.cells #[.slice none 0 0, .slice none 0 0, .slice none 0 0, .slice none 0 0, .slice none 0 0, .slice none 0 0, .slice none 0 0, .slice none 0 0] 78)).cell? ⟨w2.heap.size, i, none⟩ = some (.slice none 0 0) := fun i hi => by
      rcases (by omega : i = 0 ∨ i = 1 ∨ i = 2 ∨ i = 3 ∨ i = 4 ∨ i = 5 ∨ i = 6 ∨ i = 7) with rfl | rfl | rfl | rfl | rfl | rfl | rfl | rfl <;> go_simp
    refine ⟨fun i hi => ⟨none, 0, 0, hcell i hi, rfl, World.ownsRow_nil _ _ _ _, fun g hg => by cases hg⟩, fun i j hi hj hij v v' g h1 h2 h3 => ?_, fun i hi => ?_, hs2, rfl, fun g hg => by rw [hg]; simp⟩
    · rw [hcell i hi] at h1
      injection h1 with h1
      subst h1
      cases h3
    · rcases (by omega : i = 0 ∨ i = 1 ∨ i = 2 ∨ i = 3 ∨ i = 4 ∨ i = 5 ∨ i = 6 ∨ i = 7) with rfl | rfl | rfl | rfl | rfl | rfl | rfl | rfl <;> go_simp
  have H3 := Lib.hid h3
  have W3 := Lib.hid hw3
  have B3 := Lib.hid (b2.trans (hba.mono hs2))
  clear h2 h3 hw3 b2 hb1 hb2 hba hp2 t0 t0' hs2 hpl
  go_wp2_with fail
  generalize w2.alloc (.cells #[.slice none 0 0, .slice none 0 0, .slice none 0 0, .slice none 0 0, .slice none 0 0, .slice none 0 0, .slice none 0 0, .slice none 0 0] 78) = W3w at *
  generalize w2.heap.size = q at *
  go_loopw [25] (fun i wr => ∃ (k : Nat) (X : Nat → Prop) (L M : Nat → List Int), k ≤ N ∧ i = .int .i64 k ∧ Lo X wr w.heap.size p L ∧ Wn X wr w.heap.size q M ∧ Hid (∀ j, j < 8 → L j = last4 (M j)) ∧ Hid (∀ j, j < 8 → (M j).length ≤ k) ∧ Below w.heap.size w wr) (fun i _ => N - (intOf i).toNat)
  case atStart => exact ⟨0, _, _, _, Nat.zero_le _, rfl, H3.out, W3.out, Lib.hid (fun j hj => rfl), Lib.hid (fun j hj => Nat.le_refl _), B3.out⟩
  case round =>
    clear H3 W3 B3
    obtain ⟨k, X, L, M, hk, rfl, hlo, hwn, HLM, HML, hbel⟩ := hrel
    have HLO := Lib.hid hlo
    have HWN := Lib.hid hwn
    have HB := Lib.hid hbel
    have hbs := hbel.size
    by_cases hlt : k < N
    · obtain ⟨b, o, x, rfl, hb, hx, c1⟩ := R'.out.get hlt
      have d0 := (hbel.cell (p := ⟨b, o + k, none⟩) hb).trans c1
      have hx8 := HK.out _ (List.mem_of_getElem? hx)
      obtain ⟨j, hj⟩ : ∃ j : Nat, x % 8 = (j : Int) := ⟨(x % 8).toNat, by omega⟩
      have hj8 : j < 8 := by omega
      have hj8' : (j : Int) < 8 := by omega
      have ej : x.tmod 8 = (j : Int) := by rw [Int.tmod_eq_emod_of_nonneg hx8.1]; exact hj
      have ew : IntKind.u64.wrap (j : Int) = (j : Int) := by rw [IntKind.wrap_u64]; omega
      have ei : IntKind.i64.wrap (j : Int) = (j : Int) := by rw [IntKind.wrap_i64]; omega
      have hba : Below wr.heap.size wr (wr.alloc (.cells #[.int .u64 x] 27)) := (Below.refl _ _).alloc (Nat.le_refl _) _
      have hmlj := HML.out j hj8
      clear hlo hwn hbel c1 hx
      go_wp2_with fail
      refine (put_t X _ _ p j j rfl L _ 1 1 [x] (fun g hg => Nat.lt_of_lt_of_le (HWN.out.xb g hg) hba.size) (HLO.out.later hba) hj8 (rd_lit wr #[.int .u64 x] [x] rfl 1 rfl (by omega)) (by omega)).mono ?_
      rintro e w3 ⟨rfl, h3, hf3⟩
      have w3n := (HWN.out.later hba).fr hf3 HLO.out.px
      have b3 : Below w.heap.size w w3 := (HB.out.trans (hba.mono hbs)).trans (fr_bel hf3 (by simp; omega) HLO.out.lo)
      have hs3 := b3.size
      have hbb : Below w3.heap.size w3 (w3.alloc (.cells #[.int .u64 x] 27)) := (Below.refl _ _).alloc (Nat.le_refl _) _
      have w4n := w3n.later hbb
      obtain ⟨A1, n1, c1, k0, k1, k2, k3⟩ := w4n.at_ j hj8
      have k0' : w3.cell? ⟨q, j, none⟩ = some (.slice A1 n1 c1) := by
        have hq3 : q < w3.heap.size := w3n.xb q w3n.qx
        rw [← k0]; exact (hbb.cell (p := ⟨q, j, none⟩) hq3).symm
      have hn1 : n1 ≤ 100 := by rw [← k1]; omega
      have H3 := Lib.hid h3
      have W4 := Lib.hid w4n
      have B3 := Lib.hid b3
      have K0 := Lib.hid k0
      have K1 := Lib.hid k1
      have K2 := Lib.hid k2
      have K3 := Lib.hid k3
      have HBB := Lib.hid hbb
      have hrd : Rd (Value.int .u64) (w3.alloc (.cells #[.int .u64 x] 27)) (w3.heap.size + 1) (some ⟨w3.heap.size, 0, none⟩) 1 1 [x] := rd_one w3 x 27
      have HRD := Lib.hid hrd
      have hmp : (M j).map (Value.int .u64) ++ [x].map (Value.int .u64) = (M j ++ [x]).map (Value.int .u64) := by simp
      have HMP := Lib.hid hmp
      clear h3 hf3 w3n b3 w4n k0 k1 k2 k3 hbb hrd hmp HWN hba hmlj
      go_wp2_with (
        at_builtin
        refine append_rd _ rfl _ _ 56 rfl w.heap.size 27 i0 (.int .u64 0) 8 Tryz.underlying56 hi0 hz0 hz1 hz2 rfl (.slice A1 n1 c1) n1 _ rfl K2.out _ _ 1 1 [x] rfl HRD.out one_u64 (n1 + 1) rfl _ HMP.out (by unfold maxLen; omega) (by omega) (by simp; omega) ?_
        intro A4 c4 w4 hrow4 hg4 hat4
        have hA4 : (Value.slice A4 (n1 + 1) c4).ownBlock = (Value.slice A1 n1 c1).ownBlock ∨ ∃ g, (Value.slice A4 (n1 + 1) c4).ownBlock = some g ∧ (w3.alloc (.cells #[.int .u64 x] 27)).heap.size ≤ g := hat4.imp id (fun e => ⟨_, e, Nat.le_refl _⟩)
        have W5 := Lib.hid (W4.out.put hj8 K0.out hg4 hrow4 (by rw [List.length_append, K1.out]; rfl) hA4)
        have hqb : q ≠ w3.heap.size := fun e => by have := (W4.out.at_ j hj8); have hq3 := Lw.lt_heap k0'; have : q < w3.heap.size := hq3; omega
        have hq3 : q < w3.heap.size := Lw.lt_heap k0'
        have hqo : some q ≠ (Value.slice A1 n1 c1).ownBlock := fun e => (K3.out q e.symm).2 rfl
        have u0 : w4.cell? ⟨q, j, none⟩ = some (.slice A1 n1 c1) := (World.cell?_of_block (hg4.block q (by simp; omega) hqo)).trans K0.out
        have uf : w4.frozen? ⟨q, j, none⟩ = false := by
          have h1 : w4.frozen? ⟨q, j, none⟩ = (w3.alloc (.cells #[.int .u64 x] 27)).frozen? ⟨q, j, none⟩ := by unfold World.frozen?; rw [hg4.block q (by simp; omega) hqo]
          rw [h1]; exact W4.out.free j hj8
        have L5 := Lib.hid ((((H3.out.later HBB.out).shun (X' := fun g => X g ∨ (Value.slice A4 (n1 + 1) c4).ownBlock = some g) (fun g hg => by
          rcases hg with hg | hg
          · exact .inl hg
          · rcases hA4 with e | ⟨g2, e, h2⟩
            · exact .inl (K3.out g (e.symm.trans hg)).1
            · rw [e] at hg; injection hg with hg; subst hg; exact .inr h2)).grown hg4 (fun g hg => .inl (K3.out g hg).1)).grown (grown_setCell w4 ⟨q, j, none⟩ (.slice A4 (n1 + 1) c4)) (fun g hg => by injection hg with hg; subst hg; exact .inl W4.out.qx))
        have B5 := Lib.hid (((B3.out.trans (HBB.out.mono hs3)).grown hg4 (by simp; omega) (fun g hg => by obtain ⟨A9, n9, c9, m0, m1, m2, m3⟩ := W4.out.at_ j hj8; exact (K2.out.lt g hg).1)).setCell (p := ⟨q, j, none⟩) W4.out.lo (.slice A4 (n1 + 1) c4))
        clear hrow4 hg4 hat4 hA4 hqb hqo)
      go_roundw
      case rel =>
        refine ⟨k + 1, _, _, _, by omega, by go_num, L5.out, W5.out, Lib.hid (fun m hm => ?_), Lib.hid (fun m hm => ?_), B5.out⟩
        · by_cases e : m = j
          · subst e; rw [upd_same, upd_same, HLM.out m hm, last4_snoc]
          · rw [upd_ne _ _ e, upd_ne _ _ e]; exact HLM.out m hm
        · by_cases e : m = j
          · subst e; rw [upd_same]; have := HML.out m hm; simp; omega
          · rw [upd_ne _ _ e]; have := HML.out m hm; omega
      case measure => simp [intOf]; omega
    · have hch := fun j (hj : j < 8) => hwn.at_ j hj
      have hall : ∀ j, ∃ s : Option Addr × Nat × Nat, j < 8 → wr.cell? ⟨q, j, none⟩ = some (.slice s.1 s.2.1 s.2.2) := fun j => by
        by_cases hj : j < 8
        · obtain ⟨A, n, c, h1, _⟩ := hch j hj
          exact ⟨(A, n, c), fun _ => h1⟩
        · exact ⟨(none, 0, 0), fun h => absurd h hj⟩
      obtain ⟨F, hF⟩ := Classical.axiomOfChoice hall
      obtain ⟨FA, hFA⟩ : ∃ FA : Nat → Option Addr, FA = fun j => (F j).1 := ⟨_, rfl⟩
      obtain ⟨Fn, hFn⟩ : ∃ Fn : Nat → Nat, Fn = fun j => (F j).2.1 := ⟨_, rfl⟩
      obtain ⟨Fc, hFc⟩ : ∃ Fc : Nat → Nat, Fc = fun j => (F j).2.2 := ⟨_, rfl⟩
      have hv : ∀ j, j < 8 → wr.cell? ⟨q, j, none⟩ = some (.slice (FA j) (Fn j) (Fc j)) := fun j hj => by rw [hFA, hFn, hFc]; exact hF j hj
      have hz : Zz X w wr p q M FA Fn Fc (Lk M 0) := ⟨hlo.same (fun i hi => by rw [HLM.out i hi]; simp [Lk]), hwn, hv, hbel⟩
      have v0 := hv 0 (by omega)
      obtain ⟨Av0, hAv0⟩ : ∃ Av, FA 0 = Av := ⟨_, rfl⟩
      obtain ⟨nv0, hnv0⟩ : ∃ nv, Fn 0 = nv := ⟨_, rfl⟩
      rw [hAv0, hnv0] at v0
      have HA0 := Lib.hid hAv0
      have HN0 := Lib.hid hnv0
      clear hAv0 hnv0
      have v1 := hv 1 (by omega)
      obtain ⟨Av1, hAv1⟩ : ∃ Av, FA 1 = Av := ⟨_, rfl⟩
      obtain ⟨nv1, hnv1⟩ : ∃ nv, Fn 1 = nv := ⟨_, rfl⟩
      rw [hAv1, hnv1] at v1
      have HA1 := Lib.hid hAv1
      have HN1 := Lib.hid hnv1
      clear hAv1 hnv1
      have v2 := hv 2 (by omega)
      obtain ⟨Av2, hAv2⟩ : ∃ Av, FA 2 = Av := ⟨_, rfl⟩
      obtain ⟨nv2, hnv2⟩ : ∃ nv, Fn 2 = nv := ⟨_, rfl⟩
      rw [hAv2, hnv2] at v2
      have HA2 := Lib.hid hAv2
      have HN2 := Lib.hid hnv2
      clear hAv2 hnv2
      have v3 := hv 3 (by omega)
      obtain ⟨Av3, hAv3⟩ : ∃ Av, FA 3 = Av := ⟨_, rfl⟩
      obtain ⟨nv3, hnv3⟩ : ∃ nv, Fn 3 = nv := ⟨_, rfl⟩
      rw [hAv3, hnv3] at v3
      have HA3 := Lib.hid hAv3
      have HN3 := Lib.hid hnv3
      clear hAv3 hnv3
      have v4 := hv 4 (by omega)
      obtain ⟨Av4, hAv4⟩ : ∃ Av, FA 4 = Av := ⟨_, rfl⟩
      obtain ⟨nv4, hnv4⟩ : ∃ nv, Fn 4 = nv := ⟨_, rfl⟩
      rw [hAv4, hnv4] at v4
      have HA4 := Lib.hid hAv4
      have HN4 := Lib.hid hnv4
      clear hAv4 hnv4
      have v5 := hv 5 (by omega)
      obtain ⟨Av5, hAv5⟩ : ∃ Av, FA 5 = Av := ⟨_, rfl⟩
      obtain ⟨nv5, hnv5⟩ : ∃ nv, Fn 5 = nv := ⟨_, rfl⟩
      rw [hAv5, hnv5] at v5
      have HA5 := Lib.hid hAv5
      have HN5 := Lib.hid hnv5
      clear hAv5 hnv5
      have v6 := hv 6 (by omega)
      obtain ⟨Av6, hAv6⟩ : ∃ Av, FA 6 = Av := ⟨_, rfl⟩
      obtain ⟨nv6, hnv6⟩ : ∃ nv, Fn 6 = nv := ⟨_, rfl⟩
      rw [hAv6, hnv6] at v6
      have HA6 := Lib.hid hAv6
      have HN6 := Lib.hid hnv6
      clear hAv6 hnv6
      have v7 := hv 7 (by omega)
      obtain ⟨Av7, hAv7⟩ : ∃ Av, FA 7 = Av := ⟨_, rfl⟩
      obtain ⟨nv7, hnv7⟩ : ∃ nv, Fn 7 = nv := ⟨_, rfl⟩
      rw [hAv7, hnv7] at v7
      have HA7 := Lib.hid hAv7
      have HN7 := Lib.hid hnv7
      clear hAv7 hnv7
      have Z0 := Lib.hid hz
      have HLn : Hid (∀ j, j < 8 → Fn j ≤ 100) := Lib.hid (fun j hj => by have := (hz.rd hj).len; have := HML.out j hj; omega)
      clear hlo hwn hbel HLO HWN HB HLM hch hall hF hFA hFn hFc hv hz
      go_wp2_with fail
      clear v0 v1 v2 v3 v4 v5 v6 v7 hlt hk HML
      refine wp_loop_rounds 9 ?_
      have hn10 : nv0 ≤ 100 := by rw [← HN0.out]; exact HLn.out 0 (by omega)
      have hix0 : ∀ w : World, (Instr.index 78 (.agg #[.slice Av0 nv0 (Fc 0), .slice Av1 nv1 (Fc 1), .slice Av2 nv2 (Fc 2), .slice Av3 nv3 (Fc 3), .slice Av4 nv4 (Fc 4), .slice Av5 nv5 (Fc 5), .slice Av6 nv6 (Fc 6), .slice Av7 nv7 (Fc 7)]) (.int .i64 0)).run Tryz.prog w = .ok (.slice Av0 nv0 (Fc 0)) w := fun _ => by kernel_rfl
      obtain ⟨m0, hm0⟩ : ∃ m0, min 4 nv0 = m0 := ⟨_, rfl⟩
      have hm40 : m0 ≤ 4 := by omega
      have hmn0 : m0 ≤ nv0 := by omega
      have hmin0 : min (4 : Int) (nv0 : Int) = (m0 : Int) := by omega
      have HM0 := Lib.hid hm0
      clear hm0
      rw [rounds_succ]
      go_wp2_with fail
      go_loopw [55] (fun i ws => ∃ k : Nat, k ≤ m0 ∧ i = .int .i64 k ∧ Zz X w ws p q M FA Fn Fc (upd (Lk M 0) 0 ((last4 (M 0)).take (m0 - k)))) (fun i _ => m0 - (intOf i).toNat)
      case atStart =>
        refine ⟨0, Nat.zero_le _, rfl, Z0.out.same (fun i hi => ?_)⟩
        by_cases e : i = 0
        · subst e
          rw [upd_same, Nat.sub_zero, List.take_of_length_le (by have h1 := (Z0.out.rd (j := 0) (by omega)).len; have h2 := HN0.out; have h3 := HM0.out; unfold last4; rw [List.length_drop]; omega)]
          simp [Lk]
        · rw [upd_ne _ _ e]
      case round =>
        clear Z0
        obtain ⟨k, hkm, rfl, hz⟩ := hrel
        have ZZ := Lib.hid hz
        have hlen0 : (M 0).length = nv0 := by rw [← HN0.out]; exact (hz.rd (j := 0) (by omega)).len
        have HL0 := Lib.hid hlen0
        by_cases hlt : k < m0
        · obtain ⟨u, hu⟩ : ∃ u : Nat, (nv0 : Int) - 1 - (k : Int) = (u : Int) := ⟨nv0 - 1 - k, by omega⟩
          have hun : u < nv0 := by omega
          have hrd := hz.rd (j := 0) (by omega)
          rw [HA0.out, HN0.out] at hrd
          have hcap0 := hrd.cap
          have htop0 := hrd.top
          obtain ⟨b, o, x, rfl, hb, hx, cx⟩ := hrd.get (k := u) hun
          have he : (upd (Lk M 0) 0 ((last4 (M 0)).take (m0 - k))) 0 = (last4 (M 0)).take (m0 - k - 1) ++ [x] := by
            rw [upd_same]
            have h1 : (last4 (M 0))[m0 - k - 1]? = some x := by
              have h2 := last4_get (M 0) k (by rw [hlen0, HM0.out]; exact hlt)
              rw [hlen0, HM0.out] at h2
              rw [h2, show nv0 - 1 - k = u by omega]
              exact hx
            have h3 := List.take_add_one (l := last4 (M 0)) (i := m0 - k - 1)
            rw [h1, show m0 - k - 1 + 1 = m0 - k by omega] at h3
            exact h3
          have HE := Lib.hid he
          have hxq : b ≠ p := fun e => by
            obtain ⟨A9, n9, c9, m0, m1, m2, m3⟩ := hz.m.at_ 0 (by omega)
            rw [hz.v 0 (by omega)] at m0
            injection m0 with m0
            injection m0 with m0 _ _
            rw [HA0.out] at m0
            subst m0
            exact hz.l.px (e ▸ (m3 b rfl).1)
          clear hz he hx hlen0 hrd
          go_wp2_with fail
          refine (take_some_t X _ _ p 0 _ (by first | rfl | (simp; done) | omega) _ _ x ZZ.out.l (by omega) HE.out).mono ?_
          rintro e w5 ⟨rfl, h5, hf5⟩
          have Z5 := Lib.hid (ZZ.out.take h5 hf5)
          have dx : w5.cell? ⟨b, o + u, none⟩ = some (.int .u64 x) := (hf5.cell (p := ⟨b, o + u, none⟩) hb (fun e => hxq (by injection e)) (fun e => by cases e)).trans cx
          clear h5 hf5 cx ZZ HE
          go_wp2_with fail
          go_roundw
          case rel =>
            refine ⟨k + 1, by omega, by go_num, Z5.out.same (fun i hi => ?_)⟩
            by_cases e : i = 0
            · subst e; rw [upd_same, upd_same]; congr 1
            · rw [upd_ne _ _ e, upd_ne _ _ e, upd_ne _ _ e]
          case measure => simp [intOf]; omega
        · have hkm2 : k = m0 := by omega
          have hz1 : Zz X w wr p q M FA Fn Fc (Lk M 1) := hz.same (fun i hi => by
            by_cases e : i = 0
            · subst e; rw [upd_same, hkm2, Nat.sub_self]; simp [Lk]
            · rw [upd_ne _ _ e]
              unfold Lk
              by_cases h : i < 0
              · rw [if_pos h, if_pos (by omega)]
              · rw [if_neg h, if_neg (by omega)])
          have Z1 := Lib.hid hz1
          clear hz hz1 ZZ HL0 hlen0 hkm2
          go_wp2_with fail
          refine (take_empty_t X _ _ p 0 _ (by first | rfl | (simp; done) | omega) _ Z1.out.l (by omega) (by simp [Lk])).mono ?_
          rintro e w6 ⟨rfl, rfl⟩
          clear hlt hkm
          go_wp2_with fail
          have hn11 : nv1 ≤ 100 := by rw [← HN1.out]; exact HLn.out 1 (by omega)
          have hix1 : ∀ w : World, (Instr.index 78 (.agg #[.slice Av0 nv0 (Fc 0), .slice Av1 nv1 (Fc 1), .slice Av2 nv2 (Fc 2), .slice Av3 nv3 (Fc 3), .slice Av4 nv4 (Fc 4), .slice Av5 nv5 (Fc 5), .slice Av6 nv6 (Fc 6), .slice Av7 nv7 (Fc 7)]) (.int .i64 1)).run Tryz.prog w = .ok (.slice Av1 nv1 (Fc 1)) w := fun _ => by kernel_rfl
          obtain ⟨m1, hm1⟩ : ∃ m1, min 4 nv1 = m1 := ⟨_, rfl⟩
          have hm41 : m1 ≤ 4 := by omega
          have hmn1 : m1 ≤ nv1 := by omega
          have hmin1 : min (4 : Int) (nv1 : Int) = (m1 : Int) := by omega
          have HM1 := Lib.hid hm1
          clear hm1
          rw [rounds_succ]
          go_wp2_with fail
          go_loopw [55] (fun i ws => ∃ k : Nat, k ≤ m1 ∧ i = .int .i64 k ∧ Zz X w ws p q M FA Fn Fc (upd (Lk M 1) 1 ((last4 (M 1)).take (m1 - k)))) (fun i _ => m1 - (intOf i).toNat)
          case atStart =>
            refine ⟨0, Nat.zero_le _, rfl, Z1.out.same (fun i hi => ?_)⟩
            by_cases e : i = 1
            · subst e
              rw [upd_same, Nat.sub_zero, List.take_of_length_le (by have h1 := (Z1.out.rd (j := 1) (by omega)).len; have h2 := HN1.out; have h3 := HM1.out; unfold last4; rw [List.length_drop]; omega)]
              simp [Lk]
            · rw [upd_ne _ _ e]
          case round =>
            clear Z1
            obtain ⟨k, hkm, rfl, hz⟩ := hrel
            have ZZ := Lib.hid hz
            have hlen1 : (M 1).length = nv1 := by rw [← HN1.out]; exact (hz.rd (j := 1) (by omega)).len
            have HL1 := Lib.hid hlen1
            by_cases hlt : k < m1
            · obtain ⟨u, hu⟩ : ∃ u : Nat, (nv1 : Int) - 1 - (k : Int) = (u : Int) := ⟨nv1 - 1 - k, by omega⟩
              have hun : u < nv1 := by omega
              have hrd := hz.rd (j := 1) (by omega)
              rw [HA1.out, HN1.out] at hrd
              have hcap1 := hrd.cap
              have htop1 := hrd.top
              obtain ⟨b, o, x, rfl, hb, hx, cx⟩ := hrd.get (k := u) hun
              have he : (upd (Lk M 1) 1 ((last4 (M 1)).take (m1 - k))) 1 = (last4 (M 1)).take (m1 - k - 1) ++ [x] := by
                rw [upd_same]
                have h1 : (last4 (M 1))[m1 - k - 1]? = some x := by
                  have h2 := last4_get (M 1) k (by rw [hlen1, HM1.out]; exact hlt)
                  rw [hlen1, HM1.out] at h2
                  rw [h2, show nv1 - 1 - k = u by omega]
                  exact hx
                have h3 := List.take_add_one (l := last4 (M 1)) (i := m1 - k - 1)
                rw [h1, show m1 - k - 1 + 1 = m1 - k by omega] at h3
                exact h3
              have HE := Lib.hid he
              have hxq : b ≠ p := fun e => by
                obtain ⟨A9, n9, c9, m0, m1, m2, m3⟩ := hz.m.at_ 1 (by omega)
                rw [hz.v 1 (by omega)] at m0
                injection m0 with m0
                injection m0 with m0 _ _
                rw [HA1.out] at m0
                subst m0
                exact hz.l.px (e ▸ (m3 b rfl).1)
              clear hz he hx hlen1 hrd
              go_wp2_with fail
              refine (take_some_t X _ _ p 1 _ (by first | rfl | (simp; done) | omega) _ _ x ZZ.out.l (by omega) HE.out).mono ?_
              rintro e w5 ⟨rfl, h5, hf5⟩
              have Z5 := Lib.hid (ZZ.out.take h5 hf5)
              have dx : w5.cell? ⟨b, o + u, none⟩ = some (.int .u64 x) := (hf5.cell (p := ⟨b, o + u, none⟩) hb (fun e => hxq (by injection e)) (fun e => by cases e)).trans cx
              clear h5 hf5 cx ZZ HE
              go_wp2_with fail
              go_roundw
              case rel =>
                refine ⟨k + 1, by omega, by go_num, Z5.out.same (fun i hi => ?_)⟩
                by_cases e : i = 1
                · subst e; rw [upd_same, upd_same]; congr 1
                · rw [upd_ne _ _ e, upd_ne _ _ e, upd_ne _ _ e]
              case measure => simp [intOf]; omega
            · have hkm2 : k = m1 := by omega
              have hz1 : Zz X w wr p q M FA Fn Fc (Lk M 2) := hz.same (fun i hi => by
                by_cases e : i = 1
                · subst e; rw [upd_same, hkm2, Nat.sub_self]; simp [Lk]
                · rw [upd_ne _ _ e]
                  unfold Lk
                  by_cases h : i < 1
                  · rw [if_pos h, if_pos (by omega)]
                  · rw [if_neg h, if_neg (by omega)])
              have Z2 := Lib.hid hz1
              clear hz hz1 ZZ HL1 hlen1 hkm2
              go_wp2_with fail
              refine (take_empty_t X _ _ p 1 _ (by first | rfl | (simp; done) | omega) _ Z2.out.l (by omega) (by simp [Lk])).mono ?_
              rintro e w6 ⟨rfl, rfl⟩
              clear hlt hkm
              go_wp2_with fail
              have hn12 : nv2 ≤ 100 := by rw [← HN2.out]; exact HLn.out 2 (by omega)
              have hix2 : ∀ w : World, (Instr.index 78 (.agg #[.slice Av0 nv0 (Fc 0), .slice Av1 nv1 (Fc 1), .slice Av2 nv2 (Fc 2), .slice Av3 nv3 (Fc 3), .slice Av4 nv4 (Fc 4), .slice Av5 nv5 (Fc 5), .slice Av6 nv6 (Fc 6), .slice Av7 nv7 (Fc 7)]) (.int .i64 2)).run Tryz.prog w = .ok (.slice Av2 nv2 (Fc 2)) w := fun _ => by kernel_rfl
              obtain ⟨m2, hm2⟩ : ∃ m2, min 4 nv2 = m2 := ⟨_, rfl⟩
              have hm42 : m2 ≤ 4 := by omega
              have hmn2 : m2 ≤ nv2 := by omega
              have hmin2 : min (4 : Int) (nv2 : Int) = (m2 : Int) := by omega
              have HM2 := Lib.hid hm2
              clear hm2
              rw [rounds_succ]
              go_wp2_with fail
              go_loopw [55] (fun i ws => ∃ k : Nat, k ≤ m2 ∧ i = .int .i64 k ∧ Zz X w ws p q M FA Fn Fc (upd (Lk M 2) 2 ((last4 (M 2)).take (m2 - k)))) (fun i _ => m2 - (intOf i).toNat)
              case atStart =>
                refine ⟨0, Nat.zero_le _, rfl, Z2.out.same (fun i hi => ?_)⟩
                by_cases e : i = 2
                · subst e
                  rw [upd_same, Nat.sub_zero, List.take_of_length_le (by have h1 := (Z2.out.rd (j := 2) (by omega)).len; have h2 := HN2.out; have h3 := HM2.out; unfold last4; rw [List.length_drop]; omega)]
                  simp [Lk]
                · rw [upd_ne _ _ e]
              case round =>
                clear Z2
                obtain ⟨k, hkm, rfl, hz⟩ := hrel
                have ZZ := Lib.hid hz
                have hlen2 : (M 2).length = nv2 := by rw [← HN2.out]; exact (hz.rd (j := 2) (by omega)).len
                have HL2 := Lib.hid hlen2
                by_cases hlt : k < m2
                · obtain ⟨u, hu⟩ : ∃ u : Nat, (nv2 : Int) - 1 - (k : Int) = (u : Int) := ⟨nv2 - 1 - k, by omega⟩
                  have hun : u < nv2 := by omega
                  have hrd := hz.rd (j := 2) (by omega)
                  rw [HA2.out, HN2.out] at hrd
                  have hcap2 := hrd.cap
                  have htop2 := hrd.top
                  obtain ⟨b, o, x, rfl, hb, hx, cx⟩ := hrd.get (k := u) hun
                  have he : (upd (Lk M 2) 2 ((last4 (M 2)).take (m2 - k))) 2 = (last4 (M 2)).take (m2 - k - 1) ++ [x] := by
                    rw [upd_same]
                    have h1 : (last4 (M 2))[m2 - k - 1]? = some x := by
                      have h2 := last4_get (M 2) k (by rw [hlen2, HM2.out]; exact hlt)
                      rw [hlen2, HM2.out] at h2
                      rw [h2, show nv2 - 1 - k = u by omega]
                      exact hx
                    have h3 := List.take_add_one (l := last4 (M 2)) (i := m2 - k - 1)
                    rw [h1, show m2 - k - 1 + 1 = m2 - k by omega] at h3
                    exact h3
                  have HE := Lib.hid he
                  have hxq : b ≠ p := fun e => by
                    obtain ⟨A9, n9, c9, m0, m1, m2, m3⟩ := hz.m.at_ 2 (by omega)
                    rw [hz.v 2 (by omega)] at m0
                    injection m0 with m0
                    injection m0 with m0 _ _
                    rw [HA2.out] at m0
                    subst m0
                    exact hz.l.px (e ▸ (m3 b rfl).1)
                  clear hz he hx hlen2 hrd
                  go_wp2_with fail
                  refine (take_some_t X _ _ p 2 _ (by first | rfl | (simp; done) | omega) _ _ x ZZ.out.l (by omega) HE.out).mono ?_
                  rintro e w5 ⟨rfl, h5, hf5⟩
                  have Z5 := Lib.hid (ZZ.out.take h5 hf5)
                  have dx : w5.cell? ⟨b, o + u, none⟩ = some (.int .u64 x) := (hf5.cell (p := ⟨b, o + u, none⟩) hb (fun e => hxq (by injection e)) (fun e => by cases e)).trans cx
                  clear h5 hf5 cx ZZ HE
                  go_wp2_with fail
                  go_roundw
                  case rel =>
                    refine ⟨k + 1, by omega, by go_num, Z5.out.same (fun i hi => ?_)⟩
                    by_cases e : i = 2
                    · subst e; rw [upd_same, upd_same]; congr 1
                    · rw [upd_ne _ _ e, upd_ne _ _ e, upd_ne _ _ e]
                  case measure => simp [intOf]; omega
                · have hkm2 : k = m2 := by omega
                  have hz1 : Zz X w wr p q M FA Fn Fc (Lk M 3) := hz.same (fun i hi => by
                    by_cases e : i = 2
                    · subst e; rw [upd_same, hkm2, Nat.sub_self]; simp [Lk]
                    · rw [upd_ne _ _ e]
                      unfold Lk
                      by_cases h : i < 2
                      · rw [if_pos h, if_pos (by omega)]
                      · rw [if_neg h, if_neg (by omega)])
                  have Z3 := Lib.hid hz1
                  clear hz hz1 ZZ HL2 hlen2 hkm2
                  go_wp2_with fail
                  refine (take_empty_t X _ _ p 2 _ (by first | rfl | (simp; done) | omega) _ Z3.out.l (by omega) (by simp [Lk])).mono ?_
                  rintro e w6 ⟨rfl, rfl⟩
                  clear hlt hkm
                  go_wp2_with fail
                  have hn13 : nv3 ≤ 100 := by rw [← HN3.out]; exact HLn.out 3 (by omega)
                  have hix3 : ∀ w : World, (Instr.index 78 (.agg #[.slice Av0 nv0 (Fc 0), .slice Av1 nv1 (Fc 1), .slice Av2 nv2 (Fc 2), .slice Av3 nv3 (Fc 3), .slice Av4 nv4 (Fc 4), .slice Av5 nv5 (Fc 5), .slice Av6 nv6 (Fc 6), .slice Av7 nv7 (Fc 7)]) (.int .i64 3)).run Tryz.prog w = .ok (.slice Av3 nv3 (Fc 3)) w := fun _ => by kernel_rfl
                  obtain ⟨m3, hm3⟩ : ∃ m3, min 4 nv3 = m3 := ⟨_, rfl⟩
                  have hm43 : m3 ≤ 4 := by omega
                  have hmn3 : m3 ≤ nv3 := by omega
                  have hmin3 : min (4 : Int) (nv3 : Int) = (m3 : Int) := by omega
                  have HM3 := Lib.hid hm3
                  clear hm3
                  rw [rounds_succ]
                  go_wp2_with fail
                  go_loopw [55] (fun i ws => ∃ k : Nat, k ≤ m3 ∧ i = .int .i64 k ∧ Zz X w ws p q M FA Fn Fc (upd (Lk M 3) 3 ((last4 (M 3)).take (m3 - k)))) (fun i _ => m3 - (intOf i).toNat)
                  case atStart =>
                    refine ⟨0, Nat.zero_le _, rfl, Z3.out.same (fun i hi => ?_)⟩
                    by_cases e : i = 3
                    · subst e
                      rw [upd_same, Nat.sub_zero, List.take_of_length_le (by have h1 := (Z3.out.rd (j := 3) (by omega)).len; have h2 := HN3.out; have h3 := HM3.out; unfold last4; rw [List.length_drop]; omega)]
                      simp [Lk]
                    · rw [upd_ne _ _ e]
                  case round =>
                    clear Z3
                    obtain ⟨k, hkm, rfl, hz⟩ := hrel
                    have ZZ := Lib.hid hz
                    have hlen3 : (M 3).length = nv3 := by rw [← HN3.out]; exact (hz.rd (j := 3) (by omega)).len
                    have HL3 := Lib.hid hlen3
                    by_cases hlt : k < m3
                    · obtain ⟨u, hu⟩ : ∃ u : Nat, (nv3 : Int) - 1 - (k : Int) = (u : Int) := ⟨nv3 - 1 - k, by omega⟩
                      have hun : u < nv3 := by omega
                      have hrd := hz.rd (j := 3) (by omega)
                      rw [HA3.out, HN3.out] at hrd
                      have hcap3 := hrd.cap
                      have htop3 := hrd.top
                      obtain ⟨b, o, x, rfl, hb, hx, cx⟩ := hrd.get (k := u) hun
                      have he : (upd (Lk M 3) 3 ((last4 (M 3)).take (m3 - k))) 3 = (last4 (M 3)).take (m3 - k - 1) ++ [x] := by
                        rw [upd_same]
                        have h1 : (last4 (M 3))[m3 - k - 1]? = some x := by
                          have h2 := last4_get (M 3) k (by rw [hlen3, HM3.out]; exact hlt)
                          rw [hlen3, HM3.out] at h2
                          rw [h2, show nv3 - 1 - k = u by omega]
                          exact hx
                        have h3 := List.take_add_one (l := last4 (M 3)) (i := m3 - k - 1)
                        rw [h1, show m3 - k - 1 + 1 = m3 - k by omega] at h3
                        exact h3
                      have HE := Lib.hid he
                      have hxq : b ≠ p := fun e => by
                        obtain ⟨A9, n9, c9, m0, m1, m2, m3⟩ := hz.m.at_ 3 (by omega)
                        rw [hz.v 3 (by omega)] at m0
                        injection m0 with m0
                        injection m0 with m0 _ _
                        rw [HA3.out] at m0
                        subst m0
                        exact hz.l.px (e ▸ (m3 b rfl).1)
                      clear hz he hx hlen3 hrd
                      go_wp2_with fail
                      refine (take_some_t X _ _ p 3 _ (by first | rfl | (simp; done) | omega) _ _ x ZZ.out.l (by omega) HE.out).mono ?_
                      rintro e w5 ⟨rfl, h5, hf5⟩
                      have Z5 := Lib.hid (ZZ.out.take h5 hf5)
                      have dx : w5.cell? ⟨b, o + u, none⟩ = some (.int .u64 x) := (hf5.cell (p := ⟨b, o + u, none⟩) hb (fun e => hxq (by injection e)) (fun e => by cases e)).trans cx
                      clear h5 hf5 cx ZZ HE
                      go_wp2_with fail
                      go_roundw
                      case rel =>
                        refine ⟨k + 1, by omega, by go_num, Z5.out.same (fun i hi => ?_)⟩
                        by_cases e : i = 3
                        · subst e; rw [upd_same, upd_same]; congr 1
                        · rw [upd_ne _ _ e, upd_ne _ _ e, upd_ne _ _ e]
                      case measure => simp [intOf]; omega
                    · have hkm2 : k = m3 := by omega
                      have hz1 : Zz X w wr p q M FA Fn Fc (Lk M 4) := hz.same (fun i hi => by
                        by_cases e : i = 3
                        · subst e; rw [upd_same, hkm2, Nat.sub_self]; simp [Lk]
                        · rw [upd_ne _ _ e]
                          unfold Lk
                          by_cases h : i < 3
                          · rw [if_pos h, if_pos (by omega)]
                          · rw [if_neg h, if_neg (by omega)])
                      have Z4 := Lib.hid hz1
                      clear hz hz1 ZZ HL3 hlen3 hkm2
                      go_wp2_with fail
                      refine (take_empty_t X _ _ p 3 _ (by first | rfl | (simp; done) | omega) _ Z4.out.l (by omega) (by simp [Lk])).mono ?_
                      rintro e w6 ⟨rfl, rfl⟩
                      clear hlt hkm
                      go_wp2_with fail
                      have hn14 : nv4 ≤ 100 := by rw [← HN4.out]; exact HLn.out 4 (by omega)
                      have hix4 : ∀ w : World, (Instr.index 78 (.agg #[.slice Av0 nv0 (Fc 0), .slice Av1 nv1 (Fc 1), .slice Av2 nv2 (Fc 2), .slice Av3 nv3 (Fc 3), .slice Av4 nv4 (Fc 4), .slice Av5 nv5 (Fc 5), .slice Av6 nv6 (Fc 6), .slice Av7 nv7 (Fc 7)]) (.int .i64 4)).run Tryz.prog w = .ok (.slice Av4 nv4 (Fc 4)) w := fun _ => by kernel_rfl
                      obtain ⟨m4, hm4⟩ : ∃ m4, min 4 nv4 = m4 := ⟨_, rfl⟩
                      have hm44 : m4 ≤ 4 := by omega
                      have hmn4 : m4 ≤ nv4 := by omega
                      have hmin4 : min (4 : Int) (nv4 : Int) = (m4 : Int) := by omega
                      have HM4 := Lib.hid hm4
                      clear hm4
                      rw [rounds_succ]
                      go_wp2_with fail
                      go_loopw [55] (fun i ws => ∃ k : Nat, k ≤ m4 ∧ i = .int .i64 k ∧ Zz X w ws p q M FA Fn Fc (upd (Lk M 4) 4 ((last4 (M 4)).take (m4 - k)))) (fun i _ => m4 - (intOf i).toNat)
                      case atStart =>
                        refine ⟨0, Nat.zero_le _, rfl, Z4.out.same (fun i hi => ?_)⟩
                        by_cases e : i = 4
                        · subst e
                          rw [upd_same, Nat.sub_zero, List.take_of_length_le (by have h1 := (Z4.out.rd (j := 4) (by omega)).len; have h2 := HN4.out; have h3 := HM4.out; unfold last4; rw [List.length_drop]; omega)]
                          simp [Lk]
                        · rw [upd_ne _ _ e]
                      case round =>
                        clear Z4
                        obtain ⟨k, hkm, rfl, hz⟩ := hrel
                        have ZZ := Lib.hid hz
                        have hlen4 : (M 4).length = nv4 := by rw [← HN4.out]; exact (hz.rd (j := 4) (by omega)).len
                        have HL4 := Lib.hid hlen4
                        by_cases hlt : k < m4
                        · obtain ⟨u, hu⟩ : ∃ u : Nat, (nv4 : Int) - 1 - (k : Int) = (u : Int) := ⟨nv4 - 1 - k, by omega⟩
                          have hun : u < nv4 := by omega
                          have hrd := hz.rd (j := 4) (by omega)
                          rw [HA4.out, HN4.out] at hrd
                          have hcap4 := hrd.cap
                          have htop4 := hrd.top
                          obtain ⟨b, o, x, rfl, hb, hx, cx⟩ := hrd.get (k := u) hun
                          have he : (upd (Lk M 4) 4 ((last4 (M 4)).take (m4 - k))) 4 = (last4 (M 4)).take (m4 - k - 1) ++ [x] := by
                            rw [upd_same]
                            have h1 : (last4 (M 4))[m4 - k - 1]? = some x := by
                              have h2 := last4_get (M 4) k (by rw [hlen4, HM4.out]; exact hlt)
                              rw [hlen4, HM4.out] at h2
                              rw [h2, show nv4 - 1 - k = u by omega]
                              exact hx
                            have h3 := List.take_add_one (l := last4 (M 4)) (i := m4 - k - 1)
                            rw [h1, show m4 - k - 1 + 1 = m4 - k by omega] at h3
                            exact h3
                          have HE := Lib.hid he
                          have hxq : b ≠ p := fun e => by
                            obtain ⟨A9, n9, c9, m0, m1, m2, m3⟩ := hz.m.at_ 4 (by omega)
                            rw [hz.v 4 (by omega)] at m0
                            injection m0 with m0
                            injection m0 with m0 _ _
                            rw [HA4.out] at m0
                            subst m0
                            exact hz.l.px (e ▸ (m3 b rfl).1)
                          clear hz he hx hlen4 hrd
                          go_wp2_with fail
                          refine (take_some_t X _ _ p 4 _ (by first | rfl | (simp; done) | omega) _ _ x ZZ.out.l (by omega) HE.out).mono ?_
                          rintro e w5 ⟨rfl, h5, hf5⟩
                          have Z5 := Lib.hid (ZZ.out.take h5 hf5)
                          have dx : w5.cell? ⟨b, o + u, none⟩ = some (.int .u64 x) := (hf5.cell (p := ⟨b, o + u, none⟩) hb (fun e => hxq (by injection e)) (fun e => by cases e)).trans cx
                          clear h5 hf5 cx ZZ HE
                          go_wp2_with fail
                          go_roundw
                          case rel =>
                            refine ⟨k + 1, by omega, by go_num, Z5.out.same (fun i hi => ?_)⟩
                            by_cases e : i = 4
                            · subst e; rw [upd_same, upd_same]; congr 1
                            · rw [upd_ne _ _ e, upd_ne _ _ e, upd_ne _ _ e]
                          case measure => simp [intOf]; omega
                        · have hkm2 : k = m4 := by omega
                          have hz1 : Zz X w wr p q M FA Fn Fc (Lk M 5) := hz.same (fun i hi => by
                            by_cases e : i = 4
                            · subst e; rw [upd_same, hkm2, Nat.sub_self]; simp [Lk]
                            · rw [upd_ne _ _ e]
                              unfold Lk
                              by_cases h : i < 4
                              · rw [if_pos h, if_pos (by omega)]
                              · rw [if_neg h, if_neg (by omega)])
                          have Z5 := Lib.hid hz1
                          clear hz hz1 ZZ HL4 hlen4 hkm2
                          go_wp2_with fail
                          refine (take_empty_t X _ _ p 4 _ (by first | rfl | (simp; done) | omega) _ Z5.out.l (by omega) (by simp [Lk])).mono ?_
                          rintro e w6 ⟨rfl, rfl⟩
                          clear hlt hkm
                          go_wp2_with fail
                          have hn15 : nv5 ≤ 100 := by rw [← HN5.out]; exact HLn.out 5 (by omega)
                          have hix5 : ∀ w : World, (Instr.index 78 (.agg #[.slice Av0 nv0 (Fc 0), .slice Av1 nv1 (Fc 1), .slice Av2 nv2 (Fc 2), .slice Av3 nv3 (Fc 3), .slice Av4 nv4 (Fc 4), .slice Av5 nv5 (Fc 5), .slice Av6 nv6 (Fc 6), .slice Av7 nv7 (Fc 7)]) (.int .i64 5)).run Tryz.prog w = .ok (.slice Av5 nv5 (Fc 5)) w := fun _ => by kernel_rfl
                          obtain ⟨m5, hm5⟩ : ∃ m5, min 4 nv5 = m5 := ⟨_, rfl⟩
                          have hm45 : m5 ≤ 4 := by omega
                          have hmn5 : m5 ≤ nv5 := by omega
                          have hmin5 : min (4 : Int) (nv5 : Int) = (m5 : Int) := by omega
                          have HM5 := Lib.hid hm5
                          clear hm5
                          rw [rounds_succ]
                          go_wp2_with fail
                          go_loopw [55] (fun i ws => ∃ k : Nat, k ≤ m5 ∧ i = .int .i64 k ∧ Zz X w ws p q M FA Fn Fc (upd (Lk M 5) 5 ((last4 (M 5)).take (m5 - k)))) (fun i _ => m5 - (intOf i).toNat)
                          case atStart =>
                            refine ⟨0, Nat.zero_le _, rfl, Z5.out.same (fun i hi => ?_)⟩
                            by_cases e : i = 5
                            · subst e
                              rw [upd_same, Nat.sub_zero, List.take_of_length_le (by have h1 := (Z5.out.rd (j := 5) (by omega)).len; have h2 := HN5.out; have h3 := HM5.out; unfold last4; rw [List.length_drop]; omega)]
                              simp [Lk]
                            · rw [upd_ne _ _ e]
                          case round =>
                            clear Z5
                            obtain ⟨k, hkm, rfl, hz⟩ := hrel
                            have ZZ := Lib.hid hz
                            have hlen5 : (M 5).length = nv5 := by rw [← HN5.out]; exact (hz.rd (j := 5) (by omega)).len
                            have HL5 := Lib.hid hlen5
                            by_cases hlt : k < m5
                            · obtain ⟨u, hu⟩ : ∃ u : Nat, (nv5 : Int) - 1 - (k : Int) = (u : Int) := ⟨nv5 - 1 - k, by omega⟩
                              have hun : u < nv5 := by omega
                              have hrd := hz.rd (j := 5) (by omega)
                              rw [HA5.out, HN5.out] at hrd
                              have hcap5 := hrd.cap
                              have htop5 := hrd.top
                              obtain ⟨b, o, x, rfl, hb, hx, cx⟩ := hrd.get (k := u) hun
                              have he : (upd (Lk M 5) 5 ((last4 (M 5)).take (m5 - k))) 5 = (last4 (M 5)).take (m5 - k - 1) ++ [x] := by
                                rw [upd_same]
                                have h1 : (last4 (M 5))[m5 - k - 1]? = some x := by
                                  have h2 := last4_get (M 5) k (by rw [hlen5, HM5.out]; exact hlt)
                                  rw [hlen5, HM5.out] at h2
                                  rw [h2, show nv5 - 1 - k = u by omega]
                                  exact hx
                                have h3 := List.take_add_one (l := last4 (M 5)) (i := m5 - k - 1)
                                rw [h1, show m5 - k - 1 + 1 = m5 - k by omega] at h3
                                exact h3
                              have HE := Lib.hid he
                              have hxq : b ≠ p := fun e => by
                                obtain ⟨A9, n9, c9, m0, m1, m2, m3⟩ := hz.m.at_ 5 (by omega)
                                rw [hz.v 5 (by omega)] at m0
                                injection m0 with m0
                                injection m0 with m0 _ _
                                rw [HA5.out] at m0
                                subst m0
                                exact hz.l.px (e ▸ (m3 b rfl).1)
                              clear hz he hx hlen5 hrd
                              go_wp2_with fail
                              refine (take_some_t X _ _ p 5 _ (by first | rfl | (simp; done) | omega) _ _ x ZZ.out.l (by omega) HE.out).mono ?_
                              rintro e w5 ⟨rfl, h5, hf5⟩
                              have Z5 := Lib.hid (ZZ.out.take h5 hf5)
                              have dx : w5.cell? ⟨b, o + u, none⟩ = some (.int .u64 x) := (hf5.cell (p := ⟨b, o + u, none⟩) hb (fun e => hxq (by injection e)) (fun e => by cases e)).trans cx
                              clear h5 hf5 cx ZZ HE
                              go_wp2_with fail
                              go_roundw
                              case rel =>
                                refine ⟨k + 1, by omega, by go_num, Z5.out.same (fun i hi => ?_)⟩
                                by_cases e : i = 5
                                · subst e; rw [upd_same, upd_same]; congr 1
                                · rw [upd_ne _ _ e, upd_ne _ _ e, upd_ne _ _ e]
                              case measure => simp [intOf]; omega
                            · have hkm2 : k = m5 := by omega
                              have hz1 : Zz X w wr p q M FA Fn Fc (Lk M 6) := hz.same (fun i hi => by
                                by_cases e : i = 5
                                · subst e; rw [upd_same, hkm2, Nat.sub_self]; simp [Lk]
                                · rw [upd_ne _ _ e]
                                  unfold Lk
                                  by_cases h : i < 5
                                  · rw [if_pos h, if_pos (by omega)]
                                  · rw [if_neg h, if_neg (by omega)])
                              have Z6 := Lib.hid hz1
                              clear hz hz1 ZZ HL5 hlen5 hkm2
                              go_wp2_with fail
                              refine (take_empty_t X _ _ p 5 _ (by first | rfl | (simp; done) | omega) _ Z6.out.l (by omega) (by simp [Lk])).mono ?_
                              rintro e w6 ⟨rfl, rfl⟩
                              clear hlt hkm
                              go_wp2_with fail
                              have hn16 : nv6 ≤ 100 := by rw [← HN6.out]; exact HLn.out 6 (by omega)
                              have hix6 : ∀ w : World, (Instr.index 78 (.agg #[.slice Av0 nv0 (Fc 0), .slice Av1 nv1 (Fc 1), .slice Av2 nv2 (Fc 2), .slice Av3 nv3 (Fc 3), .slice Av4 nv4 (Fc 4), .slice Av5 nv5 (Fc 5), .slice Av6 nv6 (Fc 6), .slice Av7 nv7 (Fc 7)]) (.int .i64 6)).run Tryz.prog w = .ok (.slice Av6 nv6 (Fc 6)) w := fun _ => by kernel_rfl
                              obtain ⟨m6, hm6⟩ : ∃ m6, min 4 nv6 = m6 := ⟨_, rfl⟩
                              have hm46 : m6 ≤ 4 := by omega
                              have hmn6 : m6 ≤ nv6 := by omega
                              have hmin6 : min (4 : Int) (nv6 : Int) = (m6 : Int) := by omega
                              have HM6 := Lib.hid hm6
                              clear hm6
                              rw [rounds_succ]
                              go_wp2_with fail
                              go_loopw [55] (fun i ws => ∃ k : Nat, k ≤ m6 ∧ i = .int .i64 k ∧ Zz X w ws p q M FA Fn Fc (upd (Lk M 6) 6 ((last4 (M 6)).take (m6 - k)))) (fun i _ => m6 - (intOf i).toNat)
                              case atStart =>
                                refine ⟨0, Nat.zero_le _, rfl, Z6.out.same (fun i hi => ?_)⟩
                                by_cases e : i = 6
                                · subst e
                                  rw [upd_same, Nat.sub_zero, List.take_of_length_le (by have h1 := (Z6.out.rd (j := 6) (by omega)).len; have h2 := HN6.out; have h3 := HM6.out; unfold last4; rw [List.length_drop]; omega)]
                                  simp [Lk]
                                · rw [upd_ne _ _ e]
                              case round =>
                                clear Z6
                                obtain ⟨k, hkm, rfl, hz⟩ := hrel
                                have ZZ := Lib.hid hz
                                have hlen6 : (M 6).length = nv6 := by rw [← HN6.out]; exact (hz.rd (j := 6) (by omega)).len
                                have HL6 := Lib.hid hlen6
                                by_cases hlt : k < m6
                                · obtain ⟨u, hu⟩ : ∃ u : Nat, (nv6 : Int) - 1 - (k : Int) = (u : Int) := ⟨nv6 - 1 - k, by omega⟩
                                  have hun : u < nv6 := by omega
                                  have hrd := hz.rd (j := 6) (by omega)
                                  rw [HA6.out, HN6.out] at hrd
                                  have hcap6 := hrd.cap
                                  have htop6 := hrd.top
                                  obtain ⟨b, o, x, rfl, hb, hx, cx⟩ := hrd.get (k := u) hun
                                  have he : (upd (Lk M 6) 6 ((last4 (M 6)).take (m6 - k))) 6 = (last4 (M 6)).take (m6 - k - 1) ++ [x] := by
                                    rw [upd_same]
                                    have h1 : (last4 (M 6))[m6 - k - 1]? = some x := by
                                      have h2 := last4_get (M 6) k (by rw [hlen6, HM6.out]; exact hlt)
                                      rw [hlen6, HM6.out] at h2
                                      rw [h2, show nv6 - 1 - k = u by omega]
                                      exact hx
                                    have h3 := List.take_add_one (l := last4 (M 6)) (i := m6 - k - 1)
                                    rw [h1, show m6 - k - 1 + 1 = m6 - k by omega] at h3
                                    exact h3
                                  have HE := Lib.hid he
                                  have hxq : b ≠ p := fun e => by
                                    obtain ⟨A9, n9, c9, m0, m1, m2, m3⟩ := hz.m.at_ 6 (by omega)
                                    rw [hz.v 6 (by omega)] at m0
                                    injection m0 with m0
                                    injection m0 with m0 _ _
                                    rw [HA6.out] at m0
                                    subst m0
                                    exact hz.l.px (e ▸ (m3 b rfl).1)
                                  clear hz he hx hlen6 hrd
                                  go_wp2_with fail
                                  refine (take_some_t X _ _ p 6 _ (by first | rfl | (simp; done) | omega) _ _ x ZZ.out.l (by omega) HE.out).mono ?_
                                  rintro e w5 ⟨rfl, h5, hf5⟩
                                  have Z5 := Lib.hid (ZZ.out.take h5 hf5)
                                  have dx : w5.cell? ⟨b, o + u, none⟩ = some (.int .u64 x) := (hf5.cell (p := ⟨b, o + u, none⟩) hb (fun e => hxq (by injection e)) (fun e => by cases e)).trans cx
                                  clear h5 hf5 cx ZZ HE
                                  go_wp2_with fail
                                  go_roundw
                                  case rel =>
                                    refine ⟨k + 1, by omega, by go_num, Z5.out.same (fun i hi => ?_)⟩
                                    by_cases e : i = 6
                                    · subst e; rw [upd_same, upd_same]; congr 1
                                    · rw [upd_ne _ _ e, upd_ne _ _ e, upd_ne _ _ e]
                                  case measure => simp [intOf]; omega
                                · have hkm2 : k = m6 := by omega
                                  have hz1 : Zz X w wr p q M FA Fn Fc (Lk M 7) := hz.same (fun i hi => by
                                    by_cases e : i = 6
                                    · subst e; rw [upd_same, hkm2, Nat.sub_self]; simp [Lk]
                                    · rw [upd_ne _ _ e]
                                      unfold Lk
                                      by_cases h : i < 6
                                      · rw [if_pos h, if_pos (by omega)]
                                      · rw [if_neg h, if_neg (by omega)])
                                  have Z7 := Lib.hid hz1
                                  clear hz hz1 ZZ HL6 hlen6 hkm2
                                  go_wp2_with fail
                                  refine (take_empty_t X _ _ p 6 _ (by first | rfl | (simp; done) | omega) _ Z7.out.l (by omega) (by simp [Lk])).mono ?_
                                  rintro e w6 ⟨rfl, rfl⟩
                                  clear hlt hkm
                                  go_wp2_with fail
                                  have hn17 : nv7 ≤ 100 := by rw [← HN7.out]; exact HLn.out 7 (by omega)
                                  have hix7 : ∀ w : World, (Instr.index 78 (.agg #[.slice Av0 nv0 (Fc 0), .slice Av1 nv1 (Fc 1), .slice Av2 nv2 (Fc 2), .slice Av3 nv3 (Fc 3), .slice Av4 nv4 (Fc 4), .slice Av5 nv5 (Fc 5), .slice Av6 nv6 (Fc 6), .slice Av7 nv7 (Fc 7)]) (.int .i64 7)).run Tryz.prog w = .ok (.slice Av7 nv7 (Fc 7)) w := fun _ => by kernel_rfl
                                  obtain ⟨m7, hm7⟩ : ∃ m7, min 4 nv7 = m7 := ⟨_, rfl⟩
                                  have hm47 : m7 ≤ 4 := by omega
                                  have hmn7 : m7 ≤ nv7 := by omega
                                  have hmin7 : min (4 : Int) (nv7 : Int) = (m7 : Int) := by omega
                                  have HM7 := Lib.hid hm7
                                  clear hm7
                                  rw [rounds_succ]
                                  go_wp2_with fail
                                  go_loopw [55] (fun i ws => ∃ k : Nat, k ≤ m7 ∧ i = .int .i64 k ∧ Zz X w ws p q M FA Fn Fc (upd (Lk M 7) 7 ((last4 (M 7)).take (m7 - k)))) (fun i _ => m7 - (intOf i).toNat)
                                  case atStart =>
                                    refine ⟨0, Nat.zero_le _, rfl, Z7.out.same (fun i hi => ?_)⟩
                                    by_cases e : i = 7
                                    · subst e
                                      rw [upd_same, Nat.sub_zero, List.take_of_length_le (by have h1 := (Z7.out.rd (j := 7) (by omega)).len; have h2 := HN7.out; have h3 := HM7.out; unfold last4; rw [List.length_drop]; omega)]
                                      simp [Lk]
                                    · rw [upd_ne _ _ e]
                                  case round =>
                                    clear Z7
                                    obtain ⟨k, hkm, rfl, hz⟩ := hrel
                                    have ZZ := Lib.hid hz
                                    have hlen7 : (M 7).length = nv7 := by rw [← HN7.out]; exact (hz.rd (j := 7) (by omega)).len
                                    have HL7 := Lib.hid hlen7
                                    by_cases hlt : k < m7
                                    · obtain ⟨u, hu⟩ : ∃ u : Nat, (nv7 : Int) - 1 - (k : Int) = (u : Int) := ⟨nv7 - 1 - k, by omega⟩
                                      have hun : u < nv7 := by omega
                                      have hrd := hz.rd (j := 7) (by omega)
                                      rw [HA7.out, HN7.out] at hrd
                                      have hcap7 := hrd.cap
                                      have htop7 := hrd.top
                                      obtain ⟨b, o, x, rfl, hb, hx, cx⟩ := hrd.get (k := u) hun
                                      have he : (upd (Lk M 7) 7 ((last4 (M 7)).take (m7 - k))) 7 = (last4 (M 7)).take (m7 - k - 1) ++ [x] := by
                                        rw [upd_same]
                                        have h1 : (last4 (M 7))[m7 - k - 1]? = some x := by
                                          have h2 := last4_get (M 7) k (by rw [hlen7, HM7.out]; exact hlt)
                                          rw [hlen7, HM7.out] at h2
                                          rw [h2, show nv7 - 1 - k = u by omega]
                                          exact hx
                                        have h3 := List.take_add_one (l := last4 (M 7)) (i := m7 - k - 1)
                                        rw [h1, show m7 - k - 1 + 1 = m7 - k by omega] at h3
                                        exact h3
                                      have HE := Lib.hid he
                                      have hxq : b ≠ p := fun e => by
                                        obtain ⟨A9, n9, c9, m0, m1, m2, m3⟩ := hz.m.at_ 7 (by omega)
                                        rw [hz.v 7 (by omega)] at m0
                                        injection m0 with m0
                                        injection m0 with m0 _ _
                                        rw [HA7.out] at m0
                                        subst m0
                                        exact hz.l.px (e ▸ (m3 b rfl).1)
                                      clear hz he hx hlen7 hrd
                                      go_wp2_with fail
                                      refine (take_some_t X _ _ p 7 _ (by first | rfl | (simp; done) | omega) _ _ x ZZ.out.l (by omega) HE.out).mono ?_
                                      rintro e w5 ⟨rfl, h5, hf5⟩
                                      have Z5 := Lib.hid (ZZ.out.take h5 hf5)
                                      have dx : w5.cell? ⟨b, o + u, none⟩ = some (.int .u64 x) := (hf5.cell (p := ⟨b, o + u, none⟩) hb (fun e => hxq (by injection e)) (fun e => by cases e)).trans cx
                                      clear h5 hf5 cx ZZ HE
                                      go_wp2_with fail
                                      go_roundw
                                      case rel =>
                                        refine ⟨k + 1, by omega, by go_num, Z5.out.same (fun i hi => ?_)⟩
                                        by_cases e : i = 7
                                        · subst e; rw [upd_same, upd_same]; congr 1
                                        · rw [upd_ne _ _ e, upd_ne _ _ e, upd_ne _ _ e]
                                      case measure => simp [intOf]; omega
                                    · have hkm2 : k = m7 := by omega
                                      have hz1 : Zz X w wr p q M FA Fn Fc (Lk M 8) := hz.same (fun i hi => by
                                        by_cases e : i = 7
                                        · subst e; rw [upd_same, hkm2, Nat.sub_self]; simp [Lk]
                                        · rw [upd_ne _ _ e]
                                          unfold Lk
                                          by_cases h : i < 7
                                          · rw [if_pos h, if_pos (by omega)]
                                          · rw [if_neg h, if_neg (by omega)])
                                      have Z8 := Lib.hid hz1
                                      clear hz hz1 ZZ HL7 hlen7 hkm2
                                      go_wp2_with fail
                                      refine (take_empty_t X _ _ p 7 _ (by first | rfl | (simp; done) | omega) _ Z8.out.l (by omega) (by simp [Lk])).mono ?_
                                      rintro e w6 ⟨rfl, rfl⟩
                                      clear hlt hkm
                                      go_wp2_with fail
                                      rw [rounds_succ]
                                      have hzl := Z8.out.l
                                      have tot : total (Lk M 8) 8 = 0 := rfl
                                      have HL8 := Lib.hid hzl
                                      have HB8 := Lib.hid Z8.out.b
                                      clear hzl Z8
                                      go_wp2_with fail
                                      refine (take_none none 0 _ (.inl rfl)).mono ?_
                                      rintro e w9 ⟨rfl, rfl⟩
                                      go_wp2_with fail
                                      refine (len_any X _ _ p _ HL8.out).mono ?_
                                      rw [tot]
                                      rintro e w9 ⟨rfl, rfl⟩
                                      go_wp2_with fail
                                      refine (put_nil 0 _ 1 1 _).mono ?_
                                      rintro e w9 ⟨rfl, rfl⟩
                                      go_wp2_with fail
                                      refine (len_nil _).mono ?_
                                      rintro e w9 ⟨rfl, rfl⟩
                                      go_wp2_with fail
                                      refine (all_none none 0 _ (.inl rfl)).mono ?_
                                      rintro e w10 ⟨A10, c10, rfl, hb10⟩
                                      go_wp2_with fail
                                      refine (clone_nil _).mono ?_
                                      rintro e w11 ⟨rfl, rfl⟩
                                      go_wp2_with fail
                                      go_ret
                                      exact ⟨rfl, (HB8.out.alloc HB8.out.size _).trans (hb10.mono (by simp; have := HB8.out.size; omega))⟩
end Go.Proofs.YtbedboekfkobjaaGreatDoor.Lc
