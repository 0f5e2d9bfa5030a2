/- A slice of structs of one-cell fields, told as a list; append to such a row of the call's own. No program is named here. -/
import Derived.Test.YtmnjdmcocifogaaGreatDoorRow
import Derived.Maps.AppendAt
namespace Go.Proofs.YtmnjdmcocifogaaGreatDoor.Rw
open Go Go.RowKit Go.ChangeShapes Go.WideShapes Go.ChangeAt
set_option linter.unusedVariables false

/-- '.slice A n c' reads as xs, sz cells each, below block B. -/
structure Rs {α : Type} (enc : α → List Value) (sz : Nat) (w : World) (B : Nat) (A : Option Addr) (n c : Nat) (xs : List α) : Prop where
  len : xs.length = n
  cap : n ≤ c
  top : c ≤ 9223372036854775807
  at_ : 0 < n → ∃ b o, A = some ⟨b, o, none⟩ ∧ b < B ∧ ∀ j x, xs[j]? = some x → ∀ i u, i < sz → (enc x)[i]? = some u → w.cell? ⟨b, o + j * sz + i, none⟩ = some u
def flat {α : Type} (enc : α → List Value) (xs : List α) : List Value := xs.flatMap enc

section
variable {α : Type} {enc : α → List Value} {sz : Nat} {w w' : World} {B B' : Nat} {A : Option Addr} {n c : Nat} {xs : List α}
theorem flat_append (xs ys : List α) : flat enc (xs ++ ys) = flat enc xs ++ flat enc ys := by unfold flat; exact List.flatMap_append
theorem flat_len (he : ∀ x, (enc x).length = sz) (xs : List α) : (flat enc xs).length = xs.length * sz := by
  induction xs with
  | nil => simp [flat]
  | cons x l ih =>
    show (enc x ++ flat enc l).length = _
    rw [List.length_append, he, ih, List.length_cons, Nat.add_mul]; omega
theorem flat_at (he : ∀ x, (enc x).length = sz) : ∀ (xs : List α) (j : Nat) (x : α) (i : Nat), xs[j]? = some x → i < sz → (flat enc xs)[j * sz + i]? = (enc x)[i]? := by
  intro xs
  induction xs with
  | nil => intro j x i h; simp at h
  | cons y l ih =>
    intro j x i h hi
    show (enc y ++ flat enc l)[j * sz + i]? = _
    cases j with
    | zero =>
      simp at h; subst h
      rw [Nat.zero_mul, Nat.zero_add, List.getElem?_append_left (by rw [he]; exact hi)]
    | succ k =>
      rw [List.getElem?_append_right (by rw [he, Nat.add_mul]; omega), he]
      have e : (k + 1) * sz + i - sz = k * sz + i := by rw [Nat.add_mul]; omega
      rw [e]
      exact ih k x i (by simpa using h) hi
theorem Rs.nil_ : Rs enc sz w B none 0 0 [] := ⟨rfl, Nat.le_refl _, by omega, fun h => absurd h (by omega)⟩
theorem Rs.empty (A : Option Addr) (hc : c ≤ 9223372036854775807) : Rs enc sz w B A 0 c [] := ⟨rfl, Nat.zero_le _, hc, fun h => absurd h (by omega)⟩
theorem Rs.keep (h : Rs enc sz w B A n c xs) (hk : ∀ p : Addr, p.block < B → w'.cell? p = w.cell? p) : Rs enc sz w' B A n c xs :=
  ⟨h.len, h.cap, h.top, fun hn => by
    obtain ⟨b, o, e, hb, hc⟩ := h.at_ hn
    exact ⟨b, o, e, hb, fun j x hx i u hi hu => (hk ⟨b, o + j * sz + i, none⟩ hb).trans (hc j x hx i u hi hu)⟩⟩
theorem Rs.below (h : Rs enc sz w B A n c xs) (hb : Below B w w') : Rs enc sz w' B A n c xs := h.keep fun _ hp => hb.cell hp
theorem Rs.more (h : Rs enc sz w B A n c xs) (hB : B ≤ B') : Rs enc sz w B' A n c xs :=
  ⟨h.len, h.cap, h.top, fun hn => by
    obtain ⟨b, o, e, hb, hc⟩ := h.at_ hn
    exact ⟨b, o, e, by omega, hc⟩⟩
theorem Rs.later (h : Rs enc sz w w.heap.size A n c xs) (hb : Below w.heap.size w w') : Rs enc sz w' w'.heap.size A n c xs := (h.below hb).more hb.size
theorem Rs.alloc (h : Rs enc sz w B A n c xs) (hB : B ≤ w.heap.size) (o : Obj) : Rs enc sz (w.alloc o) B A n c xs := h.keep fun p hp => World.cell?_alloc_lt w o p (by omega)
theorem Rs.setCell (h : Rs enc sz w B A n c xs) {p : Addr} (hB : B ≤ p.block) (u : Value) : Rs enc sz (w.setCell p u) B A n c xs :=
  h.keep fun q hq => World.cell?_setCell_other w p q u (fun e => by subst e; omega)
theorem Rs.grown (h : Rs enc sz w B A n c xs) {row : Option Nat} (hg : w.grownBy w' row) (hB : B ≤ w.heap.size) (hr : ∀ g, row = some g → B ≤ g) : Rs enc sz w' B A n c xs :=
  h.keep fun p hp => World.cell?_of_block (hg.block p.block (by omega) (fun e => by have := hr _ e.symm; omega))
theorem Rs.get (h : Rs enc sz w B A n c xs) {k : Nat} (hk : k < n) : ∃ b o x, A = some ⟨b, o, none⟩ ∧ b < B ∧ xs[k]? = some x ∧ ∀ i u, i < sz → (enc x)[i]? = some u → w.cell? ⟨b, o + k * sz + i, none⟩ = some u := by
  obtain ⟨b, o, e, hb, hc⟩ := h.at_ (by omega)
  have hl : k < xs.length := by have := h.len; omega
  exact ⟨b, o, xs[k], e, hb, List.getElem?_eq_getElem hl, hc k _ (List.getElem?_eq_getElem hl)⟩
theorem Rs.front (h : Rs enc sz w B A n c xs) {i : Nat} (hi : i ≤ n) : Rs enc sz w B A i c (xs.take i) :=
  ⟨by rw [List.length_take, h.len]; omega, by have := h.cap; omega, h.top, fun hn => by
    obtain ⟨b, o, e, hb, hc⟩ := h.at_ (by omega)
    exact ⟨b, o, e, hb, fun j x hx => hc j x (by rw [List.getElem?_take] at hx; split at hx <;> simp_all)⟩⟩
theorem Rs.back (h : Rs enc sz w B A n c xs) {i b o : Nat} (hi : i ≤ n) (hA : A = some ⟨b, o, none⟩) {A' : Option Addr} (hA' : i < n → A' = some ⟨b, o + i * sz, none⟩) : Rs enc sz w B A' (n - i) (c - i) (xs.drop i) :=
  ⟨by rw [List.length_drop, h.len], by have := h.cap; omega, by have := h.top; omega, fun hn => by
    obtain ⟨b', o', e, hb, hc⟩ := h.at_ (by omega)
    rw [hA] at e
    injection e with e
    injection e with e1 e2
    subst e1 e2
    refine ⟨b, o + i * sz, hA' (by omega), hb, fun j x hx q u hq hu => ?_⟩
    have := hc (i + j) x (by rw [List.getElem?_drop] at hx; exact hx) q u hq hu
    rw [Nat.add_mul] at this
    rw [show o + i * sz + j * sz + q = o + (i * sz + j * sz) + q by omega]
    exact this⟩
theorem Rs.own_rs (he : ∀ x, (enc x).length = sz) {base : Nat} {e : TypeId} (hn : xs.length = n) (h : w.ownsRow base e sz (.slice A n c) n (flat enc xs)) : Rs enc sz w w.heap.size A n c xs := by
  have hlt := h.lt
  rcases h.2 with ⟨h1, h0⟩ | ⟨g, cap, cur, hs, hbg, hg, hnc, hcm, hcs, htake⟩
  · subst h0
    injection h1 with h1 _ h2
    subst h1 h2
    obtain rfl := List.eq_nil_of_length_eq_zero hn
    exact Rs.nil_
  · unfold maxLen at hcm
    injection hs with hA _ hc
    subst hA hc
    refine ⟨hn, hnc, hcm, fun _ => ⟨g, 0, rfl, (hlt g rfl).2, fun j x hx i u hi hu => ?_⟩⟩
    have hj : j < n := by have := (List.getElem?_eq_some_iff.1 hx).1; omega
    have hlt2 : j * sz + i < n * sz := by
      have : (j + 1) * sz ≤ n * sz := Nat.mul_le_mul_right sz (by omega)
      rw [Nat.add_mul] at this; omega
    rw [Nat.zero_add, h.cellAt (j * sz + i) hlt2, flat_at he xs j x i hx hi]
    exact hu
/-- One struct, just built. -/
theorem rs_one (he : ∀ x, (enc x).length = sz) (w : World) (y : α) (t : TypeId) {cs : Array Value} (hcs : cs.toList = enc y) : Rs enc sz (w.alloc (.cells cs t)) (w.heap.size + 1) (some ⟨w.heap.size, 0, none⟩) 1 1 [y] := by
  refine ⟨rfl, Nat.le_refl _, by omega, fun _ => ⟨w.heap.size, 0, rfl, by omega, fun j x hx i u hi hu => ?_⟩⟩
  cases j with
  | zero =>
    simp at hx; subst hx
    have : cs[i]? = some u := by rw [← Array.getElem?_toList, hcs]; exact hu
    simp [this]
  | succ k => simp at hx
end

section
variable {P : Program} {w : World} {α : Type} {enc : α → List Value} {sz : Nat}
theorem run_append_rs (he : ∀ x, (enc x).length = sz) (base : Nat) (t ty e : TypeId) (i : TypeInfo) (z : Value) (bytes : Nat) (ht : P.underlying t = some (.slice e)) (hi : P.info? e = some i) (hz : i.zero = some z)
    (hsize : i.size = sz) (hby : i.bytes = bytes) (hzs : z.cells.size = sz) (hsz : 0 < sz)
    (v : Value) (n : Nat) (xs : List Value) (hown : w.ownsRow base e sz v n xs)
    (B : Nat) (A : Option Addr) (m c : Nat) (ys : List α) (hr : Rs enc sz w B A m c ys) (h1 : ∀ y, ∀ u ∈ enc y, u.oneCell' = true)
    (h63 : n + m ≤ maxLen) (hbytes : (n + m) * bytes ≤ 140737488355328) (hbase : base ≤ w.heap.size) :
    ∃ v' w', (Builtin.append_ #[t, t] ty #[v, .slice A m c]).run P w = .ok v' w' ∧ w'.ownsRow base e sz v' (n + m) (xs ++ flat enc ys) ∧ w.grownBy w' v.ownBlock ∧
      (v'.ownBlock = v.ownBlock ∨ v'.ownBlock = some w.heap.size) := by
  by_cases hA : A = none
  · subst hA
    have hm : m = 0 := by
      rcases Nat.eq_zero_or_pos m with h0 | h0
      · exact h0
      · obtain ⟨b, o, h, _⟩ := hr.at_ h0
        cases h
    subst hm
    obtain rfl := List.eq_nil_of_length_eq_zero hr.len
    refine ⟨v, w, ?_, by simpa [flat] using hown, World.grownBy.refl w _, .inl rfl⟩
    rcases hown.2 with ⟨rfl, rfl⟩ | ⟨g, cap, cur, rfl, _, _, hnc, _⟩
    · simp [Builtin.append_, run_underlying ht, sizeOf, typeInfo, hi, Builtin.lenOf, Builtin.firstCells]
    · simp [Builtin.append_, run_underlying ht, sizeOf, typeInfo, hi, Builtin.lenOf, Builtin.firstCells, hnc, storeCells]
  · obtain ⟨ad, rfl⟩ := Option.ne_none_iff_exists'.1 hA
    have hcells : ∀ j u, (flat enc ys)[j]? = some u → w.cell? (ad.add j) = some u := by
      intro j u hu
      have hjl : j < ys.length * sz := by have := (List.getElem?_eq_some_iff.1 hu).1; rw [flat_len he] at this; exact this
      have hml := hr.len
      rcases Nat.eq_zero_or_pos m with h0 | h0
      · have : ys.length = 0 := by omega
        rw [this] at hjl; omega
      · obtain ⟨b, o, h, _, hc⟩ := hr.at_ h0
        injection h with h
        subst h
        have hq : j / sz < ys.length := (Nat.div_lt_iff_lt_mul hsz).2 hjl
        have hmod : j % sz < sz := Nat.mod_lt _ hsz
        have hdec : j / sz * sz + j % sz = j := by rw [Nat.mul_comm]; exact Nat.div_add_mod j sz
        have hy := List.getElem?_eq_getElem hq
        have hf := flat_at he ys (j / sz) _ (j % sz) hy hmod
        rw [hdec, hu] at hf
        have := hc (j / sz) _ hy (j % sz) u hmod hf.symm
        rw [Lw.add_eq rfl]
        rw [Nat.add_assoc, hdec] at this
        exact this
    obtain ⟨v', w', hrun, h2, h3, _, h5⟩ := run_append_own_at (P := P) w base t ty e i z sz bytes ht hi hz hsize hby hzs hsz v n xs hown ad m c (flat enc ys) (by rw [flat_len he, hr.len]) hcells
      (fun u hu => by obtain ⟨y, _, hy⟩ := List.mem_flatMap.1 hu; exact h1 y u hy) h63 hbytes hbase
    exact ⟨v', w', hrun, h2, h3, h5⟩
theorem append_rs (he : ∀ x, (enc x).length = sz) {ops : Array Oper} {rest : List Oper} {o : Oper} {a : Act} {Q : Exit → Act → World → Prop} (hgd : o.guard = none) (s x : Operand) (t : TypeId)
    (ho : o.op = .call { callee := .builtin .append, args := #[s, x], argTypes := #[t, t] })
    (base : Nat) (e : TypeId) (i : TypeInfo) (z : Value) (bytes : Nat) (ht : P.underlying t = some (.slice e)) (hi : P.info? e = some i) (hz : i.zero = some z)
    (hsize : i.size = sz) (hby : i.bytes = bytes) (hzs : z.cells.size = sz) (hsz : 0 < sz)
    (v : Value) (n : Nat) (xs : List Value) (hs : a.eval s = v) (hown : w.ownsRow base e sz v n xs)
    (B : Nat) (A : Option Addr) (m c : Nat) (ys : List α) (hx : a.eval x = .slice A m c) (hr : Rs enc sz w B A m c ys) (h1 : ∀ y, ∀ u ∈ enc y, u.oneCell' = true)
    (k : Nat) (hk : n + m = k) (zs : List Value) (hzs' : xs ++ flat enc ys = zs) (h63 : n + m ≤ maxLen) (hbytes : (n + m) * bytes ≤ 140737488355328) (hbase : base ≤ w.heap.size)
    (h : ∀ A' c' w', w'.ownsRow base e sz (.slice A' k c') k zs → w.grownBy w' v.ownBlock → ((Value.slice A' k c').ownBlock = v.ownBlock ∨ (Value.slice A' k c').ownBlock = some w.heap.size) → wpList P ops Q rest (a.put o.dst (.slice A' k c')) w') : wpList P ops Q (o :: rest) a w := by
  subst hk hzs'
  obtain ⟨v', w', hrun, h2, h3, h4⟩ := run_append_rs (P := P) he base t o.type e i z bytes ht hi hz hsize hby hzs hsz v n xs hown B A m c ys hr h1 h63 hbytes hbase
  obtain ⟨A', c', rfl⟩ := own_slice h2
  exact Lib.wpList_append_run w hgd s x t t ho v _ hs hx _ w' hrun (h A' c' w' h2 h3 h4)
end
end Go.Proofs.YtmnjdmcocifogaaGreatDoor.Rw
