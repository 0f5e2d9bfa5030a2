/- Layer 15 (bag): a bag in memory; contracts of the calls that look for one entry, and turn it. -/
import Derived.Test.YtlpjlphofjghhaaGreatDoorBase6
import Derived.Test.YtlpjlphofjghhaaGreatDoorBase1
import Derived.Test.YtlpjlphofjghhaaGreatDoorSnapFresh
namespace Go.Proofs.YtlpjlphofjghhaaGreatDoor.Ba
open Go Go.ChangeShapes Go.WideShapes Go.ChangeAt Go.RowKit Go.Maps Rw Hi Mt
set_option linter.unusedVariables false

/-- A pointer to a block's first cell, or none. -/
abbrev eP : Enc (Option Nat) where
  val x := .pointer (x.map fun b => ⟨b, 0, none⟩)
  dat x := match x with
    | none => .lit (.bool false)
    | some b => .lit (.int .i64 b)
  R v := match v with
    | .pointer none => some (.lit (.bool false), [])
    | .pointer (some ⟨b, 0, none⟩) => some (.lit (.int .i64 b), [])
    | _ => none
  mk_ x := by cases x <;> rfl
  inv v y h := by
    split at h
    · injection h with h; exact ⟨none, rfl, h.symm⟩
    · rename_i b; injection h with h; exact ⟨some b, rfl, h.symm⟩
    · cases h
  inj x y h := by
    cases x <;> cases y
    · rfl
    · injection h with h; cases h
    · injection h with h; cases h
    · injection h with h; injection h with _ h; rw [Int.ofNat_inj.1 h]
/-- A number of 64 bits. -/
abbrev U64 (k : Int) : Prop := 0 ≤ k ∧ k ≤ 18446744073709551615
abbrev ptr (p : Nat) : Value := .pointer (some ⟨p, 0, none⟩)
abbrev MP (w : World) (a : Nat) (L : List (Int × Option Nat)) : Prop := Mo Tryz.prog 30 eP w a L
theorem zeroP (w : World) : (zeroValue 113).run Tryz.prog w = .ok (eP.val none) w := by kernel_rfl

/-- All but the blocks of a kind stays. -/
structure Fz (C : Nat → Prop) (w w' : World) : Prop where
  os : w'.os = w.os
  tape : w'.tape = w.tape
  output : w'.output = w.output
  size : w.heap.size ≤ w'.heap.size
  block : ∀ k, k < w.heap.size → ¬ C k → w'.heap[k]? = w.heap[k]?
section
variable {C D : Nat → Prop} {w w' w'' : World}
theorem Fz.refl (C : Nat → Prop) (w : World) : Fz C w w := ⟨rfl, rfl, rfl, Nat.le_refl _, fun _ _ _ => rfl⟩
theorem Fz.trans (h : Fz C w w') (h' : Fz C w' w'') : Fz C w w'' :=
  ⟨h'.os.trans h.os, h'.tape.trans h.tape, h'.output.trans h.output, Nat.le_trans h.size h'.size, fun k hk hc => (h'.block k (Nat.lt_of_lt_of_le hk h.size) hc).trans (h.block k hk hc)⟩
theorem Fz.mono (h : Fz C w w') (hd : ∀ k, k < w.heap.size → C k → D k) : Fz D w w' := ⟨h.os, h.tape, h.output, h.size, fun k hk hc => h.block k hk (fun e => hc (hd k hk e))⟩
theorem Fz.of_below (h : Below w.heap.size w w') : Fz C w w' := ⟨h.os, h.tape, h.output, h.size, fun k hk _ => h.block k hk⟩
theorem Fz.of_grown {row : Option Nat} (h : w.grownBy w' row) (hr : ∀ g, row = some g → g < w.heap.size → C g) : Fz C w w' :=
  ⟨h.os, h.tape, h.output, h.size, fun k hk hc => h.block k hk (fun e => hc (hr k e.symm hk))⟩
theorem Fz.of_set {a : Addr} (v : Value) (h : C a.block) : Fz C w (w.setCell a v) := Fz.of_grown (Hi.grown_setCell w a v) (fun g e _ => by injection e with e; exact e ▸ h)
theorem Fz.below (h : Fz C w w') {B : Nat} (hB : B ≤ w.heap.size) (hc : ∀ k, C k → B ≤ k) : Below B w w' :=
  ⟨h.os, h.tape, h.output, h.size, fun k hk => h.block k (by omega) (fun e => by have := hc k e; omega)⟩
theorem Fz.cell (h : Fz C w w') {p : Addr} (hp : p.block < w.heap.size) (hc : ¬ C p.block) : w'.cell? p = w.cell? p := by
  unfold World.cell?; rw [h.block _ hp hc]
theorem Fz.frozen (h : Fz C w w') {p : Addr} (hp : p.block < w.heap.size) (hc : ¬ C p.block) : w'.frozen? p = w.frozen? p := by
  unfold World.frozen?; rw [h.block _ hp hc]
end

/-- An entry: where it and its cell lie, and what it holds. -/
structure En where
  e : Nat
  c : Nat
  word : Int
  born : Int
  since : Int
  proved : Int
/-- Another value at an id. -/
def up {β : Type} (L : List (Int × β)) (id : Int) (f : β → β) : List (Int × β) := L.map fun q => if q.1 = id then (q.1, f q.2) else q
/-- One more, by rising ids. -/
def ins {β : Type} (L : List (Int × β)) (id : Int) (x : β) : List (Int × β) := L.filter (fun q => decide (q.1 < id)) ++ (id, x) :: L.filter (fun q => decide (id < q.1))
def Ris {β : Type} (L : List (Int × β)) : Prop := L.Pairwise (fun a b => a.1 < b.1)
section
variable {β γ : Type} {L : List (Int × β)} {id : Int}
theorem up_keys (f : β → β) : (up L id f).map Prod.fst = L.map Prod.fst := by
  unfold up; rw [List.map_map]; apply List.map_congr_left; intro q _; simp only [Function.comp]; split <;> rfl
theorem up_len (f : β → β) : (up L id f).length = L.length := by simp [up]
theorem Ris.nd (h : Ris L) : Nd L := by
  unfold Nd; unfold Ris at h
  rw [List.nodup_iff_pairwise_ne, List.pairwise_map]
  exact h.imp (fun hab => by omega)
theorem ris_keys : Ris L ↔ (L.map Prod.fst).Pairwise (· < ·) := by unfold Ris; rw [List.pairwise_map]
theorem Ris.up (h : Ris L) (f : β → β) : Ris (up L id f) := by rw [ris_keys, up_keys]; exact ris_keys.1 h
theorem mem_up {f : β → β} {q : Int × β} (h : q ∈ up L id f) : ∃ r ∈ L, r.1 = q.1 ∧ (q = r ∧ r.1 ≠ id ∨ q = (id, f r.2) ∧ r.1 = id) := by
  unfold Ba.up at h
  obtain ⟨r, hr, e⟩ := List.mem_map.1 h
  by_cases hi : r.1 = id
  · rw [if_pos hi] at e; subst e; exact ⟨r, hr, rfl, .inr ⟨by rw [hi], hi⟩⟩
  · rw [if_neg hi] at e; subst e; exact ⟨r, hr, rfl, .inl ⟨rfl, hi⟩⟩
theorem up_none (h : id ∉ L.map Prod.fst) (f : β → β) : up L id f = L := by
  unfold up
  conv => rhs; rw [← List.map_id L]
  apply List.map_congr_left
  intro q hq
  rw [if_neg (fun e => h (List.mem_map.2 ⟨q, hq, e⟩))]; rfl
theorem up_map {g : β → γ} {f : β → β} {f' : γ → γ} (h : ∀ x, g (f x) = f' (g x)) : (up L id f).map (fun q => (q.1, g q.2)) = up (L.map fun q => (q.1, g q.2)) id f' := by
  unfold up
  rw [List.map_map, List.map_map]
  apply List.map_congr_left
  intro q _
  simp only [Function.comp]
  by_cases hi : q.1 = id
  · rw [if_pos hi, if_pos hi, h]
  · rw [if_neg hi, if_neg hi]
theorem fnd_up_same {f : β → β} {x : β} (h : fnd L id = some x) : fnd (up L id f) id = some (f x) := by
  unfold fnd up at *
  rw [List.find?_map]
  have e : ((fun a : Int × β => a.1 == id) ∘ fun q : Int × β => if q.1 = id then (q.1, f q.2) else q) = fun a => a.1 == id := by
    funext q; simp only [Function.comp]; split <;> rfl
  rw [e]
  cases hf : L.find? (fun a => a.1 == id) with
  | none => rw [hf] at h; cases h
  | some q =>
    rw [hf] at h
    injection h with h
    have h2 := List.find?_some hf
    simp at h2
    simp [h2, h]
theorem fnd_up_ne {f : β → β} {j : Int} (h : j ≠ id) : fnd (up L id f) j = fnd L j := by
  unfold fnd up at *
  rw [List.find?_map]
  have e : ((fun a : Int × β => a.1 == j) ∘ fun q : Int × β => if q.1 = id then (q.1, f q.2) else q) = fun a => a.1 == j := by
    funext q; simp only [Function.comp]; split <;> rfl
  rw [e]
  cases hf : L.find? (fun a => a.1 == j) with
  | none => rfl
  | some q =>
    have h2 := List.find?_some hf
    simp at h2
    simp [show ¬ q.1 = id from fun e => h (h2 ▸ e)]
theorem up_same {f : β → β} (h : ∀ x, fnd L id = some x → f x = x) (hn : Nd L) : up L id f = L := by
  unfold up
  conv => rhs; rw [← List.map_id L]
  apply List.map_congr_left
  intro q hq
  by_cases hi : q.1 = id
  · rw [if_pos hi]
    have := fnd_mem hn (k := q.1) (x := q.2) hq
    rw [hi] at this
    rw [h _ this]; rfl
  · rw [if_neg hi]; rfl
theorem Ris.split (h : Ris L) (hn : id ∉ L.map Prod.fst) : L.filter (fun q => decide (q.1 < id)) ++ L.filter (fun q => decide (id < q.1)) = L := by
  unfold Ris at h
  induction L with
  | nil => rfl
  | cons q r ih =>
    rw [List.pairwise_cons] at h
    have h1 : id ∉ r.map Prod.fst := fun e => hn (List.mem_cons_of_mem _ e)
    have h2 : q.1 ≠ id := fun e => hn (e ▸ List.mem_cons_self)
    by_cases hq : q.1 < id
    · rw [List.filter_cons_of_pos (by simpa using hq), List.filter_cons_of_neg (by simp; omega), List.cons_append, ih h.2 h1]
    · rw [List.filter_cons_of_neg (by simpa using hq), List.filter_cons_of_pos (by simp; omega)]
      have e1 : r.filter (fun q => decide (q.1 < id)) = [] := by
        rw [List.filter_eq_nil_iff]; intro a ha; have := h.1 a ha; simp; omega
      have e2 : r.filter (fun q => decide (id < q.1)) = r := by
        rw [List.filter_eq_self]; intro a ha; have := h.1 a ha; simp; omega
      rw [e1, e2]; rfl
theorem Ris.ins (h : Ris L) (x : β) : Ris (ins L id x) := by
  unfold Ris Ba.ins at *
  rw [List.pairwise_append, List.pairwise_cons]
  refine ⟨h.sublist List.filter_sublist, ⟨fun a ha => by have := (List.mem_filter.1 ha).2; simpa using this, h.sublist List.filter_sublist⟩, fun a ha b hb => ?_⟩
  have h1 := (List.mem_filter.1 ha).2
  simp at h1
  rcases List.mem_cons.1 hb with rfl | hb
  · exact h1
  · have h2 := (List.mem_filter.1 hb).2
    simp at h2
    omega
theorem ins_perm (h : Ris L) (hn : id ∉ L.map Prod.fst) (x : β) : ((id, x) :: L).Perm (ins L id x) := by
  unfold ins
  refine List.Perm.trans ?_ List.perm_middle.symm
  exact List.Perm.cons _ (by rw [h.split hn])
theorem ins_len (h : Ris L) (hn : id ∉ L.map Prod.fst) (x : β) : (ins L id x).length = L.length + 1 := by
  have := (ins_perm h hn x).length_eq; simpa using this.symm
theorem mem_ins (h : Ris L) (hn : id ∉ L.map Prod.fst) {x : β} {q : Int × β} : q ∈ ins L id x ↔ q = (id, x) ∨ q ∈ L := by
  rw [← (ins_perm h hn x).mem_iff, List.mem_cons]
theorem ins_map {g : β → γ} {x : β} : (ins L id x).map (fun q => (q.1, g q.2)) = ins (L.map fun q => (q.1, g q.2)) id (g x) := by
  unfold ins
  rw [List.map_append, List.map_cons, List.filter_map, List.filter_map]
  rfl
theorem fnd_map {g : β → γ} (k : Int) : fnd (L.map fun q => (q.1, g q.2)) k = (fnd L k).map g := by
  unfold fnd
  rw [List.find?_map, Option.map_map, Option.map_map]
  rfl
end
abbrev bl (L : List (Int × En)) : List (Int × Option Nat) := L.map fun q => (q.1, some q.2.e)
theorem bl_keys (L : List (Int × En)) : (bl L).map Prod.fst = L.map Prod.fst := by simp [bl, Function.comp_def]
theorem bl_up (L : List (Int × En)) (id : Int) (f : En → En) (hf : ∀ x, (f x).e = x.e) : bl (up L id f) = bl L := by
  unfold bl up
  rw [List.map_map]
  apply List.map_congr_left
  intro q _
  simp only [Function.comp]
  split
  · rw [hf]
  · rfl
/-- One entry lies there. -/
structure Ok (C : Nat → Prop) (w : World) (x : En) : Prop where
  k0 : w.cell? ⟨x.e, 0, none⟩ = some (ptr x.c)
  k1 : w.cell? ⟨x.e, 1, none⟩ = some (.int .u64 x.born)
  k2 : w.cell? ⟨x.e, 2, none⟩ = some (.int .u64 x.since)
  k3 : w.cell? ⟨x.e, 3, none⟩ = some (.int .u64 x.proved)
  kc : w.cell? ⟨x.c, 0, none⟩ = some (.int .u64 x.word)
  f2 : w.frozen? ⟨x.e, 2, none⟩ = false
  f3 : w.frozen? ⟨x.e, 3, none⟩ = false
  fc : w.frozen? ⟨x.c, 0, none⟩ = false
  ie : C x.e
  ic : C x.c
  uw : U64 x.word
  ub : U64 x.born
  us : U64 x.since
  up_ : U64 x.proved
/-- A bag at block p, its entries' map at block a; what of it may be written lies in C, the list's row in R, which nobody writes. -/
structure Bt (C R : Nat → Prop) (w : World) (p a : Nat) (L : List (Int × En)) (S : List Int) : Prop where
  c0 : w.cell? ⟨p, 0, none⟩ = some (.map (some a))
  f1 : w.frozen? ⟨p, 1, none⟩ = false
  row : ∃ A n c, w.cell? ⟨p, 1, none⟩ = some (.slice A n c) ∧ Rd (Value.int .u64) w w.heap.size A n c S ∧ (0 < n → ∀ b o, A = some ⟨b, o, none⟩ → R b)
  nd : S.Nodup
  us : Sn.U64s S
  mo : MP w a (bl L)
  en : ∀ q ∈ L, Ok C w q.2
  ap : ∀ q ∈ L, ∀ r ∈ L, (q.2.e = r.2.e ∨ q.2.c = r.2.c) → q.1 = r.1
  ri : Ris L
  ui : ∀ q ∈ L, U64 q.1
  ip : C p
  ia : C a
  cr : ∀ g, C g → ¬ R g
section
variable {C D R T : Nat → Prop} {w w' : World} {p a : Nat} {L : List (Int × En)} {S : List Int}
theorem Ok.lt {x : En} (h : Ok C w x) : x.e < w.heap.size ∧ x.c < w.heap.size := ⟨Lw.lt_heap h.k0, Lw.lt_heap h.kc⟩
theorem Ok.blk {x : En} (h : Ok C w x) (he : w'.heap[x.e]? = w.heap[x.e]?) (hc : w'.heap[x.c]? = w.heap[x.c]?) : Ok C w' x :=
  ⟨(World.cell?_of_block he).trans h.k0, (World.cell?_of_block he).trans h.k1, (World.cell?_of_block he).trans h.k2, (World.cell?_of_block he).trans h.k3, (World.cell?_of_block hc).trans h.kc, (World.frozen?_of_block he).trans h.f2, (World.frozen?_of_block he).trans h.f3, (World.frozen?_of_block hc).trans h.fc, h.ie, h.ic, h.uw, h.ub, h.us, h.up_⟩
theorem Bt.lt (h : Bt C R w p a L S) : p < w.heap.size ∧ a < w.heap.size := ⟨Lw.lt_heap h.c0, h.mo.lt⟩
theorem rd_blk {A : Option Addr} {n c : Nat} {xs : List Int} {B B' : Nat} (h : Rd (Value.int .u64) w B A n c xs) (hs : B ≤ B') (hk : 0 < n → ∀ b o, A = some ⟨b, o, none⟩ → w'.heap[b]? = w.heap[b]?) : Rd (Value.int .u64) w' B' A n c xs :=
  ⟨h.len, h.cap, h.top, fun hn => by
    obtain ⟨b, o, e, hb, hc⟩ := h.at_ hn
    exact ⟨b, o, e, by omega, fun j x hx => (World.cell?_of_block (hk hn b o e)).trans (hc j x hx)⟩⟩
/-- What leaves C and R as they were leaves the bag. -/
theorem Bt.same (h : Bt C R w p a L S) (hs : w.heap.size ≤ w'.heap.size) (hk : ∀ g, g < w.heap.size → C g ∨ R g → w'.heap[g]? = w.heap[g]?) : Bt C R w' p a L S := by
  have hp := hk p h.lt.1 (.inl h.ip)
  obtain ⟨A, n, c, h1, h2, h3⟩ := h.row
  refine ⟨(World.cell?_of_block hp).trans h.c0, (World.frozen?_of_block hp).trans h.f1, ⟨A, n, c, (World.cell?_of_block hp).trans h1, rd_blk h2 hs fun hn b o e => ?_, h3⟩, h.nd, h.us, h.mo.block (hk a h.lt.2 (.inl h.ia)), fun q hq => ?_, h.ap, h.ri, h.ui, h.ip, h.ia, h.cr⟩
  · obtain ⟨b', o', e', hb, _⟩ := h2.at_ hn
    rw [e] at e'; injection e' with e'; injection e' with e1 _
    exact hk b (by omega) (.inr (h3 hn b o e))
  · have hq' := h.en q hq
    exact hq'.blk (hk _ hq'.lt.1 (.inl hq'.ie)) (hk _ hq'.lt.2 (.inl hq'.ic))
theorem Bt.later (h : Bt C R w p a L S) (hb : Below w.heap.size w w') : Bt C R w' p a L S := h.same hb.size (fun g hg _ => hb.block g hg)
theorem Bt.aside (h : Bt C R w p a L S) (hf : Fz D w w') (hd : ∀ g, C g ∨ R g → ¬ D g) : Bt C R w' p a L S := h.same hf.size (fun g hg hc => hf.block g hg (hd g hc))
theorem Bt.mono (h : Bt C R w p a L S) (hd : ∀ g, g < w.heap.size → C g → D g) (ht : ∀ g, g < w.heap.size → R g → T g) (hdt : ∀ g, D g → ¬ T g) : Bt D T w p a L S := by
  obtain ⟨A, n, c, h1, h2, h3⟩ := h.row
  refine ⟨h.c0, h.f1, ⟨A, n, c, h1, h2, fun hn b o e => ?_⟩, h.nd, h.us, h.mo, fun q hq => ?_, h.ap, h.ri, h.ui, hd _ h.lt.1 h.ip, hd _ h.lt.2 h.ia, hdt⟩
  · obtain ⟨b', o', e', hb, _⟩ := h2.at_ hn
    rw [e] at e'; injection e' with e'; injection e' with e1 _
    exact ht b (by omega) (h3 hn b o e)
  · have hq' := h.en q hq
    exact { hq' with ie := hd _ hq'.lt.1 hq'.ie, ic := hd _ hq'.lt.2 hq'.ic }
theorem Bt.get (h : Bt C R w p a L S) {id : Int} {x : En} (hx : fnd L id = some x) : Ok C w x ∧ (id, x) ∈ L := ⟨h.en _ (fnd_some hx), fnd_some hx⟩
theorem Bt.find (h : Bt C R w p a L S) (id : Int) : fnd (bl L) id = (fnd L id).map fun x => some x.e := fnd_map (L := L) (g := fun x : En => some x.e) id
/-- Another since, proved and word at an id's entry. -/
theorem Bt.turn (h : Bt C R w p a L S) {id : Int} {x : En} (hx : fnd L id = some x) (wd si pr : Int) (hw : U64 wd) (hs : U64 si) (hp : U64 pr) (hsz : w.heap.size ≤ w'.heap.size)
    (k2 : w'.cell? ⟨x.e, 2, none⟩ = some (.int .u64 si)) (k3 : w'.cell? ⟨x.e, 3, none⟩ = some (.int .u64 pr)) (kc : w'.cell? ⟨x.c, 0, none⟩ = some (.int .u64 wd))
    (he : ∀ o, o ≠ 2 → o ≠ 3 → w'.cell? ⟨x.e, o, none⟩ = w.cell? ⟨x.e, o, none⟩) (hfe : ∀ o, w'.frozen? ⟨x.e, o, none⟩ = w.frozen? ⟨x.e, o, none⟩) (hfc : w'.frozen? ⟨x.c, 0, none⟩ = w.frozen? ⟨x.c, 0, none⟩)
    (hk : ∀ g, g < w.heap.size → g ≠ x.e → g ≠ x.c → w'.heap[g]? = w.heap[g]?) : Bt C R w' p a (up L id fun y => { y with word := wd, since := si, proved := pr }) S := by
  obtain ⟨hok, hm⟩ := h.get hx
  have hpe : p ≠ x.e := fun e => by have h1 := h.c0; rw [e, hok.k0] at h1; cases h1
  have hpc : p ≠ x.c := fun e => by have h1 := h.c0; rw [e, hok.kc] at h1; cases h1
  have hae : a ≠ x.e := fun e => h.mo.no_cell 0 _ (e ▸ hok.k0)
  have hac : a ≠ x.c := fun e => h.mo.no_cell 0 _ (e ▸ hok.kc)
  have hec : ∀ q ∈ L, q.2.e ≠ x.c := fun q hq e => by have h1 := (h.en q hq).k0; rw [e, hok.kc] at h1; cases h1
  have hce : ∀ q ∈ L, q.2.c ≠ x.e := fun q hq e => by have h1 := (h.en q hq).kc; rw [e, hok.k0] at h1; cases h1
  have hp' := hk p h.lt.1 hpe hpc
  obtain ⟨A, n, c, h1, h2, h3⟩ := h.row
  have hmem : ∀ q ∈ up L id (fun y : En => { y with word := wd, since := si, proved := pr }), ∃ r ∈ L, r.1 = q.1 ∧ r.2.e = q.2.e ∧ r.2.c = q.2.c ∧ (q = r ∧ r.1 ≠ id ∨ q.2 = { x with word := wd, since := si, proved := pr }) := fun q hq => by
    obtain ⟨r, hr, e1, e2⟩ := mem_up hq
    refine ⟨r, hr, e1, ?_⟩
    rcases e2 with ⟨rfl, hne⟩ | ⟨rfl, hi⟩
    · exact ⟨rfl, rfl, .inl ⟨rfl, hne⟩⟩
    · have : r.2 = x := h.ri.nd.uniq (k := id) (by rw [← hi]; exact hr) hm
      exact ⟨rfl, rfl, .inr (by rw [this])⟩
  refine ⟨(World.cell?_of_block hp').trans h.c0, (World.frozen?_of_block hp').trans h.f1, ⟨A, n, c, (World.cell?_of_block hp').trans h1, rd_blk h2 hsz fun hn b o e => ?_, h3⟩, h.nd, h.us, ?_, fun q hq => ?_, fun q hq r hr e => ?_, h.ri.up _, fun q hq => ?_, h.ip, h.ia, h.cr⟩
  · obtain ⟨b', o', e', hb, _⟩ := h2.at_ hn
    rw [e] at e'; injection e' with e'; injection e' with e1 _
    have hrb := h3 hn b o e
    exact hk b (by omega) (fun e => h.cr _ hok.ie (e ▸ hrb)) (fun e => h.cr _ hok.ic (e ▸ hrb))
  · rw [bl_up L id (fun y : En => { y with word := wd, since := si, proved := pr }) (fun _ => rfl)]
    exact h.mo.block (hk a h.lt.2 hae hac)
  · obtain ⟨r, hr, _, _, _, e3⟩ := hmem q hq
    rcases e3 with ⟨rfl, hne⟩ | e3
    · have hq' := h.en q hr
      refine hq'.blk (hk _ hq'.lt.1 (fun e => hne ?_) (hec q hr)) (hk _ hq'.lt.2 (hce q hr) (fun e => hne ?_))
      · exact h.ap q hr _ hm (.inl e)
      · exact h.ap q hr _ hm (.inr e)
    · rw [e3]
      exact ⟨(he 0 (by decide) (by decide)).trans hok.k0, (he 1 (by decide) (by decide)).trans hok.k1, k2, k3, kc, (hfe 2).trans hok.f2, (hfe 3).trans hok.f3, hfc.trans hok.fc, hok.ie, hok.ic, hw, hok.ub, hs, hp⟩
  · obtain ⟨q', hq', e0, e1, e2, _⟩ := hmem q hq
    obtain ⟨r', hr', f0, f1, f2, _⟩ := hmem r hr
    rw [← e0, ← f0]
    exact h.ap q' hq' r' hr' (by rw [e1, e2, f1, f2]; exact e)
  · obtain ⟨r, hr, e0, _⟩ := hmem q hq
    rw [← e0]
    exact h.ui r hr
end
/-- What an entry holds. -/
structure Ex where
  word : Int
  born : Int
  since : Int
  proved : Int
deriving DecidableEq
abbrev En.x (q : En) : Ex := ⟨q.word, q.born, q.since, q.proved⟩
abbrev ab (L : List (Int × En)) : List (Int × Ex) := L.map fun q => (q.1, q.2.x)
/-- A bag at block p that tells these entries, and this list. -/
def Bx (C R : Nat → Prop) (w : World) (p a : Nat) (D : List (Int × Ex)) (S : List Int) : Prop := ∃ L, Bt C R w p a L S ∧ ab L = D
/-- Swap, of an entry. -/
def exS (old st now : Int) (x : Ex) : Ex := { x with word := Wd.wSwap x.word old st, since := if Wd.wSwapOk x.word old st = true ∧ st = 0 then now else x.since }
def exP (now : Int) (x : Ex) : Ex := { x with proved := now }
section
variable {C R E T : Nat → Prop} {w w' : World} {p a : Nat} {D : List (Int × Ex)} {S : List Int}
theorem Bx.lt (h : Bx C R w p a D S) : p < w.heap.size ∧ a < w.heap.size := by obtain ⟨L, h, _⟩ := h; exact h.lt
theorem Bx.ri (h : Bx C R w p a D S) : Ris D := by
  obtain ⟨L, h, rfl⟩ := h
  have h1 := ris_keys.1 h.ri
  rw [ris_keys]
  rw [List.map_map]
  exact h1
theorem Bx.nd (h : Bx C R w p a D S) : S.Nodup := by obtain ⟨L, h, _⟩ := h; exact h.nd
theorem Bx.us (h : Bx C R w p a D S) : Sn.U64s S := by obtain ⟨L, h, _⟩ := h; exact h.us
theorem Bx.ui (h : Bx C R w p a D S) : ∀ q ∈ D, U64 q.1 ∧ U64 q.2.word ∧ U64 q.2.born ∧ U64 q.2.since ∧ U64 q.2.proved := by
  obtain ⟨L, h, rfl⟩ := h
  intro q hq
  obtain ⟨r, hr, rfl⟩ := List.mem_map.1 hq
  have h1 := h.en r hr
  exact ⟨h.ui r hr, h1.uw, h1.ub, h1.us, h1.up_⟩
theorem Bx.same (h : Bx C R w p a D S) (hs : w.heap.size ≤ w'.heap.size) (hk : ∀ g, g < w.heap.size → C g ∨ R g → w'.heap[g]? = w.heap[g]?) : Bx C R w' p a D S := by
  obtain ⟨L, h, e⟩ := h; exact ⟨L, h.same hs hk, e⟩
theorem Bx.later (h : Bx C R w p a D S) (hb : Below w.heap.size w w') : Bx C R w' p a D S := by obtain ⟨L, h, e⟩ := h; exact ⟨L, h.later hb, e⟩
theorem Bx.aside (h : Bx C R w p a D S) (hf : Fz E w w') (hd : ∀ g, C g ∨ R g → ¬ E g) : Bx C R w' p a D S := by obtain ⟨L, h, e⟩ := h; exact ⟨L, h.aside hf hd, e⟩
theorem Bx.mono (h : Bx C R w p a D S) (hd : ∀ g, g < w.heap.size → C g → E g) (ht : ∀ g, g < w.heap.size → R g → T g) (hdt : ∀ g, E g → ¬ T g) : Bx E T w p a D S := by obtain ⟨L, h, e⟩ := h; exact ⟨L, h.mono hd ht hdt, e⟩
theorem Bx.cr (h : Bx C R w p a D S) : ∀ g, C g → ¬ R g := by obtain ⟨L, h, _⟩ := h; exact h.cr
/-- Old blocks alone; old blocks and all new ones; new ones alone. -/
def cut (w : World) (X : Nat → Prop) (g : Nat) : Prop := g < w.heap.size ∧ X g
def ext (w : World) (X : Nat → Prop) (g : Nat) : Prop := (g < w.heap.size ∧ X g) ∨ w.heap.size ≤ g
def fresh (w : World) (g : Nat) : Prop := w.heap.size ≤ g
theorem Bt.cutC {L : List (Int × En)} (h : Bt C R w p a L S) : Bt (cut w C) (ext w R) w p a L S := h.mono (fun g hg hc => ⟨hg, hc⟩) (fun g hg hc => .inl ⟨hg, hc⟩) (fun g hc ht => by
  rcases ht with ht | ht
  · exact h.cr g hc.2 ht.2
  · exact absurd hc.1 (by omega))
theorem Bt.extC {L : List (Int × En)} (h : Bt C R w p a L S) : Bt (ext w C) (cut w R) w p a L S := h.mono (fun g hg hc => .inl ⟨hg, hc⟩) (fun g hg hc => ⟨hg, hc⟩) (fun g hc ht => by
  rcases hc with hc | hc
  · exact h.cr g hc.2 ht.2
  · exact absurd ht.1 (by omega))
theorem Bx.cutC (h : Bx C R w p a D S) : Bx (cut w C) (ext w R) w p a D S := by obtain ⟨L, h, e⟩ := h; exact ⟨L, h.cutC, e⟩
theorem Bx.extC (h : Bx C R w p a D S) : Bx (ext w C) (cut w R) w p a D S := by obtain ⟨L, h, e⟩ := h; exact ⟨L, h.extC, e⟩
end
end Go.Proofs.YtlpjlphofjghhaaGreatDoor.Ba
