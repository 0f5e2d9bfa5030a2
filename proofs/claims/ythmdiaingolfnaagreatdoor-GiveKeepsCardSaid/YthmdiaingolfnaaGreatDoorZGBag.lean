/- A part of the claim: the texts Bag BagB BagC BagD BagE. -/
import Derived.Test.YthmdiaingolfnaaGreatDoorZBase6
import Derived.Test.YthmdiaingolfnaaGreatDoorZBase1
import Derived.Test.YthmdiaingolfnaaGreatDoorZSnapFresh
import Derived.WalkKit
import Derived.ProofKit
namespace Go.Proofs.YthmdiaingolfnaaGreatDoor.Ba
open Go Go.ChangeShapes Go.WideShapes Go.ChangeAt Go.RowKit Go.Maps Rw Hi Mt
set_option linter.unusedVariables false
abbrev eP : Enc (Option Nat) where
  val x := .pointer (x.map fun b => ⟨b, 0, none⟩)
  dat x := match x with
    | none => .lit (.bool false)
    | some b => .lit (.int .i64 b)
  R v := match v with
    | .pointer none => some (.lit (.bool false), [])
    | .pointer (some ⟨b, 0, none⟩) => some (.lit (.int .i64 b), [])
    | _ => none
  mk_ x := by cases x <;> rfl
  inv v y h := by
    split at h
    · injection h with h; exact ⟨none, rfl, h.symm⟩
    · rename_i b; injection h with h; exact ⟨some b, rfl, h.symm⟩
    · cases h
  inj x y h := by
    cases x <;> cases y
    · rfl
    · injection h with h; cases h
    · injection h with h; cases h
    · injection h with h; injection h with _ h; rw [Int.ofNat_inj.1 h]
abbrev U64 (k : Int) : Prop := 0 ≤ k ∧ k ≤ 18446744073709551615
abbrev ptr (p : Nat) : Value := .pointer (some ⟨p, 0, none⟩)
abbrev MP (w : World) (a : Nat) (L : List (Int × Option Nat)) : Prop := Mo Tryz.prog 22 eP w a L
theorem zeroP (w : World) : (zeroValue 105).run Tryz.prog w = .ok (eP.val none) w := by kernel_rfl
structure Fz (C : Nat → Prop) (w w' : World) : Prop where
  os : w'.os = w.os
  tape : w'.tape = w.tape
  output : w'.output = w.output
  size : w.heap.size ≤ w'.heap.size
  block : ∀ k, k < w.heap.size → ¬ C k → w'.heap[k]? = w.heap[k]?
section
variable {C D : Nat → Prop} {w w' w'' : World}
theorem Fz.refl (C : Nat → Prop) (w : World) : Fz C w w := ⟨rfl, rfl, rfl, Nat.le_refl _, fun _ _ _ => rfl⟩
theorem Fz.trans (h : Fz C w w') (h' : Fz C w' w'') : Fz C w w'' :=
  ⟨h'.os.trans h.os, h'.tape.trans h.tape, h'.output.trans h.output, Nat.le_trans h.size h'.size, fun k hk hc => (h'.block k (Nat.lt_of_lt_of_le hk h.size) hc).trans (h.block k hk hc)⟩
theorem Fz.mono (h : Fz C w w') (hd : ∀ k, k < w.heap.size → C k → D k) : Fz D w w' := ⟨h.os, h.tape, h.output, h.size, fun k hk hc => h.block k hk (fun e => hc (hd k hk e))⟩
theorem Fz.of_below (h : Below w.heap.size w w') : Fz C w w' := ⟨h.os, h.tape, h.output, h.size, fun k hk _ => h.block k hk⟩
theorem Fz.of_grown {row : Option Nat} (h : w.grownBy w' row) (hr : ∀ g, row = some g → g < w.heap.size → C g) : Fz C w w' :=
  ⟨h.os, h.tape, h.output, h.size, fun k hk hc => h.block k hk (fun e => hc (hr k e.symm hk))⟩
theorem Fz.of_set {a : Addr} (v : Value) (h : C a.block) : Fz C w (w.setCell a v) := Fz.of_grown (Hi.grown_setCell w a v) (fun g e _ => by injection e with e; exact e ▸ h)
theorem Fz.below (h : Fz C w w') {B : Nat} (hB : B ≤ w.heap.size) (hc : ∀ k, C k → B ≤ k) : Below B w w' :=
  ⟨h.os, h.tape, h.output, h.size, fun k hk => h.block k (by omega) (fun e => by have := hc k e; omega)⟩
theorem Fz.cell (h : Fz C w w') {p : Addr} (hp : p.block < w.heap.size) (hc : ¬ C p.block) : w'.cell? p = w.cell? p := by
  unfold World.cell?; rw [h.block _ hp hc]
theorem Fz.frozen (h : Fz C w w') {p : Addr} (hp : p.block < w.heap.size) (hc : ¬ C p.block) : w'.frozen? p = w.frozen? p := by
  unfold World.frozen?; rw [h.block _ hp hc]
end
structure En where
  e : Nat
  c : Nat
  word : Int
  born : Int
  since : Int
  proved : Int
def up {β : Type} (L : List (Int × β)) (id : Int) (f : β → β) : List (Int × β) := L.map fun q => if q.1 = id then (q.1, f q.2) else q
def ins {β : Type} (L : List (Int × β)) (id : Int) (x : β) : List (Int × β) := L.filter (fun q => decide (q.1 < id)) ++ (id, x) :: L.filter (fun q => decide (id < q.1))
def Ris {β : Type} (L : List (Int × β)) : Prop := L.Pairwise (fun a b => a.1 < b.1)
section
variable {β γ : Type} {L : List (Int × β)} {id : Int}
theorem up_keys (f : β → β) : (up L id f).map Prod.fst = L.map Prod.fst := by
  unfold up; rw [List.map_map]; apply List.map_congr_left; intro q _; simp only [Function.comp]; split <;> rfl
theorem Ris.nd (h : Ris L) : Nd L := by
  unfold Nd; unfold Ris at h
  rw [List.nodup_iff_pairwise_ne, List.pairwise_map]
  exact h.imp (fun hab => by omega)
theorem ris_keys : Ris L ↔ (L.map Prod.fst).Pairwise (· < ·) := by unfold Ris; rw [List.pairwise_map]
theorem Ris.up (h : Ris L) (f : β → β) : Ris (up L id f) := by rw [ris_keys, up_keys]; exact ris_keys.1 h
theorem mem_up {f : β → β} {q : Int × β} (h : q ∈ up L id f) : ∃ r ∈ L, r.1 = q.1 ∧ (q = r ∧ r.1 ≠ id ∨ q = (id, f r.2) ∧ r.1 = id) := by
  unfold Ba.up at h
  obtain ⟨r, hr, e⟩ := List.mem_map.1 h
  by_cases hi : r.1 = id
  · rw [if_pos hi] at e; subst e; exact ⟨r, hr, rfl, .inr ⟨by rw [hi], hi⟩⟩
  · rw [if_neg hi] at e; subst e; exact ⟨r, hr, rfl, .inl ⟨rfl, hi⟩⟩
theorem up_none (h : id ∉ L.map Prod.fst) (f : β → β) : up L id f = L := by
  unfold up
  conv => rhs; rw [← List.map_id L]
  apply List.map_congr_left
  intro q hq
  rw [if_neg (fun e => h (List.mem_map.2 ⟨q, hq, e⟩))]; rfl
theorem fnd_up_same {f : β → β} {x : β} (h : fnd L id = some x) : fnd (up L id f) id = some (f x) := by
  unfold fnd up at *
  rw [List.find?_map]
  have e : ((fun a : Int × β => a.1 == id) ∘ fun q : Int × β => if q.1 = id then (q.1, f q.2) else q) = fun a => a.1 == id := by
    funext q; simp only [Function.comp]; split <;> rfl
  rw [e]
  cases hf : L.find? (fun a => a.1 == id) with
  | none => rw [hf] at h; cases h
  | some q =>
    rw [hf] at h
    injection h with h
    have h2 := List.find?_some hf
    simp at h2
    simp [h2, h]
theorem up_same {f : β → β} (h : ∀ x, fnd L id = some x → f x = x) (hn : Nd L) : up L id f = L := by
  unfold up
  conv => rhs; rw [← List.map_id L]
  apply List.map_congr_left
  intro q hq
  by_cases hi : q.1 = id
  · rw [if_pos hi]
    have := fnd_mem hn (k := q.1) (x := q.2) hq
    rw [hi] at this
    rw [h _ this]; rfl
  · rw [if_neg hi]; rfl
theorem Ris.split (h : Ris L) (hn : id ∉ L.map Prod.fst) : L.filter (fun q => decide (q.1 < id)) ++ L.filter (fun q => decide (id < q.1)) = L := by
  unfold Ris at h
  induction L with
  | nil => rfl
  | cons q r ih =>
    rw [List.pairwise_cons] at h
    have h1 : id ∉ r.map Prod.fst := fun e => hn (List.mem_cons_of_mem _ e)
    have h2 : q.1 ≠ id := fun e => hn (e ▸ List.mem_cons_self)
    by_cases hq : q.1 < id
    · rw [List.filter_cons_of_pos (by simpa using hq), List.filter_cons_of_neg (by simp; omega), List.cons_append, ih h.2 h1]
    · rw [List.filter_cons_of_neg (by simpa using hq), List.filter_cons_of_pos (by simp; omega)]
      have e1 : r.filter (fun q => decide (q.1 < id)) = [] := by
        rw [List.filter_eq_nil_iff]; intro a ha; have := h.1 a ha; simp; omega
      have e2 : r.filter (fun q => decide (id < q.1)) = r := by
        rw [List.filter_eq_self]; intro a ha; have := h.1 a ha; simp; omega
      rw [e1, e2]; rfl
theorem Ris.ins (h : Ris L) (x : β) : Ris (ins L id x) := by
  unfold Ris Ba.ins at *
  rw [List.pairwise_append, List.pairwise_cons]
  refine ⟨h.sublist List.filter_sublist, ⟨fun a ha => by have := (List.mem_filter.1 ha).2; simpa using this, h.sublist List.filter_sublist⟩, fun a ha b hb => ?_⟩
  have h1 := (List.mem_filter.1 ha).2
  simp at h1
  rcases List.mem_cons.1 hb with rfl | hb
  · exact h1
  · have h2 := (List.mem_filter.1 hb).2
    simp at h2
    omega
theorem ins_perm (h : Ris L) (hn : id ∉ L.map Prod.fst) (x : β) : ((id, x) :: L).Perm (ins L id x) := by
  unfold ins
  refine List.Perm.trans ?_ List.perm_middle.symm
  exact List.Perm.cons _ (by rw [h.split hn])
theorem ins_len (h : Ris L) (hn : id ∉ L.map Prod.fst) (x : β) : (ins L id x).length = L.length + 1 := by
  have := (ins_perm h hn x).length_eq; simpa using this.symm
theorem mem_ins (h : Ris L) (hn : id ∉ L.map Prod.fst) {x : β} {q : Int × β} : q ∈ ins L id x ↔ q = (id, x) ∨ q ∈ L := by
  rw [← (ins_perm h hn x).mem_iff, List.mem_cons]
theorem ins_map {g : β → γ} {x : β} : (ins L id x).map (fun q => (q.1, g q.2)) = ins (L.map fun q => (q.1, g q.2)) id (g x) := by
  unfold ins
  rw [List.map_append, List.map_cons, List.filter_map, List.filter_map]
  rfl
theorem fnd_map {g : β → γ} (k : Int) : fnd (L.map fun q => (q.1, g q.2)) k = (fnd L k).map g := by
  unfold fnd
  rw [List.find?_map, Option.map_map, Option.map_map]
  rfl
end
abbrev bl (L : List (Int × En)) : List (Int × Option Nat) := L.map fun q => (q.1, some q.2.e)
theorem bl_keys (L : List (Int × En)) : (bl L).map Prod.fst = L.map Prod.fst := by simp [bl, Function.comp_def]
theorem bl_up (L : List (Int × En)) (id : Int) (f : En → En) (hf : ∀ x, (f x).e = x.e) : bl (up L id f) = bl L := by
  unfold bl up
  rw [List.map_map]
  apply List.map_congr_left
  intro q _
  simp only [Function.comp]
  split
  · rw [hf]
  · rfl
structure Ok (C : Nat → Prop) (w : World) (x : En) : Prop where
  k0 : w.cell? ⟨x.e, 0, none⟩ = some (ptr x.c)
  k1 : w.cell? ⟨x.e, 1, none⟩ = some (.int .u64 x.born)
  k2 : w.cell? ⟨x.e, 2, none⟩ = some (.int .u64 x.since)
  k3 : w.cell? ⟨x.e, 3, none⟩ = some (.int .u64 x.proved)
  kc : w.cell? ⟨x.c, 0, none⟩ = some (.int .u64 x.word)
  f2 : w.frozen? ⟨x.e, 2, none⟩ = false
  f3 : w.frozen? ⟨x.e, 3, none⟩ = false
  fc : w.frozen? ⟨x.c, 0, none⟩ = false
  ie : C x.e
  ic : C x.c
  uw : U64 x.word
  ub : U64 x.born
  us : U64 x.since
  up_ : U64 x.proved
structure Bt (C R : Nat → Prop) (w : World) (p a : Nat) (L : List (Int × En)) (S : List Int) : Prop where
  c0 : w.cell? ⟨p, 0, none⟩ = some (.map (some a))
  f1 : w.frozen? ⟨p, 1, none⟩ = false
  row : ∃ A n c, w.cell? ⟨p, 1, none⟩ = some (.slice A n c) ∧ Rd (Value.int .u64) w w.heap.size A n c S ∧ (0 < n → ∀ b o, A = some ⟨b, o, none⟩ → R b)
  nd : S.Nodup
  us : Sn.U64s S
  mo : MP w a (bl L)
  en : ∀ q ∈ L, Ok C w q.2
  ap : ∀ q ∈ L, ∀ r ∈ L, (q.2.e = r.2.e ∨ q.2.c = r.2.c) → q.1 = r.1
  ri : Ris L
  ui : ∀ q ∈ L, U64 q.1
  ip : C p
  ia : C a
  cr : ∀ g, C g → ¬ R g
section
variable {C D R T : Nat → Prop} {w w' : World} {p a : Nat} {L : List (Int × En)} {S : List Int}
theorem Ok.lt {x : En} (h : Ok C w x) : x.e < w.heap.size ∧ x.c < w.heap.size := ⟨Lw.lt_heap h.k0, Lw.lt_heap h.kc⟩
theorem Ok.blk {x : En} (h : Ok C w x) (he : w'.heap[x.e]? = w.heap[x.e]?) (hc : w'.heap[x.c]? = w.heap[x.c]?) : Ok C w' x :=
  ⟨(World.cell?_of_block he).trans h.k0, (World.cell?_of_block he).trans h.k1, (World.cell?_of_block he).trans h.k2, (World.cell?_of_block he).trans h.k3, (World.cell?_of_block hc).trans h.kc, (World.frozen?_of_block he).trans h.f2, (World.frozen?_of_block he).trans h.f3, (World.frozen?_of_block hc).trans h.fc, h.ie, h.ic, h.uw, h.ub, h.us, h.up_⟩
theorem Bt.lt (h : Bt C R w p a L S) : p < w.heap.size ∧ a < w.heap.size := ⟨Lw.lt_heap h.c0, h.mo.lt⟩
theorem rd_blk {A : Option Addr} {n c : Nat} {xs : List Int} {B B' : Nat} (h : Rd (Value.int .u64) w B A n c xs) (hs : B ≤ B') (hk : 0 < n → ∀ b o, A = some ⟨b, o, none⟩ → w'.heap[b]? = w.heap[b]?) : Rd (Value.int .u64) w' B' A n c xs :=
  ⟨h.len, h.cap, h.top, fun hn => by
    obtain ⟨b, o, e, hb, hc⟩ := h.at_ hn
    exact ⟨b, o, e, by omega, fun j x hx => (World.cell?_of_block (hk hn b o e)).trans (hc j x hx)⟩⟩
theorem Bt.same (h : Bt C R w p a L S) (hs : w.heap.size ≤ w'.heap.size) (hk : ∀ g, g < w.heap.size → C g ∨ R g → w'.heap[g]? = w.heap[g]?) : Bt C R w' p a L S := by
  have hp := hk p h.lt.1 (.inl h.ip)
  obtain ⟨A, n, c, h1, h2, h3⟩ := h.row
  refine ⟨(World.cell?_of_block hp).trans h.c0, (World.frozen?_of_block hp).trans h.f1, ⟨A, n, c, (World.cell?_of_block hp).trans h1, rd_blk h2 hs fun hn b o e => ?_, h3⟩, h.nd, h.us, h.mo.block (hk a h.lt.2 (.inl h.ia)), fun q hq => ?_, h.ap, h.ri, h.ui, h.ip, h.ia, h.cr⟩
  · obtain ⟨b', o', e', hb, _⟩ := h2.at_ hn
    rw [e] at e'; injection e' with e'; injection e' with e1 _
    exact hk b (by omega) (.inr (h3 hn b o e))
  · have hq' := h.en q hq
    exact hq'.blk (hk _ hq'.lt.1 (.inl hq'.ie)) (hk _ hq'.lt.2 (.inl hq'.ic))
theorem Bt.later (h : Bt C R w p a L S) (hb : Below w.heap.size w w') : Bt C R w' p a L S := h.same hb.size (fun g hg _ => hb.block g hg)
theorem Bt.aside (h : Bt C R w p a L S) (hf : Fz D w w') (hd : ∀ g, C g ∨ R g → ¬ D g) : Bt C R w' p a L S := h.same hf.size (fun g hg hc => hf.block g hg (hd g hc))
theorem Bt.mono (h : Bt C R w p a L S) (hd : ∀ g, g < w.heap.size → C g → D g) (ht : ∀ g, g < w.heap.size → R g → T g) (hdt : ∀ g, D g → ¬ T g) : Bt D T w p a L S := by
  obtain ⟨A, n, c, h1, h2, h3⟩ := h.row
  refine ⟨h.c0, h.f1, ⟨A, n, c, h1, h2, fun hn b o e => ?_⟩, h.nd, h.us, h.mo, fun q hq => ?_, h.ap, h.ri, h.ui, hd _ h.lt.1 h.ip, hd _ h.lt.2 h.ia, hdt⟩
  · obtain ⟨b', o', e', hb, _⟩ := h2.at_ hn
    rw [e] at e'; injection e' with e'; injection e' with e1 _
    exact ht b (by omega) (h3 hn b o e)
  · have hq' := h.en q hq
    exact { hq' with ie := hd _ hq'.lt.1 hq'.ie, ic := hd _ hq'.lt.2 hq'.ic }
theorem Bt.get (h : Bt C R w p a L S) {id : Int} {x : En} (hx : fnd L id = some x) : Ok C w x ∧ (id, x) ∈ L := ⟨h.en _ (fnd_some hx), fnd_some hx⟩
theorem Bt.find (h : Bt C R w p a L S) (id : Int) : fnd (bl L) id = (fnd L id).map fun x => some x.e := fnd_map (L := L) (g := fun x : En => some x.e) id
theorem Bt.turn (h : Bt C R w p a L S) {id : Int} {x : En} (hx : fnd L id = some x) (wd si pr : Int) (hw : U64 wd) (hs : U64 si) (hp : U64 pr) (hsz : w.heap.size ≤ w'.heap.size)
    (k2 : w'.cell? ⟨x.e, 2, none⟩ = some (.int .u64 si)) (k3 : w'.cell? ⟨x.e, 3, none⟩ = some (.int .u64 pr)) (kc : w'.cell? ⟨x.c, 0, none⟩ = some (.int .u64 wd))
    (he : ∀ o, o ≠ 2 → o ≠ 3 → w'.cell? ⟨x.e, o, none⟩ = w.cell? ⟨x.e, o, none⟩) (hfe : ∀ o, w'.frozen? ⟨x.e, o, none⟩ = w.frozen? ⟨x.e, o, none⟩) (hfc : w'.frozen? ⟨x.c, 0, none⟩ = w.frozen? ⟨x.c, 0, none⟩)
    (hk : ∀ g, g < w.heap.size → g ≠ x.e → g ≠ x.c → w'.heap[g]? = w.heap[g]?) : Bt C R w' p a (up L id fun y => { y with word := wd, since := si, proved := pr }) S := by
  obtain ⟨hok, hm⟩ := h.get hx
  have hpe : p ≠ x.e := fun e => by have h1 := h.c0; rw [e, hok.k0] at h1; cases h1
  have hpc : p ≠ x.c := fun e => by have h1 := h.c0; rw [e, hok.kc] at h1; cases h1
  have hae : a ≠ x.e := fun e => h.mo.no_cell 0 _ (e ▸ hok.k0)
  have hac : a ≠ x.c := fun e => h.mo.no_cell 0 _ (e ▸ hok.kc)
  have hec : ∀ q ∈ L, q.2.e ≠ x.c := fun q hq e => by have h1 := (h.en q hq).k0; rw [e, hok.kc] at h1; cases h1
  have hce : ∀ q ∈ L, q.2.c ≠ x.e := fun q hq e => by have h1 := (h.en q hq).kc; rw [e, hok.k0] at h1; cases h1
  have hp' := hk p h.lt.1 hpe hpc
  obtain ⟨A, n, c, h1, h2, h3⟩ := h.row
  have hmem : ∀ q ∈ up L id (fun y : En => { y with word := wd, since := si, proved := pr }), ∃ r ∈ L, r.1 = q.1 ∧ r.2.e = q.2.e ∧ r.2.c = q.2.c ∧ (q = r ∧ r.1 ≠ id ∨ q.2 = { x with word := wd, since := si, proved := pr }) := fun q hq => by
    obtain ⟨r, hr, e1, e2⟩ := mem_up hq
    refine ⟨r, hr, e1, ?_⟩
    rcases e2 with ⟨rfl, hne⟩ | ⟨rfl, hi⟩
    · exact ⟨rfl, rfl, .inl ⟨rfl, hne⟩⟩
    · have : r.2 = x := h.ri.nd.uniq (k := id) (by rw [← hi]; exact hr) hm
      exact ⟨rfl, rfl, .inr (by rw [this])⟩
  refine ⟨(World.cell?_of_block hp').trans h.c0, (World.frozen?_of_block hp').trans h.f1, ⟨A, n, c, (World.cell?_of_block hp').trans h1, rd_blk h2 hsz fun hn b o e => ?_, h3⟩, h.nd, h.us, ?_, fun q hq => ?_, fun q hq r hr e => ?_, h.ri.up _, fun q hq => ?_, h.ip, h.ia, h.cr⟩
  · obtain ⟨b', o', e', hb, _⟩ := h2.at_ hn
    rw [e] at e'; injection e' with e'; injection e' with e1 _
    have hrb := h3 hn b o e
    exact hk b (by omega) (fun e => h.cr _ hok.ie (e ▸ hrb)) (fun e => h.cr _ hok.ic (e ▸ hrb))
  · rw [bl_up L id (fun y : En => { y with word := wd, since := si, proved := pr }) (fun _ => rfl)]
    exact h.mo.block (hk a h.lt.2 hae hac)
  · obtain ⟨r, hr, _, _, _, e3⟩ := hmem q hq
    rcases e3 with ⟨rfl, hne⟩ | e3
    · have hq' := h.en q hr
      refine hq'.blk (hk _ hq'.lt.1 (fun e => hne ?_) (hec q hr)) (hk _ hq'.lt.2 (hce q hr) (fun e => hne ?_))
      · exact h.ap q hr _ hm (.inl e)
      · exact h.ap q hr _ hm (.inr e)
    · rw [e3]
      exact ⟨(he 0 (by decide) (by decide)).trans hok.k0, (he 1 (by decide) (by decide)).trans hok.k1, k2, k3, kc, (hfe 2).trans hok.f2, (hfe 3).trans hok.f3, hfc.trans hok.fc, hok.ie, hok.ic, hw, hok.ub, hs, hp⟩
  · obtain ⟨q', hq', e0, e1, e2, _⟩ := hmem q hq
    obtain ⟨r', hr', f0, f1, f2, _⟩ := hmem r hr
    rw [← e0, ← f0]
    exact h.ap q' hq' r' hr' (by rw [e1, e2, f1, f2]; exact e)
  · obtain ⟨r, hr, e0, _⟩ := hmem q hq
    rw [← e0]
    exact h.ui r hr
end
structure Ex where
  word : Int
  born : Int
  since : Int
  proved : Int
deriving DecidableEq
abbrev En.x (q : En) : Ex := ⟨q.word, q.born, q.since, q.proved⟩
abbrev ab (L : List (Int × En)) : List (Int × Ex) := L.map fun q => (q.1, q.2.x)
def Bx (C R : Nat → Prop) (w : World) (p a : Nat) (D : List (Int × Ex)) (S : List Int) : Prop := ∃ L, Bt C R w p a L S ∧ ab L = D
def exS (old st now : Int) (x : Ex) : Ex := { x with word := Wd.wSwap x.word old st, since := if Wd.wSwapOk x.word old st = true ∧ st = 0 then now else x.since }
section
variable {C R E T : Nat → Prop} {w w' : World} {p a : Nat} {D : List (Int × Ex)} {S : List Int}
theorem Bx.lt (h : Bx C R w p a D S) : p < w.heap.size ∧ a < w.heap.size := by obtain ⟨L, h, _⟩ := h; exact h.lt
theorem Bx.ri (h : Bx C R w p a D S) : Ris D := by
  obtain ⟨L, h, rfl⟩ := h
  have h1 := ris_keys.1 h.ri
  rw [ris_keys]
  rw [List.map_map]
  exact h1
theorem Bx.nd (h : Bx C R w p a D S) : S.Nodup := by obtain ⟨L, h, _⟩ := h; exact h.nd
theorem Bx.us (h : Bx C R w p a D S) : Sn.U64s S := by obtain ⟨L, h, _⟩ := h; exact h.us
theorem Bx.ui (h : Bx C R w p a D S) : ∀ q ∈ D, U64 q.1 ∧ U64 q.2.word ∧ U64 q.2.born ∧ U64 q.2.since ∧ U64 q.2.proved := by
  obtain ⟨L, h, rfl⟩ := h
  intro q hq
  obtain ⟨r, hr, rfl⟩ := List.mem_map.1 hq
  have h1 := h.en r hr
  exact ⟨h.ui r hr, h1.uw, h1.ub, h1.us, h1.up_⟩
theorem Bx.same (h : Bx C R w p a D S) (hs : w.heap.size ≤ w'.heap.size) (hk : ∀ g, g < w.heap.size → C g ∨ R g → w'.heap[g]? = w.heap[g]?) : Bx C R w' p a D S := by
  obtain ⟨L, h, e⟩ := h; exact ⟨L, h.same hs hk, e⟩
theorem Bx.later (h : Bx C R w p a D S) (hb : Below w.heap.size w w') : Bx C R w' p a D S := by obtain ⟨L, h, e⟩ := h; exact ⟨L, h.later hb, e⟩
theorem Bx.aside (h : Bx C R w p a D S) (hf : Fz E w w') (hd : ∀ g, C g ∨ R g → ¬ E g) : Bx C R w' p a D S := by obtain ⟨L, h, e⟩ := h; exact ⟨L, h.aside hf hd, e⟩
theorem Bx.mono (h : Bx C R w p a D S) (hd : ∀ g, g < w.heap.size → C g → E g) (ht : ∀ g, g < w.heap.size → R g → T g) (hdt : ∀ g, E g → ¬ T g) : Bx E T w p a D S := by obtain ⟨L, h, e⟩ := h; exact ⟨L, h.mono hd ht hdt, e⟩
theorem Bx.cr (h : Bx C R w p a D S) : ∀ g, C g → ¬ R g := by obtain ⟨L, h, _⟩ := h; exact h.cr
def cut (w : World) (X : Nat → Prop) (g : Nat) : Prop := g < w.heap.size ∧ X g
def ext (w : World) (X : Nat → Prop) (g : Nat) : Prop := (g < w.heap.size ∧ X g) ∨ w.heap.size ≤ g
def fresh (w : World) (g : Nat) : Prop := w.heap.size ≤ g
theorem Bt.cutC {L : List (Int × En)} (h : Bt C R w p a L S) : Bt (cut w C) (ext w R) w p a L S := h.mono (fun g hg hc => ⟨hg, hc⟩) (fun g hg hc => .inl ⟨hg, hc⟩) (fun g hc ht => by
  rcases ht with ht | ht
  · exact h.cr g hc.2 ht.2
  · exact absurd hc.1 (by omega))
theorem Bt.extC {L : List (Int × En)} (h : Bt C R w p a L S) : Bt (ext w C) (cut w R) w p a L S := h.mono (fun g hg hc => .inl ⟨hg, hc⟩) (fun g hg hc => ⟨hg, hc⟩) (fun g hc ht => by
  rcases hc with hc | hc
  · exact h.cr g hc.2 ht.2
  · exact absurd ht.1 (by omega))
theorem Bx.cutC (h : Bx C R w p a D S) : Bx (cut w C) (ext w R) w p a D S := by obtain ⟨L, h, e⟩ := h; exact ⟨L, h.cutC, e⟩
theorem Bx.extC (h : Bx C R w p a D S) : Bx (ext w C) (cut w R) w p a D S := by obtain ⟨L, h, e⟩ := h; exact ⟨L, h.extC, e⟩
end
end Go.Proofs.YthmdiaingolfnaaGreatDoor.Ba
namespace Go.Proofs.YthmdiaingolfnaaGreatDoor.Ba
open Go Go.ChangeShapes Go.WideShapes Go.ChangeAt Go.RowKit Go.Maps Rw Hi Mt
set_option linter.unusedVariables false
section
variable (w : World) {ops : Array Oper} {rest : List Oper} {o : Oper} {a : Act} {Q : Exit → Act → World → Prop}
theorem lookP (hg : o.guard = none) (m x : Operand) (hop : o.op = Op.lookup 112 m x false) (b : Nat) (L : List (Int × Option Nat)) (hm : a.eval m = .map (some b)) (h : MP w b L) (y : Int) (hy : U64 y) (hx : a.eval x = .int .u64 y)
    (q : Option Nat) (hq : (fnd L y).getD none = q)
    (hK : wpList Tryz.prog ops Q rest (a.put o.dst (.pointer (q.map fun b => ⟨b, 0, none⟩))) w) : wpList Tryz.prog ops Q (o :: rest) a w := by
  refine look1 w hg m x 112 hop 22 105 Tryz.underlying22 Tryz.underlying112 none (zeroP w) b L hm h y hy hx ?_
  rw [hq]
  exact hK
end
section
variable {C R : Nat → Prop} (w : World) (p a : Nat) (L : List (Int × En)) (S : List Int) (id : Int)
theorem of_miss (h : Bt C R w p a L S) (hid : U64 id) (hn : fnd L id = none) :
    Calls Tryz.prog 40 #[ptr p, .int .u64 id] w fun e w' => e = .returned (.pointer none) ∧ w = w' := by
  have c0 := h.c0
  have hf : (fnd (bl L) id).getD none = none := by rw [h.find, hn]; rfl
  have HM := Lib.hid h.mo
  have HI := Lib.hid hid
  have HF := Lib.hid hf
  clear h hid hn hf
  go_enter Tryz.func40, Tryz.ntmps40
  go_wp2_with (at_lookup; refine lookP _ rfl _ _ rfl a _ rfl HM.out id HI.out rfl none HF.out ?_)
  go_ret
  exact ⟨rfl, rfl⟩
theorem of_hit (h : Bt C R w p a L S) (hid : U64 id) {x : En} (hx : fnd L id = some x) :
    Calls Tryz.prog 40 #[ptr p, .int .u64 id] w fun e w' => e = .returned (ptr x.e) ∧ w = w' := by
  have c0 := h.c0
  have hf : (fnd (bl L) id).getD none = some x.e := by rw [h.find, hx]; rfl
  have HM := Lib.hid h.mo
  have HI := Lib.hid hid
  have HF := Lib.hid hf
  clear h hid hx hf
  go_enter Tryz.func40, Tryz.ntmps40
  go_wp2_with (at_lookup; refine lookP _ rfl _ _ rfl a _ rfl HM.out id HI.out rfl (some x.e) HF.out ?_)
  go_ret
  exact ⟨rfl, rfl⟩
theorem wrong_any (h : Bt C R w p a L S) (hid : U64 id) :
    Calls Tryz.prog 93 #[ptr p, .int .u64 id] w fun e w' => e = .returned (.int .i64 (if (fnd L id).isSome then 0 else 9)) ∧ w = w' := by
  cases hf : fnd L id with
  | none =>
    have H := Lib.hid (of_miss w p a L S id h hid hf)
    clear h hid hf
    go_enter Tryz.func93, Tryz.ntmps93
    go_wp2_with fail
    refine H.out.mono ?_
    rintro e w1 ⟨rfl, rfl⟩
    go_wp2_with fail
    go_ret
    exact ⟨rfl, rfl⟩
  | some x =>
    have H := Lib.hid (of_hit w p a L S id h hid hf)
    clear h hid hf
    go_enter Tryz.func93, Tryz.ntmps93
    go_wp2_with fail
    refine H.out.mono ?_
    rintro e w1 ⟨rfl, rfl⟩
    go_wp2_with fail
    go_ret
    exact ⟨rfl, rfl⟩
theorem loadT_any (h : Bt C R w p a L S) (hid : U64 id) :
    Calls Tryz.prog 13 #[ptr p, .int .u64 id] w fun e w' => e = .returned (.tuple #[.int .u64 (((fnd L id).map En.word).getD 0), .bool (fnd L id).isSome]) ∧ w = w' := by
  cases hf : fnd L id with
  | none =>
    have H := Lib.hid (of_miss w p a L S id h hid hf)
    clear h hid hf
    go_enter Tryz.func13, Tryz.ntmps13
    go_wp2_with fail
    refine H.out.mono ?_
    rintro e w1 ⟨rfl, rfl⟩
    go_wp2_with fail
    go_ret2
    exact ⟨rfl, rfl⟩
  | some x =>
    have H := Lib.hid (of_hit w p a L S id h hid hf)
    have hok := (h.get hf).1
    have k0 := hok.k0
    have kc := hok.kc
    clear h hid hf hok
    go_enter Tryz.func13, Tryz.ntmps13
    go_wp2_with fail
    refine H.out.mono ?_
    rintro e w1 ⟨rfl, rfl⟩
    go_wp2_with fail
    refine (Wd.load_any _ _ _ kc).mono ?_
    rintro e w2 ⟨rfl, rfl⟩
    go_wp2_with fail
    go_ret2
    exact ⟨rfl, rfl⟩
theorem list_nil : Calls Tryz.prog 26 #[.pointer none] w fun e w' => e = .returned (.agg #[.slice none 0 0]) ∧ Below w.heap.size w w' := by
  go_enter Tryz.func26, Tryz.ntmps26
  go_wp2_with fail
  refine bodyPost_ret (v := .agg #[.slice none 0 0]) (by simp [results, Tryz.results26, go_sem]) rfl ⟨rfl, ?_⟩
  repeat' (first | exact Below.refl _ _ | apply Below.setCell | apply Below.alloc)
  all_goals (first | (simp; done) | (simp; omega))
theorem list_any (h : Bt C R w p a L S) : Calls Tryz.prog 26 #[ptr p] w fun e w' => ∃ A n c, e = .returned (.agg #[.slice A n c]) ∧ Rd (Value.int .u64) w w.heap.size A n c S ∧ (0 < n → ∀ b o, A = some ⟨b, o, none⟩ → R b) ∧ Below w.heap.size w w' := by
  obtain ⟨A, n, c, c1, h2, h3⟩ := h.row
  have H2 := Lib.hid h2
  have H3 := Lib.hid h3
  clear h h2 h3
  have hl := Lw.lt_heap c1
  go_enter Tryz.func26, Tryz.ntmps26
  go_wp2_with fail
  refine bodyPost_ret (v := .agg #[.slice A n c]) (by simp [results, Tryz.results26, go_sem]) rfl ⟨A, n, c, rfl, H2.out, H3.out, ?_⟩
  repeat' (first | exact Below.refl _ _ | apply Below.setCell | apply Below.alloc)
  all_goals (first | (simp; done) | (simp; omega))
theorem new_any : Calls Tryz.prog 33 #[] w fun e w' => e = .returned (ptr (w.heap.size + 1)) ∧ Bt (fresh w) (fun _ => False) w' (w.heap.size + 1) w.heap.size [] [] ∧ Below w.heap.size w w' := by
  have hmm := @run_makeMap Tryz.prog
  go_enter Tryz.func33, Tryz.ntmps33
  go_wp2_with fail
  go_ret
  refine ⟨rfl, ⟨by go_simp, by go_simp, ⟨none, 0, 0, by go_simp, Rd.nil_, fun h => absurd h (by omega)⟩, List.nodup_nil, fun x hx => (by cases hx), ?_, fun q hq => (by cases hq), fun q hq => (by cases hq), List.Pairwise.nil, fun q hq => (by cases hq), (show w.heap.size ≤ w.heap.size + 1 by omega), Nat.le_refl _, fun _ _ h => h⟩, ((Below.refl _ _).alloc (Nat.le_refl _) _).alloc (by simp) _⟩
  exact (Mo.made w Tryz.prog 22 eP).alloc _
end
end Go.Proofs.YthmdiaingolfnaaGreatDoor.Ba
namespace Go.Proofs.YthmdiaingolfnaaGreatDoor.Ba
open Go Go.ChangeShapes Go.WideShapes Go.ChangeAt Go.RowKit Go.Maps Rw Hi Mt
set_option linter.unusedVariables false
theorem and_keep {A B : Prop} (a : A) (h : A → B) : A ∧ B := ⟨a, h a⟩
section
variable {C R : Nat → Prop} (w : World) (p a : Nat) (L : List (Int × En)) (S : List Int) (id : Int)
theorem Bt.enter {w : World} {p a : Nat} {L : List (Int × En)} {S : List Int} {id : Int} (h : Bt C R w p a L S) (hn : fnd L id = none) (hid : U64 id) {w1 w2 : World} (hb : Below w.heap.size w w1) (x : En) (hok : Ok (ext w C) w2 x) (he : w.heap.size ≤ x.e) (hc : w.heap.size ≤ x.c)
    (hm : MP w2 a ((id, some x.e) :: wo (bl L) id)) (hg : w1.grownBy w2 (some a)) : Bt (ext w C) (cut w R) w2 p a (ins L id x) S := by
  replace h := h.extC
  have hnk : id ∉ L.map Prod.fst := fnd_no hn
  have hnb : id ∉ (bl L).map Prod.fst := by rw [bl_keys]; exact hnk
  have hk : ∀ g, g < w.heap.size → g ≠ a → w2.heap[g]? = w.heap[g]? := fun g hg1 hg2 => (hg.block g (Nat.lt_of_lt_of_le hg1 hb.size) (fun e => hg2 (by injection e))).trans (hb.block g hg1)
  have hpa : p ≠ a := fun e => h.mo.no_cell 0 _ (e ▸ h.c0)
  have hp := hk p h.lt.1 hpa
  obtain ⟨A, n, c, h1, h2, h3⟩ := h.row
  have hmem : ∀ {q}, q ∈ ins L id x ↔ q = (id, x) ∨ q ∈ L := mem_ins h.ri hnk
  refine ⟨(World.cell?_of_block hp).trans h.c0, (World.frozen?_of_block hp).trans h.f1, ⟨A, n, c, (World.cell?_of_block hp).trans h1, rd_blk h2 (Nat.le_trans hb.size hg.size) fun hn b o e => ?_, h3⟩, h.nd, h.us, ?_, fun q hq => ?_, fun q hq r hr e => ?_, h.ri.ins x, fun q hq => ?_, h.ip, h.ia, h.cr⟩
  · obtain ⟨b', o', e', hb', hc'⟩ := h2.at_ hn
    rw [e] at e'; injection e' with e'; injection e' with e1 e2 _
    have hl : 0 < S.length := by rw [h2.len]; exact hn
    refine hk b (by omega) (fun e3 => ?_)
    have := hc' 0 _ (List.getElem?_eq_getElem hl)
    rw [← e1, e3] at this
    exact h.mo.no_cell _ _ this
  · refine hm.perm ?_
    rw [wo_none hnb]
    have := (ins_perm (id := id) h.ri hnk x).map (fun q => (q.1, some q.2.e))
    exact this
  · rcases hmem.1 hq with rfl | hq
    · exact hok
    · have hq' := h.en q hq
      exact hq'.blk (hk _ hq'.lt.1 (fun e => h.mo.no_cell 0 _ (e ▸ hq'.k0))) (hk _ hq'.lt.2 (fun e => h.mo.no_cell 0 _ (e ▸ hq'.kc)))
  · rcases hmem.1 hq with rfl | hq <;> rcases hmem.1 hr with rfl | hr
    · rfl
    · have hr' := h.en r hr
      have := hr'.lt
      simp only at e
      omega
    · have hq' := h.en q hq
      have := hq'.lt
      simp only at e
      omega
    · exact h.ap q hq r hr e
  · rcases hmem.1 hq with rfl | hq
    · exact hid
    · exact h.ui q hq
def eE {β : Type} (D : List (Int × β)) (id st : Int) : Int := if id = 0 ∨ st < 0 ∨ 3 < st then 2 else if (fnd D id).isSome then 10 else 0
theorem enter_range (st now : Int) (hr : id = 0 ∨ st < 0 ∨ 3 < st) : Calls Tryz.prog 9 #[ptr p, .int .u64 id, .int .i64 st, .int .u64 now] w fun e w' => e = .returned (.int .i64 2) ∧ w = w' := by
  by_cases h0 : id = 0
  · have q0 : (id == 0) = true := by simpa using h0
    clear h0 hr
    go_enter Tryz.func9, Tryz.ntmps9
    go_wp2_with fail
    go_ret
    exact ⟨rfl, rfl⟩
  · have q0 : (id == 0) = false := by simpa using h0
    by_cases h1 : st < 0
    · have q1 : decide (st < 0) = true := decide_eq_true h1
      clear h0 h1 hr
      go_enter Tryz.func9, Tryz.ntmps9
      go_wp2_with fail
      go_ret
      exact ⟨rfl, rfl⟩
    · have q1 : decide (st < 0) = false := decide_eq_false h1
      have q2 : decide (3 < st) = true := decide_eq_true (by omega)
      clear h0 h1 hr
      go_enter Tryz.func9, Tryz.ntmps9
      go_wp2_with fail
      go_ret
      exact ⟨rfl, rfl⟩
theorem enter_had (h : Bt C R w p a L S) (hid : U64 id) (st now : Int) (hr : ¬ (id = 0 ∨ st < 0 ∨ 3 < st)) {x : En} (hf : fnd L id = some x) : Calls Tryz.prog 9 #[ptr p, .int .u64 id, .int .i64 st, .int .u64 now] w fun e w' => e = .returned (.int .i64 10) ∧ w = w' := by
  have q0 : (id == 0) = false := by simp; omega
  have q1 : decide (st < 0) = false := decide_eq_false (by omega)
  have q2 : decide (3 < st) = false := decide_eq_false (by omega)
  have H := Lib.hid (of_hit w p a L S id h hid hf)
  clear h hid hr hf
  go_enter Tryz.func9, Tryz.ntmps9
  go_wp2_with fail
  refine H.out.mono ?_
  rintro e w1 ⟨rfl, rfl⟩
  go_wp2_with fail
  go_ret
  exact ⟨rfl, rfl⟩
set_option maxRecDepth 100000 in
set_option maxHeartbeats 1000000 in
theorem enter_new (h : Bt C R w p a L S) (hid : U64 id) (st now : Int) (hnow : U64 now) (hr : ¬ (id = 0 ∨ st < 0 ∨ 3 < st)) (hf : fnd L id = none) (hlen : L.length < 1000000) :
    Calls Tryz.prog 9 #[ptr p, .int .u64 id, .int .i64 st, .int .u64 now] w fun e w' => e = .returned (.int .i64 0) ∧ (∃ x : En, x.x = ⟨Wd.wOf st 0, now, now, now⟩ ∧ Bt (ext w C) (cut w R) w' p a (ins L id x) S) ∧ Fz C w w' := by
  have q0 : (id == 0) = false := by simp; omega
  have q1 : decide (st < 0) = false := decide_eq_false (by omega)
  have q2 : decide (3 < st) = false := decide_eq_false (by omega)
  have H := Lib.hid (of_miss w p a L S id h hid hf)
  have K0 := Lib.hid h.c0
  have HL := Lib.hid h.lt.1
  have HM := Lib.hid h.mo
  have HK := Lib.hid h
  have HI := Lib.hid hid
  have HN := Lib.hid hf
  have HNOW := Lib.hid hnow
  have HLEN : Hid ((bl L).length < 4611686018427387904) := Lib.hid (by simp [bl]; omega)
  clear h hid hr hf hnow hlen
  go_enter Tryz.func9, Tryz.ntmps9
  go_wp2_with fail
  refine H.out.mono ?_
  rintro e w1 ⟨rfl, rfl⟩
  go_wp2_with fail
  have HS : Hid (Below w.heap.size w w.drew) := Lib.hid (Below.refl _ _).drew
  have HB : Hid (Below w.heap.size w w) := Lib.hid (Below.refl _ _)
  refine reg_start 13 (fun w' => Below w.heap.size w w') (by kernel_rfl) (by kernel_rfl) ?_
  intro hTT
  have HTT := Lib.hid hTT
  clear hTT
  refine reg_load 0 HTT.out rfl (by kernel_rfl) (by decide) (fun _ _ _ _ h => h) HS.out rfl ?_
  apply Exists.intro
  refine ⟨fun w' hw => by (go_simp; exact rfl), ?_⟩
  refine reg_load 1 HTT.out rfl (by kernel_rfl) (by decide) (fun _ _ _ _ h => h) HS.out rfl ?_
  apply Exists.intro
  refine ⟨fun w' hw => by (go_simp; exact rfl), ?_⟩
  refine reg_load 2 HTT.out rfl (by kernel_rfl) (by decide) (fun _ _ _ _ h => h) HS.out rfl ?_
  apply Exists.intro
  refine ⟨fun w' hw => by (go_simp; exact rfl), ?_⟩
  refine reg_load 3 HTT.out rfl (by kernel_rfl) (by decide) (fun _ _ _ _ h => h) HS.out rfl ?_
  apply Exists.intro
  refine ⟨fun w' hw => by (have k := (hw.cell (p := ⟨p, 0, none⟩) HL.out).trans K0.out; go_simp; exact rfl), ?_⟩
  refine reg_load 4 HTT.out rfl (by kernel_rfl) (by decide) (fun _ _ _ _ h => h) HS.out rfl ?_
  apply Exists.intro
  refine ⟨fun w' hw => by (go_simp; exact rfl), ?_⟩
  refine reg_load 5 HTT.out rfl (by kernel_rfl) (by decide) (fun _ _ _ _ h => h) HS.out rfl ?_
  apply Exists.intro
  refine ⟨fun w' hw => by (go_simp; exact rfl), ?_⟩
  refine reg_load 8 HTT.out rfl (by kernel_rfl) (by decide) (fun _ _ _ _ h => h) HS.out rfl ?_
  apply Exists.intro
  refine ⟨fun w' hw => by (go_simp; exact rfl), ?_⟩
  refine reg_load 9 HTT.out rfl (by kernel_rfl) (by decide) (fun _ _ _ _ h => h) HS.out rfl ?_
  apply Exists.intro
  refine ⟨fun w' hw => by (go_simp; exact rfl), ?_⟩
  refine reg_load 10 HTT.out rfl (by kernel_rfl) (by decide) (fun _ _ _ _ h => h) HS.out rfl ?_
  apply Exists.intro
  refine ⟨fun w' hw => by (go_simp; exact rfl), ?_⟩
  refine reg_only 6 rfl (by kernel_rfl) rfl ?_
  unfold Oper.wp
  go_simp
  refine (Wd.of_any st 0 _ (by omega) (by omega)).mono ?_
  rintro e w2 ⟨rfl, rfl⟩
  refine ⟨HS.out, ?_⟩
  refine reg_only 7 rfl (by kernel_rfl) rfl ?_
  unfold Oper.wp
  go_simp
  refine (Wd.new_any _ _).mono ?_
  rintro e w2 ⟨rfl, rfl⟩
  refine and_keep (by (repeat' (first | exact HS.out | exact HB.out | exact Below.refl _ _ | apply Below.setCell | apply Below.drew | apply Below.alloc)); all_goals (first | exact Nat.le_refl _ | omega | (simp; done) | (simp; omega))) ?_
  intro hS
  clear HS
  have HS := Lib.hid hS
  clear hS
  refine reg_load 11 HTT.out rfl (by kernel_rfl) (by decide) (fun _ _ _ _ h => h) HS.out rfl ?_
  apply Exists.intro
  refine ⟨fun w' hw => by (go_simp; exact rfl), ?_⟩
  refine reg_only 12 rfl (by kernel_rfl) rfl ?_
  unfold Oper.wp
  go_simp
  refine and_keep (by (repeat' (first | exact HS.out | exact HB.out | exact Below.refl _ _ | apply Below.setCell | apply Below.drew | apply Below.alloc)); all_goals (first | exact Nat.le_refl _ | omega | (simp; done) | (simp; omega))) ?_
  intro hS
  clear HS
  have HS := Lib.hid hS
  clear hS
  refine reg_only 13 rfl (by kernel_rfl) rfl ?_
  unfold Oper.wp
  go_simp
  obtain ⟨w3, hrun, hM3, hg3⟩ := run_put (E := eP) ((w.alloc (.cells #[.int .u64 (Wd.wOf st 0)] 172)).alloc (.cells #[ptr w.heap.size, .int .u64 now, .int .u64 now, .int .u64 now] 111)).drew Tryz.underlying22 Tryz.underlying112 (HM.out.later HS.out) HLEN.out HI.out (some (w.heap.size + 1))
  have hrun' : (Instr.mapUpdate 112 (.map (some a)) (.int .u64 id) (.pointer (some ⟨w.heap.size + 1, 0, none⟩))).run Tryz.prog ((w.alloc (.cells #[.int .u64 (Wd.wOf st 0)] 172)).alloc (.cells #[.pointer (some ⟨w.heap.size, 0, none⟩), .int .u64 now, .int .u64 now, .int .u64 now] 111)).drew = .ok () w3 := hrun
  rw [hrun']
  go_simp
  refine reg_done (by kernel_rfl) ?_
  have HS3 := Lib.hid (HS.out.size)
  have HM3 := Lib.hid hM3
  have HG3 := Lib.hid hg3
  clear hrun hrun' hM3 hg3
  go_wp2_with fail
  go_ret
  have hal := HK.out.lt.2
  have hw := HG3.out
  have c1 : ∀ i v, ((w.alloc (.cells #[.int .u64 (Wd.wOf st 0)] 172)).alloc (.cells #[ptr w.heap.size, .int .u64 now, .int .u64 now, .int .u64 now] 111)).drew.cell? ⟨w.heap.size + 1, i, none⟩ = some v → w3.cell? ⟨w.heap.size + 1, i, none⟩ = some v := fun i v hv => hw.cell hv (by intro e; injection e with e; have e : w.heap.size + 1 = a := e; omega)
  have hok : Ok (ext w C) w3 ⟨w.heap.size + 1, w.heap.size, Wd.wOf st 0, now, now, now⟩ :=
    ⟨c1 0 _ (by go_simp), c1 1 _ (by go_simp), c1 2 _ (by go_simp), c1 3 _ (by go_simp), hw.cell (a := ⟨w.heap.size, 0, none⟩) (by go_simp) (by intro e; injection e with e; have e : w.heap.size = a := e; omega),
      (World.frozen?_of_block (hw.block _ (by simp) (by intro e; injection e with e; have e : w.heap.size + 1 = a := e; omega))).trans (by go_simp), (World.frozen?_of_block (hw.block _ (by simp) (by intro e; injection e with e; have e : w.heap.size + 1 = a := e; omega))).trans (by go_simp), (World.frozen?_of_block (hw.block _ (by simp; omega) (by intro e; injection e with e; have e : w.heap.size = a := e; omega))).trans (by go_simp),
      .inr (by show w.heap.size ≤ w.heap.size + 1; omega), .inr (Nat.le_refl _), ⟨Wd.wOf_lo st 0, Wd.wOf_hi st 0⟩, HNOW.out, HNOW.out, HNOW.out⟩
  exact ⟨rfl, ⟨_, rfl, HK.out.enter HN.out HI.out HS.out _ hok (by show w.heap.size ≤ w.heap.size + 1; omega) (Nat.le_refl _) HM3.out HG3.out⟩, (Fz.of_below HS.out).trans (Fz.of_grown HG3.out (fun g e _ => by injection e with e; subst e; exact HK.out.ia))⟩
theorem swapT_miss (h : Bt C R w p a L S) (hid : U64 id) (hf : fnd L id = none) (old st now : Int) : Calls Tryz.prog 56 #[ptr p, .int .u64 id, .int .u64 old, .int .i64 st, .int .u64 now] w fun e w' => e = .returned (.tuple #[.int .u64 0, .bool false]) ∧ w = w' := by
  have H := Lib.hid (of_miss w p a L S id h hid hf)
  clear h hid hf
  go_enter Tryz.func56, Tryz.ntmps56
  go_wp2_with fail
  refine H.out.mono ?_
  rintro e w1 ⟨rfl, rfl⟩
  go_wp2_with fail
  go_ret2
  exact ⟨rfl, rfl⟩
set_option maxHeartbeats 1000000 in
theorem swapT_hit (h : Bt C R w p a L S) (hid : U64 id) {x : En} (hf : fnd L id = some x) (old st now : Int) (ho : U64 old) (hnow : U64 now) : Calls Tryz.prog 56 #[ptr p, .int .u64 id, .int .u64 old, .int .i64 st, .int .u64 now] w fun e w' => e = .returned (.tuple #[.int .u64 (Wd.wSwap x.word old st), .bool (Wd.wSwapOk x.word old st)]) ∧
      Bt C R w' p a (up L id fun y => { y with word := Wd.wSwap x.word old st, since := if Wd.wSwapOk x.word old st = true ∧ st = 0 then now else x.since, proved := x.proved }) S ∧ Fz C w w' := by
  have H := Lib.hid (of_hit w p a L S id h hid hf)
  have hok := (h.get hf).1
  obtain ⟨g0, g1, g2, g3, gc, f2, f3, fc, hie, hic, uw, ub, us, up_⟩ := hok
  have hec : x.e ≠ x.c := fun e => by rw [e, gc] at g0; cases g0
  have hel := Lw.lt_heap g0
  have hcl := Lw.lt_heap gc
  have G2 := Lib.hid g2
  have G3 := Lib.hid g3
  have F2 := Lib.hid f2
  have HK := Lib.hid h
  have HF := Lib.hid hf
  have HIE := Lib.hid hie
  have HIC := Lib.hid hic
  have HEC := Lib.hid hec
  have HU : Hid (U64 (Wd.wSwap x.word old st)) := Lib.hid ⟨Wd.wSwap_lo _ _ _ uw.1, Wd.wSwap_hi _ _ _ uw.2⟩
  have HNOW := Lib.hid hnow
  have HUS := Lib.hid us
  have HUP := Lib.hid up_
  obtain ⟨V, hV⟩ : ∃ V, Wd.wSwap x.word old st = V := ⟨_, rfl⟩
  have HSW := Lib.hid (Wd.swap_any ⟨x.c, 0, none⟩ x.word old st w gc fc ho.1 ho.2)
  rw [hV] at HU HSW ⊢
  have hcc : (w.setCell ⟨x.c, 0, none⟩ (.int .u64 V)).cell? ⟨x.c, 0, none⟩ = some (.int .u64 V) := World.cell?_setCell_same _ _ _ gc
  have hoe : ∀ o, (w.setCell ⟨x.c, 0, none⟩ (.int .u64 V)).cell? ⟨x.e, o, none⟩ = w.cell? ⟨x.e, o, none⟩ := fun o => World.cell?_setCell_other w _ _ _ (fun e => hec (by injection e with e _; exact e.symm))
  have g2' := (hoe 2).trans g2
  have hfr2 : (w.setCell ⟨x.c, 0, none⟩ (.int .u64 V)).frozen? ⟨x.e, 2, none⟩ = false := by
    rw [← f2]; exact World.frozen?_of_block (heap_setCell_other w ⟨x.c, 0, none⟩ x.e _ (fun e => hec e))
  have HCC := Lib.hid hcc
  have HOE := Lib.hid hoe
  have HG2 := Lib.hid g2'
  have HV := Lib.hid hV
  clear h hid hf g1 g2 g3 f2 f3 hie hic hec uw ub us up_ hnow hV hcc hoe
  cases hk : Wd.wSwapOk x.word old st with
  | false =>
    rw [hk] at HSW
    have HK2 := Lib.hid hk
    clear hk
    rw [if_neg (fun e => by cases e.1)]
    go_enter Tryz.func56, Tryz.ntmps56
    go_wp2_with fail
    refine H.out.mono ?_
    rintro e w1 ⟨rfl, rfl⟩
    go_wp2_with fail
    refine HSW.out.mono ?_
    rintro e w2 ⟨rfl, rfl⟩
    go_wp2_with fail
    go_ret2
    refine ⟨rfl, HK.out.turn HF.out V x.since x.proved HU.out HUS.out HUP.out (by simp) HG2.out ((HOE.out 3).trans G3.out) HCC.out (fun o _ _ => HOE.out o) (fun o => World.frozen?_of_block (heap_setCell_other w ⟨x.c, 0, none⟩ x.e _ HEC.out)) (by simp) (fun g _ _ hg => heap_setCell_other w ⟨x.c, 0, none⟩ g _ hg), Fz.of_set _ HIC.out⟩
  | true =>
    rw [hk] at HSW
    have HK2 := Lib.hid hk
    clear hk
    by_cases h0 : st = 0
    · have q0 : (st == 0) = true := by simpa using h0
      rw [if_pos ⟨rfl, h0⟩]
      have H0 := Lib.hid h0
      clear h0
      go_enter Tryz.func56, Tryz.ntmps56
      go_wp2_with fail
      refine H.out.mono ?_
      rintro e w1 ⟨rfl, rfl⟩
      go_wp2_with fail
      refine HSW.out.mono ?_
      rintro e w2 ⟨rfl, rfl⟩
      go_wp2_with fail
      go_ret2
      refine ⟨rfl, HK.out.turn HF.out V now x.proved HU.out HNOW.out HUP.out (by simp) (World.cell?_setCell_same _ _ _ HG2.out) ?_ ?_ (fun o h2 h3 => ?_) (fun o => ?_) ?_ (fun g _ hg1 hg2 => (heap_setCell_other _ ⟨x.e, 2, none⟩ g _ hg1).trans (heap_setCell_other w ⟨x.c, 0, none⟩ g _ hg2)), (Fz.of_set _ HIC.out).trans (Fz.of_set _ HIE.out)⟩
      · exact (World.cell?_setCell_other _ _ _ _ (fun e => by injection e with _ e _; omega)).trans ((HOE.out 3).trans G3.out)
      · exact (World.cell?_setCell_other _ _ _ _ (fun e => HEC.out (by injection e))).trans HCC.out
      · exact (World.cell?_setCell_other _ _ _ _ (fun e => by injection e with _ e _; omega)).trans (HOE.out o)
      · rw [World.frozen?_setCell]; exact World.frozen?_of_block (heap_setCell_other w ⟨x.c, 0, none⟩ x.e _ HEC.out)
      · simp
    · have q0 : (st == 0) = false := by simpa using h0
      rw [if_neg (fun e => h0 e.2)]
      clear h0
      go_enter Tryz.func56, Tryz.ntmps56
      go_wp2_with fail
      refine H.out.mono ?_
      rintro e w1 ⟨rfl, rfl⟩
      go_wp2_with fail
      refine HSW.out.mono ?_
      rintro e w2 ⟨rfl, rfl⟩
      go_wp2_with fail
      go_ret2
      refine ⟨rfl, HK.out.turn HF.out V x.since x.proved HU.out HUS.out HUP.out (by simp) HG2.out ((HOE.out 3).trans G3.out) HCC.out (fun o _ _ => HOE.out o) (fun o => World.frozen?_of_block (heap_setCell_other w ⟨x.c, 0, none⟩ x.e _ HEC.out)) (by simp) (fun g _ _ hg => heap_setCell_other w ⟨x.c, 0, none⟩ g _ hg), Fz.of_set _ HIC.out⟩
end
end Go.Proofs.YthmdiaingolfnaaGreatDoor.Ba
namespace Go.Proofs.YthmdiaingolfnaaGreatDoor.Ba
open Go Go.ChangeShapes Go.WideShapes Go.ChangeAt Go.RowKit Go.Maps Rw Hi Mt
set_option linter.unusedVariables false
section
variable {C R : Nat → Prop} (w : World) (p a : Nat) (L : List (Int × En)) (S : List Int) (id : Int)
theorem Bt.list_put {w w1 : World} {p a : Nat} {L : List (Int × En)} {S S' : List Int} (h : Bt C R w p a L S) (hb : Below w.heap.size w w1) {A' : Option Addr} {n' c' : Nat} (hr : Rd (Value.int .u64) w1 w1.heap.size A' n' c' S') (hnd : S'.Nodup) (hus : Sn.U64s S')
    (hs : 0 < n' → ∀ b o, A' = some ⟨b, o, none⟩ → R b) : Bt C R (w1.setCell ⟨p, 1, none⟩ (.slice A' n' c')) p a L S' := by
  have h1 := h.later hb
  obtain ⟨A, n, c, r1, -, -⟩ := h1.row
  have hpa2 : p ≠ a := fun e => h1.mo.no_cell 0 _ (e ▸ h1.c0)
  have hpa := hpa2.symm
  have hne : ∀ x, Value.int .u64 x ≠ Value.slice A n c := fun x e => by cases e
  have hh : ∀ g, g ≠ p → (w1.setCell ⟨p, 1, none⟩ (.slice A' n' c')).heap[g]? = w1.heap[g]? := fun g hg => heap_setCell_other w1 ⟨p, 1, none⟩ g _ hg
  refine ⟨(World.cell?_setCell_other _ _ _ _ (fun e => by injection e with _ e _; omega)).trans h1.c0, by simpa using h1.f1, ⟨A', n', c', World.cell?_setCell_same _ _ _ r1, ?_, hs⟩, hnd, hus, h1.mo.setCell hpa _, fun q hq => ?_, h1.ap, h1.ri, h1.ui, h1.ip, h1.ia, h1.cr⟩
  · have := hr.setOther (p := ⟨p, 1, none⟩) r1 hne (.slice A' n' c')
    simpa using this
  · have hq' := h1.en q hq
    exact hq'.blk (hh _ (fun e => by have h2 := h1.c0; rw [← e, hq'.k0] at h2; cases h2)) (hh _ (fun e => by have h2 := h1.c0; rw [← e, hq'.kc] at h2; cases h2))
theorem publish_miss (h : Bt C R w p a L S) (hid : U64 id) (hf : fnd L id = none) : Calls Tryz.prog 57 #[ptr p, .int .u64 id] w fun e w' => e = .returned (.int .i64 9) ∧ w = w' := by
  have H := Lib.hid (wrong_any w p a L S id h hid)
  rw [hf] at H
  clear h hid hf
  go_enter Tryz.func57, Tryz.ntmps57
  go_wp2_with fail
  refine H.out.mono ?_
  rintro e w1 ⟨rfl, rfl⟩
  go_wp2_with fail
  go_ret
  exact ⟨rfl, rfl⟩
set_option maxHeartbeats 1000000 in
theorem publish_hit (h : Bt C R w p a L S) (hid : U64 id) {x : En} (hf : fnd L id = some x) (hl : S.length ≤ 1000000) : Calls Tryz.prog 57 #[ptr p, .int .u64 id] w fun e w' => e = .returned (.int .i64 0) ∧ Bt (cut w C) (ext w R) w' p a L (Sn.sWith S id) ∧ Fz C w w' := by
  have H := Lib.hid (wrong_any w p a L S id h hid)
  rw [hf] at H
  obtain ⟨A, n, c, c1, h2, h3⟩ := h.row
  have HSN := Lib.hid (show Sn.Snap w w.heap.size (.agg #[.slice A n c]) S from ⟨⟨A, n, c, rfl, h2⟩, h.nd, h.us⟩)
  have f1 := h.f1
  have H3 := Lib.hid h3
  have HRD := Lib.hid h2
  have HK := Lib.hid h
  have HI := Lib.hid hid
  clear h hid hf h2 h3
  go_enter Tryz.func57, Tryz.ntmps57
  go_wp2_with fail
  refine H.out.mono ?_
  rintro e w1 ⟨rfl, rfl⟩
  go_wp2_with fail
  refine (Sn.with2_any _ S id w HSN.out (by omega) HI.out).mono ?_
  rintro e w2 ⟨u, rfl, hsn, hb, hfr⟩
  obtain ⟨⟨A2, n2, c2, rfl, hr2⟩, hnd2, hok2⟩ := hsn
  have hlt := Lw.lt_heap c1
  have k1 := (hb.cell (p := ⟨p, 1, none⟩) hlt).trans c1
  have kf := (hb.frozen (p := ⟨p, 1, none⟩) hlt).trans f1
  have hsep : 0 < n2 → ∀ b o, A2 = some ⟨b, o, none⟩ → ext w R b := by
    rcases hfr with e | ⟨A9, n9, c9, e, h9⟩
    · injection e with e; injection e with e; injection e with e; injection e with e1 e2 e3; subst e1 e2; exact fun hn b o e => by obtain ⟨b', o', e', hb', _⟩ := HRD.out.at_ hn; have h9 := H3.out hn b o e; rw [e] at e'; injection e' with e'; injection e' with e3 _; exact .inl ⟨by omega, h9⟩
    · injection e with e; injection e with e; injection e with e; injection e with e1 e2 e3; subst e1 e2
      intro _ b o hA
      exact .inr (h9 b o hA)
  have HP := Lib.hid (HK.out.cutC.list_put hb hr2 hnd2 hok2 hsep)
  have HB := Lib.hid hb
  clear hb hsep hr2 hnd2 hok2 hfr c1 f1
  go_wp2_with fail
  go_ret
  exact ⟨rfl, HP.out, (Fz.of_below HB.out).trans (Fz.of_set _ HK.out.ip)⟩
theorem unlist_miss (h : Bt C R w p a L S) (hid : U64 id) (hf : fnd L id = none) : Calls Tryz.prog 136 #[ptr p, .int .u64 id] w fun e w' => e = .returned (.int .i64 9) ∧ w = w' := by
  have H := Lib.hid (wrong_any w p a L S id h hid)
  rw [hf] at H
  clear h hid hf
  go_enter Tryz.func136, Tryz.ntmps136
  go_wp2_with fail
  refine H.out.mono ?_
  rintro e w1 ⟨rfl, rfl⟩
  go_wp2_with fail
  go_ret
  exact ⟨rfl, rfl⟩
set_option maxHeartbeats 1000000 in
theorem unlist_hit (h : Bt C R w p a L S) (hid : U64 id) {x : En} (hf : fnd L id = some x) (hl : S.length ≤ 1000000) : Calls Tryz.prog 136 #[ptr p, .int .u64 id] w fun e w' => e = .returned (.int .i64 0) ∧ Bt (cut w C) (ext w R) w' p a L (Sn.sWithout S id) ∧ Fz C w w' := by
  have H := Lib.hid (wrong_any w p a L S id h hid)
  rw [hf] at H
  obtain ⟨A, n, c, c1, h2, h3⟩ := h.row
  have HSN := Lib.hid (show Sn.Snap w w.heap.size (.agg #[.slice A n c]) S from ⟨⟨A, n, c, rfl, h2⟩, h.nd, h.us⟩)
  have f1 := h.f1
  have H3 := Lib.hid h3
  have HRD := Lib.hid h2
  have HK := Lib.hid h
  clear h hid hf h2 h3
  go_enter Tryz.func136, Tryz.ntmps136
  go_wp2_with fail
  refine H.out.mono ?_
  rintro e w1 ⟨rfl, rfl⟩
  go_wp2_with fail
  refine (Sn.without2_any _ S id w HSN.out (by omega)).mono ?_
  rintro e w2 ⟨u, rfl, hsn, hb, hfr⟩
  obtain ⟨⟨A2, n2, c2, rfl, hr2⟩, hnd2, hok2⟩ := hsn
  have hlt := Lw.lt_heap c1
  have k1 := (hb.cell (p := ⟨p, 1, none⟩) hlt).trans c1
  have kf := (hb.frozen (p := ⟨p, 1, none⟩) hlt).trans f1
  have hsep : 0 < n2 → ∀ b o, A2 = some ⟨b, o, none⟩ → ext w R b := by
    rcases hfr with e | ⟨A9, n9, c9, e, h9⟩
    · injection e with e; injection e with e; injection e with e; injection e with e1 e2 e3; subst e1 e2; exact fun hn b o e => by obtain ⟨b', o', e', hb', _⟩ := HRD.out.at_ hn; have h9 := H3.out hn b o e; rw [e] at e'; injection e' with e'; injection e' with e3 _; exact .inl ⟨by omega, h9⟩
    · injection e with e; injection e with e; injection e with e; injection e with e1 e2 e3; subst e1 e2
      intro _ b o hA
      exact .inr (h9 b o hA)
  have HP := Lib.hid (HK.out.cutC.list_put hb hr2 hnd2 hok2 hsep)
  have HB := Lib.hid hb
  clear hb hsep hr2 hnd2 hok2 hfr c1 f1
  go_wp2_with fail
  go_ret
  exact ⟨rfl, HP.out, (Fz.of_below HB.out).trans (Fz.of_set _ HK.out.ip)⟩
def cnt (D : List (Int × Ex)) (st : Int) : Nat := (D.filter (fun q => q.2.word % 4 == st)).length
end
end Go.Proofs.YthmdiaingolfnaaGreatDoor.Ba
namespace Go.Proofs.YthmdiaingolfnaaGreatDoor.Ba
open Go Go.ChangeShapes Go.WideShapes Go.ChangeAt Go.RowKit Go.Maps Rw Hi Mt
set_option linter.unusedVariables false
def bW (D : List (Int × Ex)) (id : Int) : Int := ((fnd D id).map Ex.word).getD 0
def bV (D : List (Int × Ex)) (id old st : Int) : Int := match fnd D id with
  | none => 0
  | some x => Wd.wSwap x.word old st
def bK (D : List (Int × Ex)) (id old st : Int) : Bool := match fnd D id with
  | none => false
  | some x => Wd.wSwapOk x.word old st
def bE (D : List (Int × Ex)) (id : Int) : Value := match fnd D id with
  | none => .agg #[.int .u64 0, .int .u64 0, .int .u64 0, .int .u64 0, .int .u64 0]
  | some x => .agg #[.int .u64 id, .int .u64 x.word, .int .u64 x.born, .int .u64 x.since, .int .u64 x.proved]
def kn {β : Type} (D : List (Int × β)) (id : Int) : Int := if (fnd D id).isSome then 0 else 9
section
variable {C R : Nat → Prop} (w : World) (p a : Nat) (D : List (Int × Ex)) (S : List Int) (id : Int)
theorem fnd_ab (L : List (Int × En)) (id : Int) : fnd (ab L) id = (fnd L id).map En.x := fnd_map (L := L) (g := En.x) id
theorem load_any (h : Bx C R w p a D S) (hid : U64 id) : Calls Tryz.prog 13 #[ptr p, .int .u64 id] w fun e w' => e = .returned (.tuple #[.int .u64 (bW D id), .bool (fnd D id).isSome]) ∧ w = w' := by
  obtain ⟨L, h, rfl⟩ := h
  refine (loadT_any w p a L S id h hid).mono fun e w' ⟨he, hw⟩ => ⟨?_, hw⟩
  rw [he]
  unfold bW
  rw [fnd_ab]
  cases fnd L id <;> rfl
theorem swap_any (h : Bx C R w p a D S) (hid : U64 id) (old st now : Int) (ho : U64 old) (hnow : U64 now) : Calls Tryz.prog 56 #[ptr p, .int .u64 id, .int .u64 old, .int .i64 st, .int .u64 now] w fun e w' => e = .returned (.tuple #[.int .u64 (bV D id old st), .bool (bK D id old st)]) ∧ Bx C R w' p a (up D id (exS old st now)) S ∧ Fz C w w' := by
  obtain ⟨L, h, rfl⟩ := h
  cases hf : fnd L id with
  | none =>
    have e1 : fnd (ab L) id = none := by rw [fnd_ab, hf]; rfl
    refine (swapT_miss w p a L S id h hid hf old st now).mono ?_
    rintro e w' ⟨rfl, rfl⟩
    refine ⟨by unfold bV bK; rw [e1], ⟨L, h, ?_⟩, Fz.refl _ _⟩
    rw [up_none (fnd_no e1)]
  | some x =>
    have e1 : fnd (ab L) id = some x.x := by rw [fnd_ab, hf]; rfl
    refine (swapT_hit w p a L S id h hid hf old st now ho hnow).mono ?_
    rintro e w' ⟨rfl, hb, hz⟩
    refine ⟨by unfold bV bK; rw [e1], ⟨_, hb, ?_⟩, hz⟩
    unfold ab up
    rw [List.map_map, List.map_map]
    apply List.map_congr_left
    intro q hq
    simp only [Function.comp]
    by_cases hi : q.1 = id
    · have : q.2 = x := h.ri.nd.uniq (k := id) (by rw [← hi]; exact hq) (fnd_some hf)
      rw [if_pos hi, if_pos hi, this]
      rfl
    · rw [if_neg hi, if_neg hi]
theorem enter_any (h : Bx C R w p a D S) (hid : U64 id) (st now : Int) (hnow : U64 now) (hlen : D.length < 1000000) : Calls Tryz.prog 9 #[ptr p, .int .u64 id, .int .i64 st, .int .u64 now] w fun e w' => e = .returned (.int .i64 (eE D id st)) ∧ Bx (ext w C) (cut w R) w' p a (if eE D id st = 0 then ins D id ⟨Wd.wOf st 0, now, now, now⟩ else D) S ∧ Fz C w w' := by
  obtain ⟨L, h, rfl⟩ := h
  by_cases hr : id = 0 ∨ st < 0 ∨ 3 < st
  · have e1 : eE (ab L) id st = 2 := by unfold eE; rw [if_pos hr]
    rw [e1, if_neg (by decide)]
    refine (enter_range w p id st now hr).mono ?_
    rintro e w' ⟨rfl, rfl⟩
    exact ⟨rfl, ⟨L, h.extC, rfl⟩, Fz.refl _ _⟩
  · cases hf : fnd L id with
    | none =>
      have e0 : fnd (ab L) id = none := by rw [fnd_ab, hf]; rfl
      have e1 : eE (ab L) id st = 0 := by unfold eE; rw [if_neg hr, e0]; rfl
      rw [e1, if_pos rfl]
      refine (enter_new w p a L S id h hid st now hnow hr hf (by simpa using hlen)).mono ?_
      rintro e w' ⟨rfl, ⟨x, hx, hb⟩, hz⟩
      refine ⟨rfl, ⟨_, hb, ?_⟩, hz⟩
      rw [← hx]
      exact ins_map (L := L) (g := En.x)
    | some x =>
      have e0 : fnd (ab L) id = some x.x := by rw [fnd_ab, hf]; rfl
      have e1 : eE (ab L) id st = 10 := by unfold eE; rw [if_neg hr, e0]; rfl
      rw [e1, if_neg (by decide)]
      refine (enter_had w p a L S id h hid st now hr hf).mono ?_
      rintro e w' ⟨rfl, rfl⟩
      exact ⟨rfl, ⟨L, h.extC, rfl⟩, Fz.refl _ _⟩
theorem publish_any (h : Bx C R w p a D S) (hid : U64 id) (hl : S.length ≤ 1000000) : Calls Tryz.prog 57 #[ptr p, .int .u64 id] w fun e w' => e = .returned (.int .i64 (kn D id)) ∧ Bx (cut w C) (ext w R) w' p a D (if (fnd D id).isSome then Sn.sWith S id else S) ∧ Fz C w w' := by
  obtain ⟨L, h, rfl⟩ := h
  cases hf : fnd L id with
  | none =>
    have e1 : fnd (ab L) id = none := by rw [fnd_ab, hf]; rfl
    refine (publish_miss w p a L S id h hid hf).mono ?_
    rintro e w' ⟨rfl, rfl⟩
    refine ⟨by unfold kn; rw [e1]; rfl, ⟨L, by rw [e1]; exact h.cutC, rfl⟩, Fz.refl _ _⟩
  | some x =>
    have e1 : fnd (ab L) id = some x.x := by rw [fnd_ab, hf]; rfl
    refine (publish_hit w p a L S id h hid hf hl).mono ?_
    rintro e w' ⟨rfl, hb, hz⟩
    refine ⟨by unfold kn; rw [e1]; rfl, ⟨L, by rw [e1]; exact hb, rfl⟩, hz⟩
theorem unlist_any (h : Bx C R w p a D S) (hid : U64 id) (hl : S.length ≤ 1000000) : Calls Tryz.prog 136 #[ptr p, .int .u64 id] w fun e w' => e = .returned (.int .i64 (kn D id)) ∧ Bx (cut w C) (ext w R) w' p a D (if (fnd D id).isSome then Sn.sWithout S id else S) ∧ Fz C w w' := by
  obtain ⟨L, h, rfl⟩ := h
  cases hf : fnd L id with
  | none =>
    have e1 : fnd (ab L) id = none := by rw [fnd_ab, hf]; rfl
    refine (unlist_miss w p a L S id h hid hf).mono ?_
    rintro e w' ⟨rfl, rfl⟩
    refine ⟨by unfold kn; rw [e1]; rfl, ⟨L, by rw [e1]; exact h.cutC, rfl⟩, Fz.refl _ _⟩
  | some x =>
    have e1 : fnd (ab L) id = some x.x := by rw [fnd_ab, hf]; rfl
    refine (unlist_hit w p a L S id h hid hf hl).mono ?_
    rintro e w' ⟨rfl, hb, hz⟩
    refine ⟨by unfold kn; rw [e1]; rfl, ⟨L, by rw [e1]; exact hb, rfl⟩, hz⟩
theorem blist_any (h : Bx C R w p a D S) : Calls Tryz.prog 26 #[ptr p] w fun e w' => ∃ A n c, e = .returned (.agg #[.slice A n c]) ∧ Rd (Value.int .u64) w w.heap.size A n c S ∧ Below w.heap.size w w' := by
  obtain ⟨L, h, rfl⟩ := h
  refine (list_any w p a L S h).mono ?_
  rintro e w' ⟨A, n, c, rfl, h1, _, h2⟩
  exact ⟨A, n, c, rfl, h1, h2⟩
theorem bnew_any : Calls Tryz.prog 33 #[] w fun e w' => e = .returned (ptr (w.heap.size + 1)) ∧ Bx (fresh w) (fun _ => False) w' (w.heap.size + 1) w.heap.size [] [] ∧ Below w.heap.size w w' :=
  (new_any w).mono fun e w' ⟨h1, h2, h3⟩ => ⟨h1, ⟨[], h2, rfl⟩, h3⟩
end
end Go.Proofs.YthmdiaingolfnaaGreatDoor.Ba
