/- A part of the claim: the texts LeaseMath LeaseDoc LeaseU. -/
import Derived.Test.YthmdiaingolfnaaGreatDoorZBase6
namespace Go.Proofs.YthmdiaingolfnaaGreatDoor.Le
open Go.ChangeShapes Go.WideShapes Go.ChangeAt Go.RowKit Go.Maps Rw Hi Mt Ck
set_option linter.unusedVariables false
structure Iv (leak : Int) (L : List (Int × Ls)) (T : List (Int × Int)) : Prop where
  th : ∀ k x, fnd L k = some x → (0 ≤ x.thread ∧ x.thread < 8) ∧ (0 ≤ x.since ∧ x.since ≤ 576460752303423488) ∧ U64 k
  t1 : ∀ k t, (k, t) ∈ T → leak ≠ 0 ∧ ∃ x, fnd L k = some x ∧ x.flag = false ∧ t = x.since + leak
  t2 : leak ≠ 0 → ∀ k x, fnd L k = some x → x.flag = false → ∃ t, (k, t) ∈ T
  t3 : leak = 0 → ∀ k x, fnd L k = some x → x.flag = false
theorem Iv.nil (leak : Int) : Iv leak [] [] := ⟨fun k x h => by (cases h), fun k t h => by (cases h), fun _ k x h => by (cases h), fun _ k x h => by (cases h)⟩
theorem arm_room' {T : List (Int × Int)} {x t : Int} (h : T.length ≤ 1000) (ht : t ≤ 1152921504606846976) : Wl.arm T x t = Wl.ins (x, t) (Wl.wo T x) := by
  have hf : Wl.full T x = false := decide_eq_false (by have := Wl.wo_len T x; omega)
  unfold Wl.arm Wl.cut
  rw [hf, if_pos ht]; rfl
def cnt (L : List (Int × Ls)) (t : Nat) : Nat := (L.filter (fun a => decide (a.2.thread < (t : Int)))).length
end Go.Proofs.YthmdiaingolfnaaGreatDoor.Le
namespace Go.Proofs.YthmdiaingolfnaaGreatDoor.Le
open Go.ChangeShapes Go.WideShapes Go.ChangeAt Go.RowKit Go.Maps Rw Hi Mt Ck
set_option linter.unusedVariables false
def Sd (D : List (Int × Ls)) : Prop := D.Pairwise (fun a b => a.1 < b.1)
theorem Sd.nd {D : List (Int × Ls)} (h : Sd D) : Nd D := by
  unfold Nd List.Nodup
  rw [List.pairwise_map]
  exact List.Pairwise.imp (fun hab => Int.ne_of_lt hab) h
theorem Sd.filter {D : List (Int × Ls)} (h : Sd D) (p : Int × Ls → Bool) : Sd (D.filter p) := List.Pairwise.filter p h
theorem Sd.wo {D : List (Int × Ls)} (h : Sd D) (id : Int) : Sd (Mt.wo D id) := h.filter _
theorem Sd.keys {D : List (Int × Ls)} (h : Sd D) : (D.map Prod.fst).Pairwise (· ≤ ·) := by
  rw [List.pairwise_map]
  exact List.Pairwise.imp (fun hab => Int.le_of_lt hab) h
theorem Sd.rest {D : List (Int × Ls)} (h : Sd D) {k : Nat} {id : Int} (hk : ∀ a, D[k]? = some a → id < a.1) : ∀ a ∈ D.drop k, id < a.1 := by
  intro a ha
  obtain ⟨j, hj, rfl⟩ := List.mem_iff_getElem.1 ha
  rw [List.getElem_drop]
  rw [List.length_drop] at hj
  have h0 := hk _ (List.getElem?_eq_getElem (show k < D.length by omega))
  rcases Nat.eq_zero_or_pos j with e | e
  · subst e; exact h0
  · have := List.pairwise_iff_getElem.1 h k (k + j) (by omega) (by omega) (by omega)
    exact Int.lt_trans h0 this
theorem Sd.put {D : List (Int × Ls)} (h : Sd D) {k : Nat} {id : Int} (x : Ls) (hlo : ∀ a ∈ D.take k, a.1 < id) (hhi : ∀ a ∈ D.drop k, id < a.1) : Sd (D.take k ++ (id, x) :: D.drop k) := by
  refine List.pairwise_append.2 ⟨h.sublist (List.take_sublist _ _), List.pairwise_cons.2 ⟨hhi, h.sublist (List.drop_sublist _ _)⟩, fun a ha b hb => ?_⟩
  rcases List.mem_cons.1 hb with rfl | hb
  · exact hlo a ha
  · exact Int.lt_trans (hlo a ha) (hhi b hb)
def mk (M : List Int) : List (Int × Bool) := M.map (fun i => (i, true))
theorem mk_wo (M : List Int) (id : Int) : Mt.wo (mk M) id = mk (M.filter (· != id)) := by
  unfold Mt.wo mk
  rw [List.filter_map]; rfl
def Tk (D : List (Int × Ls)) (T : List (Int × Int)) : Prop := ∀ a ∈ T, a.1 ∈ D.map Prod.fst
theorem Tk.nil : Tk [] [] := fun a h => by cases h
theorem Tk.perm {D D' : List (Int × Ls)} {T : List (Int × Int)} (h : Tk D T) (hp : D.Perm D') : Tk D' T := fun a ha => (hp.map Prod.fst).mem_iff.1 (h a ha)
theorem Tk.due {D : List (Int × Ls)} {T : List (Int × Int)} (h : Tk D T) (now : Int) : ∀ y ∈ (Wl.due T now).map Prod.fst, y ∈ D.map Prod.fst := by
  intro y hy
  obtain ⟨a, ha, rfl⟩ := List.mem_map.1 hy
  exact h a (Wl.mem_due.1 ha).1
theorem arm_put {T : List (Int × Int)} {id now leak : Int} (h : T.length ≤ 1000) : Wl.arm T id (cAdd now leak) = Wl.ins (id, cAdd now leak) (Wl.wo T id) := arm_room' h (cAdd_hi _ _)
end Go.Proofs.YthmdiaingolfnaaGreatDoor.Le
namespace Go.Proofs.YthmdiaingolfnaaGreatDoor.Le
open Go.ChangeShapes Go.WideShapes Go.ChangeAt Go.RowKit Go.Maps Rw Hi Mt Ck
set_option linter.unusedVariables false
section
variable (w : World) (x : At) (leak : Int) (D : List (Int × Ls)) (M : List Int) (T : List (Int × Int)) (id th now : Int)
theorem forgetU (h : Bk w x leak D (mk M) T) (hid : U64 id) :
    Calls Tryz.prog 60 #[ptr x.p, .int .u64 id] w fun e w' => e = .returned (.tuple #[]) ∧ Bk w' x leak D (mk (M.filter (· != id))) T ∧ Fr (some x.b) none w w' := by
  have := forget_any w x leak D (mk M) T id h hid
  rw [mk_wo] at this
  exact this
end
theorem Bk.keep {w w' : World} {x : At} {leak : Int} {L : List (Int × Ls)} {M : List (Int × Bool)} {T : List (Int × Int)} (h : Bk w x leak L M T) {f g : Option Nat} (hf : Fr f g w w') (hfg : (f = some x.a ∧ g = some x.m) ∨ (f = some x.b ∧ g = none)) {b o : Nat} {v : Value} (hc : w.cell? ⟨b, o, none⟩ = some v) : w'.cell? ⟨b, o, none⟩ = some v := by
  have hb : b < w.heap.size := Lw.lt_heap hc
  have ha : b ≠ x.a := fun e => h.leases.no_cell o v (e ▸ hc)
  have hb2 : b ≠ x.b := fun e => h.marks.no_cell o v (e ▸ hc)
  have hm : b ≠ x.m := fun e => wh_no_cell h.wheel o v (e ▸ hc)
  refine (hf.cell (p := ⟨b, o, none⟩) hb ?_ ?_).trans hc
  · rcases hfg with ⟨rfl, rfl⟩ | ⟨rfl, rfl⟩ <;> intro e <;> injection e <;> contradiction
  · rcases hfg with ⟨rfl, rfl⟩ | ⟨rfl, rfl⟩
    · intro e; injection e; contradiction
    · intro e; cases e
theorem Rs.held {α : Type} {enc : α → List Value} {sz : Nat} {w w' : World} {B : Nat} {A : Option Addr} {n c : Nat} {xs : List α} (h : Rs enc sz w B A n c xs) (hk : ∀ b o v, w.cell? ⟨b, o, none⟩ = some v → w'.cell? ⟨b, o, none⟩ = some v) (hs : B ≤ w'.heap.size) : Rs enc sz w' w'.heap.size A n c xs :=
  ⟨h.len, h.cap, h.top, fun hn => by
    obtain ⟨b, o, e, hb, hc⟩ := h.at_ hn
    exact ⟨b, o, e, by omega, fun j x hx i u hi hu => hk _ _ _ (hc j x hx i u hi hu)⟩⟩
theorem Rd.held {α : Type} {enc : α → Value} {w w' : World} {B : Nat} {A : Option Addr} {n c : Nat} {xs : List α} (h : Rd enc w B A n c xs) (hk : ∀ b o v, w.cell? ⟨b, o, none⟩ = some v → w'.cell? ⟨b, o, none⟩ = some v) (hs : B ≤ w'.heap.size) : Rd enc w' w'.heap.size A n c xs :=
  ⟨h.len, h.cap, h.top, fun hn => by
    obtain ⟨b, o, e, hb, hc⟩ := h.at_ hn
    exact ⟨b, o, e, by omega, fun j x hx => hk _ _ _ (hc j x hx)⟩⟩
end Go.Proofs.YthmdiaingolfnaaGreatDoor.Le
