/- Add and Clone of layer 9 (hist). -/
import Derived.Test.YtmnjdmcocifogaaGreatDoorHist
namespace Go.Proofs.YtmnjdmcocifogaaGreatDoor.Hi
open Go.ChangeShapes Go.WideShapes Go.ChangeAt Go.RowKit Rw Tx
set_option linter.unusedVariables false

section
variable {P : Program} {w : World} {α : Type} {enc : α → List Value} {sz : Nat}
theorem wp_append_rs (he : ∀ x, (enc x).length = sz) {o : Oper} {a : Act} {next : Act → World → Prop} {Q : Exit → Act → World → Prop} (s x : Operand) (t : TypeId)
    (ho : o.op = .call { callee := .builtin .append, args := #[s, x], argTypes := #[t, t] })
    (base : Nat) (e : TypeId) (i : TypeInfo) (z : Value) (bytes : Nat) (ht : P.underlying t = some (.slice e)) (hi : P.info? e = some i) (hz : i.zero = some z)
    (hsize : i.size = sz) (hby : i.bytes = bytes) (hzs : z.cells.size = sz) (hsz : 0 < sz)
    (v : Value) (n : Nat) (xs : List Value) (hs : a.eval s = v) (hown : w.ownsRow base e sz v n xs)
    (B : Nat) (A : Option Addr) (m c : Nat) (ys : List α) (hx : a.eval x = .slice A m c) (hr : Rs enc sz w B A m c ys) (h1 : ∀ y, ∀ u ∈ enc y, u.oneCell' = true)
    (k : Nat) (hk : n + m = k) (zs : List Value) (hzs' : xs ++ flat enc ys = zs) (h63 : n + m ≤ maxLen) (hbytes : (n + m) * bytes ≤ 140737488355328) (hbase : base ≤ w.heap.size)
    (h : ∀ A' c' w', w'.ownsRow base e sz (.slice A' k c') k zs → w.grownBy w' v.ownBlock → ((Value.slice A' k c').ownBlock = v.ownBlock ∨ (Value.slice A' k c').ownBlock = some w.heap.size) → next (a.put o.dst (.slice A' k c')) w') : o.wp P a w next Q := by
  subst hk hzs'
  obtain ⟨v', w', hrun, h2, h3, h4⟩ := run_append_rs (P := P) he base t o.type e i z bytes ht hi hz hsize hby hzs hsz v n xs hown B A m c ys hr h1 h63 hbytes hbase
  obtain ⟨A', c', rfl⟩ := own_slice h2
  exact Lib.wp_append_run w s x t t ho v _ hs hx _ w' hrun (h A' c' w' h2 h3 h4)
end

theorem Hs.put1 {w w1 : World} {B p : Nat} {r : Option Nat} {s : Int} {l l' : List Ev} {A' : Option Addr} {n' c' : Nat} (h : Hs w B p r s l) (hn : l'.length = n') (hg : w.grownBy w1 r) (ho : w1.ownsRow B 26 6 (.slice A' n' c') n' (flat encE l'))
    (hr : (Value.slice A' n' c').ownBlock = r ∨ ∃ g, (Value.slice A' n' c').ownBlock = some g ∧ w.heap.size ≤ g) :
    ∃ r', Hs (w1.setCell ⟨p, 1, none⟩ (.slice A' n' c')) B p r' s l' ∧ Fr (some p) r w (w1.setCell ⟨p, 1, none⟩ (.slice A' n' c')) ∧ (r' = r ∨ ∃ g, r' = some g ∧ w.heap.size ≤ g) := by
  subst hn
  have hpl := h.lt
  have hne : some p ≠ r := fun e => h.ne e.symm
  have hnp : (Value.slice A' l'.length c').ownBlock ≠ some p := by
    rcases hr with e | ⟨g, e, hg'⟩
    · rw [e]; exact h.ne
    · rw [e]; intro e2; injection e2; omega
  obtain ⟨A, c, h1, h2, h3⟩ := h.evs
  refine ⟨_, ⟨(World.cell?_setCell_other _ _ _ _ (fun e => by injection e with _ e; omega)).trans (hg.cell h.step hne), ⟨A', c', World.cell?_setCell_same _ _ _ (hg.cell h1 hne), own_same ho (fun g hg2 => heap_setCell_other w1 _ g _ (fun e => hnp (by rw [hg2, show g = p from e]))), rfl⟩, by simpa using grown_frozen hg h.free0 hpl hne, by simpa using grown_frozen hg h.free1 hpl hne, h.lo, hnp⟩, ?_, hr⟩
  exact (Fr.of_grown (a := some p) (b := r) hg (.inr (.inr rfl))).then (Fr.of_grown (a := some p) (b := r) (grown_setCell w1 ⟨p, 1, none⟩ _) (.inr (.inl rfl))) (fun k e _ => .inl e.symm) (fun k e _ => .inr e.symm)

set_option maxRecDepth 100000 in
theorem add_any (w : World) (B p : Nat) (r : Option Nat) (s : Int) (l : List Ev) (th ki op id er : Int) (h : Hs w B p r s l) (hreach : l.length ≤ 1000) :
    Calls Tryz.prog 12 #[.pointer (some ⟨p, 0, none⟩), .int .i64 th, .int .i64 ki, .int .i64 op, .int .u64 id, .int .i64 er] w fun e w' => e = .returned (.tuple #[]) ∧
      ∃ r', Hs w' B p r' s (l ++ [⟨s, th, ki, op, id, er⟩]) ∧ Fr (some p) r w w' ∧ (r' = r ∨ ∃ g, r' = some g ∧ w.heap.size ≤ g) := by
  obtain ⟨A, c, h1, h2, h3⟩ := h.evs
  have d0 := h.step
  have f1 := h.free1
  have hl := h.lt
  have hlo := h.lo
  have HH := Lib.hid h
  have HO := Lib.hid h2
  have H3 := Lib.hid h3
  obtain ⟨i0, hi, hz0, hz1, hz2⟩ := info_parts info_ev
  have HI := Lib.hid (show Tryz.prog.info? 26 = some i0 ∧ _ ∧ _ ∧ _ from ⟨hi, hz0, hz1, hz2⟩)
  clear h h2 h3 hi hz0 hz1 hz2
  generalize hn : l.length = n at *
  have HN := Lib.hid hn
  clear hn
  go_enter Tryz.func12, Tryz.ntmps12
  go_wp2_with fail
  refine reg_start 19 (fun w' => w'.cell? ⟨p, 0, none⟩ = some (.int .u64 s) ∧ w'.cell? ⟨p, 1, none⟩ = some (.slice A n c)) (by kernel_rfl) (by kernel_rfl) ?_
  intro hT
  have HT := Lib.hid hT
  clear hT
  refine reg_load 0 HT.out rfl (by kernel_rfl) (by decide) (fun _ _ _ _ h => h) ⟨d0, h1⟩ rfl ?_
  apply Exists.intro
  refine ⟨fun w' hw => by (obtain ⟨g1, g2⟩ := hw; go_simp; exact rfl), ?_⟩
  refine reg_load 1 HT.out rfl (by kernel_rfl) (by decide) (fun _ _ _ _ h => h) ⟨d0, h1⟩ rfl ?_
  apply Exists.intro
  refine ⟨fun w' hw => by (obtain ⟨g1, g2⟩ := hw; go_simp; exact rfl), ?_⟩
  refine reg_load 2 HT.out rfl (by kernel_rfl) (by decide) (fun _ _ _ _ h => h) ⟨d0, h1⟩ rfl ?_
  apply Exists.intro
  refine ⟨fun w' hw => by (obtain ⟨g1, g2⟩ := hw; go_simp; exact rfl), ?_⟩
  refine reg_load 3 HT.out rfl (by kernel_rfl) (by decide) (fun _ _ _ _ h => h) ⟨d0, h1⟩ rfl ?_
  apply Exists.intro
  refine ⟨fun w' hw => by (obtain ⟨g1, g2⟩ := hw; go_simp; exact rfl), ?_⟩
  refine reg_load 4 HT.out rfl (by kernel_rfl) (by decide) (fun _ _ _ _ h => h) ⟨d0, h1⟩ rfl ?_
  apply Exists.intro
  refine ⟨fun w' hw => by (obtain ⟨g1, g2⟩ := hw; go_simp; exact rfl), ?_⟩
  refine reg_load 5 HT.out rfl (by kernel_rfl) (by decide) (fun _ _ _ _ h => h) ⟨d0, h1⟩ rfl ?_
  apply Exists.intro
  refine ⟨fun w' hw => by (obtain ⟨g1, g2⟩ := hw; go_simp; exact rfl), ?_⟩
  refine reg_load 6 HT.out rfl (by kernel_rfl) (by decide) (fun _ _ _ _ h => h) ⟨d0, h1⟩ rfl ?_
  apply Exists.intro
  refine ⟨fun w' hw => by (obtain ⟨g1, g2⟩ := hw; go_simp; exact rfl), ?_⟩
  refine reg_load 7 HT.out rfl (by kernel_rfl) (by decide) (fun _ _ _ _ h => h) ⟨d0, h1⟩ rfl ?_
  apply Exists.intro
  refine ⟨fun w' hw => by (obtain ⟨g1, g2⟩ := hw; go_simp; exact rfl), ?_⟩
  refine reg_load 8 HT.out rfl (by kernel_rfl) (by decide) (fun _ _ _ _ h => h) ⟨d0, h1⟩ rfl ?_
  apply Exists.intro
  refine ⟨fun w' hw => by (obtain ⟨g1, g2⟩ := hw; go_simp; exact rfl), ?_⟩
  refine reg_load 9 HT.out rfl (by kernel_rfl) (by decide) (fun _ _ _ _ h => h) ⟨d0, h1⟩ rfl ?_
  apply Exists.intro
  refine ⟨fun w' hw => by (obtain ⟨g1, g2⟩ := hw; go_simp; exact rfl), ?_⟩
  refine reg_load 10 HT.out rfl (by kernel_rfl) (by decide) (fun _ _ _ _ h => h) ⟨d0, h1⟩ rfl ?_
  apply Exists.intro
  refine ⟨fun w' hw => by (obtain ⟨g1, g2⟩ := hw; go_simp; exact rfl), ?_⟩
  refine reg_load 11 HT.out rfl (by kernel_rfl) (by decide) (fun _ _ _ _ h => h) ⟨d0, h1⟩ rfl ?_
  apply Exists.intro
  refine ⟨fun w' hw => by (obtain ⟨g1, g2⟩ := hw; go_simp; exact rfl), ?_⟩
  refine reg_load 12 HT.out rfl (by kernel_rfl) (by decide) (fun _ _ _ _ h => h) ⟨d0, h1⟩ rfl ?_
  apply Exists.intro
  refine ⟨fun w' hw => by (obtain ⟨g1, g2⟩ := hw; go_simp; exact rfl), ?_⟩
  refine reg_load 13 HT.out rfl (by kernel_rfl) (by decide) (fun _ _ _ _ h => h) ⟨d0, h1⟩ rfl ?_
  apply Exists.intro
  refine ⟨fun w' hw => by (obtain ⟨g1, g2⟩ := hw; go_simp; exact rfl), ?_⟩
  refine reg_load 14 HT.out rfl (by kernel_rfl) (by decide) (fun _ _ _ _ h => h) ⟨d0, h1⟩ rfl ?_
  apply Exists.intro
  refine ⟨fun w' hw => by (obtain ⟨g1, g2⟩ := hw; go_simp; exact rfl), ?_⟩
  refine reg_only 15 rfl (by kernel_rfl) rfl ?_
  unfold Oper.wp
  go_simp
  refine reg_only 16 rfl (by kernel_rfl) rfl ?_
  refine wp_append_rs (enc := encE) encE_len _ _ 22 rfl B 26 i0 _ 48 Tryz.underlying22 HI.out.1 HI.out.2.1 HI.out.2.2.1 HI.out.2.2.2 rfl (by omega) (.slice A n c) n (flat encE l) rfl (own_same HO.out (fun g hg => RowKit.Below.heap_alloc w.drew _ g (by have := (HO.out.lt g hg).2; exact this))) (w.heap.size + 1) _ 1 1 [⟨s, th, ki, op, id, er⟩] rfl (rs_one encE_len w.drew ⟨s, th, ki, op, id, er⟩ _ rfl) encE_one (n + 1) rfl (flat encE (l ++ [⟨s, th, ki, op, id, er⟩])) (flat_append l _).symm ?_ ?_ ?_ ?_
  · unfold maxLen; omega
  · omega
  · simp; omega
  intro A' c' w1 ho hg hat
  rw [H3.out] at hg hat
  have hgw : w.grownBy w1 r := ⟨hg.os, hg.tape, hg.output, Nat.le_trans (by simp) hg.size, fun k hk hne => (hg.block k (by simp; omega) hne).trans (RowKit.Below.heap_alloc w.drew _ k hk)⟩
  have hne : some p ≠ r := fun e => HH.out.ne e.symm
  have e0 := hgw.cell d0 hne
  have e1 := hgw.cell h1 hne
  have ef := grown_frozen hgw f1 hl hne
  have hpl : p < w1.heap.size := Lw.lt_heap e0
  refine ⟨fun _ => ⟨e0, e1⟩, ?_⟩
  refine reg_load 17 HT.out rfl (by kernel_rfl) (by decide) (fun _ _ _ _ h => h) ⟨e0, e1⟩ rfl ?_
  apply Exists.intro
  refine ⟨fun w' hw => by (obtain ⟨g1, g2⟩ := hw; go_simp; exact rfl), ?_⟩
  refine reg_load 18 HT.out rfl (by kernel_rfl) (by decide) (fun _ _ _ _ h => h) ⟨e0, e1⟩ rfl ?_
  apply Exists.intro
  refine ⟨fun w' hw => by (obtain ⟨g1, g2⟩ := hw; go_simp; exact rfl), ?_⟩
  refine reg_only 19 rfl (by kernel_rfl) rfl ?_
  have HG := Lib.hid hgw
  have HO' := Lib.hid ho
  have HA' : Hid ((Value.slice A' (n + 1) c').ownBlock = r ∨ ∃ g, (Value.slice A' (n + 1) c').ownBlock = some g ∧ w.heap.size ≤ g) := Lib.hid (by
    rcases hat with e | e
    · exact .inl e
    · exact .inr ⟨_, e, by simp⟩)
  clear hgw ho hat hg
  unfold Oper.wp
  go_simp
  refine reg_done (by kernel_rfl) ?_
  obtain ⟨r', q1, q2, q3⟩ := HH.out.put1 (by simp [HN.out]) HG.out HO'.out HA'.out
  have Q := Lib.hid (show _ ∧ _ ∧ _ from ⟨q1, q2, q3⟩)
  clear q1 q2 q3
  go_wp2_with fail
  exact bodyPost_end (v := .tuple #[]) (by simp [results, Tryz.results12]) rfl ⟨rfl, r', Q.out⟩

set_option maxRecDepth 100000 in
theorem clone_any (w : World) (B p : Nat) (r : Option Nat) (s : Int) (l : List Ev) (h : Hs w B p r s l) (hreach : l.length ≤ 1000) :
    Calls Tryz.prog 11 #[.pointer (some ⟨p, 0, none⟩)] w fun e w' => ∃ p' r', e = .returned (.pointer (some ⟨p', 0, none⟩)) ∧ Hs w' B p' r' s l ∧ w.heap.size ≤ p' ∧ (∀ g, r' = some g → w.heap.size ≤ g) ∧ Below w.heap.size w w' := by
  obtain ⟨A, c, h1, hr⟩ := h.rs
  have d0 := h.step
  have hl := h.lt
  have hlo := h.lo
  have HR := Lib.hid hr
  clear h hr
  generalize hn : l.length = n at *
  have HN := Lib.hid hn
  clear hn
  go_enter Tryz.func11, Tryz.ntmps11
  go_wp2_with fail
  refine reg_start 9 (fun w' => w'.cell? ⟨p, 0, none⟩ = some (.int .u64 s) ∧ w'.cell? ⟨p, 1, none⟩ = some (.slice A n c)) (by kernel_rfl) (by kernel_rfl) ?_
  intro hT
  have HT := Lib.hid hT
  clear hT
  refine reg_load 0 HT.out rfl (by kernel_rfl) (by decide) (fun _ _ _ _ h => h) ⟨d0, h1⟩ rfl ?_
  apply Exists.intro
  refine ⟨fun w' hw => by (obtain ⟨g1, g2⟩ := hw; go_simp; exact rfl), ?_⟩
  refine reg_load 1 HT.out rfl (by kernel_rfl) (by decide) (fun _ _ _ _ h => h) ⟨d0, h1⟩ rfl ?_
  apply Exists.intro
  refine ⟨fun w' hw => by (obtain ⟨g1, g2⟩ := hw; go_simp; exact rfl), ?_⟩
  refine reg_load 2 HT.out rfl (by kernel_rfl) (by decide) (fun _ _ _ _ h => h) ⟨d0, h1⟩ rfl ?_
  apply Exists.intro
  refine ⟨fun w' hw => by (obtain ⟨g1, g2⟩ := hw; go_simp; exact rfl), ?_⟩
  refine reg_load 3 HT.out rfl (by kernel_rfl) (by decide) (fun _ _ _ _ h => h) ⟨d0, h1⟩ rfl ?_
  apply Exists.intro
  refine ⟨fun w' hw => by (obtain ⟨g1, g2⟩ := hw; go_simp; exact rfl), ?_⟩
  refine reg_load 4 HT.out rfl (by kernel_rfl) (by decide) (fun _ _ _ _ h => h) ⟨d0, h1⟩ rfl ?_
  apply Exists.intro
  refine ⟨fun w' hw => by (obtain ⟨g1, g2⟩ := hw; go_simp; exact rfl), ?_⟩
  refine reg_load 5 HT.out rfl (by kernel_rfl) (by decide) (fun _ _ _ _ h => h) ⟨d0, h1⟩ rfl ?_
  apply Exists.intro
  refine ⟨fun w' hw => by (obtain ⟨g1, g2⟩ := hw; go_simp; exact rfl), ?_⟩
  refine reg_load 6 HT.out rfl (by kernel_rfl) (by decide) (fun _ _ _ _ h => h) ⟨d0, h1⟩ rfl ?_
  apply Exists.intro
  refine ⟨fun w' hw => by (obtain ⟨g1, g2⟩ := hw; go_simp; exact rfl), ?_⟩
  refine reg_load 7 HT.out rfl (by kernel_rfl) (by decide) (fun _ _ _ _ h => h) ⟨d0, h1⟩ rfl ?_
  apply Exists.intro
  refine ⟨fun w' hw => by (obtain ⟨g1, g2⟩ := hw; go_simp; exact rfl), ?_⟩
  refine reg_only 8 rfl (by kernel_rfl) rfl ?_
  unfold Oper.wp
  go_simp
  refine (eclone_any A n c l _ _ (HR.out.below (Below.refl _ _).drew) (by simp) (by omega)).mono ?_
  rintro e w1 ⟨A1, c1, rfl, ho, hb⟩
  have e0 : w1.cell? ⟨p, 0, none⟩ = some (.int .u64 s) := (hb.cell (p := ⟨p, 0, none⟩) hl).trans d0
  have e1 : w1.cell? ⟨p, 1, none⟩ = some (.slice A n c) := (hb.cell (p := ⟨p, 1, none⟩) hl).trans h1
  have hbw : Below w.heap.size w w1 := (Below.refl _ _).drew.trans hb
  have hs1 := hbw.size
  have HO := Lib.hid ho
  clear ho hb
  refine ⟨⟨e0, e1⟩, ?_⟩
  refine reg_only 9 rfl (by kernel_rfl) rfl ?_
  unfold Oper.wp
  go_simp
  refine reg_only 10 rfl (by kernel_rfl) rfl ?_
  unfold Oper.wp
  go_simp
  refine reg_only 11 rfl (by kernel_rfl) rfl ?_
  unfold Oper.wp
  go_simp
  refine reg_done (by kernel_rfl) ?_
  go_wp2_with fail
  go_ret
  have hlt := HO.out.lt
  refine ⟨w1.heap.size, (Value.slice A1 n c1).ownBlock, rfl, ⟨by go_simp, ⟨A1, c1, by rw [HN.out]; go_simp, ?_, by rw [HN.out]⟩, by go_simp, by go_simp, by omega, ?_⟩, hs1, fun g hg => (hlt g hg).1, hbw.alloc hs1 _⟩
  · rw [HN.out]
    refine own_mono (own_same HO.out (fun g hg => RowKit.Below.heap_alloc w1 _ g (hlt g hg).2)) (show B ≤ w.heap.size by omega)
  · intro e
    have := (hlt _ e).2
    omega
end Go.Proofs.YtmnjdmcocifogaaGreatDoor.Hi
