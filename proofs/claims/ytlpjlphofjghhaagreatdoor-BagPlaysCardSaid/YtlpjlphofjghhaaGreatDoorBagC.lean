/- Layer 15 (bag): contracts of Entry, Enter, Swap, Proved, Publish, Unlist, New. -/
import Derived.Test.YtlpjlphofjghhaaGreatDoorBagB
import Derived.Test.YtlpjlphofjghhaaGreatDoorBase1
namespace Go.Proofs.YtlpjlphofjghhaaGreatDoor.Ba
open Go Go.ChangeShapes Go.WideShapes Go.ChangeAt Go.RowKit Go.Maps Rw Hi Mt
set_option linter.unusedVariables false

theorem with_below {P : Program} {f : FuncId} {args : Array Value} {w W : World} {B : Nat} {R : Ending → World → Prop} (hb : Below B w W) (h : Below B w W → Calls P f args W R) : Calls P f args W R := h hb
theorem and_keep {A B : Prop} (a : A) (h : A → B) : A ∧ B := ⟨a, h a⟩
section
variable {C R : Nat → Prop} (w : World) (p a : Nat) (L : List (Int × En)) (S : List Int) (id : Int)
set_option maxRecDepth 100000 in
set_option maxHeartbeats 1000000 in
theorem entry_hit (h : Bt C R w p a L S) (hid : U64 id) {x : En} (hf : fnd L id = some x) :
    Calls Tryz.prog 21 #[ptr p, .int .u64 id] w fun e w' => e = .returned (.tuple #[.agg #[.int .u64 id, .int .u64 x.word, .int .u64 x.born, .int .u64 x.since, .int .u64 x.proved], .bool true]) ∧ Below w.heap.size w w' := by
  have b1 : Below w.heap.size w (w.alloc (.cells #[.int .u64 0, .int .u64 0, .int .u64 0, .int .u64 0, .int .u64 0] 49)) := (Below.refl _ _).alloc (Nat.le_refl _) _
  have H := Lib.hid (of_hit (w.alloc (.cells #[.int .u64 0, .int .u64 0, .int .u64 0, .int .u64 0, .int .u64 0] 49)) p a L S id (h.later b1) hid hf)
  have hok := (h.get hf).1
  have K0 := Lib.hid hok.k0
  have K1 := Lib.hid hok.k1
  have K2 := Lib.hid hok.k2
  have K3 := Lib.hid hok.k3
  have KC := Lib.hid hok.kc
  have HL := Lib.hid hok.lt
  clear h hid hf hok
  go_enter Tryz.func21, Tryz.ntmps21
  go_wp2_with fail
  refine H.out.mono ?_
  rintro e w1 ⟨rfl, rfl⟩
  go_wp2_with fail
  have HS := Lib.hid (b1.trans ((Below.refl _ _).drew.mono b1.size))
  have HB := Lib.hid b1
  clear b1
  refine reg_start 21 (fun w' => Below w.heap.size w w') (by kernel_rfl) (by kernel_rfl) ?_
  intro hTT
  have HTT := Lib.hid hTT
  clear hTT
  refine reg_load 0 HTT.out rfl (by kernel_rfl) (by decide) (fun _ _ _ _ h => h) HS.out rfl ?_
  apply Exists.intro
  refine ⟨fun w' hw => by (go_simp; exact rfl), ?_⟩
  refine reg_load 1 HTT.out rfl (by kernel_rfl) (by decide) (fun _ _ _ _ h => h) HS.out rfl ?_
  apply Exists.intro
  refine ⟨fun w' hw => by (go_simp; exact rfl), ?_⟩
  refine reg_load 2 HTT.out rfl (by kernel_rfl) (by decide) (fun _ _ _ _ h => h) HS.out rfl ?_
  apply Exists.intro
  refine ⟨fun w' hw => by (go_simp; exact rfl), ?_⟩
  refine reg_load 3 HTT.out rfl (by kernel_rfl) (by decide) (fun _ _ _ _ h => h) HS.out rfl ?_
  apply Exists.intro
  refine ⟨fun w' hw => by (go_simp; exact rfl), ?_⟩
  refine reg_load 4 HTT.out rfl (by kernel_rfl) (by decide) (fun _ _ _ _ h => h) HS.out rfl ?_
  apply Exists.intro
  refine ⟨fun w' hw => by (have k := (hw.cell (p := ⟨x.e, 0, none⟩) HL.out.1).trans K0.out; go_simp; exact rfl), ?_⟩
  refine reg_load 6 HTT.out rfl (by kernel_rfl) (by decide) (fun _ _ _ _ h => h) HS.out rfl ?_
  apply Exists.intro
  refine ⟨fun w' hw => by (go_simp; exact rfl), ?_⟩
  refine reg_load 7 HTT.out rfl (by kernel_rfl) (by decide) (fun _ _ _ _ h => h) HS.out rfl ?_
  apply Exists.intro
  refine ⟨fun w' hw => by (go_simp; exact rfl), ?_⟩
  refine reg_load 8 HTT.out rfl (by kernel_rfl) (by decide) (fun _ _ _ _ h => h) HS.out rfl ?_
  apply Exists.intro
  refine ⟨fun w' hw => by (go_simp; exact rfl), ?_⟩
  refine reg_load 9 HTT.out rfl (by kernel_rfl) (by decide) (fun _ _ _ _ h => h) HS.out rfl ?_
  apply Exists.intro
  refine ⟨fun w' hw => by (have k := (hw.cell (p := ⟨x.e, 1, none⟩) HL.out.1).trans K1.out; go_simp; exact rfl), ?_⟩
  refine reg_load 10 HTT.out rfl (by kernel_rfl) (by decide) (fun _ _ _ _ h => h) HS.out rfl ?_
  apply Exists.intro
  refine ⟨fun w' hw => by (go_simp; exact rfl), ?_⟩
  refine reg_load 11 HTT.out rfl (by kernel_rfl) (by decide) (fun _ _ _ _ h => h) HS.out rfl ?_
  apply Exists.intro
  refine ⟨fun w' hw => by (go_simp; exact rfl), ?_⟩
  refine reg_load 12 HTT.out rfl (by kernel_rfl) (by decide) (fun _ _ _ _ h => h) HS.out rfl ?_
  apply Exists.intro
  refine ⟨fun w' hw => by (go_simp; exact rfl), ?_⟩
  refine reg_load 13 HTT.out rfl (by kernel_rfl) (by decide) (fun _ _ _ _ h => h) HS.out rfl ?_
  apply Exists.intro
  refine ⟨fun w' hw => by (have k := (hw.cell (p := ⟨x.e, 2, none⟩) HL.out.1).trans K2.out; go_simp; exact rfl), ?_⟩
  refine reg_load 14 HTT.out rfl (by kernel_rfl) (by decide) (fun _ _ _ _ h => h) HS.out rfl ?_
  apply Exists.intro
  refine ⟨fun w' hw => by (go_simp; exact rfl), ?_⟩
  refine reg_load 15 HTT.out rfl (by kernel_rfl) (by decide) (fun _ _ _ _ h => h) HS.out rfl ?_
  apply Exists.intro
  refine ⟨fun w' hw => by (go_simp; exact rfl), ?_⟩
  refine reg_load 16 HTT.out rfl (by kernel_rfl) (by decide) (fun _ _ _ _ h => h) HS.out rfl ?_
  apply Exists.intro
  refine ⟨fun w' hw => by (go_simp; exact rfl), ?_⟩
  refine reg_load 17 HTT.out rfl (by kernel_rfl) (by decide) (fun _ _ _ _ h => h) HS.out rfl ?_
  apply Exists.intro
  refine ⟨fun w' hw => by (have k := (hw.cell (p := ⟨x.e, 3, none⟩) HL.out.1).trans K3.out; go_simp; exact rfl), ?_⟩
  refine reg_only 5 rfl (by kernel_rfl) rfl ?_
  unfold Oper.wp
  go_simp
  refine (Wd.load_any _ _ _ ((HS.out.cell (p := ⟨x.c, 0, none⟩) HL.out.2).trans KC.out)).mono ?_
  rintro e w2 ⟨rfl, rfl⟩
  refine ⟨HS.out, ?_⟩
  refine reg_load 18 HTT.out rfl (by kernel_rfl) (by decide) (fun _ _ _ _ h => h) HS.out rfl ?_
  apply Exists.intro
  refine ⟨fun w' hw => by (go_simp; exact rfl), ?_⟩
  refine reg_only 19 rfl (by kernel_rfl) rfl ?_
  unfold Oper.wp
  go_simp
  refine and_keep (by (repeat' (first | exact HS.out | exact HB.out | exact Below.refl _ _ | apply Below.setCell | apply Below.drew | apply Below.alloc)); all_goals (first | exact Nat.le_refl _ | omega | (simp; done) | (simp; omega))) ?_
  intro hS
  clear HS
  have HS := Lib.hid hS
  clear hS
  refine reg_load 20 HTT.out rfl (by kernel_rfl) (by decide) (fun _ _ _ _ h => h) HS.out rfl ?_
  apply Exists.intro
  refine ⟨fun w' hw => by (go_simp; exact rfl), ?_⟩
  refine reg_done (by kernel_rfl) ?_
  go_wp2_with fail
  refine bodyPost_ret (v := .tuple #[.agg #[.int .u64 id, .int .u64 x.word, .int .u64 x.born, .int .u64 x.since, .int .u64 x.proved], .bool true]) (by simp [results, Tryz.results21, go_sem]) rfl ⟨rfl, HS.out⟩
/-- An entry comes. -/
theorem Bt.enter {w : World} {p a : Nat} {L : List (Int × En)} {S : List Int} {id : Int} (h : Bt C R w p a L S) (hn : fnd L id = none) (hid : U64 id) {w1 w2 : World} (hb : Below w.heap.size w w1) (x : En) (hok : Ok (ext w C) w2 x) (he : w.heap.size ≤ x.e) (hc : w.heap.size ≤ x.c)
    (hm : MP w2 a ((id, some x.e) :: wo (bl L) id)) (hg : w1.grownBy w2 (some a)) : Bt (ext w C) (cut w R) w2 p a (ins L id x) S := by
  replace h := h.extC
  have hnk : id ∉ L.map Prod.fst := fnd_no hn
  have hnb : id ∉ (bl L).map Prod.fst := by rw [bl_keys]; exact hnk
  have hk : ∀ g, g < w.heap.size → g ≠ a → w2.heap[g]? = w.heap[g]? := fun g hg1 hg2 => (hg.block g (Nat.lt_of_lt_of_le hg1 hb.size) (fun e => hg2 (by injection e))).trans (hb.block g hg1)
  have hpa : p ≠ a := fun e => h.mo.no_cell 0 _ (e ▸ h.c0)
  have hp := hk p h.lt.1 hpa
  obtain ⟨A, n, c, h1, h2, h3⟩ := h.row
  have hmem : ∀ {q}, q ∈ ins L id x ↔ q = (id, x) ∨ q ∈ L := mem_ins h.ri hnk
  refine ⟨(World.cell?_of_block hp).trans h.c0, (World.frozen?_of_block hp).trans h.f1, ⟨A, n, c, (World.cell?_of_block hp).trans h1, rd_blk h2 (Nat.le_trans hb.size hg.size) fun hn b o e => ?_, h3⟩, h.nd, h.us, ?_, fun q hq => ?_, fun q hq r hr e => ?_, h.ri.ins x, fun q hq => ?_, h.ip, h.ia, h.cr⟩
  · obtain ⟨b', o', e', hb', hc'⟩ := h2.at_ hn
    rw [e] at e'; injection e' with e'; injection e' with e1 e2 _
    have hl : 0 < S.length := by rw [h2.len]; exact hn
    refine hk b (by omega) (fun e3 => ?_)
    have := hc' 0 _ (List.getElem?_eq_getElem hl)
    rw [← e1, e3] at this
    exact h.mo.no_cell _ _ this
  · refine hm.perm ?_
    rw [wo_none hnb]
    have := (ins_perm (id := id) h.ri hnk x).map (fun q => (q.1, some q.2.e))
    exact this
  · rcases hmem.1 hq with rfl | hq
    · exact hok
    · have hq' := h.en q hq
      exact hq'.blk (hk _ hq'.lt.1 (fun e => h.mo.no_cell 0 _ (e ▸ hq'.k0))) (hk _ hq'.lt.2 (fun e => h.mo.no_cell 0 _ (e ▸ hq'.kc)))
  · rcases hmem.1 hq with rfl | hq <;> rcases hmem.1 hr with rfl | hr
    · rfl
    · have hr' := h.en r hr
      have := hr'.lt
      simp only at e
      omega
    · have hq' := h.en q hq
      have := hq'.lt
      simp only at e
      omega
    · exact h.ap q hq r hr e
  · rcases hmem.1 hq with rfl | hq
    · exact hid
    · exact h.ui q hq
/-- Enter's code. -/
def eE {β : Type} (D : List (Int × β)) (id st : Int) : Int := if id = 0 ∨ st < 0 ∨ 3 < st then 2 else if (fnd D id).isSome then 10 else 0
theorem enter_nil (st now : Int) : Calls Tryz.prog 18 #[.pointer none, .int .u64 id, .int .i64 st, .int .u64 now] w fun e w' => e = .returned (.int .i64 1) ∧ w = w' := by
  go_enter Tryz.func18, Tryz.ntmps18
  go_wp2_with fail
  go_ret
  exact ⟨rfl, rfl⟩
theorem enter_range (st now : Int) (hr : id = 0 ∨ st < 0 ∨ 3 < st) : Calls Tryz.prog 18 #[ptr p, .int .u64 id, .int .i64 st, .int .u64 now] w fun e w' => e = .returned (.int .i64 2) ∧ w = w' := by
  by_cases h0 : id = 0
  · have q0 : (id == 0) = true := by simpa using h0
    clear h0 hr
    go_enter Tryz.func18, Tryz.ntmps18
    go_wp2_with fail
    go_ret
    exact ⟨rfl, rfl⟩
  · have q0 : (id == 0) = false := by simpa using h0
    by_cases h1 : st < 0
    · have q1 : decide (st < 0) = true := decide_eq_true h1
      clear h0 h1 hr
      go_enter Tryz.func18, Tryz.ntmps18
      go_wp2_with fail
      go_ret
      exact ⟨rfl, rfl⟩
    · have q1 : decide (st < 0) = false := decide_eq_false h1
      have q2 : decide (3 < st) = true := decide_eq_true (by omega)
      clear h0 h1 hr
      go_enter Tryz.func18, Tryz.ntmps18
      go_wp2_with fail
      go_ret
      exact ⟨rfl, rfl⟩
theorem enter_had (h : Bt C R w p a L S) (hid : U64 id) (st now : Int) (hr : ¬ (id = 0 ∨ st < 0 ∨ 3 < st)) {x : En} (hf : fnd L id = some x) : Calls Tryz.prog 18 #[ptr p, .int .u64 id, .int .i64 st, .int .u64 now] w fun e w' => e = .returned (.int .i64 10) ∧ w = w' := by
  have q0 : (id == 0) = false := by simp; omega
  have q1 : decide (st < 0) = false := decide_eq_false (by omega)
  have q2 : decide (3 < st) = false := decide_eq_false (by omega)
  have H := Lib.hid (of_hit w p a L S id h hid hf)
  clear h hid hr hf
  go_enter Tryz.func18, Tryz.ntmps18
  go_wp2_with fail
  refine H.out.mono ?_
  rintro e w1 ⟨rfl, rfl⟩
  go_wp2_with fail
  go_ret
  exact ⟨rfl, rfl⟩
set_option maxRecDepth 100000 in
set_option maxHeartbeats 1000000 in
theorem enter_new (h : Bt C R w p a L S) (hid : U64 id) (st now : Int) (hnow : U64 now) (hr : ¬ (id = 0 ∨ st < 0 ∨ 3 < st)) (hf : fnd L id = none) (hlen : L.length < 1000000) :
    Calls Tryz.prog 18 #[ptr p, .int .u64 id, .int .i64 st, .int .u64 now] w fun e w' => e = .returned (.int .i64 0) ∧ (∃ x : En, x.x = ⟨Wd.wOf st 0, now, now, now⟩ ∧ Bt (ext w C) (cut w R) w' p a (ins L id x) S) ∧ Fz C w w' := by
  have q0 : (id == 0) = false := by simp; omega
  have q1 : decide (st < 0) = false := decide_eq_false (by omega)
  have q2 : decide (3 < st) = false := decide_eq_false (by omega)
  have H := Lib.hid (of_miss w p a L S id h hid hf)
  have K0 := Lib.hid h.c0
  have HL := Lib.hid h.lt.1
  have HM := Lib.hid h.mo
  have HK := Lib.hid h
  have HI := Lib.hid hid
  have HN := Lib.hid hf
  have HNOW := Lib.hid hnow
  have HLEN : Hid ((bl L).length < 4611686018427387904) := Lib.hid (by simp [bl]; omega)
  clear h hid hr hf hnow hlen
  go_enter Tryz.func18, Tryz.ntmps18
  go_wp2_with fail
  refine H.out.mono ?_
  rintro e w1 ⟨rfl, rfl⟩
  go_wp2_with fail
  have HS : Hid (Below w.heap.size w w.drew) := Lib.hid (Below.refl _ _).drew
  have HB : Hid (Below w.heap.size w w) := Lib.hid (Below.refl _ _)
  refine reg_start 13 (fun w' => Below w.heap.size w w') (by kernel_rfl) (by kernel_rfl) ?_
  intro hTT
  have HTT := Lib.hid hTT
  clear hTT
  refine reg_load 0 HTT.out rfl (by kernel_rfl) (by decide) (fun _ _ _ _ h => h) HS.out rfl ?_
  apply Exists.intro
  refine ⟨fun w' hw => by (go_simp; exact rfl), ?_⟩
  refine reg_load 1 HTT.out rfl (by kernel_rfl) (by decide) (fun _ _ _ _ h => h) HS.out rfl ?_
  apply Exists.intro
  refine ⟨fun w' hw => by (go_simp; exact rfl), ?_⟩
  refine reg_load 2 HTT.out rfl (by kernel_rfl) (by decide) (fun _ _ _ _ h => h) HS.out rfl ?_
  apply Exists.intro
  refine ⟨fun w' hw => by (go_simp; exact rfl), ?_⟩
  refine reg_load 3 HTT.out rfl (by kernel_rfl) (by decide) (fun _ _ _ _ h => h) HS.out rfl ?_
  apply Exists.intro
  refine ⟨fun w' hw => by (have k := (hw.cell (p := ⟨p, 0, none⟩) HL.out).trans K0.out; go_simp; exact rfl), ?_⟩
  refine reg_load 4 HTT.out rfl (by kernel_rfl) (by decide) (fun _ _ _ _ h => h) HS.out rfl ?_
  apply Exists.intro
  refine ⟨fun w' hw => by (go_simp; exact rfl), ?_⟩
  refine reg_load 5 HTT.out rfl (by kernel_rfl) (by decide) (fun _ _ _ _ h => h) HS.out rfl ?_
  apply Exists.intro
  refine ⟨fun w' hw => by (go_simp; exact rfl), ?_⟩
  refine reg_load 8 HTT.out rfl (by kernel_rfl) (by decide) (fun _ _ _ _ h => h) HS.out rfl ?_
  apply Exists.intro
  refine ⟨fun w' hw => by (go_simp; exact rfl), ?_⟩
  refine reg_load 9 HTT.out rfl (by kernel_rfl) (by decide) (fun _ _ _ _ h => h) HS.out rfl ?_
  apply Exists.intro
  refine ⟨fun w' hw => by (go_simp; exact rfl), ?_⟩
  refine reg_load 10 HTT.out rfl (by kernel_rfl) (by decide) (fun _ _ _ _ h => h) HS.out rfl ?_
  apply Exists.intro
  refine ⟨fun w' hw => by (go_simp; exact rfl), ?_⟩
  refine reg_only 6 rfl (by kernel_rfl) rfl ?_
  unfold Oper.wp
  go_simp
  refine (Wd.of_any st 0 _ (by omega) (by omega)).mono ?_
  rintro e w2 ⟨rfl, rfl⟩
  refine ⟨HS.out, ?_⟩
  refine reg_only 7 rfl (by kernel_rfl) rfl ?_
  unfold Oper.wp
  go_simp
  refine (Wd.new_any _ _).mono ?_
  rintro e w2 ⟨rfl, rfl⟩
  refine and_keep (by (repeat' (first | exact HS.out | exact HB.out | exact Below.refl _ _ | apply Below.setCell | apply Below.drew | apply Below.alloc)); all_goals (first | exact Nat.le_refl _ | omega | (simp; done) | (simp; omega))) ?_
  intro hS
  clear HS
  have HS := Lib.hid hS
  clear hS
  refine reg_load 11 HTT.out rfl (by kernel_rfl) (by decide) (fun _ _ _ _ h => h) HS.out rfl ?_
  apply Exists.intro
  refine ⟨fun w' hw => by (go_simp; exact rfl), ?_⟩
  refine reg_only 12 rfl (by kernel_rfl) rfl ?_
  unfold Oper.wp
  go_simp
  refine and_keep (by (repeat' (first | exact HS.out | exact HB.out | exact Below.refl _ _ | apply Below.setCell | apply Below.drew | apply Below.alloc)); all_goals (first | exact Nat.le_refl _ | omega | (simp; done) | (simp; omega))) ?_
  intro hS
  clear HS
  have HS := Lib.hid hS
  clear hS
  refine reg_only 13 rfl (by kernel_rfl) rfl ?_
  unfold Oper.wp
  go_simp
  obtain ⟨w3, hrun, hM3, hg3⟩ := run_put (E := eP) ((w.alloc (.cells #[.int .u64 (Wd.wOf st 0)] 196)).alloc (.cells #[ptr w.heap.size, .int .u64 now, .int .u64 now, .int .u64 now] 116)).drew Tryz.underlying30 Tryz.underlying108 (HM.out.later HS.out) HLEN.out HI.out (some (w.heap.size + 1))
  have hrun' : (Instr.mapUpdate 108 (.map (some a)) (.int .u64 id) (.pointer (some ⟨w.heap.size + 1, 0, none⟩))).run Tryz.prog ((w.alloc (.cells #[.int .u64 (Wd.wOf st 0)] 196)).alloc (.cells #[.pointer (some ⟨w.heap.size, 0, none⟩), .int .u64 now, .int .u64 now, .int .u64 now] 116)).drew = .ok () w3 := hrun
  rw [hrun']
  go_simp
  refine reg_done (by kernel_rfl) ?_
  have HS3 := Lib.hid (HS.out.size)
  have HM3 := Lib.hid hM3
  have HG3 := Lib.hid hg3
  clear hrun hrun' hM3 hg3
  go_wp2_with fail
  go_ret
  have hal := HK.out.lt.2
  have hw := HG3.out
  have c1 : ∀ i v, ((w.alloc (.cells #[.int .u64 (Wd.wOf st 0)] 196)).alloc (.cells #[ptr w.heap.size, .int .u64 now, .int .u64 now, .int .u64 now] 116)).drew.cell? ⟨w.heap.size + 1, i, none⟩ = some v → w3.cell? ⟨w.heap.size + 1, i, none⟩ = some v := fun i v hv => hw.cell hv (by intro e; injection e with e; have e : w.heap.size + 1 = a := e; omega)
  have hok : Ok (ext w C) w3 ⟨w.heap.size + 1, w.heap.size, Wd.wOf st 0, now, now, now⟩ :=
    ⟨c1 0 _ (by go_simp), c1 1 _ (by go_simp), c1 2 _ (by go_simp), c1 3 _ (by go_simp), hw.cell (a := ⟨w.heap.size, 0, none⟩) (by go_simp) (by intro e; injection e with e; have e : w.heap.size = a := e; omega),
      (World.frozen?_of_block (hw.block _ (by simp) (by intro e; injection e with e; have e : w.heap.size + 1 = a := e; omega))).trans (by go_simp), (World.frozen?_of_block (hw.block _ (by simp) (by intro e; injection e with e; have e : w.heap.size + 1 = a := e; omega))).trans (by go_simp), (World.frozen?_of_block (hw.block _ (by simp; omega) (by intro e; injection e with e; have e : w.heap.size = a := e; omega))).trans (by go_simp),
      .inr (by show w.heap.size ≤ w.heap.size + 1; omega), .inr (Nat.le_refl _), ⟨Wd.wOf_lo st 0, Wd.wOf_hi st 0⟩, HNOW.out, HNOW.out, HNOW.out⟩
  exact ⟨rfl, ⟨_, rfl, HK.out.enter HN.out HI.out HS.out _ hok (by show w.heap.size ≤ w.heap.size + 1; omega) (Nat.le_refl _) HM3.out HG3.out⟩, (Fz.of_below HS.out).trans (Fz.of_grown HG3.out (fun g e _ => by injection e with e; subst e; exact HK.out.ia))⟩
theorem swapT_nil (old st now : Int) : Calls Tryz.prog 10 #[.pointer none, .int .u64 id, .int .u64 old, .int .i64 st, .int .u64 now] w fun e w' => e = .returned (.tuple #[.int .u64 0, .bool false]) ∧ w = w' := by
  go_enter Tryz.func10, Tryz.ntmps10
  go_wp2_with fail
  refine (of_nil _ id).mono ?_
  rintro e w1 ⟨rfl, rfl⟩
  go_wp2_with fail
  go_ret2
  exact ⟨rfl, rfl⟩
theorem swapT_miss (h : Bt C R w p a L S) (hid : U64 id) (hf : fnd L id = none) (old st now : Int) : Calls Tryz.prog 10 #[ptr p, .int .u64 id, .int .u64 old, .int .i64 st, .int .u64 now] w fun e w' => e = .returned (.tuple #[.int .u64 0, .bool false]) ∧ w = w' := by
  have H := Lib.hid (of_miss w p a L S id h hid hf)
  clear h hid hf
  go_enter Tryz.func10, Tryz.ntmps10
  go_wp2_with fail
  refine H.out.mono ?_
  rintro e w1 ⟨rfl, rfl⟩
  go_wp2_with fail
  go_ret2
  exact ⟨rfl, rfl⟩
set_option maxHeartbeats 1000000 in
theorem swapT_hit (h : Bt C R w p a L S) (hid : U64 id) {x : En} (hf : fnd L id = some x) (old st now : Int) (ho : U64 old) (hnow : U64 now) : Calls Tryz.prog 10 #[ptr p, .int .u64 id, .int .u64 old, .int .i64 st, .int .u64 now] w fun e w' => e = .returned (.tuple #[.int .u64 (Wd.wSwap x.word old st), .bool (Wd.wSwapOk x.word old st)]) ∧
      Bt C R w' p a (up L id fun y => { y with word := Wd.wSwap x.word old st, since := if Wd.wSwapOk x.word old st = true ∧ st = 0 then now else x.since, proved := x.proved }) S ∧ Fz C w w' := by
  have H := Lib.hid (of_hit w p a L S id h hid hf)
  have hok := (h.get hf).1
  obtain ⟨g0, g1, g2, g3, gc, f2, f3, fc, hie, hic, uw, ub, us, up_⟩ := hok
  have hec : x.e ≠ x.c := fun e => by rw [e, gc] at g0; cases g0
  have hel := Lw.lt_heap g0
  have hcl := Lw.lt_heap gc
  have G2 := Lib.hid g2
  have G3 := Lib.hid g3
  have F2 := Lib.hid f2
  have HK := Lib.hid h
  have HF := Lib.hid hf
  have HIE := Lib.hid hie
  have HIC := Lib.hid hic
  have HEC := Lib.hid hec
  have HU : Hid (U64 (Wd.wSwap x.word old st)) := Lib.hid ⟨Wd.wSwap_lo _ _ _ uw.1, Wd.wSwap_hi _ _ _ uw.2⟩
  have HNOW := Lib.hid hnow
  have HUS := Lib.hid us
  have HUP := Lib.hid up_
  obtain ⟨V, hV⟩ : ∃ V, Wd.wSwap x.word old st = V := ⟨_, rfl⟩
  have HSW := Lib.hid (Wd.swap_any ⟨x.c, 0, none⟩ x.word old st w gc fc ho.1 ho.2)
  rw [hV] at HU HSW ⊢
  have hcc : (w.setCell ⟨x.c, 0, none⟩ (.int .u64 V)).cell? ⟨x.c, 0, none⟩ = some (.int .u64 V) := World.cell?_setCell_same _ _ _ gc
  have hoe : ∀ o, (w.setCell ⟨x.c, 0, none⟩ (.int .u64 V)).cell? ⟨x.e, o, none⟩ = w.cell? ⟨x.e, o, none⟩ := fun o => World.cell?_setCell_other w _ _ _ (fun e => hec (by injection e with e _; exact e.symm))
  have g2' := (hoe 2).trans g2
  have hfr2 : (w.setCell ⟨x.c, 0, none⟩ (.int .u64 V)).frozen? ⟨x.e, 2, none⟩ = false := by
    rw [← f2]; exact World.frozen?_of_block (heap_setCell_other w ⟨x.c, 0, none⟩ x.e _ (fun e => hec e))
  have HCC := Lib.hid hcc
  have HOE := Lib.hid hoe
  have HG2 := Lib.hid g2'
  have HV := Lib.hid hV
  clear h hid hf g1 g2 g3 f2 f3 hie hic hec uw ub us up_ hnow hV hcc hoe
  cases hk : Wd.wSwapOk x.word old st with
  | false =>
    rw [hk] at HSW
    have HK2 := Lib.hid hk
    clear hk
    rw [if_neg (fun e => by cases e.1)]
    go_enter Tryz.func10, Tryz.ntmps10
    go_wp2_with fail
    refine H.out.mono ?_
    rintro e w1 ⟨rfl, rfl⟩
    go_wp2_with fail
    refine HSW.out.mono ?_
    rintro e w2 ⟨rfl, rfl⟩
    go_wp2_with fail
    go_ret2
    refine ⟨rfl, HK.out.turn HF.out V x.since x.proved HU.out HUS.out HUP.out (by simp) HG2.out ((HOE.out 3).trans G3.out) HCC.out (fun o _ _ => HOE.out o) (fun o => World.frozen?_of_block (heap_setCell_other w ⟨x.c, 0, none⟩ x.e _ HEC.out)) (by simp) (fun g _ _ hg => heap_setCell_other w ⟨x.c, 0, none⟩ g _ hg), Fz.of_set _ HIC.out⟩
  | true =>
    rw [hk] at HSW
    have HK2 := Lib.hid hk
    clear hk
    by_cases h0 : st = 0
    · have q0 : (st == 0) = true := by simpa using h0
      rw [if_pos ⟨rfl, h0⟩]
      have H0 := Lib.hid h0
      clear h0
      go_enter Tryz.func10, Tryz.ntmps10
      go_wp2_with fail
      refine H.out.mono ?_
      rintro e w1 ⟨rfl, rfl⟩
      go_wp2_with fail
      refine HSW.out.mono ?_
      rintro e w2 ⟨rfl, rfl⟩
      go_wp2_with fail
      go_ret2
      refine ⟨rfl, HK.out.turn HF.out V now x.proved HU.out HNOW.out HUP.out (by simp) (World.cell?_setCell_same _ _ _ HG2.out) ?_ ?_ (fun o h2 h3 => ?_) (fun o => ?_) ?_ (fun g _ hg1 hg2 => (heap_setCell_other _ ⟨x.e, 2, none⟩ g _ hg1).trans (heap_setCell_other w ⟨x.c, 0, none⟩ g _ hg2)), (Fz.of_set _ HIC.out).trans (Fz.of_set _ HIE.out)⟩
      · exact (World.cell?_setCell_other _ _ _ _ (fun e => by injection e with _ e _; omega)).trans ((HOE.out 3).trans G3.out)
      · exact (World.cell?_setCell_other _ _ _ _ (fun e => HEC.out (by injection e))).trans HCC.out
      · exact (World.cell?_setCell_other _ _ _ _ (fun e => by injection e with _ e _; omega)).trans (HOE.out o)
      · rw [World.frozen?_setCell]; exact World.frozen?_of_block (heap_setCell_other w ⟨x.c, 0, none⟩ x.e _ HEC.out)
      · simp
    · have q0 : (st == 0) = false := by simpa using h0
      rw [if_neg (fun e => h0 e.2)]
      clear h0
      go_enter Tryz.func10, Tryz.ntmps10
      go_wp2_with fail
      refine H.out.mono ?_
      rintro e w1 ⟨rfl, rfl⟩
      go_wp2_with fail
      refine HSW.out.mono ?_
      rintro e w2 ⟨rfl, rfl⟩
      go_wp2_with fail
      go_ret2
      refine ⟨rfl, HK.out.turn HF.out V x.since x.proved HU.out HUS.out HUP.out (by simp) HG2.out ((HOE.out 3).trans G3.out) HCC.out (fun o _ _ => HOE.out o) (fun o => World.frozen?_of_block (heap_setCell_other w ⟨x.c, 0, none⟩ x.e _ HEC.out)) (by simp) (fun g _ _ hg => heap_setCell_other w ⟨x.c, 0, none⟩ g _ hg), Fz.of_set _ HIC.out⟩
theorem proved_nil (now : Int) : Calls Tryz.prog 13 #[.pointer none, .int .u64 id, .int .u64 now] w fun e w' => e = .returned (.int .i64 1) ∧ w = w' := by
  go_enter Tryz.func13, Tryz.ntmps13
  go_wp2_with fail
  refine (wrong_nil _ id).mono ?_
  rintro e w1 ⟨rfl, rfl⟩
  go_wp2_with fail
  go_ret
  exact ⟨rfl, rfl⟩
theorem proved_miss (h : Bt C R w p a L S) (hid : U64 id) (hf : fnd L id = none) (now : Int) : Calls Tryz.prog 13 #[ptr p, .int .u64 id, .int .u64 now] w fun e w' => e = .returned (.int .i64 9) ∧ w = w' := by
  have H := Lib.hid (wrong_any w p a L S id h hid)
  rw [hf] at H
  clear h hid hf
  go_enter Tryz.func13, Tryz.ntmps13
  go_wp2_with fail
  refine H.out.mono ?_
  rintro e w1 ⟨rfl, rfl⟩
  go_wp2_with fail
  go_ret
  exact ⟨rfl, rfl⟩
theorem proved_hit (h : Bt C R w p a L S) (hid : U64 id) {x : En} (hf : fnd L id = some x) (now : Int) (hnow : U64 now) : Calls Tryz.prog 13 #[ptr p, .int .u64 id, .int .u64 now] w fun e w' => e = .returned (.int .i64 0) ∧ Bt C R w' p a (up L id fun y => { y with word := x.word, since := x.since, proved := now }) S ∧ Fz C w w' := by
  have H := Lib.hid (wrong_any w p a L S id h hid)
  rw [hf] at H
  have H2 := Lib.hid (of_hit w p a L S id h hid hf)
  have HOK := Lib.hid (h.get hf).1
  have hec : x.e ≠ x.c := fun e => by have h1 := HOK.out.k0; rw [e, HOK.out.kc] at h1; cases h1
  have g3 := HOK.out.k3
  have f3 := HOK.out.f3
  have HK := Lib.hid h
  have HF := Lib.hid hf
  have HNOW := Lib.hid hnow
  have HEC := Lib.hid hec
  clear h hid hf hec hnow
  go_enter Tryz.func13, Tryz.ntmps13
  go_wp2_with fail
  refine H.out.mono ?_
  rintro e w1 ⟨rfl, rfl⟩
  go_wp2_with fail
  refine H2.out.mono ?_
  rintro e w1 ⟨rfl, rfl⟩
  go_wp2_with fail
  go_ret
  refine ⟨rfl, HK.out.turn HF.out x.word x.since now HOK.out.uw HOK.out.us HNOW.out (by simp) ?_ (World.cell?_setCell_same _ _ _ HOK.out.k3) ?_ (fun o h2 h3 => ?_) (fun o => by simp) (by simp) (fun g _ hg1 hg2 => heap_setCell_other _ ⟨x.e, 3, none⟩ g _ hg1), Fz.of_set _ HOK.out.ie⟩
  · exact (World.cell?_setCell_other _ _ _ _ (fun e => by injection e with _ e _; omega)).trans HOK.out.k2
  · exact (World.cell?_setCell_other _ _ _ _ (fun e => HEC.out (by injection e))).trans HOK.out.kc
  · exact World.cell?_setCell_other _ _ _ _ (fun e => by injection e with _ e _; omega)
end
end Go.Proofs.YtlpjlphofjghhaaGreatDoor.Ba
