/- The walk of hackneylaw10.FactoryOnce. -/
import Derived.Test.YtmnjdmcocifogaaGreatDoorFactOpen
import Derived.Test.YtmnjdmcocifogaaGreatDoorAfter
namespace Go.Proofs.YtmnjdmcocifogaaGreatDoor.Fc
open Go.ChangeShapes Go.WideShapes Go.ChangeAt Go.RowKit Go.Maps Rw
set_option linter.unusedVariables false
abbrev Set_ (w : World) (b n : Nat) (C : List Int) : Prop := w.ownsMap Tryz.prog 23 (plainElem Tryz.prog 4) b n (Mp.setD .u64 C)
theorem set_same {w w' : World} {b n : Nat} {C : List Int} (h : Set_ w b n C) (hb : w'.heap[b]? = w.heap[b]?) : Set_ w' b n C := by
  obtain ⟨es, clock, h1, h2⟩ := h
  exact ⟨es, clock, hb.trans h1, h2⟩
theorem kn_none {n : Nat} {C : List Int} {id : Int} (h : id = 0 ∨ (n : Int) < id) (cl : Int) : kn n C id cl = 9 := by simp [kn, h]
theorem kn_shut {n : Nat} {C : List Int} {id : Int} (h : ¬ (id = 0 ∨ (n : Int) < id)) (hC : id ∈ C) (cl : Int) : kn n C id cl = cl := by unfold kn; rw [if_neg h, if_pos hC]
theorem kn_open {n : Nat} {C : List Int} {id : Int} (h : ¬ (id = 0 ∨ (n : Int) < id)) (hC : id ∉ C) (cl : Int) : kn n C id cl = 0 := by unfold kn; rw [if_neg h, if_neg hC]
set_option maxRecDepth 100000 in
theorem once_long (A : Option Addr) (n c : Nat) (A' : Option Addr) (n' c' : Nat) (w : World) (hT : Tx.Tab w) (hn : n ≤ 9223372036854775807) (hn' : n' ≤ 9223372036854775807) (h : 100 < n ∨ 100 < n') :
    Calls Tryz.prog 6 #[.slice A n c, .slice A' n' c'] w fun e w' => e = .returned (.bool true) ∧ Below w.heap.size w w' := by
  by_cases h1 : 100 < n
  · have t0 : decide ((100 : Int) < (n : Int)) = true := decide_eq_true (by omega)
    have t0' : decide (100 < n) = true := decide_eq_true (by omega)
    go_enter Tryz.func6, Tryz.ntmps6
    go_wp2_with fail
    refine (awake10_any _ hT).mono ?_
    rintro e w1 ⟨rfl, hb1⟩
    go_wp2_with fail
    go_ret
    exact ⟨rfl, hb1⟩
  · have t0 : decide ((100 : Int) < (n : Int)) = false := decide_eq_false (by omega)
    have t0' : decide (100 < n) = false := decide_eq_false (by omega)
    have t1 : decide ((100 : Int) < (n' : Int)) = true := decide_eq_true (by omega)
    have t1' : decide (100 < n') = true := decide_eq_true (by omega)
    go_enter Tryz.func6, Tryz.ntmps6
    go_wp2_with fail
    refine (awake10_any _ hT).mono ?_
    rintro e w1 ⟨rfl, hb1⟩
    go_wp2_with fail
    go_ret
    exact ⟨rfl, hb1⟩
set_option maxHeartbeats 8000000 in
set_option maxRecDepth 100000 in
theorem once_any (A : Option Addr) (n c : Nat) (O : List Bool) (A' : Option Addr) (N c' : Nat) (xs : List Ac) (w : World) (hT : Tx.Tab w) (h : Rd Value.bool w w.heap.size A n c O) (h' : Rs encA 2 w w.heap.size A' N c' xs) (hn : n ≤ 100) (hN : N ≤ 100) (hok : ∀ x ∈ xs, x.ok) :
    Calls Tryz.prog 6 #[.slice A n c, .slice A' N c'] w fun e w' => e = .returned (.bool true) ∧ Below w.heap.size w w' := by
  have hmm := @run_makeMap Tryz.prog
  have HT := Lib.hid hT
  have R := Lib.hid h
  have R' := Lib.hid h'
  have HK := Lib.hid hok
  have hnc := h'.cap
  have htop := h'.top
  have t0 : decide ((100 : Int) < (n : Int)) = false := decide_eq_false (by omega)
  have t0' : decide (100 < n) = false := decide_eq_false (by omega)
  have t1 : decide ((100 : Int) < (N : Int)) = false := decide_eq_false (by omega)
  have t1' : decide (100 < N) = false := decide_eq_false (by omega)
  clear hT h h' hok
  go_enter Tryz.func6, Tryz.ntmps6
  go_wp2_with fail
  refine (awake10_any _ HT.out).mono ?_
  rintro e w1 ⟨rfl, hb1⟩
  go_wp2_with fail
  refine (new_any A n c _ O none 0 0 0 [] _ (R.out.below hb1) Rd.nil_ hb1.size (by omega) (by omega) (by omega)).mono ?_
  rintro e w2 ⟨m, p, rfl, h2, hb2⟩
  have b2 : Below w.heap.size w w2 := hb1.trans (hb2.mono hb1.size)
  have hs1 := hb1.size
  have hlo := h2.lo
  have hmp := h2.lt
  have hp2 := h2.in_
  obtain ⟨b, hbb⟩ : ∃ b, w1.heap.size = b := ⟨_, rfl⟩
  rw [hbb] at h2 hlo hs1
  have H2 := Lib.hid h2
  have HB2 := Lib.hid b2
  clear h2 b2 hb1 hb2 hbb
  go_wp2_with fail
  have HS1 : Hid (Set_ (((w2.alloc (.map #[] 0)).alloc (.map #[] 0))) w2.heap.size 0 []) := Lib.hid ((World.ownsMap_made w2 _ _ _).alloc _)
  have HS2 : Hid (Set_ (((w2.alloc (.map #[] 0)).alloc (.map #[] 0))) (w2.heap.size + 1) 0 []) := Lib.hid (by have := World.ownsMap_made (H := Unit) (w2.alloc (.map #[] 0)) Tryz.prog 23 (plainElem Tryz.prog 4); rw [show (w2.alloc (.map #[] 0)).heap.size = w2.heap.size + 1 by simp] at this; exact this)
  have hba : Below w2.heap.size w2 ((w2.alloc (.map #[] 0)).alloc (.map #[] 0)) := ((Below.refl w2.heap.size w2).alloc (Nat.le_refl _) _).alloc (by simp) _
  have H3 := Lib.hid (H2.out.later hba)
  have HB3 := Lib.hid (HB2.out.trans (hba.mono HB2.out.size))
  clear H2 HB2 hba
  generalize hmo : w2.heap.size = mo at *
  generalize ((w2.alloc (.map #[] 0)).alloc (.map #[] 0)) = W3 at *
  clear hmo
  go_loopw [32] (fun i wr => ∃ (k : Nat) (O : List Bool) (q : Nat) (C : List Int), k ≤ N ∧ i = .int .i64 k ∧ q ≤ k ∧ C.length ≤ k ∧ Fa wr b m p O [] q C ∧ Set_ wr mo q (upto q) ∧ Set_ wr (mo + 1) C.length C ∧ Below w.heap.size w wr) (fun i _ => N - (intOf i).toNat)
  case atStart => exact ⟨0, O, 0, [], Nat.zero_le _, rfl, Nat.le_refl _, Nat.le_refl _, H3.out, HS1.out, HS2.out, HB3.out⟩
  case round =>
    clear H3 HS1 HS2 HB3
    obtain ⟨k, O, q, C, hk, rfl, hq, hC, hfa, hs1', hs2', hb⟩ := hrel
    have HF := Lib.hid hfa
    have HS1 := Lib.hid hs1'
    have HS2 := Lib.hid hs2'
    have HB := Lib.hid hb
    have hmo1 : mo + 1 < wr.heap.size := hs2'.lt
    clear hfa hs1' hs2' hb
    by_cases hlt : k < N
    · obtain ⟨ab, ao, x, rfl, hab, hx, c0, c1⟩ := two_at R'.out hlt
      have hxk := HK.out x (List.mem_of_getElem? hx)
      have hbel := HB.out
      rw [← hbel.cell (p := ⟨ab, _, none⟩) hab] at c0 c1
      have hs := hbel.size
      clear hbel hx
      obtain ⟨x0, id⟩ := x
      obtain ⟨hx0, hid⟩ := hxk
      simp only at c0 c1 hx0 hid
      have hba : Below wr.heap.size wr (wr.alloc (.cells #[.int .u8 x0, .int .u64 id] 57)) := (Below.refl _ _).alloc (Nat.le_refl _) _
      have HF1 := Lib.hid (HF.out.later hba)
      have HS1a := Lib.hid (set_same HS1.out (hba.block mo (by omega)))
      have HS2a := Lib.hid (set_same HS2.out (hba.block (mo + 1) hmo1))
      have HB1 := Lib.hid (HB.out.trans (hba.mono hs))
      have e1 : (wr.alloc (.cells #[.int .u8 x0, .int .u64 id] 57)).cell? ⟨wr.heap.size, 1, none⟩ = some (.int .u64 id) := by simp
      have e0 : (wr.alloc (.cells #[.int .u8 x0, .int .u64 id] 57)).cell? ⟨wr.heap.size, 0, none⟩ = some (.int .u8 x0) := by simp
      have hgs : (wr.alloc (.cells #[.int .u8 x0, .int .u64 id] 57)).heap.size = wr.heap.size + 1 := by simp
      by_cases hd : x0 % 4 < 2
      · have hdb : decide (x0 % 4 < 2) = true := decide_eq_true hd
        have N1 := open_any p b m q O [] C (wr.alloc (.cells #[.int .u8 x0, .int .u64 id] 57)) HF1.out (by omega)
        have HN := Lib.hid N1
        clear N1 hd
        go_wp2_with fail
        generalize nx O = r at *
        obtain ⟨ok, l⟩ := r
        refine HN.out.mono ?_
        rintro e w4 ⟨rfl, h4, hf4⟩
        clear HN
        have HF4 := Lib.hid h4
        have HS14 := Lib.hid (set_same HS1a.out (hf4.block mo (by omega) (fun e => by injection e; omega) (fun e => by injection e; omega)))
        have HS24 := Lib.hid (set_same HS2a.out (hf4.block (mo + 1) (by omega) (fun e => by injection e; omega) (fun e => by injection e; omega)))
        have HB4 := Lib.hid (HB1.out.trans (hf4.below HB1.out.size (fun k e => by injection e; omega) (fun k e => by injection e; omega)))
        clear h4 hf4 HF1 HS1a HS2a HB1 HF HS1 HS2 HB e0 e1 c0 c1 hgs hba
        cases ok
        · simp only [Bool.false_eq_true, if_false] at HF4 ⊢
          go_wp2_with fail
          go_roundw
          case rel => exact ⟨k + 1, l, q, C, by omega, by go_num, by omega, by omega, HF4.out, HS14.out, HS24.out, HB4.out⟩
          case measure => simp [intOf]; omega
        · simp only [if_true] at HF4 ⊢
          have hno : decide (((q : Int) + 1) ∈ upto q) = false := decide_eq_false (fun h => by have := (mem_upto q _).1 h; omega)
          have hlk := (Wl.set_run (y := (q : Int) + 1) (by omega) HS14.out).trans (by rw [hno])
          have hw : (Lit.int .u64 ((q : Int) + 1)).wf = true := Wl.wf64 (by omega)
          clear hno
          go_wp2_with (refine Mp.update_set _ rfl _ _ _ 72 rfl 23 4 .u64 Tryz.underlying23 Tryz.underlying72 Tryz.underlying4 mo q (upto q) rfl HS14.out (by unfold maxLen; omega) ((q : Int) + 1) rfl rfl hw ?_)
          intro w5 ho5 hg5
          rw [← upto_succ] at ho5
          have HF5 := Lib.hid (HF4.out.same fun g _ hg => hg5.block g (by have := HF4.out.in_; omega) (fun e => by injection e; omega))
          have HS15 := Lib.hid ho5
          have HS25 := Lib.hid (set_same HS24.out (hg5.block (mo + 1) HS24.out.lt (fun e => by injection e; omega)))
          have HB5 := Lib.hid (HB4.out.grown hg5 HB4.out.size (fun k e => by injection e; omega))
          clear HF4 HS14 HS24 HB4 ho5 hg5 hlk
          go_wp2_with fail
          go_roundw
          case rel => exact ⟨k + 1, l, q + 1, C, by omega, by go_num, by omega, by omega, HF5.out, HS15.out, HS25.out, HB5.out⟩
          case measure => simp [intOf]; omega
      · have hdb : decide (x0 % 4 < 2) = false := decide_eq_false hd
        clear hd
        by_cases hout : id = 0 ∨ (q : Int) < id
        · have P6 := prove_any p b m q O [] C id (wr.alloc (.cells #[.int .u8 x0, .int .u64 id] 57)) HF1.out hid
          rw [kn_none hout 6] at P6
          simp only [show ((9 : Int) = 0) = False by simp, if_false] at P6
          have HP6 := Lib.hid P6
          clear P6
          have n1 : decide (id ∈ upto q) = false := decide_eq_false (fun h => by have := (mem_upto q _).1 h; omega)
          have n2 : decide (id ∈ C) = false := decide_eq_false (fun h => by have := HF1.out.mem _ h; omega)
          go_wp2_with fail
          refine HP6.out.mono ?_
          rintro e w4 ⟨rfl, h4, hf4⟩
          have HF4 := Lib.hid h4
          have e14 : w4.cell? ⟨wr.heap.size, 1, none⟩ = some (.int .u64 id) := (hf4.cell (p := ⟨wr.heap.size, 1, none⟩) (by simp) (fun e => by injection e with e; have e : wr.heap.size = p := e; omega) (fun e => by injection e with e; have e : wr.heap.size = m := e; omega)).trans e1
          have HS14 := Lib.hid (set_same HS1a.out (hf4.block mo (by omega) (fun e => by injection e; omega) (fun e => by injection e; omega)))
          have HS24 := Lib.hid (set_same HS2a.out (hf4.block (mo + 1) (by omega) (fun e => by injection e; omega) (fun e => by injection e; omega)))
          have HB4 := Lib.hid (HB1.out.trans (hf4.below HB1.out.size (fun k e => by injection e; omega) (fun k e => by injection e; omega)))
          have hs4 := hf4.size
          clear h4 hf4 HF1 HS1a HS2a HB1 HF HS1 HS2 HB e1 e0 c0 c1 hba HP6
          have C10 := close_any p b m q O [] C id w4 HF4.out hid (by omega)
          rw [kn_none hout 10] at C10
          simp only [show ((9 : Int) = 0) = False by simp, if_false] at C10
          have HC10 := Lib.hid C10
          clear C10
          go_wp2_with fail
          refine HC10.out.mono ?_
          rintro e w5 ⟨rfl, h5, hf5⟩
          have HF5 := Lib.hid h5
          have e15 : w5.cell? ⟨wr.heap.size, 1, none⟩ = some (.int .u64 id) := (hf5.cell (p := ⟨wr.heap.size, 1, none⟩) (by simp; omega) (fun e => by injection e with e; have e : wr.heap.size = p := e; omega) (fun e => by injection e with e; have e : wr.heap.size = m := e; omega)).trans e14
          have HS15 := Lib.hid (set_same HS14.out (hf5.block mo HS14.out.lt (fun e => by injection e; omega) (fun e => by injection e; omega)))
          have HS25 := Lib.hid (set_same HS24.out (hf5.block (mo + 1) HS24.out.lt (fun e => by injection e; omega) (fun e => by injection e; omega)))
          have HB5 := Lib.hid (HB4.out.trans (hf5.below HB4.out.size (fun k e => by injection e; omega) (fun k e => by injection e; omega)))
          have l5 := (Wl.set_run (y := id) hid HS15.out).trans (by rw [n1])
          have l6 := (Wl.set_run (y := id) hid HS25.out).trans (by rw [n2])
          clear h5 hf5 HF4 HS14 HS24 HB4 e14 HC10 n1 n2
          go_wp2_with fail
          go_roundw
          case rel => exact ⟨k + 1, O, q, C, by omega, by go_num, by omega, by omega, HF5.out, HS15.out, HS25.out, HB5.out⟩
          case measure => simp [intOf]; omega
        · by_cases hin : id ∈ C
          · have P6 := prove_any p b m q O [] C id (wr.alloc (.cells #[.int .u8 x0, .int .u64 id] 57)) HF1.out hid
            rw [kn_shut hout hin 6] at P6
            simp only [show ((6 : Int) = 0) = False by simp, if_false] at P6
            have HP6 := Lib.hid P6
            clear P6
            have n1 : decide (id ∈ upto q) = true := decide_eq_true ((mem_upto q _).2 (by omega))
            have n2 : decide (id ∈ C) = true := decide_eq_true hin
            go_wp2_with fail
            refine HP6.out.mono ?_
            rintro e w4 ⟨rfl, h4, hf4⟩
            have HF4 := Lib.hid h4
            have e14 : w4.cell? ⟨wr.heap.size, 1, none⟩ = some (.int .u64 id) := (hf4.cell (p := ⟨wr.heap.size, 1, none⟩) (by simp) (fun e => by injection e with e; have e : wr.heap.size = p := e; omega) (fun e => by injection e with e; have e : wr.heap.size = m := e; omega)).trans e1
            have HS14 := Lib.hid (set_same HS1a.out (hf4.block mo (by omega) (fun e => by injection e; omega) (fun e => by injection e; omega)))
            have HS24 := Lib.hid (set_same HS2a.out (hf4.block (mo + 1) (by omega) (fun e => by injection e; omega) (fun e => by injection e; omega)))
            have HB4 := Lib.hid (HB1.out.trans (hf4.below HB1.out.size (fun k e => by injection e; omega) (fun k e => by injection e; omega)))
            have hs4 := hf4.size
            clear h4 hf4 HF1 HS1a HS2a HB1 HF HS1 HS2 HB e1 e0 c0 c1 hba HP6
            have C10 := close_any p b m q O [] C id w4 HF4.out hid (by omega)
            rw [kn_shut hout hin 10] at C10
            simp only [show ((10 : Int) = 0) = False by simp, if_false] at C10
            have HC10 := Lib.hid C10
            clear C10 hin
            go_wp2_with fail
            refine HC10.out.mono ?_
            rintro e w5 ⟨rfl, h5, hf5⟩
            have HF5 := Lib.hid h5
            have e15 : w5.cell? ⟨wr.heap.size, 1, none⟩ = some (.int .u64 id) := (hf5.cell (p := ⟨wr.heap.size, 1, none⟩) (by simp; omega) (fun e => by injection e with e; have e : wr.heap.size = p := e; omega) (fun e => by injection e with e; have e : wr.heap.size = m := e; omega)).trans e14
            have HS15 := Lib.hid (set_same HS14.out (hf5.block mo HS14.out.lt (fun e => by injection e; omega) (fun e => by injection e; omega)))
            have HS25 := Lib.hid (set_same HS24.out (hf5.block (mo + 1) HS24.out.lt (fun e => by injection e; omega) (fun e => by injection e; omega)))
            have HB5 := Lib.hid (HB4.out.trans (hf5.below HB4.out.size (fun k e => by injection e; omega) (fun k e => by injection e; omega)))
            have l5 := (Wl.set_run (y := id) hid HS15.out).trans (by rw [n1])
            have l6 := (Wl.set_run (y := id) hid HS25.out).trans (by rw [n2])
            clear h5 hf5 HF4 HS14 HS24 HB4 e14 HC10 n1 n2
            go_wp2_with fail
            go_roundw
            case rel => exact ⟨k + 1, O, q, C, by omega, by go_num, by omega, by omega, HF5.out, HS15.out, HS25.out, HB5.out⟩
            case measure => simp [intOf]; omega
          · have P6 := prove_any p b m q O [] C id (wr.alloc (.cells #[.int .u8 x0, .int .u64 id] 57)) HF1.out hid
            rw [kn_open hout hin 6] at P6
            simp only [nx, if_true] at P6
            have HP6 := Lib.hid P6
            clear P6
            have n1 : decide (id ∈ upto q) = true := decide_eq_true ((mem_upto q _).2 (by omega))
            have n2 : decide (id ∈ C) = false := decide_eq_false hin
            have hw : (Lit.int .u64 id).wf = true := Wl.wf64 hid
            go_wp2_with fail
            refine HP6.out.mono ?_
            rintro e w4 ⟨rfl, h4, hf4⟩
            have HF4 := Lib.hid h4
            have e14 : w4.cell? ⟨wr.heap.size, 1, none⟩ = some (.int .u64 id) := (hf4.cell (p := ⟨wr.heap.size, 1, none⟩) (by simp) (fun e => by injection e with e; have e : wr.heap.size = p := e; omega) (fun e => by injection e with e; have e : wr.heap.size = m := e; omega)).trans e1
            have HS14 := Lib.hid (set_same HS1a.out (hf4.block mo (by omega) (fun e => by injection e; omega) (fun e => by injection e; omega)))
            have HS24 := Lib.hid (set_same HS2a.out (hf4.block (mo + 1) (by omega) (fun e => by injection e; omega) (fun e => by injection e; omega)))
            have HB4 := Lib.hid (HB1.out.trans (hf4.below HB1.out.size (fun k e => by injection e; omega) (fun k e => by injection e; omega)))
            have hs4 := hf4.size
            clear h4 hf4 HF1 HS1a HS2a HB1 HF HS1 HS2 HB e1 e0 c0 c1 hba HP6
            have C10 := close_any p b m q O [] C id w4 HF4.out hid (by omega)
            rw [kn_open hout hin 10] at C10
            simp only [if_true] at C10
            have HC10 := Lib.hid C10
            clear C10 hin
            go_wp2_with fail
            refine HC10.out.mono ?_
            rintro e w5 ⟨rfl, h5, hf5⟩
            have HF5 := Lib.hid h5
            have e15 : w5.cell? ⟨wr.heap.size, 1, none⟩ = some (.int .u64 id) := (hf5.cell (p := ⟨wr.heap.size, 1, none⟩) (by simp; omega) (fun e => by injection e with e; have e : wr.heap.size = p := e; omega) (fun e => by injection e with e; have e : wr.heap.size = m := e; omega)).trans e14
            have HS15 := Lib.hid (set_same HS14.out (hf5.block mo HS14.out.lt (fun e => by injection e; omega) (fun e => by injection e; omega)))
            have HS25 := Lib.hid (set_same HS24.out (hf5.block (mo + 1) HS24.out.lt (fun e => by injection e; omega) (fun e => by injection e; omega)))
            have HB5 := Lib.hid (HB4.out.trans (hf5.below HB4.out.size (fun k e => by injection e; omega) (fun k e => by injection e; omega)))
            have l5 := (Wl.set_run (y := id) hid HS15.out).trans (by rw [n1])
            have l6 := (Wl.set_run (y := id) hid HS25.out).trans (by rw [n2])
            clear h5 hf5 HF4 HS14 HS24 HB4 e14 HC10 n1 n2
            go_wp2_with (refine Mp.update_set _ rfl _ _ _ 72 rfl 23 4 .u64 Tryz.underlying23 Tryz.underlying72 Tryz.underlying4 (mo + 1) C.length C rfl HS25.out (by unfold maxLen; omega) id rfl rfl hw ?_)
            intro w6 ho6 hg6
            have HF6 := Lib.hid (HF5.out.same fun g _ hg => hg6.block g (by have := HF5.out.in_; omega) (fun e => by injection e; omega))
            have HS16 := Lib.hid (set_same HS15.out (hg6.block mo HS15.out.lt (fun e => by injection e; omega)))
            have HS26 := Lib.hid ho6
            have HB6 := Lib.hid (HB5.out.grown hg6 HB5.out.size (fun k e => by injection e; omega))
            clear HF5 HS15 HS25 HB5 ho6 hg6 l5 l6
            go_wp2_with fail
            go_roundw
            case rel => exact ⟨k + 1, O, q, C ++ [id], by omega, by go_num, by omega, by simp; omega, HF6.out, HS16.out, by simpa using HS26.out, HB6.out⟩
            case measure => simp [intOf]; omega
    · obtain rfl : k = N := by omega
      clear hlt
      have hq1 := HF.out.in_
      have HSZ1 : Hid (Maps.size (Mp.setD .u64 (upto q)) = q) := Lib.hid ((Wl.setD_size _ (upto_nodup q)).trans (upto_len q))
      have HSZ2 : Hid (Maps.size (Mp.setD .u64 C) = C.length) := Lib.hid (Wl.setD_size C HF.out.nd)
      have HCNT := Lib.hid (ids_count C q HF.out.nd HF.out.mem)
      go_wp2_with (at_range; refine wpList_range_own _ rfl _ 72 rfl 23 4 Wl.law Tryz.underlying72 _ mo q (Mp.setD .u64 (upto q)) rfl HS1.out ?_; intro w0 hrg0 hg0 hs0)
      go_frame
      obtain ⟨it, hit⟩ : ∃ it, wr.heap.size = it := ⟨_, rfl⟩
      rw [hit] at hrg0
      have hitl : p < it ∧ mo + 1 < it := by omega
      have HF0 := Lib.hid (HF.out.same (w' := w0) fun g _ hg => hg0.block g (by omega) (by simp))
      have HS20 := Lib.hid (set_same HS2.out (hg0.block (mo + 1) hmo1 (by simp)))
      have HB0 := Lib.hid (HB.out.grown hg0 HB.out.size (fun j hj => by cases hj))
      have hwit : w.heap.size ≤ it := by have := HB.out.size; omega
      have hs00 : it < w0.heap.size := by omega
      clear HF HS1 HS2 HB hg0 hs0
      try rw [hit]
      clear hit
      go_loopw [15] (fun v wr4 => ∃ (left : Lit → Bool) (cnt : Nat), wr4.ranges Tryz.prog 23 (plainElem Tryz.prog 4) mo it q (Mp.setD .u64 (upto q)) left cnt ∧ w0.grownBy wr4 (some it)) (fun _ wr4 => wr4.rangeLeft mo it)
      case atStart => exact ⟨_, _, hrg0, World.grownBy.refl _ _⟩
      case round =>
        clear hrg0
        obtain ⟨left, cnt, hrg, hgw⟩ := hrel
        go_wp2_with (at_next; refine next_set _ rfl _ rfl 23 4 Tryz.underlying23 Tryz.underlying4 mo it q (upto q) _ _ rfl hrg ?_ ?_)
        · have HF9 := Lib.hid (HF0.out.same (w' := wr) fun g _ hg => hgw.block g (by omega) (fun e => by injection e; omega))
          have HS29 := Lib.hid (set_same HS20.out (hgw.block (mo + 1) (by omega) (fun e => by injection e; omega)))
          have HS19 := Lib.hid hrg.owns
          have HB9 := Lib.hid (HB0.out.grown hgw HB0.out.size (fun j hj => by cases hj; exact hwit))
          have hcl9 : C.length < 1000 := by omega
          have hl1 := (HS19.out.len Tryz.underlying72 3).trans (by rw [HSZ1.out])
          have hl2 := (HS29.out.len Tryz.underlying72 3).trans (by rw [HSZ2.out])
          clear hrg hgw HF0 HS20 HB0
          go_wp2_with fail
          refine (opened_any p b m q O [] C _ HF9.out).mono ?_
          rintro e w5 ⟨rfl, rfl⟩
          go_wp2_with fail
          refine (closed_any p b m q O [] C _ HF9.out hcl9).mono ?_
          rintro e w5 ⟨rfl, rfl⟩
          go_wp2_with fail
          refine (ids_any p b m q O [] C _ HF9.out (by omega)).mono ?_
          rintro e w5 ⟨A5, c5, q5, rfl, hq5, -, hb5⟩
          have HS19' := Lib.hid (set_same HS19.out (hb5.block mo HS19.out.lt))
          have HS29' := Lib.hid (set_same HS29.out (hb5.block (mo + 1) HS29.out.lt))
          have HB5 := Lib.hid (HB9.out.trans (hb5.mono HB9.out.size))
          have hfin : (((q5 : Nat) : Int) == (q : Int) - (C.length : Int)) = true := by have := HCNT.out; simp; omega
          clear HS19 HS29 HB9 hb5 hq5 HF9
          have hl3 := (HS19'.out.len Tryz.underlying72 3).trans (by rw [HSZ1.out])
          have hl4 := (HS29'.out.len Tryz.underlying72 3).trans (by rw [HSZ2.out])
          clear hl1 hl2
          go_wp2_with fail
          go_ret
          exact ⟨rfl, HB5.out⟩
        · intro x v w1 left' cnt' hxm hx640 hx641 hrg1 hltm hg1 hen
          have hx64 : 0 ≤ x ∧ x ≤ 18446744073709551615 := ⟨hx640, hx641⟩
          have hgw1 : w0.grownBy w1 (some it) := hgw.trans hg1
          have HF9 := Lib.hid (HF0.out.same (w' := w1) fun g _ hg => hgw1.block g (by omega) (fun e => by injection e; omega))
          have HS29 := Lib.hid (set_same HS20.out (hgw1.block (mo + 1) (by omega) (fun e => by injection e; omega)))
          have hx1 := (mem_upto q x).1 hxm
          have hrl := hrg1.left_eq
          have hrl0 := hrg.left_eq
          have HRG1 := Lib.hid hrg1
          have HGW1 := Lib.hid hgw1
          have HRL := Lib.hid hrl
          have HRL0 := Lib.hid hrl0
          have HLT := Lib.hid hltm
          have hkn : (kn q C x 6 == 0) = !decide (x ∈ C) := by
            unfold kn
            rw [if_neg (by omega)]
            by_cases hC : x ∈ C <;> simp [hC]
          have HC : Hid (∀ y : After w1, Calls Tryz.prog 34 #[ptr p, .int .u64 x] y.1 fun e w' => e = .returned (.bool (!decide (x ∈ C))) ∧ y.1 = w') :=
            Lib.hid fun y => by rw [← hkn]; exact isopen_any p b m q O [] C x y.1 (HF9.out.later y.2) hx64
          have hlk : ∀ y : After w1, (Instr.lookup 72 (.map (some (mo + 1))) (.int .u64 x) false).run Tryz.prog y.1 = .ok (.bool (decide (x ∈ C))) y.1 := fun y => Wl.set_run hx64 (set_same HS29.out (y.2.block (mo + 1) HS29.out.lt))
          clear hxm hrg1 hgw1 hrl hrl0 hltm hg1 hrg hgw hkn
          generalize decide (x ∈ C) = bx at *
          have hbx : ((!bx) == bx) = false := by cases bx <;> rfl
          go_wp2_with fail
          refine region_after (by kernel_rfl) (by kernel_rfl) ?_
          repeat (go_big_quiet_step (first | (go_at_call 34; exact After.same (HC.out _))))
          refine wpQuiet_nil ?_
          rintro W5 ⟨⟨W5, hb5⟩, rfl⟩
          have hg5 : w1.grownBy W5 none := ⟨hb5.os, hb5.tape, hb5.output, hb5.size, fun k hk _ => hb5.block k hk⟩
          have HRG5 := Lib.hid (HRG1.out.kept hg5 (by simp) (by simp))
          have HGW5 : Hid (w0.grownBy W5 (some it)) := Lib.hid ⟨hb5.os.trans HGW1.out.os, hb5.tape.trans HGW1.out.tape, hb5.output.trans HGW1.out.output, Nat.le_trans HGW1.out.size hb5.size, fun k hk hne => (hb5.block k (Nat.lt_of_lt_of_le hk HGW1.out.size)).trans (HGW1.out.block k hk hne)⟩
          have HM : Hid (W5.rangeLeft mo it < wr.rangeLeft mo it) := Lib.hid (by rw [HRG5.out.left_eq, ← HRL.out]; exact HLT.out)
          clear hb5 hg5 HC hlk
          go_wp2_with fail
          go_roundw
          case rel => exact ⟨_, cnt', HRG5.out, HGW5.out⟩
          case measure => exact HM.out
end Go.Proofs.YtmnjdmcocifogaaGreatDoor.Fc
