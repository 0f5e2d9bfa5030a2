/- Contracts of layer 10 (factory): IDs, New, Clone; what wakes layer 10; FactoryNone. -/
import Derived.Test.YtmnjdmcocifogaaGreatDoorFactB
namespace Go.Proofs.YtmnjdmcocifogaaGreatDoor.Fc
open Go.ChangeShapes Go.WideShapes Go.ChangeAt Go.RowKit Go.Maps Rw
set_option linter.unusedVariables false

/-- The ids up to k that are not closed. -/
def ids (C : List Int) : Nat → List Int
  | 0 => []
  | k + 1 => if ((k : Int) + 1) ∈ C then ids C k else ids C k ++ [(k : Int) + 1]
theorem ids_len (C : List Int) : ∀ k, (ids C k).length ≤ k
  | 0 => by simp [ids]
  | k + 1 => by
    have := ids_len C k
    unfold ids
    split
    · omega
    · simp; exact this
theorem info_u64 : (Tryz.prog.info? 23).map (fun i => (i.zero, i.size, i.bytes)) = some (some (.int .u64 0), 1, 8) := by kernel_rfl
theorem one_u64 (y : Int) : (Value.int .u64 y).oneCell' = true := rfl
theorem ids_nil (w : World) :
    Calls Tryz.prog 37 #[.pointer none] w fun e w' => e = .returned (.slice none 0 0) ∧ w = w' := by
  go_enter Tryz.func37, Tryz.ntmps37
  go_wp2_with fail
  go_loopw [3, 4] (fun v i wr => v = .slice none 0 0 ∧ i = .int .u64 1 ∧ wr = w) (fun _ _ _ => 0)
  case atStart => exact ⟨rfl, rfl, rfl⟩
  case round =>
    obtain ⟨rfl, rfl, rfl⟩ := hrel
    go_wp2_with fail
    refine (opened_nil _).mono ?_
    rintro e w1 ⟨rfl, rfl⟩
    go_wp2_with fail
    go_ret
    exact ⟨rfl, rfl⟩
set_option maxRecDepth 100000 in
set_option maxHeartbeats 2000000 in
theorem ids_any (p b m n : Nat) (O P : List Bool) (C : List Int) (w : World) (h : Fa w b m p O P n C) (hn : n ≤ 1000) :
    Calls Tryz.prog 37 #[ptr p] w fun e w' => ∃ A c q, e = .returned (.slice A q c) ∧ (ids C n).length = q ∧ w'.ownsRow w.heap.size 23 1 (.slice A q c) q ((ids C n).map (Value.int .u64)) ∧ Below w.heap.size w w' := by
  obtain ⟨i0, hi, hz0, hz1, hz2⟩ := info_parts info_u64
  have HH := Lib.hid h
  clear h
  go_enter Tryz.func37, Tryz.ntmps37
  go_wp2_with fail
  go_loopw [3, 4] (fun v i wr => ∃ (k q c : Nat) (A : Option Addr), k ≤ n ∧ i = .int .u64 ((k : Int) + 1) ∧ v = .slice A q c ∧ (ids C k).length = q ∧
      wr.ownsRow w.heap.size 23 1 (.slice A q c) q ((ids C k).map (Value.int .u64)) ∧ Below w.heap.size w wr) (fun _ i _ => n + 1 - (intOf i).toNat)
  case atStart => exact ⟨0, 0, 0, none, Nat.zero_le _, rfl, rfl, rfl, World.ownsRow_nil _ _ _ _, Below.refl _ _⟩
  case round =>
    obtain ⟨k, q, c, A, hk, rfl, rfl, hq, hrow, hb⟩ := hrel
    have hfa := HH.out.later hb
    have HF := Lib.hid hfa
    have HR := Lib.hid hrow
    have HB := Lib.hid hb
    have HQ := Lib.hid hq
    have hqk : q ≤ k := by have := ids_len C k; omega
    clear hrow hb hfa hq
    by_cases hlt : k < n
    · have q1 : decide ((k : Int) + 1 ≤ (n : Int)) = true := decide_eq_true (by omega)
      by_cases hC : ((k : Int) + 1) ∈ C
      · have hkn : (kn n C ((k : Int) + 1) 6 == 0) = false := by unfold kn; rw [if_neg (by omega), if_pos hC]; rfl
        have hids : ids C (k + 1) = ids C k := by simp [ids, hC]
        have HI := Lib.hid hids
        have HK := Lib.hid hkn
        clear hids hC hkn
        go_wp2_with fail
        refine (opened_any p b m n O P C _ HF.out).mono ?_
        rintro e w1 ⟨rfl, rfl⟩
        go_wp2_with fail
        refine (isopen_any p b m n O P C ((k : Int) + 1) _ HF.out (by omega)).mono ?_
        rintro e w1 ⟨rfl, rfl⟩
        rw [HK.out]
        go_wp2_with fail
        go_roundw
        case rel => exact ⟨k + 1, q, c, A, by omega, by go_num, rfl, by rw [HI.out]; exact HQ.out, by rw [HI.out]; exact HR.out, HB.out⟩
        case measure => simp [intOf]; omega
      · have hkn : (kn n C ((k : Int) + 1) 6 == 0) = true := by unfold kn; rw [if_neg (by omega), if_neg hC]; rfl
        have hids : ids C (k + 1) = ids C k ++ [(k : Int) + 1] := by simp [ids, hC]
        have HI := Lib.hid hids
        have HK := Lib.hid hkn
        have hmp : (ids C k).map (Value.int .u64) ++ [(k : Int) + 1].map (Value.int .u64) = (ids C (k + 1)).map (Value.int .u64) := by rw [hids, List.map_append]
        have HMP := Lib.hid hmp
        clear hids hC hkn hmp
        go_wp2_with fail
        refine (opened_any p b m n O P C _ HF.out).mono ?_
        rintro e w1 ⟨rfl, rfl⟩
        go_wp2_with fail
        refine (isopen_any p b m n O P C ((k : Int) + 1) _ HF.out (by omega)).mono ?_
        rintro e w1 ⟨rfl, rfl⟩
        rw [HK.out]
        obtain ⟨y, hy⟩ : ∃ y, (k : Int) + 1 = y := ⟨_, rfl⟩
        have hrd : Rd (Value.int .u64) (wr.alloc (.cells #[.int .u64 ((k : Int) + 1)] 23)) (wr.heap.size + 1) (some ⟨wr.heap.size, 0, none⟩) 1 1 [(k : Int) + 1] := rd_one wr ((k : Int) + 1) 23
        have HRD := Lib.hid hrd
        have hs := HB.out.size
        clear hrd hy
        go_wp2_with (
          at_builtin
          refine append_rd _ rfl _ _ 74 rfl w.heap.size 23 i0 (.int .u64 0) 8 Tryz.underlying74 hi hz0 hz1 hz2 rfl _ q _ rfl (HR.out.alloc _) _ _ 1 1 [(k : Int) + 1] rfl HRD.out one_u64 (q + 1) rfl _ HMP.out (by unfold maxLen; omega) (by omega) (by simp; omega) ?_
          intro A3 c3 w3 hrow3 hg3 hat3
          have HROW3 := Lib.hid hrow3
          have hb3 : Below w.heap.size w w3 := (HB.out.alloc hs _).grown hg3 (by simp; omega) (fun j hj => (HR.out.lt j hj).1)
          have HB3 := Lib.hid hb3
          clear hrow3 hg3 hb3 hat3)
        go_roundw
        case rel => exact ⟨k + 1, q + 1, c3, A3, by omega, by go_num, rfl, by rw [HI.out]; simp [HQ.out], HROW3.out, HB3.out⟩
        case measure => simp [intOf]; omega
    · obtain rfl : k = n := by omega
      have q1 : decide ((k : Int) + 1 ≤ (k : Int)) = false := decide_eq_false (by omega)
      go_wp2_with fail
      refine (opened_any p b m k O P C _ HF.out).mono ?_
      rintro e w1 ⟨rfl, rfl⟩
      go_wp2_with fail
      go_ret
      exact ⟨_, _, _, rfl, HQ.out, HR.out, HB.out⟩

theorem clone_nil (w : World) :
    Calls Tryz.prog 26 #[.pointer none] w fun e w' => e = .returned (.pointer none) ∧ w = w' := by
  go_enter Tryz.func26, Tryz.ntmps26
  go_wp2_with fail
  go_ret
  exact ⟨rfl, rfl⟩
theorem setclone_any (w : World) (m : Nat) (C : List Int) (h : w.ownsMap Tryz.prog 23 (plainElem Tryz.prog 4) m C.length (Mp.setD .u64 C)) :
    Calls Tryz.prog 51 #[.map (some m)] w fun e w' => e = .returned (.map (some w.heap.size)) ∧ w'.ownsMap Tryz.prog 23 (plainElem Tryz.prog 4) w.heap.size C.length (Mp.setD .u64 C) ∧ Below w.heap.size w w' ∧ w'.heap.size = w.heap.size + 1 := by
  obtain ⟨es, clock, hb, F, hs, hD⟩ := h
  refine (AnyW.maps_Clone Sf.mbLays m es clock w hb).mono ?_
  rintro e w' ⟨rfl, rfl⟩
  exact ⟨rfl, ⟨es, clock, (MapKept.heap_alloc w _).1, F, hs, hD⟩, (Below.refl _ w).alloc (Nat.le_refl _) _, by simp⟩
theorem own_scr {w w' : World} {b m : Nat} {A : Option Addr} {k c : Nat} {O : List Bool} (h : w.ownsRow b 4 1 (.slice A k c) k (O.map Value.bool)) (hb : Below w.heap.size w w') (hm : w.heap.size ≤ m) : Scr w' b m A k c O := by
  have h1 := Scr.of_own (m := w.heap.size) h (Nat.le_refl _)
  have h2 := h1.same (w' := w') fun g _ hg => hb.block g hg
  exact ⟨h2.rd.more hm, h2.lo⟩
theorem new_any (A : Option Addr) (k c B : Nat) (O : List Bool) (A' : Option Addr) (k' c' B' : Nat) (P : List Bool) (w : World) (h : Rd Value.bool w B A k c O) (h' : Rd Value.bool w B' A' k' c' P) (hB : B ≤ w.heap.size) (hB' : B' ≤ w.heap.size) (hk : k ≤ 1000) (hk' : k' ≤ 1000) :
    Calls Tryz.prog 25 #[.slice A k c, .slice A' k' c'] w fun e w' => ∃ m p, e = .returned (ptr p) ∧ Fa w' w.heap.size m p O P 0 [] ∧ Below w.heap.size w w' := by
  have hmm := @run_makeMap Tryz.prog
  have HR := Lib.hid h
  have HR' := Lib.hid h'
  clear h h'
  go_enter Tryz.func25, Tryz.ntmps25
  go_wp2_with fail
  refine (bclone_any A k c O B _ HR.out hB (by omega)).mono ?_
  rintro e w1 ⟨A1, c1, rfl, ho1, hb1⟩
  have hr' : Rd Value.bool w1 B' A' k' c' P := HR'.out.keep fun p hp => hb1.cell (by omega)
  have HR1 := Lib.hid hr'
  have HO1 := Lib.hid ho1
  have HB1 := Lib.hid hb1
  clear ho1 hb1 hr'
  go_wp2_with fail
  refine (bclone_any A' k' c' P B' _ HR1.out (by have := HB1.out.size; omega) (by omega)).mono ?_
  rintro e w2 ⟨A2, c2, rfl, ho2, hb2⟩
  have HO2 := Lib.hid (own_mono ho2 HB1.out.size)
  have HB2 := Lib.hid hb2
  clear ho2 hb2
  go_wp2_with fail
  go_ret
  have b12 := HB1.out.trans (HB2.out.mono HB1.out.size)
  have hs := b12.size
  refine ⟨w2.heap.size, w2.heap.size + 1, rfl, ⟨⟨A1, k, c1, by go_simp, own_scr HO1.out (HB2.out.trans ((((Below.refl w2.heap.size w2).alloc (Nat.le_refl _) _).alloc (by simp) _).mono HB2.out.size)) HB2.out.size⟩, ⟨A2, k', c2, by go_simp, own_scr HO2.out (((Below.refl w2.heap.size w2).alloc (Nat.le_refl _) _).alloc (by simp) _) (Nat.le_refl _)⟩, by go_simp, by go_simp, (World.ownsMap_made w2 _ _ _).alloc _, ?_, hs, by omega, List.nodup_nil, fun x hx => by cases hx⟩, b12.trans ((((Below.refl w2.heap.size w2).alloc (Nat.le_refl _) _).alloc (by simp) _).mono hs)⟩
  intro o
  simp
set_option maxHeartbeats 1000000 in
set_option maxRecDepth 100000 in
theorem awake10_any (w : World) (hT : Tx.Tab w) :
    Calls Tryz.prog 24 #[] w fun e w' => e = .returned (.bool true) ∧ Below w.heap.size w w' := by
  have HT := Lib.hid hT
  clear hT
  go_enter Tryz.func24, Tryz.ntmps24
  go_wp2_with fail
  refine (new_any _ 1 1 _ [false] none 0 0 0 [] _ (rd_one w false _) Rd.nil_ (by simp) (by omega) (by omega) (by omega)).mono ?_
  rintro e w1 ⟨m, p, rfl, h1, hb1⟩
  have b1 : Below w.heap.size w w1 := ((Below.refl _ _).alloc (Nat.le_refl _) _).trans (hb1.mono (by simp))
  have hlo := h1.lo
  have hlt := h1.lt
  simp at hlo
  clear hb1
  go_wp2_with fail
  refine (open_any p _ m 0 [false] [] [] _ h1 (by omega)).mono ?_
  rintro e w2 ⟨rfl, h2, hf2⟩
  have b2 : Below w.heap.size w w2 := b1.trans (hf2.below b1.size (fun k hk => by injection hk; omega) (fun k hk => by injection hk; omega))
  clear h1 b1 hf2
  simp only [nx] at h2
  simp only [nx]
  go_wp2_with fail
  refine (open_any p _ m 0 [] [] [] _ h2 (by omega)).mono ?_
  rintro e w3 ⟨rfl, h3, hf3⟩
  have b3 : Below w.heap.size w w3 := b2.trans (hf3.below b2.size (fun k hk => by injection hk; omega) (fun k hk => by injection hk; omega))
  have HB3 := Lib.hid b3
  clear h2 h3 b2 b3 hf3
  simp only [nx]
  go_wp2_with fail
  refine (Hi.Awake9_any _ (HT.out.below HB3.out)).mono ?_
  rintro e w4 ⟨rfl, hb4⟩
  go_wp2_with fail
  go_ret
  exact ⟨rfl, HB3.out.trans (hb4.mono HB3.out.size)⟩
set_option maxRecDepth 100000 in
theorem none_any (w : World) (hT : Tx.Tab w) :
    Calls Tryz.prog 7 #[] w fun e w' => e = .returned (.bool true) ∧ Below w.heap.size w w' := by
  have HT := Lib.hid hT
  clear hT
  go_enter Tryz.func7, Tryz.ntmps7
  go_wp2_with fail
  refine (open_nil _).mono ?_
  rintro e w1 ⟨rfl, rfl⟩
  go_wp2_with fail
  refine (prove_nil _ _).mono ?_
  rintro e w1 ⟨rfl, rfl⟩
  go_wp2_with fail
  refine (awake10_any _ HT.out).mono ?_
  rintro e w1 ⟨rfl, hb1⟩
  go_wp2_with fail
  refine (close_nil _ _).mono ?_
  rintro e w2 ⟨rfl, rfl⟩
  go_wp2_with fail
  refine (isopen_nil _ _).mono ?_
  rintro e w2 ⟨rfl, rfl⟩
  go_wp2_with fail
  refine (opened_nil _).mono ?_
  rintro e w2 ⟨rfl, rfl⟩
  go_wp2_with fail
  refine (closed_nil _).mono ?_
  rintro e w2 ⟨rfl, rfl⟩
  go_wp2_with fail
  refine (ids_nil _).mono ?_
  rintro e w2 ⟨rfl, rfl⟩
  go_wp2_with fail
  refine (clone_nil _).mono ?_
  rintro e w2 ⟨rfl, rfl⟩
  go_wp2_with fail
  go_ret
  exact ⟨rfl, hb1⟩
end Go.Proofs.YtmnjdmcocifogaaGreatDoor.Fc
