/- The document's ids (layer 10); Clone of a factory; what is told of one. -/
import Derived.Test.YtmnjdmcocifogaaGreatDoorFactRef
import Derived.Test.YtmnjdmcocifogaaGreatDoorSlices
import Derived.Test.YtmnjdmcocifogaaGreatDoorReg
import Derived.Deep.RegionHeld3
namespace Go.Proofs.YtmnjdmcocifogaaGreatDoor.Fc
open Go.ChangeShapes Go.WideShapes Go.ChangeAt Go.RowKit Go.Maps Rw
set_option linter.unusedVariables false
set_option maxRecDepth 100000 in
set_option maxHeartbeats 2000000 in
theorem rids_any (v : Value) (p m n : Nat) (O P : List Bool) (C : List Int) (w : World) (h : Rf w p m v O P n C) (hn : n ≤ 1000) :
    Calls Tryz.prog 56 #[v] w fun e w' => ∃ A c q, e = .returned (.slice A q c) ∧ (ids C n).length = q ∧ w'.ownsRow w.heap.size 23 1 (.slice A q c) q ((ids C n).map (Value.int .u64)) ∧ Below w.heap.size w w' := by
  obtain ⟨i0, hi, hz0, hz1, hz2⟩ := info_parts info_u64
  obtain ⟨A1, n1, c1, A2, n2, c2, A3, c3, S, rfl, h1, h2, h3, h4⟩ := h.form
  have H3 := Lib.hid h3
  have H4 := Lib.hid h4
  clear h h1 h2 h3 h4
  go_enter Tryz.func56, Tryz.ntmps56
  go_wp2_with fail
  go_loopw [3, 9] (fun v i wr => ∃ (k q c : Nat) (A : Option Addr), k ≤ n ∧ i = .int .i64 k ∧ v = .slice A q c ∧ (ids C k).length = q ∧
      wr.ownsRow w.heap.size 23 1 (.slice A q c) q ((ids C k).map (Value.int .u64)) ∧ Below w.heap.size w wr) (fun _ i _ => n - (intOf i).toNat)
  case atStart => exact ⟨0, 0, 0, none, Nat.zero_le _, rfl, rfl, rfl, World.ownsRow_nil _ _ _ _, (Below.refl _ _).alloc (Nat.le_refl _) _⟩
  case round =>
    obtain ⟨k, q, c, A, hk, rfl, rfl, hq, hrow, hb⟩ := hrel
    have HR := Lib.hid hrow
    have HB := Lib.hid hb
    have HQ := Lib.hid hq
    have hqk : q ≤ k := by have := ids_len C k; omega
    clear hrow hb hq
    by_cases hlt : k < n
    · obtain ⟨g, o, x, rfl, hg, hx, hc⟩ := (H3.out.below HB.out).rd.get hlt
      have hxv := H4.out.2 k x hx
      clear hx
      cases x
      · have hC : ((k : Int) + 1) ∉ C := by simpa using hxv.symm
        have hids : ids C (k + 1) = ids C k ++ [(k : Int) + 1] := by simp [ids, hC]
        have HI := Lib.hid hids
        have hmp : (ids C k).map (Value.int .u64) ++ [(k : Int) + 1].map (Value.int .u64) = (ids C (k + 1)).map (Value.int .u64) := by rw [hids, List.map_append]
        have HMP := Lib.hid hmp
        have hrd : Rd (Value.int .u64) (wr.alloc (.cells #[.int .u64 ((k : Int) + 1)] 23)) (wr.heap.size + 1) (some ⟨wr.heap.size, 0, none⟩) 1 1 [(k : Int) + 1] := rd_one wr ((k : Int) + 1) 23
        have HRD := Lib.hid hrd
        have hs := HB.out.size
        clear hids hC hmp hxv hrd
        go_wp2_with (
          at_builtin
          refine append_rd _ rfl _ _ 74 rfl w.heap.size 23 i0 (.int .u64 0) 8 Tryz.underlying74 hi hz0 hz1 hz2 rfl _ q _ rfl (HR.out.alloc _) _ _ 1 1 [(k : Int) + 1] rfl HRD.out one_u64 (q + 1) rfl _ HMP.out (by unfold maxLen; omega) (by omega) (by simp; omega) ?_
          intro A5 c5 w5 hrow5 hg5 hat5
          have HROW5 := Lib.hid hrow5
          have hb5 : Below w.heap.size w w5 := (HB.out.alloc hs _).grown hg5 (by simp; omega) (fun j hj => (HR.out.lt j hj).1)
          have HB5 := Lib.hid hb5
          clear hrow5 hg5 hb5 hat5)
        go_roundw
        case rel => exact ⟨k + 1, q + 1, c5, A5, by omega, by go_num, rfl, by rw [HI.out]; simp [HQ.out], HROW5.out, HB5.out⟩
        case measure => simp [intOf]; omega
      · have hC : ((k : Int) + 1) ∈ C := by simpa using hxv.symm
        have hids : ids C (k + 1) = ids C k := by simp [ids, hC]
        have HI := Lib.hid hids
        clear hids hC hxv
        go_wp2_with fail
        go_roundw
        case rel => exact ⟨k + 1, q, c, A, by omega, by go_num, rfl, by rw [HI.out]; exact HQ.out, by rw [HI.out]; exact HR.out, HB.out⟩
        case measure => simp [intOf]; omega
    · obtain rfl : k = n := by omega
      go_wp2_with fail
      go_ret
      exact ⟨_, _, _, rfl, HQ.out, HR.out, HB.out⟩
set_option maxRecDepth 100000 in
set_option maxHeartbeats 1000000 in
theorem fclone_any (p b m n : Nat) (O P : List Bool) (C : List Int) (w : World) (h : Fa w b m p O P n C) (hO : O.length ≤ 1000) (hP : P.length ≤ 1000) :
    Calls Tryz.prog 26 #[ptr p] w fun e w' => ∃ m' p', e = .returned (ptr p') ∧ Fa w' w.heap.size m' p' O P n C ∧ Below w.heap.size w w' := by
  obtain ⟨A0, k0, c0, d0, s0⟩ := h.opens
  obtain ⟨A1, k1, c1, d1, s1⟩ := h.proofs
  have d2 := h.many
  have d3 := h.map
  have hl := h.in_
  have hlt := h.lt
  have HH := Lib.hid h
  have HS0 := Lib.hid s0
  have HS1 := Lib.hid s1
  have l0 : k0 ≤ 1000 := by have := s0.rd.len; omega
  have l1 : k1 ≤ 1000 := by have := s1.rd.len; omega
  clear h s0 s1 hO hP
  go_enter Tryz.func26, Tryz.ntmps26
  go_wp2_with fail
  refine reg_start 19 (fun w' => w'.cell? ⟨p, 0, none⟩ = some (.slice A0 k0 c0) ∧ w'.cell? ⟨p, 1, none⟩ = some (.slice A1 k1 c1) ∧ w'.cell? ⟨p, 2, none⟩ = some (.int .u64 n) ∧ w'.cell? ⟨p, 3, none⟩ = some (.map (some m))) (by kernel_rfl) (by kernel_rfl) ?_
  intro hT
  have HT := Lib.hid hT
  clear hT
  refine reg_load 0 HT.out rfl (by kernel_rfl) (by decide) (fun _ _ _ _ h => h) ⟨d0, d1, d2, d3⟩ rfl ?_
  apply Exists.intro
  refine ⟨fun w' hw => by (obtain ⟨g0, g1, g2, g3⟩ := hw; go_simp; exact rfl), ?_⟩
  refine reg_load 1 HT.out rfl (by kernel_rfl) (by decide) (fun _ _ _ _ h => h) ⟨d0, d1, d2, d3⟩ rfl ?_
  apply Exists.intro
  refine ⟨fun w' hw => by (obtain ⟨g0, g1, g2, g3⟩ := hw; go_simp; exact rfl), ?_⟩
  refine reg_load 2 HT.out rfl (by kernel_rfl) (by decide) (fun _ _ _ _ h => h) ⟨d0, d1, d2, d3⟩ rfl ?_
  apply Exists.intro
  refine ⟨fun w' hw => by (obtain ⟨g0, g1, g2, g3⟩ := hw; go_simp; exact rfl), ?_⟩
  refine reg_load 3 HT.out rfl (by kernel_rfl) (by decide) (fun _ _ _ _ h => h) ⟨d0, d1, d2, d3⟩ rfl ?_
  apply Exists.intro
  refine ⟨fun w' hw => by (obtain ⟨g0, g1, g2, g3⟩ := hw; go_simp; exact rfl), ?_⟩
  refine reg_load 5 HT.out rfl (by kernel_rfl) (by decide) (fun _ _ _ _ h => h) ⟨d0, d1, d2, d3⟩ rfl ?_
  apply Exists.intro
  refine ⟨fun w' hw => by (obtain ⟨g0, g1, g2, g3⟩ := hw; go_simp; exact rfl), ?_⟩
  refine reg_load 6 HT.out rfl (by kernel_rfl) (by decide) (fun _ _ _ _ h => h) ⟨d0, d1, d2, d3⟩ rfl ?_
  apply Exists.intro
  refine ⟨fun w' hw => by (obtain ⟨g0, g1, g2, g3⟩ := hw; go_simp; exact rfl), ?_⟩
  refine reg_load 7 HT.out rfl (by kernel_rfl) (by decide) (fun _ _ _ _ h => h) ⟨d0, d1, d2, d3⟩ rfl ?_
  apply Exists.intro
  refine ⟨fun w' hw => by (obtain ⟨g0, g1, g2, g3⟩ := hw; go_simp; exact rfl), ?_⟩
  refine reg_load 8 HT.out rfl (by kernel_rfl) (by decide) (fun _ _ _ _ h => h) ⟨d0, d1, d2, d3⟩ rfl ?_
  apply Exists.intro
  refine ⟨fun w' hw => by (obtain ⟨g0, g1, g2, g3⟩ := hw; go_simp; exact rfl), ?_⟩
  refine reg_load 10 HT.out rfl (by kernel_rfl) (by decide) (fun _ _ _ _ h => h) ⟨d0, d1, d2, d3⟩ rfl ?_
  apply Exists.intro
  refine ⟨fun w' hw => by (obtain ⟨g0, g1, g2, g3⟩ := hw; go_simp; exact rfl), ?_⟩
  refine reg_load 11 HT.out rfl (by kernel_rfl) (by decide) (fun _ _ _ _ h => h) ⟨d0, d1, d2, d3⟩ rfl ?_
  apply Exists.intro
  refine ⟨fun w' hw => by (obtain ⟨g0, g1, g2, g3⟩ := hw; go_simp; exact rfl), ?_⟩
  refine reg_load 12 HT.out rfl (by kernel_rfl) (by decide) (fun _ _ _ _ h => h) ⟨d0, d1, d2, d3⟩ rfl ?_
  apply Exists.intro
  refine ⟨fun w' hw => by (obtain ⟨g0, g1, g2, g3⟩ := hw; go_simp; exact rfl), ?_⟩
  refine reg_load 13 HT.out rfl (by kernel_rfl) (by decide) (fun _ _ _ _ h => h) ⟨d0, d1, d2, d3⟩ rfl ?_
  apply Exists.intro
  refine ⟨fun w' hw => by (obtain ⟨g0, g1, g2, g3⟩ := hw; go_simp; exact rfl), ?_⟩
  refine reg_load 14 HT.out rfl (by kernel_rfl) (by decide) (fun _ _ _ _ h => h) ⟨d0, d1, d2, d3⟩ rfl ?_
  apply Exists.intro
  refine ⟨fun w' hw => by (obtain ⟨g0, g1, g2, g3⟩ := hw; go_simp; exact rfl), ?_⟩
  refine reg_load 15 HT.out rfl (by kernel_rfl) (by decide) (fun _ _ _ _ h => h) ⟨d0, d1, d2, d3⟩ rfl ?_
  apply Exists.intro
  refine ⟨fun w' hw => by (obtain ⟨g0, g1, g2, g3⟩ := hw; go_simp; exact rfl), ?_⟩
  refine reg_load 16 HT.out rfl (by kernel_rfl) (by decide) (fun _ _ _ _ h => h) ⟨d0, d1, d2, d3⟩ rfl ?_
  apply Exists.intro
  refine ⟨fun w' hw => by (obtain ⟨g0, g1, g2, g3⟩ := hw; go_simp; exact rfl), ?_⟩
  refine reg_load 17 HT.out rfl (by kernel_rfl) (by decide) (fun _ _ _ _ h => h) ⟨d0, d1, d2, d3⟩ rfl ?_
  apply Exists.intro
  refine ⟨fun w' hw => by (obtain ⟨g0, g1, g2, g3⟩ := hw; go_simp; exact rfl), ?_⟩
  have keep : ∀ w', Below w.heap.size w w' → w'.cell? ⟨p, 0, none⟩ = some (.slice A0 k0 c0) ∧ w'.cell? ⟨p, 1, none⟩ = some (.slice A1 k1 c1) ∧ w'.cell? ⟨p, 2, none⟩ = some (.int .u64 n) ∧ w'.cell? ⟨p, 3, none⟩ = some (.map (some m)) := fun w' hb => ⟨(hb.cell (p := ⟨p, 0, none⟩) hl).trans d0, (hb.cell (p := ⟨p, 1, none⟩) hl).trans d1, (hb.cell (p := ⟨p, 2, none⟩) hl).trans d2, (hb.cell (p := ⟨p, 3, none⟩) hl).trans d3⟩
  have KEEP := Lib.hid keep
  clear keep
  refine reg_only 4 rfl (by kernel_rfl) rfl ?_
  unfold Oper.wp
  go_simp
  refine (sclone_any A0 k0 c0 O m _ (HS0.out.rd.below (Below.refl _ _).drew) (by simp; omega) (by omega)).mono ?_
  rintro e w1 ⟨B0, q0, rfl, ho1, hb1⟩
  have hbw1 : Below w.heap.size w w1 := (Below.refl _ _).drew.trans hb1
  have HO1 := Lib.hid ho1
  have HB1 := Lib.hid hbw1
  clear ho1 hb1 hbw1
  refine ⟨KEEP.out _ HB1.out, ?_⟩
  refine reg_only 9 rfl (by kernel_rfl) rfl ?_
  unfold Oper.wp
  go_simp
  refine (sclone_any A1 k1 c1 P m _ (HS1.out.rd.keep fun q hq => HB1.out.cell (by omega)) (by have := HB1.out.size; omega) (by omega)).mono ?_
  rintro e w2 ⟨B1, q1, rfl, ho2, hb2⟩
  have hbw2 : Below w.heap.size w w2 := HB1.out.trans (hb2.mono HB1.out.size)
  have HO2 := Lib.hid (own_mono ho2 HB1.out.size)
  have HB12 := Lib.hid hb2
  have HB2 := Lib.hid hbw2
  clear ho2 hb2 hbw2
  refine ⟨KEEP.out _ HB2.out, ?_⟩
  refine reg_only 18 rfl (by kernel_rfl) rfl ?_
  unfold Oper.wp
  go_simp
  refine (setclone_any _ m C (by obtain ⟨es, clock, hb, hr⟩ := HH.out.own; exact ⟨es, clock, (HB2.out.block m (by omega)).trans hb, hr⟩)).mono ?_
  rintro e w3 ⟨rfl, hm3, hb3, hs3⟩
  have hbw3 : Below w.heap.size w w3 := HB2.out.trans (hb3.mono HB2.out.size)
  have HM3 := Lib.hid hm3
  have HZ3 := Lib.hid hs3
  clear hs3
  have HB23 := Lib.hid hb3
  have HB3 := Lib.hid hbw3
  clear hm3 hb3 hbw3
  refine ⟨KEEP.out _ HB3.out, ?_⟩
  refine reg_only 19 rfl (by kernel_rfl) rfl ?_
  unfold Oper.wp
  go_simp
  refine reg_only 20 rfl (by kernel_rfl) rfl ?_
  unfold Oper.wp
  go_simp
  refine reg_only 21 rfl (by kernel_rfl) rfl ?_
  unfold Oper.wp
  go_simp
  refine reg_done (by kernel_rfl) ?_
  go_wp2_with fail
  go_ret
  have z2 := HB2.out.size
  have hs3 := HZ3.out
  have b3a : Below w3.heap.size w3 (w3.alloc (.cells #[.slice B0 k0 q0, .slice B1 k1 q1, .int .u64 n, .map (some w2.heap.size)] 93)) := (Below.refl _ _).alloc (Nat.le_refl _) _
  have b2a : Below w2.heap.size w2 (w3.alloc (.cells #[.slice B0 k0 q0, .slice B1 k1 q1, .int .u64 n, .map (some w2.heap.size)] 93)) := HB23.out.trans (b3a.mono (by omega))
  refine ⟨w2.heap.size, w3.heap.size, rfl, ⟨⟨B0, k0, q0, by go_simp, own_scr HO1.out (HB12.out.trans (b2a.mono HB12.out.size)) HB12.out.size⟩, ⟨B1, k1, q1, by go_simp, own_scr HO2.out b2a (Nat.le_refl _)⟩, by go_simp, by go_simp, ?_, fun o => by simp, z2, by omega, HH.out.nd, HH.out.mem⟩, HB3.out.trans (b3a.mono (by omega))⟩
  obtain ⟨es, clock, hb, hr⟩ := HM3.out
  exact ⟨es, clock, (b3a.block w2.heap.size (by omega)).trans hb, hr⟩
theorem uequal_same (A A' : Option Addr) (n c c' : Nat) (ys : List Int) (B B' : Nat) (w : World) (h : Rd (Value.int .u64) w B A n c ys) (h' : Rd (Value.int .u64) w B' A' n c' ys) :
    Calls Tryz.prog 57 #[.slice A n c, .slice A' n c'] w fun e w' => e = .returned (.bool true) ∧ Below w.heap.size w w' :=
  (Sl.equal_any A A' n c n c' ys ys B B' w h h').mono fun e w' ⟨h1, q, h2⟩ => ⟨by rw [h1, decide_eq_true rfl], h2 ▸ below_drewN (Below.refl _ _) q⟩
def Told (W : World) (g : Nat) (a b c : Value) (w : World) : Prop := w.cell? ⟨g, 0, none⟩ = some a ∧ w.cell? ⟨g, 1, none⟩ = some b ∧ w.cell? ⟨g, 2, none⟩ = some c ∧ Below W.heap.size W w
theorem Told.on {W : World} {g : Nat} {a b c : Value} {w w' : World} (h : Told W g a b c w) (hb : Below w.heap.size w w') : Told W g a b c w' :=
  ⟨(hb.cell (Lw.lt_heap h.1)).trans h.1, (hb.cell (p := ⟨g, 1, none⟩) (Lw.lt_heap h.2.1)).trans h.2.1, (hb.cell (p := ⟨g, 2, none⟩) (Lw.lt_heap h.2.2.1)).trans h.2.2.1, h.2.2.2.trans (hb.mono h.2.2.2.size)⟩
theorem Told.bel {W : World} {g : Nat} {a b c : Value} {w : World} (h : Told W g a b c w) : Below W.heap.size W w := h.2.2.2
theorem Told.drew {W : World} {g : Nat} {a b c : Value} {w : World} (h : Told W g a b c w) : Told W g a b c w.drew := ⟨h.1, h.2.1, h.2.2.1, h.2.2.2.drew⟩
set_option maxRecDepth 100000 in
set_option maxHeartbeats 4000000 in
theorem told_any (v : Value) (p b m n : Nat) (O P : List Bool) (C : List Int) (id : Int) (w : World) (hf : Fa w b m p O P n C) (h : Rf w p m v O P n C) (hn : n ≤ 500) (hid : 0 ≤ id ∧ id ≤ 18446744073709551615) :
    Calls Tryz.prog 33 #[ptr p, v, .int .u64 id] w fun e w' => e = .returned (.bool true) ∧ Below w.heap.size w w' := by
  have HF := Lib.hid hf
  have HR := Lib.hid h
  have hcount := ids_count C n hf.nd hf.mem
  have hCl : C.length ≤ n := by omega
  obtain ⟨A1, n1, c1, A2, n2, c2, A3, c3, S, rfl, h1, h2, h3, h4⟩ := h.form
  have hba : Below w.heap.size w (w.alloc (.cells #[.slice A1 n1 c1, .slice A2 n2 c2, .slice A3 n c3] 55)) := (Below.refl _ _).alloc (Nat.le_refl _) _
  have HB := Lib.hid hba
  have HC := Lib.hid (rids_any _ p m n O P C _ (HR.out.below hba) (by omega))
  have hv0 : V3 (w.alloc (.cells #[.slice A1 n1 c1, .slice A2 n2 c2, .slice A3 n c3] 55)) w.heap.size (.slice A1 n1 c1) (.slice A2 n2 c2) (.slice A3 n c3) := V3.new w _ _ _ _
  have HV := Lib.hid hv0
  have hbx : ∃ bx, (kn n C id 6 == 0) = bx ∧ (kn n C id 10 == 0) = bx := by
    unfold kn
    split
    · exact ⟨_, rfl, rfl⟩
    · split
      · exact ⟨_, rfl, rfl⟩
      · exact ⟨_, rfl, rfl⟩
  obtain ⟨bx, hb6, hb10⟩ := hbx
  have HB6 := Lib.hid hb6
  have hbb : (bx == bx) = true := by cases bx <;> rfl
  have HCT := Lib.hid hcount
  clear hf h h1 h2 h3 h4 hba hv0 hb6 hcount
  go_enter Tryz.func33, Tryz.ntmps33
  go_wp2_with fail
  refine HC.out.mono ?_
  rintro e w1 ⟨Al, cl, q, rfl, hq, hol, hb1⟩
  have hrl := Rd.own_rd hol
  obtain ⟨⟨v0, v1, v2⟩, -⟩ := HV.out.below hb1 (by simp)
  have HBW := Lib.hid (HB.out.trans (hb1.mono HB.out.size))
  have hqn : q + C.length = n := by have := HCT.out; omega
  have hsub : (n : Int) - (q : Int) = (C.length : Int) := by omega
  have hw1 : IntKind.u64.wrap (n : Int) = (n : Int) := by rw [IntKind.wrap_u64]; omega
  have hw2 : IntKind.u64.wrap (C.length : Int) = (C.length : Int) := by rw [IntKind.wrap_u64]; omega
  have hw3 : IntKind.i64.wrap (C.length : Int) = (C.length : Int) := by rw [IntKind.wrap_i64]; omega
  have HQ := Lib.hid hq
  have HL := Lib.hid hrl
  clear HC HB HV hb1 hol hrl hq
  have st : Told w1 w.heap.size (.slice A1 n1 c1) (.slice A2 n2 c2) (.slice A3 n c3) w1 := ⟨v0, v1, v2, Below.refl _ _⟩
  have HF1 := Lib.hid (HF.out.later HBW.out)
  have HR1 := Lib.hid (HR.out.below HBW.out)
  clear HF HR
  generalize w.heap.size = g at st ⊢
  clear v0 v1 v2
  go_wp2_with fail
  go_region_held3 (fun w' => w'.cell? ⟨g, 0, none⟩ = some (.slice A1 n1 c1) ∧ w'.cell? ⟨g, 1, none⟩ = some (.slice A2 n2 c2) ∧ w'.cell? ⟨g, 2, none⟩ = some (.slice A3 n c3) ∧ Below w1.heap.size w1 w') (first | exact st | exact st.drew)
    (first
      | (go_at_call 37; (with_reducible refine (ids_any p b m n O P C _ (HF1.out.later st.drew.bel) (by omega)).mono ?_); rintro e w' ⟨A5, c5, q5, rfl, hq5, ho5, hb⟩; replace st := st.drew.on hb; obtain rfl : q = q5 := HQ.out.symm.trans hq5; have H5 := Lib.hid (Rd.own_rd ho5); clear ho5 hq5)
      | (go_at_call 57; (with_reducible refine (uequal_same _ _ _ _ _ _ _ _ _ H5.out (HL.out.later st.bel)).mono ?_); rintro e w' ⟨rfl, hb⟩; replace st := st.on hb)
      | (go_at_call 35; (with_reducible refine (opened_any p b m n O P C _ (HF1.out.later st.bel)).mono ?_); rintro e w' ⟨rfl, rfl⟩)
      | (go_at_call 36; (with_reducible refine (closed_any p b m n O P C _ (HF1.out.later st.bel) (by omega)).mono ?_); rintro e w' ⟨rfl, rfl⟩)
      | (go_at_call 34; (with_reducible refine (isopen_any p b m n O P C id _ (HF1.out.later st.bel) hid).mono ?_); rintro e w' ⟨rfl, rfl⟩; rw [HB6.out])
      | (go_at_call 54; (with_reducible refine ((HR1.out.below st.bel).known id 10 (by omega) hid).mono ?_); rintro e w' ⟨rfl, hb⟩; replace st := st.on hb))
  go_wp2_with fail
  go_ret
  exact ⟨rfl, HBW.out.trans (st.bel.mono HBW.out.size)⟩
end Go.Proofs.YtmnjdmcocifogaaGreatDoor.Fc
