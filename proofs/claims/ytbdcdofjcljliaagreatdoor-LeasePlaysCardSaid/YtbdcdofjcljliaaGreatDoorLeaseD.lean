/- Layer 14 (lease): the contract of Leaks. -/
import Derived.Test.YtbdcdofjcljliaaGreatDoorLeaseB
namespace Go.Proofs.YtbdcdofjcljliaaGreatDoor.Le
open Go.ChangeShapes Go.WideShapes Go.ChangeAt Go.RowKit Go.Maps Rw Hi Mt Ck
set_option linter.unusedVariables false

/-- An id's lease flagged; those of many. -/
def flg (L : List (Int × Ls)) (id : Int) : List (Int × Ls) := (id, ⟨((fnd L id).getD Z0).thread, ((fnd L id).getD Z0).since, true⟩) :: wo L id
def flgs (L : List (Int × Ls)) (ids : List Int) : List (Int × Ls) := ids.foldl flg L
theorem flg_len (L : List (Int × Ls)) (id : Int) : (flg L id).length ≤ L.length + 1 := by
  have := wo_le L id
  simp [flg]; omega
theorem flgs_len (ids : List Int) : ∀ L : List (Int × Ls), (flgs L ids).length ≤ L.length + ids.length := by
  induction ids with
  | nil => intro L; simp [flgs]
  | cons y l ih => intro L; have h1 := ih (flg L y); have h2 := flg_len L y; simp [flgs] at *; omega
theorem flgs_snoc (L : List (Int × Ls)) (ids : List Int) (y : Int) : flgs L (ids ++ [y]) = flg (flgs L ids) y := by simp [flgs]
set_option maxHeartbeats 2000000 in
set_option maxRecDepth 100000 in
theorem leaks_any (w : World) (x : At) (leak : Int) (L : List (Int × Ls)) (M : List (Int × Bool)) (T : List (Int × Int)) (now : Int) (h : Bk w x leak L M T) (hnow : U64 now) (hT : T.length ≤ 1024) (hL : L.length ≤ 1000000) :
    Calls Tryz.prog 8 #[ptr x.p, .int .u64 now] w fun e w' => ∃ (A : Option Addr) (c : Nat), e = .returned (.slice A (Wl.due T now).length c) ∧ w'.ownsRow w.heap.size 22 1 (.slice A (Wl.due T now).length c) (Wl.due T now).length (((Wl.due T now).map Prod.fst).map (Value.int .u64)) ∧
      Bk w' x leak (flgs L ((Wl.due T now).map Prod.fst)) M (Wl.left T now) ∧ Fr (some x.a) (some x.m) w w' := by
  have c3 := h.c3
  obtain ⟨hlp, hla, hlb, hlq, hlm⟩ := h.lt
  have HK := Lib.hid h
  have HN := Lib.hid hnow
  have htms := h.wheel.tms
  have hdl : (Wl.due T now).length ≤ 1024 := Nat.le_trans (by unfold Wl.due; exact List.length_filter_le _ _) hT
  have hu : ∀ a ∈ Wl.due T now, U64 a.1 := fun a ha => ⟨(htms.ok a (Wl.mem_due.1 ha).1).1, (htms.ok a (Wl.mem_due.1 ha).1).2.1⟩
  have HU := Lib.hid hu
  clear h hnow htms hu
  go_enter Tryz.func8, Tryz.ntmps8
  go_wp2_with fail
  refine (Wl.due_any w x.q x.m T now HK.out.wheel HN.out hT).mono ?_
  rintro e w1 ⟨A, c, rfl, hrow, hwh, hg⟩
  obtain ⟨D, hD⟩ : ∃ D, Wl.due T now = D := ⟨_, rfl⟩
  rw [hD] at hrow hdl HU ⊢
  obtain ⟨n, hn⟩ : ∃ n, D.length = n := ⟨_, rfl⟩
  rw [hn] at hrow hdl ⊢
  have HN2 := Lib.hid hn
  have HD := Lib.hid hD
  have HK1 := Lib.hid (HK.out.turnT hg hwh)
  have HF1 := Lib.hid (show Fr (some x.a) (some x.m) w w1 from fr_grown2 hg)
  have HR := Lib.hid hrow
  have hsz1 := hg.size
  clear hrow hwh hg hn hD
  go_wp2_with fail
  go_loopw [19] (fun s19 wr => ∃ k : Nat, s19 = .int .i64 k ∧ k ≤ n ∧ w.heap.size ≤ wr.heap.size ∧ Bk wr x leak (flgs L ((D.map Prod.fst).take k)) M (Wl.left T now) ∧ wr.ownsRow w.heap.size 22 1 (.slice A n c) n ((D.map Prod.fst).map (Value.int .u64)) ∧ Hid (Fr (some x.a) (some x.m) w wr)) (fun s19 _ => n - (intOf s19).toNat)
  case atStart => exact ⟨0, rfl, Nat.zero_le _, hsz1, HK1.out, HR.out, HF1.out⟩
  case round =>
    clear HK1 HF1 HR hsz1
    obtain ⟨k, rfl, hk, hsz, hbk, hrow, hfr⟩ := hrel
    by_cases hkn : k < n
    · have qk : decide ((k : Int) < (n : Int)) = true := decide_eq_true (by omega)
      obtain ⟨b, o, y, hA, hbl, hy, hcy⟩ := (Rd.own_rd hrow).get hkn
      subst hA
      have hyu : U64 y := by
        rw [List.getElem?_map] at hy
        obtain ⟨a0, ha0, rfl⟩ := Option.map_eq_some_iff.1 hy
        exact HU.out a0 (List.mem_of_getElem? ha0)
      obtain ⟨⟨t, s, f⟩, hq⟩ : ∃ q, (fnd (flgs L ((D.map Prod.fst).take k)) y).getD Z0 = q := ⟨_, rfl⟩
      have k1 := hbk.c1
      have hlt := hbk.lt
      have HBK := Lib.hid hbk
      have HROW := Lib.hid hrow
      have HY := Lib.hid hy
      have HYU := Lib.hid hyu
      have HQ := Lib.hid hq
      have hlk : (flgs L ((D.map Prod.fst).take k)).length < 4611686018427387904 := by
        have := flgs_len ((D.map Prod.fst).take k) L
        rw [List.length_take] at this
        omega
      obtain ⟨hlt1, hlt2, -, -, -⟩ := hlt
      have HLK := Lib.hid hlk
      clear hbk hrow hy hyu hq hlk
      go_wp2_with (at_lookup; refine lookL1 _ rfl _ _ rfl x.a _ rfl HBK.out.leases y HYU.out rfl t s f HQ.out ?_)
      obtain ⟨wz, hwz⟩ : ∃ wz, wz = (wr.alloc (.cells #[.int .i64 t, .int .u64 s, .bool true] 57)) := ⟨_, rfl⟩
      have z0 : wz.cell? ⟨wr.heap.size, 0, none⟩ = some (.int .i64 t) := by rw [hwz]; go_simp
      have z1 : wz.cell? ⟨wr.heap.size, 1, none⟩ = some (.int .u64 s) := by rw [hwz]; go_simp
      have z2 : wz.cell? ⟨wr.heap.size, 2, none⟩ = some (.bool true) := by rw [hwz]; go_simp
      have bz : Below wr.heap.size wr wz := by rw [hwz]; exact (Below.refl _ wr).alloc (Nat.le_refl _) _
      have gz : wr.grownBy wz none := ⟨bz.os, bz.tape, bz.output, bz.size, fun g hg _ => bz.block g hg⟩
      have zk := HBK.out.later bz
      have zp := zk.c1
      have HZK := Lib.hid zk
      have HZR := Lib.hid (HROW.out.kept gz (Or.inr (by simp [Value.ownBlock])))
      have HGZ := Lib.hid gz
      have HZF := Lib.hid (Fr.tr hfr.out (fr_below bz : Fr (some x.a) (some x.m) wr wz))
      have szz := bz.size
      rw [← hwz]
      clear hwz zk gz bz hcy hfr HBK HROW k1
      refine reg_start 6 (fun w' => w'.cell? ⟨x.p, 1, none⟩ = some (.map (some x.a)) ∧ w'.cell? ⟨wr.heap.size, 0, none⟩ = some (.int .i64 t) ∧ w'.cell? ⟨wr.heap.size, 1, none⟩ = some (.int .u64 s) ∧ w'.cell? ⟨wr.heap.size, 2, none⟩ = some (.bool true)) (by kernel_rfl) (by kernel_rfl) ?_
      intro hTT
      have HRR := Lib.hid hTT
      clear hTT
      refine reg_load 0 HRR.out rfl (by kernel_rfl) (by decide) (fun _ _ _ _ h => h) ⟨zp, z0, z1, z2⟩ rfl ?_
      apply Exists.intro
      refine ⟨fun w' hw => by (obtain ⟨hw0, hw1, hw2, hw3⟩ := hw; go_simp; exact rfl), ?_⟩
      refine reg_load 1 HRR.out rfl (by kernel_rfl) (by decide) (fun _ _ _ _ h => h) ⟨zp, z0, z1, z2⟩ rfl ?_
      apply Exists.intro
      refine ⟨fun w' hw => by (obtain ⟨hw0, hw1, hw2, hw3⟩ := hw; go_simp; exact rfl), ?_⟩
      refine reg_load 2 HRR.out rfl (by kernel_rfl) (by decide) (fun _ _ _ _ h => h) ⟨zp, z0, z1, z2⟩ rfl ?_
      apply Exists.intro
      refine ⟨fun w' hw => by (obtain ⟨hw0, hw1, hw2, hw3⟩ := hw; go_simp; exact rfl), ?_⟩
      refine reg_load 3 HRR.out rfl (by kernel_rfl) (by decide) (fun _ _ _ _ h => h) ⟨zp, z0, z1, z2⟩ rfl ?_
      apply Exists.intro
      refine ⟨fun w' hw => by (obtain ⟨hw0, hw1, hw2, hw3⟩ := hw; go_simp; exact rfl), ?_⟩
      refine reg_load 4 HRR.out rfl (by kernel_rfl) (by decide) (fun _ _ _ _ h => h) ⟨zp, z0, z1, z2⟩ rfl ?_
      apply Exists.intro
      refine ⟨fun w' hw => by (obtain ⟨hw0, hw1, hw2, hw3⟩ := hw; go_simp; exact rfl), ?_⟩
      refine reg_load 5 HRR.out rfl (by kernel_rfl) (by decide) (fun _ _ _ _ h => h) ⟨zp, z0, z1, z2⟩ rfl ?_
      apply Exists.intro
      refine ⟨fun w' hw => by (obtain ⟨hw0, hw1, hw2, hw3⟩ := hw; go_simp; exact rfl), ?_⟩
      refine reg_only 6 rfl (by kernel_rfl) rfl ?_
      unfold Oper.wp
      go_simp
      obtain ⟨w3, hrun, hL3, hg3⟩ := run_put (E := eL) wz.drew Tryz.underlying22 Tryz.underlying49 (HZK.out.later ((Below.refl _ _).drew)).leases HLK.out HYU.out (⟨t, s, true⟩ : Ls)
      have hrun' : (Instr.mapUpdate 49 (.map (some x.a)) (.int .u64 y) (.agg #[.int .i64 t, .int .u64 s, .bool true])).run Tryz.prog wz.drew = .ok () w3 := hrun
      rw [hrun']
      go_simp
      refine reg_done (by kernel_rfl) ?_
      have k3 := (HZK.out.later ((Below.refl _ _).drew)).turnL hg3 hL3
      have HK3 := Lib.hid k3
      have HG3 := Lib.hid hg3
      have hd3 : wz.grownBy w3 (some x.a) := ⟨hg3.os, hg3.tape.trans rfl, hg3.output, hg3.size, hg3.block⟩
      clear hrun hrun' hL3 hg3 k3 z0 z1 z2 zp
      go_wp2_with fail
      go_roundw
      case rel =>
        refine ⟨k + 1, by go_num, by omega, ?_, ?_, ?_, ?_⟩
        · have := HG3.out.size; simp at this; omega
        · have e1 : (D.map Prod.fst).take (k + 1) = (D.map Prod.fst).take k ++ [y] := by
            obtain ⟨hj, e⟩ := List.getElem?_eq_some_iff.1 HY.out
            rw [List.take_succ_eq_append_getElem hj, e]
          rw [e1, flgs_snoc]
          unfold flg
          rw [HQ.out]
          exact HK3.out
        · exact (show wz.drew.ownsRow _ _ _ _ _ _ from HZR.out).kept HG3.out (Or.inr (fun e => by have := (HZR.out.lt _ e).1; omega))
        · exact Fr.tr HZF.out (Fr.tr (fr_below ((Below.refl _ wz).drew)) (fr_grown1 HG3.out))
      case measure => simp [intOf]; omega
    · have qk : decide ((k : Int) < (n : Int)) = false := decide_eq_false (by omega)
      obtain rfl : k = n := by omega
      have e1 : (D.map Prod.fst).take k = D.map Prod.fst := by rw [List.take_of_length_le]; simp [HN2.out]
      rw [e1] at hbk
      have HBK := Lib.hid hbk
      have HROW := Lib.hid hrow
      clear hbk hrow
      go_wp2_with fail
      go_ret
      exact ⟨A, c, by rw [HD.out, HN2.out]; rfl, by rw [HD.out, HN2.out]; exact HROW.out, by rw [HD.out]; exact HBK.out, hfr.out⟩
end Go.Proofs.YtbdcdofjcljliaaGreatDoor.Le
