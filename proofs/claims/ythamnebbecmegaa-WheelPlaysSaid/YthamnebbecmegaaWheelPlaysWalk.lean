/- The walk of hackneylaw05.WheelPlays (the end of a round stands several times: by program, gen_plays.py). -/
import Derived.Test.YthamnebbecmegaaWheelRef
import Derived.Deep.DeepCutAuto
namespace Go.Proofs.Ythamnebbecmegaa.Wl
open Go.ChangeShapes Go.WideShapes Go.ChangeAt Go.RowKit Go.Maps Rw Sl Sn Ck
set_option linter.unusedVariables false

theorem Wh.cell_ne {w : World} {p m : Nat} {L : List (Int × Int)} (h : Wh w p m L) {a : Addr} {v : Value} (hc : w.cell? a = some v) : a.block ≠ m := by
  intro e
  obtain ⟨D, ⟨es, clock, h1, h2⟩, h3⟩ := h.own
  rw [← e] at h1
  simp [World.cell?, h1] at hc
theorem Wh.cell_keep {w w' : World} {p m : Nat} {L : List (Int × Int)} (h : Wh w p m L) (hg : w.grownBy w' (some m)) {a : Addr} {v : Value} (hc : w.cell? a = some v) : w'.cell? a = some v :=
  hg.cell hc (fun e => by injection e with e; exact h.cell_ne hc e)
theorem Wh.tr_keep {w w' : World} {p m B : Nat} {L l : List (Int × Int)} {A : Option Addr} {n c : Nat} (h : Wh w p m L) (hg : w.grownBy w' (some m)) (ht : Tr w B A n c l) : Tr w' B A n c l :=
  ⟨ht.len, ht.cap, ht.top, fun hn => by
    obtain ⟨b, o, e, hb, hc⟩ := ht.at_ hn
    exact ⟨b, o, e, hb, fun j x hx i u hi hu => h.cell_keep hg (hc j x hx i u hi hu)⟩⟩
theorem Wh.rd_keep {w w' : World} {p m B : Nat} {L : List (Int × Int)} {l : List Int} {A : Option Addr} {n c : Nat} (h : Wh w p m L) (hg : w.grownBy w' (some m)) (ht : Rd (Value.int .u64) w B A n c l) : Rd (Value.int .u64) w' B A n c l :=
  ⟨ht.len, ht.cap, ht.top, fun hn => by
    obtain ⟨b, o, e, hb, hc⟩ := ht.at_ hn
    exact ⟨b, o, e, hb, fun j x hx => h.cell_keep hg (hc j x hx)⟩⟩
theorem equal_true (A A' : Option Addr) (n c m c' : Nat) (ys zs : List Int) (B B' : Nat) (w : World) (h : Rd (Value.int .u64) w B A n c ys) (h' : Rd (Value.int .u64) w B' A' m c' zs) (he : ys = zs) :
    Calls Try.prog 19 #[.slice A n c, .slice A' m c'] w fun e w' => e = .returned (.bool true) ∧ Below w.heap.size w w' :=
  (equal_any A A' n c m c' ys zs B B' w h h').mono fun e w' ⟨h1, q, h2⟩ => ⟨by rw [h1, decide_eq_true he], h2 ▸ below_drewN (Below.refl _ _) q⟩
theorem due_len (l : List (Int × Int)) (x : Int) : (due l x).length ≤ l.length := List.length_filter_le _ _
theorem left_len (l : List (Int × Int)) (x : Int) : (left l x).length ≤ l.length := List.length_filter_le _ _
theorem tick_in {L : List (Int × Int)} (h : Tms L) {x y : Int} (hm : (x, y) ∈ L) : Wl.tick L x = y ∧ decide (x ∈ L.map Prod.fst) = true := ⟨tick_hit h hm, decide_eq_true (List.mem_map.2 ⟨(x, y), hm, rfl⟩)⟩
/-- All that a round needs. -/
structure Sx (w wx : World) (p m : Nat) (L : List (Int × Int)) (A : Option Addr) (c T : Nat) (o x t : Int) : Prop where
  wh : Wh wx p m L
  tr : Tr wx wx.heap.size A L.length c L
  c0 : wx.cell? ⟨T, 0, none⟩ = some (.int .u8 o)
  c1 : wx.cell? ⟨T, 1, none⟩ = some (.int .u64 x)
  c2 : wx.cell? ⟨T, 2, none⟩ = some (.int .u64 t)
  bel : Below w.heap.size w wx
  hm : w.heap.size ≤ m

set_option maxRecDepth 100000 in
set_option maxHeartbeats 8000000 in
theorem plays_any (ab ao n c : Nat) (A : Option Addr) (K T O : Nat → Int) (w : World) (hn : n ≤ 100) (hA : 0 < n → A = some ⟨ab, ao, none⟩) (hab : 0 < n → ab < w.heap.size)
    (hc : ∀ j, j < n → w.cell? ⟨ab, ao + j * 3, none⟩ = some (.int .u8 (O j)) ∧ w.cell? ⟨ab, ao + j * 3 + 1, none⟩ = some (.int .u64 (K j)) ∧ w.cell? ⟨ab, ao + j * 3 + 2, none⟩ = some (.int .u64 (T j)))
    (hK : ∀ j, j < n → (0 ≤ K j ∧ K j ≤ 18446744073709551615) ∧ (0 ≤ T j ∧ T j ≤ 18446744073709551615) ∧ (0 ≤ O j ∧ O j ≤ 255)) :
    Calls Try.prog 4 #[.slice A n c] w fun e w' => e = .returned (.bool true) ∧ Below w.heap.size w w' := by
  have t0 : decide ((100 : Int) < (n : Int)) = false := decide_eq_false (by omega)
  have t0' : decide (100 < n) = false := decide_eq_false (by omega)
  have HA := Lib.hid hA
  have HAB := Lib.hid hab
  have HC := Lib.hid hc
  have HKK := Lib.hid hK
  clear hA hab hc hK
  go_enter Try.func4, Try.ntmps4
  go_wp2_with fail
  refine (awake5_any _).mono ?_
  rintro e w1 ⟨rfl, b1⟩
  go_wp2_with fail
  refine (Wl.new_any _).mono ?_
  rintro e w2 ⟨rfl, hw2, hb2, hs2⟩
  have hm2 := b1.size
  have HW2 := Lib.hid hw2
  have HB2 := Lib.hid (b1.trans (hb2.mono b1.size))
  clear hw2 hb2 hs2 b1
  go_wp2_with fail
  go_loopw [3, 4, 28] (fun v d i wr => ∃ (k p m c' : Nat) (A' : Option Addr) (L : List (Int × Int)), k ≤ n ∧ i = .int .i64 k ∧ v = .pointer (some ⟨p, 0, none⟩) ∧ d = .slice A' L.length c' ∧ Wh wr p m L ∧ Tr wr wr.heap.size A' L.length c' L ∧ Fm A' c' ∧ L.length ≤ k ∧ w.heap.size ≤ m ∧ Below w.heap.size w wr) (fun _ _ i _ => n - (intOf i).toNat)
  case atStart => exact ⟨0, _, w1.heap.size, 0, none, [], Nat.zero_le _, rfl, rfl, rfl, HW2.out, Rs.nil_, .inl ⟨rfl, rfl⟩, by simp, hm2, HB2.out⟩
  case round =>
    clear HW2 HB2 hm2
    obtain ⟨k, p, m, c', A', L, hk, rfl, rfl, rfl, hw, htr, hfm, hL, hm, hbr⟩ := hrel
    by_cases hlt : k < n
    · obtain ⟨d0, d1, d2⟩ := HC.out k hlt
      have hab := HAB.out (by omega)
      obtain rfl := HA.out (by omega)
      rw [← hbr.cell (p := ⟨ab, _, none⟩) hab] at d0 d1 d2
      have hKT := HKK.out k hlt
      generalize K k = x at *
      generalize T k = t at *
      generalize O k = o at *
      obtain ⟨hx, ht, ho0, ho1⟩ := hKT
      have HX := Lib.hid hx
      have HT := Lib.hid ht
      obtain ⟨F, hF⟩ : ∃ F, wr.heap.size = F := ⟨_, rfl⟩
      have hall := (Below.refl wr.heap.size wr).alloc (Nat.le_refl _) (.cells #[.int .u8 o, .int .u64 x, .int .u64 t] 46)
      have hsx : Sx w (wr.alloc (.cells #[.int .u8 o, .int .u64 x, .int .u64 t] 46)) p m L A' c' F o x t := by
        refine ⟨hw.later hall, htr.later hall, ?_, ?_, ?_, hbr.trans (hall.mono hbr.size), hm⟩ <;> (rw [← hF]; go_simp)
      have HSX := Lib.hid hsx
      have HFF := Lib.hid hF
      clear hx ht hw htr hbr hm hall hsx hF
      go_upto_if 34 with (fail)
      rw [HFF.out]
      generalize wr.alloc (.cells #[.int .u8 o, .int .u64 x, .int .u64 t] 46) = w3 at *
      go_cut [3, 28] from 28 to 148 (fun s3 s28 wx => ∃ p2 m2 : Nat, s3 = .pointer (some ⟨p2, 0, none⟩) ∧ s28 = .int .i64 k ∧ Hid (Sx w wx p2 m2 L A' c' F o x t))
      case first =>
        by_cases ho : 128 ≤ o
        · have hob : decide ((128 : Int) ≤ o) = true := decide_eq_true ho
          go_wp2_with fail
          all_goals (try (exfalso; omega))
          refine (clone_any _ p m L HSX.out.wh).mono ?_
          rintro e w4 ⟨rfl, hw4, hb4, hs4⟩
          obtain ⟨p4, hp4⟩ : ∃ p4, w3.heap.size + 1 = p4 := ⟨_, rfl⟩
          obtain ⟨m4, hm4⟩ : ∃ m4, w3.heap.size = m4 := ⟨_, rfl⟩
          rw [hp4] at hw4 ⊢
          rw [hm4] at hw4
          have hm4' : w.heap.size ≤ m4 := by have := HSX.out.bel.size; omega
          have hne : p4 ≠ m ∧ m4 ≠ m := by have := HSX.out.wh.lt; omega
          have S := HSX.out
          have HW4 := Lib.hid hw4
          have HO4 := Lib.hid (S.wh.later hb4)
          have HT4 := Lib.hid (S.tr.later hb4)
          have x0 : w4.cell? ⟨F, 0, none⟩ = some (.int .u8 o) := (hb4.cell (p := ⟨F, 0, none⟩) (Lw.lt_heap S.c0)).trans S.c0
          have x1 : w4.cell? ⟨F, 1, none⟩ = some (.int .u64 x) := (hb4.cell (p := ⟨F, 1, none⟩) (Lw.lt_heap S.c1)).trans S.c1
          have x2 : w4.cell? ⟨F, 2, none⟩ = some (.int .u64 t) := (hb4.cell (p := ⟨F, 2, none⟩) (Lw.lt_heap S.c2)).trans S.c2
          have HB4 := Lib.hid (S.bel.trans (hb4.mono S.bel.size))
          have HMM := Lib.hid S.hm
          clear hw4 hb4 hs4 hp4 hm4 HSX S
          go_wp2_with fail
          refine (arm_any _ p m L x 0 HO4.out HX.out (by omega) (by omega)).mono ?_
          rintro e w5 ⟨rfl, hw5, hg5⟩
          have y0 := HO4.out.cell_keep hg5 x0
          have y1 := HO4.out.cell_keep hg5 x1
          have y2 := HO4.out.cell_keep hg5 x2
          have HT5 := Lib.hid ((HO4.out.tr_keep hg5 HT4.out).more (B' := w5.heap.size) hg5.size)
          have HW5 := Lib.hid (HW4.out.kept hg5 (by intro e; injection e with e; omega) (by intro e; injection e with e; omega))
          have HB5 := Lib.hid (HB4.out.grown hg5 HB4.out.size (fun j hj => by cases hj; exact HMM.out))
          have HO5 := Lib.hid hw5
          have hal := arm_len (l := L) (by omega) x 0
          clear hw5 hg5 x0 x1 x2 HT4 HW4 HB4 HO4
          go_wp2_with fail
          refine (due_any _ p m (arm L x 0) 3 HO5.out (by omega) hal).mono ?_
          rintro e w6 ⟨A6, c6, rfl, -, -, hg6⟩
          have hsx : Sx w w6 p4 m4 L A' c' F o x t :=
            ⟨HW5.out.kept hg6 (by intro e; injection e with e; omega) (by intro e; injection e with e; omega), (HO5.out.tr_keep hg6 HT5.out).more hg6.size,
              HO5.out.cell_keep hg6 y0, HO5.out.cell_keep hg6 y1, HO5.out.cell_keep hg6 y2, HB5.out.grown hg6 HB5.out.size (fun j hj => by cases hj; exact HMM.out), hm4'⟩
          have HSX := Lib.hid hsx
          clear hg6 hsx y0 y1 y2 HT5 HW5 HB5 HO5
          go_wp2_with fail
          go_meet
          exact ⟨p4, m4, rfl, rfl, HSX⟩
        · have hob : decide ((128 : Int) ≤ o) = false := decide_eq_false ho
          go_wp2_with fail
          all_goals (try (exfalso; omega))
          go_meet
          exact ⟨p, m, rfl, rfl, HSX⟩
      case rest =>
        clear HSX HFF
        obtain ⟨p, m, rfl, rfl, HSX⟩ := hcut
        have S := HSX.out
        have y0 := S.c0
        have y1 := S.c1
        have y2 := S.c2
        have o4 : o % 4 = 0 ∨ o % 4 = 1 ∨ o % 4 = 2 ∨ o % 4 = 3 := by omega
        have htm : o.tmod 4 = o % 4 := Int.tmod_eq_emod_of_nonneg ho0
        have HMM := Lib.hid S.hm
        have hL1024 : L.length ≤ 1024 := by omega
        by_cases h2 : o % 4 = 2
        · have q2 : (o % 4 == 2) = true := by simpa using h2
          have q2' : (o.tmod 4 == 2) = true := by rw [htm]; exact q2
          clear o4 htm h2
          have HS := Lib.hid S
          clear S HSX
          go_wp2_with fail
          refine (twithout_any A' L.length c' _ L x _ HS.out.tr (Nat.le_refl _) (by omega)).mono ?_
          rintro e w4 ⟨A2, c2, rfl, hrow4, hb4⟩
          have hw4 := HS.out.wh.later hb4
          have x1 : w4.cell? ⟨F, 1, none⟩ = some (.int .u64 x) := (hb4.cell (p := ⟨F, 1, none⟩) (Lw.lt_heap y1)).trans y1
          have htr4 : Tr w4 w4.heap.size A2 (wo L x).length c2 (wo L x) := Rs.own_rs enc2_len rfl hrow4
          have HFM := Lib.hid (own_fm hrow4)
          have HW4 := Lib.hid hw4
          have HTR4 := Lib.hid htr4
          have HB4 := Lib.hid (HS.out.bel.trans (hb4.mono HS.out.bel.size))
          have hle2 := wo_len L x
          obtain ⟨n2, hn2⟩ : ∃ n2, (wo L x).length = n2 := ⟨_, rfl⟩
          rw [hn2] at HTR4 hle2 ⊢
          have HN2 := Lib.hid hn2
          clear hw4 hrow4 hb4 htr4 hn2 y0 y1 y2 HS
          go_wp2_with fail
          refine (disarm_any _ p m L x HW4.out HX.out).mono ?_
          rintro e w5 ⟨rfl, hw5, hg5⟩
          have HTR := Lib.hid ((HW4.out.tr_keep hg5 HTR4.out).more (B' := w5.heap.size) hg5.size)
          have HB := Lib.hid (HB4.out.grown hg5 HB4.out.size (fun j hj => by cases hj; exact HMM.out))
          have HW := Lib.hid hw5
          clear hw5 hg5 HTR4 HB4 HW4 x1
          generalize wo L x = L2 at *
          generalize decide (x ∈ L.map Prod.fst) = bb at *
          cases bb
          · skip
            go_wp2_with fail
            refine (next_any _ p m L2 HW.out).mono ?_
            rw [HN2.out]
            rintro e w7 ⟨rfl, hg7⟩
            have HW7 := Lib.hid (HW.out.kept hg7 (by simp) (by simp))
            have HT7 := Lib.hid ((HTR.out.grown hg7 (Nat.le_refl _) (fun j hj => by cases hj)).more hg7.size)
            have HB7 := Lib.hid (HB.out.grown hg7 HB.out.size (fun j hj => by cases hj))
            clear hg7 HW HTR HB
            by_cases hz : n2 = 0
            · subst hz
              go_wp2_with fail
              refine (len_any _ p m L2 HW7.out).mono ?_
              rw [HN2.out]
              rintro e w8 ⟨rfl, rfl⟩
              go_wp2_with fail
              go_loopw [128] (fun i wr => ∃ q : Nat, q ≤ 0 ∧ i = .int .i64 q ∧ Wh wr p m L2 ∧ Tr wr wr.heap.size A2 0 c2 L2 ∧ Below w.heap.size w wr) (fun i _ => 0 - (intOf i).toNat)
              case atStart => exact ⟨0, Nat.zero_le _, rfl, HW7.out, HT7.out, HB7.out⟩
              case round =>
                clear HW7 HT7 HB7
                obtain ⟨q, hq, rfl, hw8, ht8, hb8⟩ := hrel
                have HW8 := Lib.hid hw8
                have HT8 := Lib.hid ht8
                have HTMS := Lib.hid hw8.tms
                clear hw8 ht8
                by_cases hlq : q < 0
                · omega
                · obtain rfl : q = 0 := by omega
                  clear hlq
                  go_wp2_with fail
                  go_roundw
                  case rel => exact ⟨k + 1, p, m, c2, A2, L2, by omega, by go_num, rfl, by rw [HN2.out], HW8.out, by rw [HN2.out]; exact HT8.out, HFM.out, by rw [HN2.out]; omega, HMM.out, hb8⟩
                  case measure => simp [intOf]; omega
            · have hp1 : decide (0 < n2) = true := decide_eq_true (by omega)
              have hp2 : decide ((0 : Int) < (n2 : Int)) = true := decide_eq_true (by omega)
              rw [hp1]
              obtain ⟨b7, o7, a7, hA7, hb7', ha7, hc7, hc7'⟩ := Rs.two HT7.out (k := 0) (by omega)
              subst hA7
              have hfst : first L2 = a7.2 := by
                cases L2 with
                | nil => simp at ha7
                | cons z zs => simp at ha7; subst ha7; rfl
              rw [hfst]
              obtain ⟨x7, t7⟩ := a7
              simp only [Nat.zero_mul, Nat.add_zero] at hc7 hc7'
              have hcap7 := HT7.out.cap
              clear hfst ha7 hc7
              go_wp2_with fail
              refine (len_any _ p m L2 HW7.out).mono ?_
              rw [HN2.out]
              rintro e w8 ⟨rfl, rfl⟩
              go_wp2_with fail
              go_loopw [128] (fun i wr => ∃ q : Nat, q ≤ n2 ∧ i = .int .i64 q ∧ Wh wr p m L2 ∧ Tr wr wr.heap.size (some ⟨b7, o7, none⟩) n2 c2 L2 ∧ Below w.heap.size w wr) (fun i _ => n2 - (intOf i).toNat)
              case atStart => exact ⟨0, Nat.zero_le _, rfl, HW7.out, HT7.out, HB7.out⟩
              case round =>
                clear HW7 HT7 HB7 hc7'
                obtain ⟨q, hq, rfl, hw8, ht8, hb8⟩ := hrel
                have HW8 := Lib.hid hw8
                have HT8 := Lib.hid ht8
                have HTMS := Lib.hid hw8.tms
                clear hw8 ht8
                by_cases hlq : q < n2
                · obtain ⟨b8, o8, a8, hA8, hb8', ha8, hc0, hc1⟩ := Rs.two HT8.out hlq
                  cases hA8
                  obtain ⟨x8, t8⟩ := a8
                  simp only at hc0 hc1
                  have hmem := List.mem_of_getElem? ha8
                  have hok := HTMS.out.ok _ hmem
                  obtain ⟨htk, hin⟩ := tick_in HTMS.out hmem
                  have HOK := Lib.hid hok
                  have HTK := Lib.hid htk
                  have HIN := Lib.hid hin
                  have hb9 := (Below.refl wr.heap.size wr).alloc (Nat.le_refl _) (.cells #[.int .u64 x8, .int .u64 t8] 60)
                  have HW9 := Lib.hid (HW8.out.later hb9)
                  have HT9 := Lib.hid (HT8.out.later hb9)
                  have HB9 := Lib.hid (hb8.trans (hb9.mono hb8.size))
                  clear ha8 hmem hok htk hin hb9 hb8
                  go_wp2_with fail
                  refine (at_any _ p m L2 x8 HW9.out ⟨HOK.out.1, HOK.out.2.1⟩).mono ?_
                  rw [HTK.out, HIN.out]
                  rintro e w9 ⟨rfl, rfl⟩
                  go_wp2_with fail
                  go_roundw
                  case rel => exact ⟨q + 1, by omega, by go_num, HW9.out, HT9.out, HB9.out⟩
                  case measure => simp [intOf]; omega
                · obtain rfl : q = n2 := by omega
                  clear hlq
                  go_wp2_with fail
                  go_roundw
                  case rel => exact ⟨k + 1, p, m, c2, (some ⟨b7, o7, none⟩), L2, by omega, by go_num, rfl, by rw [HN2.out], HW8.out, by rw [HN2.out]; exact HT8.out, HFM.out, by rw [HN2.out]; omega, HMM.out, hb8⟩
                  case measure => simp [intOf]; omega
          · skip
            go_wp2_with fail
            refine (next_any _ p m L2 HW.out).mono ?_
            rw [HN2.out]
            rintro e w7 ⟨rfl, hg7⟩
            have HW7 := Lib.hid (HW.out.kept hg7 (by simp) (by simp))
            have HT7 := Lib.hid ((HTR.out.grown hg7 (Nat.le_refl _) (fun j hj => by cases hj)).more hg7.size)
            have HB7 := Lib.hid (HB.out.grown hg7 HB.out.size (fun j hj => by cases hj))
            clear hg7 HW HTR HB
            by_cases hz : n2 = 0
            · subst hz
              go_wp2_with fail
              refine (len_any _ p m L2 HW7.out).mono ?_
              rw [HN2.out]
              rintro e w8 ⟨rfl, rfl⟩
              go_wp2_with fail
              go_loopw [128] (fun i wr => ∃ q : Nat, q ≤ 0 ∧ i = .int .i64 q ∧ Wh wr p m L2 ∧ Tr wr wr.heap.size A2 0 c2 L2 ∧ Below w.heap.size w wr) (fun i _ => 0 - (intOf i).toNat)
              case atStart => exact ⟨0, Nat.zero_le _, rfl, HW7.out, HT7.out, HB7.out⟩
              case round =>
                clear HW7 HT7 HB7
                obtain ⟨q, hq, rfl, hw8, ht8, hb8⟩ := hrel
                have HW8 := Lib.hid hw8
                have HT8 := Lib.hid ht8
                have HTMS := Lib.hid hw8.tms
                clear hw8 ht8
                by_cases hlq : q < 0
                · omega
                · obtain rfl : q = 0 := by omega
                  clear hlq
                  go_wp2_with fail
                  go_roundw
                  case rel => exact ⟨k + 1, p, m, c2, A2, L2, by omega, by go_num, rfl, by rw [HN2.out], HW8.out, by rw [HN2.out]; exact HT8.out, HFM.out, by rw [HN2.out]; omega, HMM.out, hb8⟩
                  case measure => simp [intOf]; omega
            · have hp1 : decide (0 < n2) = true := decide_eq_true (by omega)
              have hp2 : decide ((0 : Int) < (n2 : Int)) = true := decide_eq_true (by omega)
              rw [hp1]
              obtain ⟨b7, o7, a7, hA7, hb7', ha7, hc7, hc7'⟩ := Rs.two HT7.out (k := 0) (by omega)
              subst hA7
              have hfst : first L2 = a7.2 := by
                cases L2 with
                | nil => simp at ha7
                | cons z zs => simp at ha7; subst ha7; rfl
              rw [hfst]
              obtain ⟨x7, t7⟩ := a7
              simp only [Nat.zero_mul, Nat.add_zero] at hc7 hc7'
              have hcap7 := HT7.out.cap
              clear hfst ha7 hc7
              go_wp2_with fail
              refine (len_any _ p m L2 HW7.out).mono ?_
              rw [HN2.out]
              rintro e w8 ⟨rfl, rfl⟩
              go_wp2_with fail
              go_loopw [128] (fun i wr => ∃ q : Nat, q ≤ n2 ∧ i = .int .i64 q ∧ Wh wr p m L2 ∧ Tr wr wr.heap.size (some ⟨b7, o7, none⟩) n2 c2 L2 ∧ Below w.heap.size w wr) (fun i _ => n2 - (intOf i).toNat)
              case atStart => exact ⟨0, Nat.zero_le _, rfl, HW7.out, HT7.out, HB7.out⟩
              case round =>
                clear HW7 HT7 HB7 hc7'
                obtain ⟨q, hq, rfl, hw8, ht8, hb8⟩ := hrel
                have HW8 := Lib.hid hw8
                have HT8 := Lib.hid ht8
                have HTMS := Lib.hid hw8.tms
                clear hw8 ht8
                by_cases hlq : q < n2
                · obtain ⟨b8, o8, a8, hA8, hb8', ha8, hc0, hc1⟩ := Rs.two HT8.out hlq
                  cases hA8
                  obtain ⟨x8, t8⟩ := a8
                  simp only at hc0 hc1
                  have hmem := List.mem_of_getElem? ha8
                  have hok := HTMS.out.ok _ hmem
                  obtain ⟨htk, hin⟩ := tick_in HTMS.out hmem
                  have HOK := Lib.hid hok
                  have HTK := Lib.hid htk
                  have HIN := Lib.hid hin
                  have hb9 := (Below.refl wr.heap.size wr).alloc (Nat.le_refl _) (.cells #[.int .u64 x8, .int .u64 t8] 60)
                  have HW9 := Lib.hid (HW8.out.later hb9)
                  have HT9 := Lib.hid (HT8.out.later hb9)
                  have HB9 := Lib.hid (hb8.trans (hb9.mono hb8.size))
                  clear ha8 hmem hok htk hin hb9 hb8
                  go_wp2_with fail
                  refine (at_any _ p m L2 x8 HW9.out ⟨HOK.out.1, HOK.out.2.1⟩).mono ?_
                  rw [HTK.out, HIN.out]
                  rintro e w9 ⟨rfl, rfl⟩
                  go_wp2_with fail
                  go_roundw
                  case rel => exact ⟨q + 1, by omega, by go_num, HW9.out, HT9.out, HB9.out⟩
                  case measure => simp [intOf]; omega
                · obtain rfl : q = n2 := by omega
                  clear hlq
                  go_wp2_with fail
                  go_roundw
                  case rel => exact ⟨k + 1, p, m, c2, (some ⟨b7, o7, none⟩), L2, by omega, by go_num, rfl, by rw [HN2.out], HW8.out, by rw [HN2.out]; exact HT8.out, HFM.out, by rw [HN2.out]; omega, HMM.out, hb8⟩
                  case measure => simp [intOf]; omega
        by_cases h3 : o % 4 = 3
        · have q2 : (o % 4 == 2) = false := by simp; omega
          have q2' : (o.tmod 4 == 2) = false := by rw [htm]; exact q2
          have q3 : (o % 4 == 3) = true := by simpa using h3
          have q3' : (o.tmod 4 == 3) = true := by rw [htm]; exact q3
          clear o4 htm h2 h3
          have HS := Lib.hid S
          clear S HSX
          go_wp2_with fail
          refine (tdue_any A' L.length c' _ L t _ HS.out.tr hfm (Nat.le_refl _) (by omega) HS.out.wh.tms).mono ?_
          rintro e w4 ⟨A2, n2, c2, A3, n3, c3, rfl, htr4, hfm4, hrow4, hb4⟩
          have hw4 := HS.out.wh.later hb4
          have x2 : w4.cell? ⟨F, 2, none⟩ = some (.int .u64 t) := (hb4.cell (p := ⟨F, 2, none⟩) (Lw.lt_heap y2)).trans y2
          have hrd4 : Rd (Value.int .u64) w4 w4.heap.size A3 n3 c3 ((due L t).map Prod.fst) := Rd.own_rd hrow4
          have HFM := Lib.hid hfm4
          have HW4 := Lib.hid hw4
          have HTR4 := Lib.hid htr4
          have HRD4 := Lib.hid hrd4
          have HB4 := Lib.hid (HS.out.bel.trans (hb4.mono HS.out.bel.size))
          have HN2 := Lib.hid htr4.len
          have hle2 : n2 ≤ k := by have := left_len L t; have := htr4.len; omega
          have hs4 := hb4.size
          clear hw4 hrow4 hb4 htr4 hfm4 hrd4 y0 y1 y2 HS
          go_wp2_with fail
          refine (due_any _ p m L t HW4.out HT.out hL1024).mono ?_
          rintro e w5 ⟨A5, c5, rfl, hrow5, hw5, hg5⟩
          have HRD5 := Lib.hid (HW4.out.rd_keep hg5 HRD4.out)
          have hrow5' : w5.ownsRow w4.heap.size 31 1 (.slice A5 (due L t).length c5) (due L t).length (((due L t).map Prod.fst).map (Value.int .u64)) := hrow5
          have HGOT := Lib.hid (Rd.own_rd hrow5')
          have HTR5 := Lib.hid ((HW4.out.tr_keep hg5 HTR4.out).more (B' := w5.heap.size) (by have := hg5.size; omega))
          have HB5 := Lib.hid (HB4.out.grown hg5 HB4.out.size (fun j hj => by cases hj; exact HMM.out))
          have HW5 := Lib.hid hw5
          clear hw5 hg5 hrow5 hrow5' HTR4 HB4 HW4 HRD4 x2
          go_wp2_with fail
          refine (equal_true _ _ _ _ _ _ _ _ _ _ _ HGOT.out HRD5.out rfl).mono ?_
          rintro e w6 ⟨rfl, hb6⟩
          have HTR := Lib.hid (HTR5.out.later hb6)
          have HB := Lib.hid (HB5.out.trans (hb6.mono HB5.out.size))
          have HW := Lib.hid (HW5.out.later hb6)
          clear hb6 HTR5 HB5 HW5 HGOT HRD5
          generalize left L t = L2 at *
          go_wp2_with fail
          refine (next_any _ p m L2 HW.out).mono ?_
          rw [HN2.out]
          rintro e w7 ⟨rfl, hg7⟩
          have HW7 := Lib.hid (HW.out.kept hg7 (by simp) (by simp))
          have HT7 := Lib.hid ((HTR.out.grown hg7 (Nat.le_refl _) (fun j hj => by cases hj)).more hg7.size)
          have HB7 := Lib.hid (HB.out.grown hg7 HB.out.size (fun j hj => by cases hj))
          clear hg7 HW HTR HB
          by_cases hz : n2 = 0
          · subst hz
            go_wp2_with fail
            refine (len_any _ p m L2 HW7.out).mono ?_
            rw [HN2.out]
            rintro e w8 ⟨rfl, rfl⟩
            go_wp2_with fail
            go_loopw [128] (fun i wr => ∃ q : Nat, q ≤ 0 ∧ i = .int .i64 q ∧ Wh wr p m L2 ∧ Tr wr wr.heap.size A2 0 c2 L2 ∧ Below w.heap.size w wr) (fun i _ => 0 - (intOf i).toNat)
            case atStart => exact ⟨0, Nat.zero_le _, rfl, HW7.out, HT7.out, HB7.out⟩
            case round =>
              clear HW7 HT7 HB7
              obtain ⟨q, hq, rfl, hw8, ht8, hb8⟩ := hrel
              have HW8 := Lib.hid hw8
              have HT8 := Lib.hid ht8
              have HTMS := Lib.hid hw8.tms
              clear hw8 ht8
              by_cases hlq : q < 0
              · omega
              · obtain rfl : q = 0 := by omega
                clear hlq
                go_wp2_with fail
                go_roundw
                case rel => exact ⟨k + 1, p, m, c2, A2, L2, by omega, by go_num, rfl, by rw [HN2.out], HW8.out, by rw [HN2.out]; exact HT8.out, HFM.out, by rw [HN2.out]; omega, HMM.out, hb8⟩
                case measure => simp [intOf]; omega
          · have hp1 : decide (0 < n2) = true := decide_eq_true (by omega)
            have hp2 : decide ((0 : Int) < (n2 : Int)) = true := decide_eq_true (by omega)
            rw [hp1]
            obtain ⟨b7, o7, a7, hA7, hb7', ha7, hc7, hc7'⟩ := Rs.two HT7.out (k := 0) (by omega)
            subst hA7
            have hfst : first L2 = a7.2 := by
              cases L2 with
              | nil => simp at ha7
              | cons z zs => simp at ha7; subst ha7; rfl
            rw [hfst]
            obtain ⟨x7, t7⟩ := a7
            simp only [Nat.zero_mul, Nat.add_zero] at hc7 hc7'
            have hcap7 := HT7.out.cap
            clear hfst ha7 hc7
            go_wp2_with fail
            refine (len_any _ p m L2 HW7.out).mono ?_
            rw [HN2.out]
            rintro e w8 ⟨rfl, rfl⟩
            go_wp2_with fail
            go_loopw [128] (fun i wr => ∃ q : Nat, q ≤ n2 ∧ i = .int .i64 q ∧ Wh wr p m L2 ∧ Tr wr wr.heap.size (some ⟨b7, o7, none⟩) n2 c2 L2 ∧ Below w.heap.size w wr) (fun i _ => n2 - (intOf i).toNat)
            case atStart => exact ⟨0, Nat.zero_le _, rfl, HW7.out, HT7.out, HB7.out⟩
            case round =>
              clear HW7 HT7 HB7 hc7'
              obtain ⟨q, hq, rfl, hw8, ht8, hb8⟩ := hrel
              have HW8 := Lib.hid hw8
              have HT8 := Lib.hid ht8
              have HTMS := Lib.hid hw8.tms
              clear hw8 ht8
              by_cases hlq : q < n2
              · obtain ⟨b8, o8, a8, hA8, hb8', ha8, hc0, hc1⟩ := Rs.two HT8.out hlq
                cases hA8
                obtain ⟨x8, t8⟩ := a8
                simp only at hc0 hc1
                have hmem := List.mem_of_getElem? ha8
                have hok := HTMS.out.ok _ hmem
                obtain ⟨htk, hin⟩ := tick_in HTMS.out hmem
                have HOK := Lib.hid hok
                have HTK := Lib.hid htk
                have HIN := Lib.hid hin
                have hb9 := (Below.refl wr.heap.size wr).alloc (Nat.le_refl _) (.cells #[.int .u64 x8, .int .u64 t8] 60)
                have HW9 := Lib.hid (HW8.out.later hb9)
                have HT9 := Lib.hid (HT8.out.later hb9)
                have HB9 := Lib.hid (hb8.trans (hb9.mono hb8.size))
                clear ha8 hmem hok htk hin hb9 hb8
                go_wp2_with fail
                refine (at_any _ p m L2 x8 HW9.out ⟨HOK.out.1, HOK.out.2.1⟩).mono ?_
                rw [HTK.out, HIN.out]
                rintro e w9 ⟨rfl, rfl⟩
                go_wp2_with fail
                go_roundw
                case rel => exact ⟨q + 1, by omega, by go_num, HW9.out, HT9.out, HB9.out⟩
                case measure => simp [intOf]; omega
              · obtain rfl : q = n2 := by omega
                clear hlq
                go_wp2_with fail
                go_roundw
                case rel => exact ⟨k + 1, p, m, c2, (some ⟨b7, o7, none⟩), L2, by omega, by go_num, rfl, by rw [HN2.out], HW8.out, by rw [HN2.out]; exact HT8.out, HFM.out, by rw [HN2.out]; omega, HMM.out, hb8⟩
                case measure => simp [intOf]; omega
        · have q2 : (o % 4 == 2) = false := by simp; omega
          have q2' : (o.tmod 4 == 2) = false := by rw [htm]; exact q2
          have q3 : (o % 4 == 3) = false := by simp; omega
          have q3' : (o.tmod 4 == 3) = false := by rw [htm]; exact q3
          clear o4 htm h2 h3
          have HS := Lib.hid S
          clear S HSX
          go_wp2_with fail
          refine (tarm_any A' L.length c' _ L x t _ HS.out.tr hfm (Nat.le_refl _) hL1024 HS.out.wh.tms HX.out HT.out).mono ?_
          rintro e w4 ⟨A2, n2, c2, rfl, htr4, hfm4, hb4⟩
          have hw4 := HS.out.wh.later hb4
          have x1 : w4.cell? ⟨F, 1, none⟩ = some (.int .u64 x) := (hb4.cell (p := ⟨F, 1, none⟩) (Lw.lt_heap y1)).trans y1
          have x2 : w4.cell? ⟨F, 2, none⟩ = some (.int .u64 t) := (hb4.cell (p := ⟨F, 2, none⟩) (Lw.lt_heap y2)).trans y2
          have HFM := Lib.hid hfm4
          have HW4 := Lib.hid hw4
          have HTR4 := Lib.hid htr4
          have HB4 := Lib.hid (HS.out.bel.trans (hb4.mono HS.out.bel.size))
          have HN2 := Lib.hid htr4.len
          have hle2 : n2 ≤ k + 1 := by have := arm_len1 L x t; have := htr4.len; omega
          clear hw4 hb4 htr4 hfm4 y0 y1 y2 HS
          go_wp2_with fail
          refine (arm_any _ p m L x t HW4.out HX.out HT.out hL1024).mono ?_
          rintro e w5 ⟨rfl, hw5, hg5⟩
          have HTR := Lib.hid ((HW4.out.tr_keep hg5 HTR4.out).more (B' := w5.heap.size) hg5.size)
          have HB := Lib.hid (HB4.out.grown hg5 HB4.out.size (fun j hj => by cases hj; exact HMM.out))
          have HW := Lib.hid hw5
          clear hw5 hg5 HTR4 HB4 HW4 x1 x2
          generalize arm L x t = L2 at *
          generalize armE L x = ee at *
          go_wp2_with fail
          refine (next_any _ p m L2 HW.out).mono ?_
          rw [HN2.out]
          rintro e w7 ⟨rfl, hg7⟩
          have HW7 := Lib.hid (HW.out.kept hg7 (by simp) (by simp))
          have HT7 := Lib.hid ((HTR.out.grown hg7 (Nat.le_refl _) (fun j hj => by cases hj)).more hg7.size)
          have HB7 := Lib.hid (HB.out.grown hg7 HB.out.size (fun j hj => by cases hj))
          clear hg7 HW HTR HB
          by_cases hz : n2 = 0
          · subst hz
            go_wp2_with fail
            refine (len_any _ p m L2 HW7.out).mono ?_
            rw [HN2.out]
            rintro e w8 ⟨rfl, rfl⟩
            go_wp2_with fail
            go_loopw [128] (fun i wr => ∃ q : Nat, q ≤ 0 ∧ i = .int .i64 q ∧ Wh wr p m L2 ∧ Tr wr wr.heap.size A2 0 c2 L2 ∧ Below w.heap.size w wr) (fun i _ => 0 - (intOf i).toNat)
            case atStart => exact ⟨0, Nat.zero_le _, rfl, HW7.out, HT7.out, HB7.out⟩
            case round =>
              clear HW7 HT7 HB7
              obtain ⟨q, hq, rfl, hw8, ht8, hb8⟩ := hrel
              have HW8 := Lib.hid hw8
              have HT8 := Lib.hid ht8
              have HTMS := Lib.hid hw8.tms
              clear hw8 ht8
              by_cases hlq : q < 0
              · omega
              · obtain rfl : q = 0 := by omega
                clear hlq
                go_wp2_with fail
                go_roundw
                case rel => exact ⟨k + 1, p, m, c2, A2, L2, by omega, by go_num, rfl, by rw [HN2.out], HW8.out, by rw [HN2.out]; exact HT8.out, HFM.out, by rw [HN2.out]; omega, HMM.out, hb8⟩
                case measure => simp [intOf]; omega
          · have hp1 : decide (0 < n2) = true := decide_eq_true (by omega)
            have hp2 : decide ((0 : Int) < (n2 : Int)) = true := decide_eq_true (by omega)
            rw [hp1]
            obtain ⟨b7, o7, a7, hA7, hb7', ha7, hc7, hc7'⟩ := Rs.two HT7.out (k := 0) (by omega)
            subst hA7
            have hfst : first L2 = a7.2 := by
              cases L2 with
              | nil => simp at ha7
              | cons z zs => simp at ha7; subst ha7; rfl
            rw [hfst]
            obtain ⟨x7, t7⟩ := a7
            simp only [Nat.zero_mul, Nat.add_zero] at hc7 hc7'
            have hcap7 := HT7.out.cap
            clear hfst ha7 hc7
            go_wp2_with fail
            refine (len_any _ p m L2 HW7.out).mono ?_
            rw [HN2.out]
            rintro e w8 ⟨rfl, rfl⟩
            go_wp2_with fail
            go_loopw [128] (fun i wr => ∃ q : Nat, q ≤ n2 ∧ i = .int .i64 q ∧ Wh wr p m L2 ∧ Tr wr wr.heap.size (some ⟨b7, o7, none⟩) n2 c2 L2 ∧ Below w.heap.size w wr) (fun i _ => n2 - (intOf i).toNat)
            case atStart => exact ⟨0, Nat.zero_le _, rfl, HW7.out, HT7.out, HB7.out⟩
            case round =>
              clear HW7 HT7 HB7 hc7'
              obtain ⟨q, hq, rfl, hw8, ht8, hb8⟩ := hrel
              have HW8 := Lib.hid hw8
              have HT8 := Lib.hid ht8
              have HTMS := Lib.hid hw8.tms
              clear hw8 ht8
              by_cases hlq : q < n2
              · obtain ⟨b8, o8, a8, hA8, hb8', ha8, hc0, hc1⟩ := Rs.two HT8.out hlq
                cases hA8
                obtain ⟨x8, t8⟩ := a8
                simp only at hc0 hc1
                have hmem := List.mem_of_getElem? ha8
                have hok := HTMS.out.ok _ hmem
                obtain ⟨htk, hin⟩ := tick_in HTMS.out hmem
                have HOK := Lib.hid hok
                have HTK := Lib.hid htk
                have HIN := Lib.hid hin
                have hb9 := (Below.refl wr.heap.size wr).alloc (Nat.le_refl _) (.cells #[.int .u64 x8, .int .u64 t8] 60)
                have HW9 := Lib.hid (HW8.out.later hb9)
                have HT9 := Lib.hid (HT8.out.later hb9)
                have HB9 := Lib.hid (hb8.trans (hb9.mono hb8.size))
                clear ha8 hmem hok htk hin hb9 hb8
                go_wp2_with fail
                refine (at_any _ p m L2 x8 HW9.out ⟨HOK.out.1, HOK.out.2.1⟩).mono ?_
                rw [HTK.out, HIN.out]
                rintro e w9 ⟨rfl, rfl⟩
                go_wp2_with fail
                go_roundw
                case rel => exact ⟨q + 1, by omega, by go_num, HW9.out, HT9.out, HB9.out⟩
                case measure => simp [intOf]; omega
              · obtain rfl : q = n2 := by omega
                clear hlq
                go_wp2_with fail
                go_roundw
                case rel => exact ⟨k + 1, p, m, c2, (some ⟨b7, o7, none⟩), L2, by omega, by go_num, rfl, by rw [HN2.out], HW8.out, by rw [HN2.out]; exact HT8.out, HFM.out, by rw [HN2.out]; omega, HMM.out, hb8⟩
                case measure => simp [intOf]; omega
    · obtain rfl : k = n := by omega
      clear hw htr
      go_wp2_with fail
      go_ret
      exact ⟨rfl, hbr⟩
theorem plays_long (A : Option Addr) (n c : Nat) (w : World) (hn : n ≤ 9223372036854775807) (h : 100 < n) :
    Calls Try.prog 4 #[.slice A n c] w fun e w' => e = .returned (.bool true) ∧ Below w.heap.size w w' := by
  have t0 : decide ((100 : Int) < (n : Int)) = true := decide_eq_true (by omega)
  have t0' : decide (100 < n) = true := decide_eq_true (by omega)
  go_enter Try.func4, Try.ntmps4
  go_wp2_with fail
  refine (awake5_any _).mono ?_
  rintro e w1 ⟨rfl, b1⟩
  go_wp2_with fail
  go_ret
  exact ⟨rfl, b1⟩
end Go.Proofs.Ythamnebbecmegaa.Wl
