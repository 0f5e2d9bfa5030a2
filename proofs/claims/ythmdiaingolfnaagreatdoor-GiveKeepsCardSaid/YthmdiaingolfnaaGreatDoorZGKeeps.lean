/- A part of the claim: the texts KeepsMath Awake17 KeepsWalk KeepsLong. -/
import Derived.Test.YthmdiaingolfnaaGreatDoorZGBegin
import Derived.Test.YthmdiaingolfnaaGreatDoorZGGive
import Derived.Test.YthmdiaingolfnaaGreatDoorZGAwK
import Derived.Deep.CutBlock
namespace Go.Proofs.YthmdiaingolfnaaGreatDoor.Wo
open Go Go.ChangeShapes Go.WideShapes Go.ChangeAt Go.RowKit Go.Deep Go.Maps Rw Hi Mt Ba
open Cn (Cf cfE)
set_option linter.unusedVariables false
theorem gd_acts (m : Nat) (hm : m ≤ 6) : ∀ k, k ≤ m → Gd ((acts1 (List.replicate m 1) k).foldl playS (newS c8 [] [])) k ∧ ((acts1 (List.replicate m 1) k).foldl playS (newS c8 [] [])).closed = false := by
  intro k
  induction k with
  | zero => intro _; exact ⟨⟨rfl, rfl, rfl, rfl, rfl, rfl, rfl, rfl, rfl⟩, rfl⟩
  | succ k ih =>
    intro hk
    obtain ⟨h1, h2⟩ := ih (by omega)
    have e : (List.replicate m (1 : Int)).getD k 0 % 4 = 1 := by
      rw [List.getD_eq_getElem?_getD, List.getElem?_replicate, if_pos (by omega)]
      rfl
    rw [acts1_succ, List.foldl_append, e]
    obtain ⟨s, hs⟩ : ∃ s, (acts1 (List.replicate m 1) k).foldl playS (newS c8 [] []) = s := ⟨_, rfl⟩
    rw [hs] at h1 h2
    rw [hs]
    have e2 : (tri k 1).foldl playS s = oneMore s 1 k := rfl
    rw [e2]
    refine ⟨h1.more h2 (by omega), ?_⟩
    unfold oneMore
    rw [playS_cl, playS_cl, playS_cl]
    exact h2
theorem Gd.lease {s : Ws} {n : Nat} (h : Gd s n) (m : Int) : Gd (playS s (lsA m)) n := by
  unfold playS lsA
  simp only
  rw [if_neg (by decide), if_neg (by decide), if_neg (by decide), if_neg (by decide), if_neg (by decide), if_pos (by decide)]
  exact ⟨h.D, h.S, h.live, h.n_, h.C, h.now, h.O, h.mx, h.el⟩
theorem Gd.leases {n : Nat} : ∀ (l : List Int) {s : Ws}, Gd s n → Gd ((l.map lsA).foldl playS s) n
  | [], _, h => h
  | a :: l, _, h => Gd.leases l (h.lease a)
theorem Gd.parks {n : Nat} : ∀ (l : List Int) {s : Ws}, Gd s n → Gd (l.foldl parkW s) n
  | [], _, h => h
  | a :: l, _, h => Gd.parks l ⟨h.D, h.S, h.live, h.n_, h.C, h.now, h.O, h.mx, h.el⟩
theorem Gd.mark {n : Nat} {q : Ws × List Int} (h : Gd q.1 n) (a : Int) : Gd (markW q a).1 n := by
  unfold markW
  split
  · exact h
  · exact ⟨h.D, h.S, h.live, h.n_, h.C, h.now, h.O, h.mx, h.el⟩
theorem Gd.marks {n : Nat} : ∀ (l : List Int) {q : Ws × List Int}, Gd q.1 n → Gd (l.foldl markW q).1 n
  | [], _, h => h
  | a :: l, _, h => Gd.marks l (h.mark a)
theorem marks_sl : ∀ (l : List Int) (q : Ws × List Int), (l.foldl markW q).1.sl = q.1.sl
  | [], q => rfl
  | a :: l, q => by
    rw [List.foldl_cons, marks_sl l]
    unfold markW
    split <;> rfl
theorem gd_bgn (m : Nat) (hm : m ≤ 6) (ws ms : List Int) (cl : Bool) : Gd (bgnS (List.replicate m 1) ws ms cl) m := by
  have h1 : Gd (bgn1 (List.replicate m 1) ms) m := by
    unfold bgn1 bgnA
    rw [List.foldl_append, List.length_replicate]
    exact Gd.leases ms (gd_acts m hm m (Nat.le_refl _)).1
  have h2 : Gd (bgn2 (List.replicate m 1) ws ms) m := Gd.parks ws h1
  have h3 : Gd (bgn3 (List.replicate m 1) ws ms).1 m := Gd.marks ms h2
  exact ⟨h3.D, h3.S, h3.live, h3.n_, h3.C, h3.now, h3.O, h3.mx, h3.el⟩
theorem bgn_sl (ss ws ms : List Int) (cl : Bool) : (bgnS ss ws ms cl).sl.length ≤ ws.length := by
  show (bgn3 ss ws ms).1.sl.length ≤ _
  unfold bgn3
  rw [marks_sl]
  show (bgn2 ss ws ms).sl.length ≤ _
  unfold bgn2
  have h := park_len ws (bgn1 ss ms)
  have e : (bgn1 ss ms).sl.length = 0 := by rw [bgn1_sl]; rfl
  omega
theorem bgn_mk (ss ws ms : List Int) (cl : Bool) (h1 : ss.length ≤ 6) (h2 : ms.length ≤ 5) : (bgnS ss ws ms cl).M = Le.mk (bgnN ss ws ms) := (mark_facts ms (bgn2 ss ws ms) (bgn2_facts ss ws ms h1 h2)).1
theorem bgn_gi (m : Nat) (hm : m ≤ 6) (ws ms : List Int) (cl : Bool) (h1 : ws.length ≤ 5) (h2 : ms.length ≤ 5) (id : Int) (hid : 1 ≤ id ∧ id ≤ m) : Gi ⟨g0 id, bgnS (List.replicate m 1) ws ms cl, bgnN (List.replicate m 1) ws ms⟩ 0 := by
  have g := gd_bgn m hm ws ms cl
  have hs := bgn_sl (List.replicate m 1) ws ms cl
  refine ⟨bgn_mk _ ws ms cl (by simpa using hm) h2, ⟨⟨by show 0 ≤ id; omega, by show id ≤ _; omega⟩, ⟨by show 0 ≤ Wd.wOf 1 0; decide, by show Wd.wOf 1 0 ≤ _; decide⟩⟩, ?_, ?_, ?_, ?_, ?_, ?_, .inl rfl⟩
  · show U64 (bgnS (List.replicate m 1) ws ms cl).now; rw [g.now]; exact ⟨by decide, by decide⟩
  · show (bgnS (List.replicate m 1) ws ms cl).sl.length ≤ 900; omega
  · show (bgnS (List.replicate m 1) ws ms cl).C.length ≤ 0; rw [g.C]; exact Nat.le_refl _
  · show (bgnS (List.replicate m 1) ws ms cl).ev.length ≤ 0; rw [g.el]; exact Nat.le_refl _
  · show (bgnS (List.replicate m 1) ws ms cl).S.length ≤ 900; rw [g.S]; simp; omega
  · show 0 ≤ (bgnS (List.replicate m 1) ws ms cl).live ∧ _; rw [g.live]; omega
end Go.Proofs.YthmdiaingolfnaaGreatDoor.Wo
namespace Go.Proofs.YthmdiaingolfnaaGreatDoor.Wo
open Go Go.ChangeShapes Go.WideShapes Go.ChangeAt Go.RowKit Go.Deep Go.Maps Rw Hi Mt Ba
open Cn (Cf cfE)
set_option linter.unusedVariables false
abbrev cD : Cf := ⟨4, 1, 100, 1000, 50, 200, 4598175219545276416⟩
theorem cD_ok : cD.ok := ⟨⟨by decide, by decide⟩, ⟨by decide, by decide⟩, ⟨by decide, by decide⟩, ⟨by decide, by decide⟩, by decide⟩
theorem cD_zero : cfE cD = 0 := by kernel_rfl
abbrev sm0 : Ws := ⟨cD, 0, [], [], fun _ => [], [], 200, [], [], [], [], [], 0, [], 0, [], 0, false⟩
abbrev sm1 : Ws := { sm0 with live := 1 }
abbrev sm2 : Ws := { sm1 with n := 1 }
abbrev sm3 : Ws := { sm2 with D := [(1, ⟨1, 0, 0, 0⟩)] }
abbrev sm4 : Ws := { sm3 with S := [1] }
theorem Wo.vv {base : Nat} {col : Nat → Nat} {w : World} {x : Wp} {s : Ws} (h : Wo base col w x s) : ∃ col', Wv base col' w x s := by
  obtain ⟨col', hcol⟩ : ∃ col' : Nat → Nat, col' = fun g => if g < w.heap.size then col g else 0 := ⟨_, rfl⟩
  have e1 : ∀ g, g < w.heap.size → col' g = col g := fun g hg => by rw [hcol]; exact if_pos hg
  have e3 : ∀ g, w.heap.size ≤ g → col' g = 0 := fun g hg => by rw [hcol]; show (if g < w.heap.size then col g else 0) = 0; rw [if_neg (by omega)]
  refine ⟨col', x.rs, x.rh, h.recol e1 (fun g hg => ?_), fun g hg => ?_⟩
  · by_cases h3 : g < w.heap.size
    · exact h.lo g (by rw [← e1 g h3]; exact hg)
    · exact absurd (e3 g (by omega)) hg
  · by_cases h3 : g < w.heap.size
    · exact h3
    · exact absurd (e3 g (by omega)) hg
set_option maxRecDepth 100000 in
theorem small_any (w : World) : Calls Tryz.prog 63 #[] w fun e w' => ∃ (base : Nat) (x : Wp) (col : Nat → Nat), e = .returned (.tuple #[ptr x.pw, .bool true]) ∧ w.heap.size ≤ base ∧ Wv base col w' x sm4 ∧ Below w.heap.size w w' := by
  go_enter Tryz.func63, Tryz.ntmps63
  go_wp2_with fail
  refine (Cn.default_any w).mono ?_
  rintro e w1 ⟨rfl, b1⟩
  have HB1 := Lib.hid b1
  clear b1
  go_wp2_with fail
  refine (new_ok cD cD_ok cD_zero none none 0 0 w1.heap.size 0 0 w1.heap.size [] [] w1 Rd.nil_ Rd.nil_ (Nat.le_refl _) (Nat.le_refl _) (by omega) (by omega)).mono ?_
  rintro e w2 ⟨x, col0, rfl, h2, b2⟩
  obtain ⟨col, h2⟩ := h2.vv
  have HW2 : Hid (Wv w1.heap.size col w2 x sm0) := Lib.hid h2
  have HB2 := Lib.hid b2
  clear h2 b2
  have HG : Hid (Calls Tryz.prog 29 #[ptr x.pw] w2 fun e w' => e = .returned (.bool true) ∧ Wv w1.heap.size col w' x sm1 ∧ Fw col w2 w') := Lib.hid (wgrow_any w2 HW2.out (by decide) (by decide))
  go_wp2_with fail
  refine HG.out.mono ?_
  rintro e w3 ⟨rfl, h3, z3⟩
  have HW3 := Lib.hid h3
  have HZ3 := Lib.hid z3
  clear h3 z3 HG
  have c12 := HW3.out.cells.c12
  have HO : Hid (Calls Tryz.prog 8 #[ptr x.pF] w3 fun e w' => e = .returned (.tuple #[.int .u64 1, .bool true]) ∧ Wv w1.heap.size col w' x sm2 ∧ Fw col w3 w') := Lib.hid (wopen w3 HW3.out (by decide))
  go_wp2_with fail
  refine HO.out.mono ?_
  rintro e w4 ⟨rfl, h4, z4⟩
  have HW4 := Lib.hid h4
  have HZ4 := Lib.hid (HZ3.out.trans z4)
  clear h4 z4 HO c12 HZ3
  have c8 := HW4.out.cells.c8
  have HE : Hid (Calls Tryz.prog 9 #[ptr x.pb, .int .u64 1, .int .i64 1, .int .u64 0] w4 fun e w' => e = .returned (.int .i64 0) ∧ ∃ col', Wv w1.heap.size col' w' x sm3 ∧ Fw col w4 w' ∧ El w4 col col') := Lib.hid (wenter w4 HW4.out 1 1 0 ⟨by decide, by decide⟩ ⟨by decide, by decide⟩ (by decide))
  go_wp2_with fail
  refine HE.out.mono ?_
  rintro e w5 ⟨rfl, col5, h5, z5, l5⟩
  have HW5 := Lib.hid h5
  have HZ5 : Hid (Below w1.heap.size w2 w5) := Lib.hid ((HZ4.out.trans z5).below HW2.out.base_le (fun g hg => HW2.out.lo g hg.1))
  clear h5 z5 l5 HE c8 HZ4
  have HP : Hid (Calls Tryz.prog 12 #[ptr x.pw, .int .u64 1] w5 fun e w' => e = .returned (.bool true) ∧ ∃ col', Wv w1.heap.size col' w' x sm4 ∧ Fw col5 w5 w' ∧ El w5 col5 col') := Lib.hid (wpub_open w5 HW5.out 1 ⟨by decide, by decide⟩ (by decide) rfl)
  go_wp2_with fail
  refine HP.out.mono ?_
  rintro e w6 ⟨rfl, col6, h6, z6, l6⟩
  have HW6 := Lib.hid h6
  have HZ6 : Hid (Below w1.heap.size w2 w6) := Lib.hid (HZ5.out.trans (z6.below HW5.out.base_le (fun g hg => HW5.out.lo g hg.1)))
  clear h6 z6 l6 HP HZ5
  go_wp2_with fail
  go_ret2
  have hs1 := HB1.out.size
  exact ⟨w1.heap.size, x, col6, rfl, hs1, HW6.out, HB1.out.trans ((HB2.out.trans HZ6.out).mono hs1)⟩
abbrev q0 : Gw := ⟨⟨0, 1, 1, 1, sOffer⟩, sm4, []⟩
theorem q0_gi : Gi q0 0 := ⟨rfl, ⟨⟨by decide, by decide⟩, ⟨by decide, by decide⟩⟩, ⟨by decide, by decide⟩, by decide, by decide, by decide, by decide, by decide, .inl rfl⟩
theorem q0_d0 : ((itG 0 q0).g.st.toList == [100, 111, 110, 101]) = false := by kernel_rfl
theorem q0_d1 : ((itG 1 q0).g.st.toList == [100, 111, 110, 101]) = false := by kernel_rfl
theorem q0_d2 : ((itG 2 q0).g.st.toList == [100, 111, 110, 101]) = false := by kernel_rfl
theorem q0_d3 : ((itG 3 q0).g.st.toList == [100, 111, 110, 101]) = false := by kernel_rfl
theorem q0_d4 : ((itG 4 q0).g.st.toList == [100, 111, 110, 101]) = true := by kernel_rfl
theorem q0_done : ∀ k, k ≤ 4 → ((itG k q0).g.st.toList == [100, 111, 110, 101]) = decide (k = 4)
  | 0, _ => q0_d0
  | 1, _ => q0_d1
  | 2, _ => q0_d2
  | 3, _ => q0_d3
  | 4, _ => q0_d4
  | k + 5, h => absurd h (by omega)
theorem q0_end : bW (itG 4 q0).s.D 1 = 4 := by kernel_rfl
set_option maxRecDepth 100000 in
set_option maxHeartbeats 4000000 in
theorem awake17_any (W : World) (hT : Tb.Tabs W) : Calls Tryz.prog 18 #[] W fun e w' => e = .returned (.bool true) ∧ Below W.heap.size W w' := by
  have HT := Lib.hid hT
  clear hT
  go_enter Tryz.func18, Tryz.ntmps18
  go_wp2_with fail
  refine (small_any W).mono ?_
  rintro e w1 ⟨base, x, col, rfl, hb, h1, b1⟩
  have HW1 := Lib.hid h1
  have HB1 := Lib.hid b1
  have HBS := Lib.hid hb
  clear h1 b1 hb
  go_wp2_with fail
  have HOF : Hid (Calls Tryz.prog 42 #[.int .i64 1, .int .u64 0] w1 fun e w' => e = .returned (.int .u64 1) ∧ w1 = w') := Lib.hid (Wd.of_any 1 0 w1 (by decide) (by decide))
  refine HOF.out.mono ?_
  rintro e w2 ⟨rfl, rfl⟩
  clear HOF
  go_wp2_with fail
  refine (goffer_any 0 1 1 1 w1).mono ?_
  rintro e w2 ⟨rfl, b2⟩
  have HB2 := Lib.hid b2
  have HW2 := Lib.hid (HW1.out.later b2)
  clear b2 HW1
  go_upto_region 5 with (first
    | (refine store_g rfl _ _ rfl w2.heap.size rfl q0.g rfl ((box_g zg w2).choose_spec.1 ▸ (box_g zg w2).choose_spec.2.1.th) ?_; intro w3 hv3 hz3; have HV3 := Lib.hid hv3; have HB3 : Hid (Below w2.heap.size w2 w3) := Lib.hid (((Below.refl _ w2).alloc (Nat.le_refl _) _).trans (hz3.below (by simp) (fun k hk => by omega))); clear hv3 hz3))
  obtain ⟨gb, hgb⟩ : ∃ gb, w2.heap.size = gb := ⟨_, rfl⟩
  rw [hgb] at HV3
  rw [hgb]
  obtain ⟨col3, h3, l3, c38, -⟩ := HW2.out.var HB3.out gb (by omega) HV3.out.lt
  have HW3 : Hid (Wv base col3 w3 x (itG 0 q0).s) := Lib.hid h3
  have HC3 := Lib.hid c38
  have HGB : Hid (W.heap.size ≤ gb) := Lib.hid (by have := HB1.out.size; have := HB2.out.size; omega)
  have HBW : Hid (Below W.heap.size W w3) := Lib.hid ((HB1.out.trans (HB2.out.mono HB1.out.size)).trans (HB3.out.mono (Nat.le_trans HB1.out.size HB2.out.size)))
  clear h3 l3 c38 HB1 HB2 HB3 HW2 hgb
  go_wp2_with fail
  go_loopw [4] (fun i wr => ∃ (k : Nat) (col : Nat → Nat), k ≤ 4 ∧ i = .int .i64 k ∧ Hid (Wv base col wr x (itG k q0).s) ∧ Hid (col gb = 8) ∧ Hid (Vg wr gb (itG k q0).g) ∧ Hid (Below W.heap.size W wr)) (fun i _ => 4 - (intOf i).toNat)
  case atStart => exact ⟨0, col3, Nat.zero_le _, rfl, HW3, HC3, HV3, HBW⟩
  case round =>
    clear HW3 HC3 HV3 HBW
    obtain ⟨k, col, hk, rfl, HW, HC, HV, HB⟩ := hrel
    have HDN := Lib.hid (q0_done k hk)
    have HD : Hid (Calls Tryz.prog 24 #[(itG k q0).g.val] wr fun e w' => e = .returned (.bool (decide (k = 4))) ∧ Below wr.heap.size wr w') := Lib.hid (by have q := gdone_any (itG k q0).g wr; rw [HDN.out] at q; exact q)
    have HGI := Lib.hid (q0_gi.it k)
    obtain ⟨Q, hQ⟩ : ∃ Q, itG k q0 = Q := ⟨_, rfl⟩
    have HST : Hid (itG (k + 1) q0 = stepG Q) := Lib.hid (by rw [← hQ]; rfl)
    have HQE := Lib.hid hQ
    rw [hQ] at HW HV HD HGI
    clear hQ HDN
    go_wp2_with (first
      | (refine load_g rfl _ rfl gb rfl Q.g HV.out ?_))
    refine HD.out.mono ?_
    rintro e w4 ⟨rfl, b4⟩
    have HW4 := Lib.hid (HW.out.later b4)
    have HV4 := Lib.hid (HV.out.later b4)
    have HB4 : Hid (Below W.heap.size W w4) := Lib.hid (HB.out.trans (b4.mono HB.out.size))
    clear b4 HW HV HB HD
    by_cases hk4 : k = 4
    · subst hk4
      have q1 : decide ((4 : Nat) = 4) = true := rfl
      rw [q1]
      have HL : Hid (bW Q.s.D 1 = 4) := Lib.hid (by rw [← HQE.out]; exact q0_end)
      clear q1 HST HGI HQE hk
      have c8 := HW4.out.cells.c8
      obtain ⟨bs, hbs⟩ : ∃ bs, (fnd Q.s.D 1).isSome = bs := ⟨_, rfl⟩
      have HLD : Hid (Calls Tryz.prog 13 #[ptr x.pb, .int .u64 1] w4 fun e w' => e = .returned (.tuple #[.int .u64 4, .bool bs]) ∧ w4 = w') := Lib.hid (by
        have q := load_any w4 x.pb x.ab Q.s.D Q.s.S 1 HW4.out.bag ⟨by decide, by decide⟩
        rw [HL.out, hbs] at q
        exact q)
      clear hbs
      go_wp2_with fail
      refine HLD.out.mono ?_
      rintro e w5 ⟨rfl, rfl⟩
      clear HLD c8
      go_wp2_with fail
      refine (Awake16_any w4 (HT.out.below HB4.out)).mono ?_
      rintro e w5 ⟨rfl, b5⟩
      have HB5 := Lib.hid b5
      clear b5
      have HSA := Lib.hid (Wd.state_any 4 w5 (by decide) (by decide))
      go_wp2_with fail
      refine HSA.out.mono ?_
      rintro e w6 ⟨rfl, rfl⟩
      clear HSA
      go_wp2_with fail
      go_ret
      exact ⟨rfl, HB4.out.trans (HB5.out.mono HB4.out.size)⟩
    · have q1 : decide (k = 4) = false := decide_eq_false hk4
      have q2 : decide ((k : Int) < 9) = true := decide_eq_true (by omega)
      have t3 : IntKind.i64.wrap ((k : Int) + 1) = (k : Int) + 1 := by rw [IntKind.wrap_i64]; omega
      rw [q1]
      clear q1
      have HRN := Lib.hid (give_run w4 HW4.out HGI.out (by omega))
      go_wp2_with (first
        | (refine load_g rfl _ rfl gb rfl Q.g HV4.out ?_))
      refine HRN.out.mono ?_
      rintro e w5 ⟨rfl, col5, h5, z5, l5⟩
      have HW5 := Lib.hid h5
      have HT5 := Lib.hid (HV4.out.fw HC.out z5).th
      have HC5 : Hid (col5 gb = 8) := Lib.hid ((l5 gb HV4.out.lt).trans HC.out)
      have HB5 : Hid (Below W.heap.size W w5) := Lib.hid (HB4.out.trans (z5.below HB4.out.size (fun g hg => Nat.le_trans HBS.out (HW4.out.lo g hg.1))))
      clear h5 z5 l5 HRN
      go_wp2_with (first
        | (refine store_g rfl _ _ rfl gb rfl (stepG Q).g rfl HT5.out ?_; intro w6 hv6 hz6; have HV6 := Lib.hid hv6; have HZ6 := Lib.hid hz6; clear hv6 hz6))
      have HW6 : Hid (Wv base col5 w6 x (itG (k + 1) q0).s) := Lib.hid (by rw [HST.out]; exact HW5.out.aside HZ6.out (fun g _ e => e ▸ HC5.out))
      have HV6' : Hid (Vg w6 gb (itG (k + 1) q0).g) := Lib.hid (by rw [HST.out]; exact HV6.out)
      have HB6 : Hid (Below W.heap.size W w6) := Lib.hid (HB5.out.trans (HZ6.out.below HB5.out.size (fun g hg => by have := HGB.out; omega)))
      clear HV6 HZ6 HW5 HT5 HB5
      go_roundw
      case rel => exact ⟨k + 1, col5, by omega, by go_num, HW6, HC5, HV6', HB6⟩
      case measure => simp [intOf]; omega
end Go.Proofs.YthmdiaingolfnaaGreatDoor.Wo
namespace Go.Proofs.YthmdiaingolfnaaGreatDoor.Wo
open Go Go.ChangeShapes Go.WideShapes Go.ChangeAt Go.RowKit Go.Deep Go.Maps Rw Hi Mt Ba
open Cn (Cf cfE)
set_option linter.unusedVariables false
theorem info_by : (Tryz.prog.info? 5).map (fun i => (i.zero, i.size, i.bytes)) = some (some (.int .u8 0), 1, 1) := by kernel_rfl
def ones (k m : Nat) : List Int := List.replicate k 1 ++ List.replicate (m - k) 0
theorem ones_set {k m : Nat} (h : k < m) : (ones k m).set k 1 = ones (k + 1) m := by
  unfold ones
  rw [List.set_append_right _ _ (by simp)]
  have e : List.replicate (m - k) (0 : Int) = 0 :: List.replicate (m - (k + 1)) 0 := by
    rw [show m - k = (m - (k + 1)) + 1 by omega]; rfl
  rw [e, List.length_replicate, Nat.sub_self, List.set_cons_zero, List.replicate_succ', List.append_assoc]
  rfl
theorem ones_all (m : Nat) : ones m m = List.replicate m 1 := by unfold ones; rw [Nat.sub_self]; simp
theorem sidx_any (A : Option Addr) (n c : Nat) (xs : List Int) (x : Int) (w : World) (r : Rd (Value.int .u64) w w.heap.size A n c xs) :
    Calls Tryz.prog 27 #[.agg #[.slice A n c], .int .u64 x] w fun e w' => e = .returned (.int .i64 (Sn.sIdx xs x)) ∧ Below w.heap.size w w' := by
  have R := Lib.hid r
  clear r
  go_enter Tryz.func27, Tryz.ntmps27
  go_wp2_with fail
  refine (Sl.index_any A n c xs x w.heap.size _ (R.out.alloc (Nat.le_refl _) _)).mono ?_
  rintro e w' ⟨rfl, rfl⟩
  go_wp2_with fail
  go_ret
  exact ⟨rfl, (Below.refl _ _).alloc (Nat.le_refl _) _⟩
theorem sDone_is : (sDone.toList == [100, 111, 110, 101]) = true := by kernel_rfl
theorem St_fill (L : List St.Sx) {i : Int} (hi : i ≠ 0) : ((St.fillR L i).2.2 = true ↔ 0 < St.waitN L) ∧ (0 < St.waitN L → St.waitN (St.fillR L i).1 = St.waitN L - 1) := fillR_is L hi
theorem end_shut {s : Ws} {k : Nat} {id : Int} (h : Gd s k) (hk : 1 ≤ k) (h1 : 1 ≤ id) (h2 : id ≤ k) (N : List Int) : bW (shutS s N id).D id = 7 ∧ (shutS s N id).live = (k : Int) - 1 ∧ Sn.sIdx (shutS s N id).S id = -1 ∧ (Fc.kn (shutS s N id).n (shutS s N id).C id 6 == 0) = false := by
  refine ⟨?_, ?_, ?_, ?_⟩
  · show bW (up s.D id (exS (Wd.wOf 1 0) 3 s.now)) id = 7
    rw [h.bW_up h1 h2]; rfl
  · show shrV s.live = _
    unfold shrV; rw [h.live, if_pos (by omega)]
  · refine Sn.sIdx_miss _ _ ?_
    show id ∉ unlS (up s.D id (exS (Wd.wOf 1 0) 3 s.now)) s.S id
    unfold unlS
    rw [fnd_up_same (h.fnd_ h1 h2), Option.isSome_some, if_pos rfl]
    unfold Sn.sWithout
    intro hm
    have := (List.mem_filter.1 hm).2
    simp at this
  · have e : clsC s.n s.C id = [id] := by
      have e0 : Fc.kn k [] id 10 = 0 := by unfold Fc.kn; rw [if_neg (by omega), if_neg (by simp)]
      unfold clsC
      rw [h.C, h.n_, e0, if_pos rfl]; rfl
    show (Fc.kn s.n (clsC s.n s.C id) id 6 == 0) = false
    rw [e]
    unfold Fc.kn
    rw [h.n_, if_neg (by omega), if_pos (by simp)]; rfl
theorem end_free {s : Ws} {k : Nat} {id : Int} (h : Gd s k) (h1 : 1 ≤ id) (h2 : id ≤ k) : bW (freeS s id).D id = 4 ∧ (freeS s id).live = (k : Int) ∧ 0 ≤ Sn.sIdx (freeS s id).S id ∧ (Fc.kn (freeS s id).n (freeS s id).C id 6 == 0) = true := by
  refine ⟨?_, h.live, ?_, ?_⟩
  · show bW (up s.D id (exS (Wd.wOf 1 0) 0 s.now)) id = 4
    rw [h.bW_up h1 h2]; rfl
  · show 0 ≤ Sn.sIdx s.S id
    by_cases h3 : Sn.sIdx s.S id < 0
    · exact absurd (h.mem h1 h2) ((Sn.sIdx_neg s.S id).1 h3)
    · omega
  · show (Fc.kn s.n s.C id 6 == 0) = true
    unfold Fc.kn
    rw [h.C, h.n_, if_neg (by omega), if_neg (by simp)]; rfl
set_option maxRecDepth 100000 in
set_option maxHeartbeats 4000000 in
theorem keeps_any (W : World) (hT : Tb.Tabs W) (n wh : Int) (hn : 0 ≤ n ∧ n ≤ 255) (hwh : 0 ≤ wh ∧ wh ≤ 255) (Aw Am : Option Addr) (nw cw nm cm : Nat) (ws ms : List Int)
    (hw : Rd (Value.int .u8) W W.heap.size Aw nw cw ws) (hm : Rd (Value.int .u8) W W.heap.size Am nm cm ms) (uw : ∀ z ∈ ws, 0 ≤ z ∧ z ≤ 255) (um : ∀ z ∈ ms, 0 ≤ z ∧ z ≤ 255) (hnw : nw ≤ 5) (hnm : nm ≤ 5) (cl : Bool) :
    Calls Tryz.prog 4 #[.int .u8 n, .slice Aw nw cw, .slice Am nm cm, .bool cl, .int .u8 wh] W fun e w' => e = .returned (.bool true) ∧ Below W.heap.size W w' := by
  obtain ⟨i0, hi0, hz0, hz1, hz2⟩ := info_parts info_by
  have HT := Lib.hid hT
  have HWS := Lib.hid hw
  have HMS := Lib.hid hm
  have HUW := Lib.hid uw
  have HUM := Lib.hid um
  have HLW := Lib.hid hw.len
  have HLM := Lib.hid hm.len
  clear hT hw hm uw um
  have t0 : decide ((5 : Int) < (nw : Int)) = false := decide_eq_false (by omega)
  have t1 : decide ((5 : Int) < (nm : Int)) = false := decide_eq_false (by omega)
  have t0' : decide (5 < nw) = false := decide_eq_false (by omega)
  have t1' : decide (5 < nm) = false := decide_eq_false (by omega)
  obtain ⟨m, hm⟩ : ∃ m : Nat, m = (n % 6 + 1).toNat := ⟨_, rfl⟩
  have hmn : (m : Int) = n % 6 + 1 := by omega
  have hm1 : 1 ≤ m ∧ m ≤ 6 := by omega
  have t2 : n.tmod 6 = n % 6 := Int.tmod_eq_emod_of_nonneg hn.1
  have t3 : IntKind.u8.wrap (n % 6) = n % 6 := by rw [IntKind.wrap_u8]; omega
  have t4 : IntKind.u8.wrap (n % 6 + 1) = (m : Int) := by rw [IntKind.wrap_u8]; omega
  have HM := Lib.hid hmn
  have HM1 := Lib.hid hm1
  clear hm hmn hm1
  go_enter Tryz.func4, Tryz.ntmps4
  go_wp2_with fail
  refine (awake17_any W HT.out).mono ?_
  rintro e w1 ⟨rfl, b1⟩
  have HB1 := Lib.hid b1
  have HT1 := Lib.hid (HT.out.below b1)
  clear b1 HT
  obtain ⟨w2, hrun, hown, hg⟩ := run_make_full (P := Tryz.prog) w1 w1.heap.size 79 5 i0 (.int .u8 0) 1 Tryz.underlying79 hi0 hz0 hz1 .u8 .u8 m (by have := HM1.out; rw [hz2]; omega) (by have := HM1.out; unfold maxLen; omega) (Nat.le_refl _)
  have hrun2 : (Instr.makeSlice 79 (.int .u8 m) (.int .u8 m)).run Tryz.prog w1 = .ok (.slice (some ⟨w1.heap.size, 0, none⟩) m m) w2 := hrun
  have hmc : (madeCells (Value.int .u8 0).cells (m * 1)).toList = (ones 0 m).map (Value.int .u8) := by
    rw [show ones 0 m = List.replicate m 0 from by unfold ones; simp, List.map_replicate]
    rw [Nat.mul_one]
    exact toList_madeCells_one _ m
  rw [hmc] at hown
  obtain ⟨rb, hrb⟩ : ∃ rb, w1.heap.size = rb := ⟨_, rfl⟩
  have HB2 : Hid (Below W.heap.size W w2) := Lib.hid (HB1.out.trans ((Below.refl _ w1).grown hg HB1.out.size (fun j hj => by cases hj)))
  have HRB : Hid (W.heap.size ≤ rb) := Lib.hid (by have := HB1.out.size; omega)
  have HT2 : Hid (Tb.Tabs w2) := Lib.hid (HT1.out.below ((Below.refl _ w1).grown hg (Nat.le_refl _) (fun j hj => by cases hj)))
  rw [hrb] at hown hrun2
  have HO2 := Lib.hid hown
  clear hrun hown hg hmc hrb
  go_upto_region 6 with fail
  clear hrun2 HB1 HT1 t0 t1 t0' t1' t2 t3 t4
  go_wp2_with fail
  go_loopw [41] (fun i wr => ∃ k : Nat, k ≤ m ∧ i = .int .i64 k ∧ Hid (wr.ownsRow rb 5 1 (.slice (some ⟨rb, 0, none⟩) m m) m ((ones k m).map (Value.int .u8))) ∧ Hid (Below W.heap.size W wr)) (fun i _ => m - (intOf i).toNat)
  case atStart => exact ⟨0, Nat.zero_le _, rfl, HO2, HB2⟩
  case round =>
    clear HO2 HB2
    obtain ⟨k, hk, rfl, HO, HB⟩ := hrel
    by_cases hkm : k < m
    · have rd : Rd (Value.int .u8) wr wr.heap.size (some ⟨rb, 0, none⟩) m m (ones k m) := Rd.own_rd HO.out
      obtain ⟨b, o, z, e, hbl, hz, hc⟩ := rd.get hkm
      cases e
      rw [Nat.zero_add] at hc
      have hf := HO.out.frozenAt k
      have HO3 : Hid ((wr.setCell ⟨rb, k, none⟩ (.int .u8 1)).ownsRow rb 5 1 (.slice (some ⟨rb, 0, none⟩) m m) m ((ones (k + 1) m).map (Value.int .u8))) := Lib.hid (by
        have q := Fc.own_set (i := k) HO.out (.int .u8 1)
        rwa [show ((ones k m).map (Value.int .u8)).set k (.int .u8 1) = (ones (k + 1) m).map (Value.int .u8) by rw [← ones_set hkm, List.map_set]] at q)
      have HB3 : Hid (Below W.heap.size W (wr.setCell ⟨rb, k, none⟩ (.int .u8 1))) := Lib.hid (HB.out.setCell (p := ⟨rb, k, none⟩) HRB.out _)
      have d1 : decide ((k : Int) < (m : Int)) = true := decide_eq_true (by omega)
      have t3 : IntKind.i64.wrap ((k : Int) + 1) = (k : Int) + 1 := by have := HM1.out; rw [IntKind.wrap_i64]; omega
      clear rd hz HO HB
      go_wp2_with fail
      go_roundw
      case rel => exact ⟨k + 1, by omega, by go_num, HO3, HB3⟩
      case measure => simp [intOf]; omega
    · obtain rfl : k = m := by omega
      clear hk hkm
      have d1 : decide ((k : Int) < (k : Int)) = false := decide_eq_false (by omega)
      have hrd : Rd (Value.int .u8) wr wr.heap.size (some ⟨rb, 0, none⟩) k k (List.replicate k 1) := by
        have q := Rd.own_rd (xs := ones k k) HO.out
        rwa [ones_all] at q
      have HRD := Lib.hid hrd
      have HB1 := HB
      clear hrd HO HB
      go_wp2_with fail
      -- REST
      refine (begin_any wr (some ⟨rb, 0, none⟩) Aw Am k k nw cw nm cm (List.replicate k 1) ws ms HRD.out (HWS.out.later HB1.out) (HMS.out.later HB1.out) (fun z hz => by rw [List.eq_of_mem_replicate hz]; exact ⟨by decide, by decide⟩) HUW.out HUM.out HM1.out.2 hnw hnm cl).mono ?_
      rintro e w3 ⟨base, x, col, v, rfl, hbs, hwv, hdw, b3⟩
      obtain ⟨id, hid⟩ : ∃ id, id = wh % (k : Int) + 1 := ⟨_, rfl⟩
      have hk1 : (1 : Int) ≤ k := by have := HM1.out; omega
      have hk6 : (k : Int) ≤ 6 := by have := HM1.out; omega
      have hm0 : 0 ≤ wh % (k : Int) := Int.emod_nonneg _ (by omega)
      have hm1 : wh % (k : Int) < k := Int.emod_lt_of_pos _ (by omega)
      have hi1 : 1 ≤ id ∧ id ≤ (k : Int) := by omega
      have HGD : Hid (Gd (bgnS (List.replicate k 1) ws ms cl) k) := Lib.hid (gd_bgn k (by omega) ws ms cl)
      have HGI : Hid (Gi ⟨g0 id, bgnS (List.replicate k 1) ws ms cl, bgnN (List.replicate k 1) ws ms⟩ 0) := Lib.hid (bgn_gi k (by omega) ws ms cl (by rw [HLW.out]; exact hnw) (by rw [HLM.out]; exact hnm) id hi1)
      have HSL : Hid ((bgnS (List.replicate k 1) ws ms cl).sl.length ≤ 5) := Lib.hid (by have := bgn_sl (List.replicate k 1) ws ms cl; rw [HLW.out] at this; omega)
      have hcl : (bgnS (List.replicate k 1) ws ms cl).closed = cl := rfl
      obtain ⟨s, hs⟩ : ∃ s, bgnS (List.replicate k 1) ws ms cl = s := ⟨_, rfl⟩
      obtain ⟨N, hN⟩ : ∃ N, bgnN (List.replicate k 1) ws ms = N := ⟨_, rfl⟩
      rw [hs] at hwv hdw HGD HGI HSL hcl
      rw [hN] at HGI
      rw [hs]
      clear hs hN hdw
      have HW3 := Lib.hid hwv
      have HB3 := Lib.hid b3
      have HCL := Lib.hid hcl
      have HI1 := Lib.hid hi1
      have HBS : Hid (W.heap.size ≤ base) := Lib.hid (by have := HB1.out.size; omega)
      clear hwv b3 hcl HRD hbs HWS HMS HUW HUM HLW HLM
      have u1 : IntKind.u64.wrap wh = wh := by rw [IntKind.wrap_u64]; omega
      have u2 : IntKind.u64.wrap (k : Int) = (k : Int) := by rw [IntKind.wrap_u64]; omega
      have u3 : wh.tmod (k : Int) = wh % (k : Int) := Int.tmod_eq_emod_of_nonneg hwh.1
      have u4 : IntKind.u64.wrap (wh % (k : Int)) = wh % (k : Int) := by rw [IntKind.wrap_u64]; omega
      have u5 : IntKind.u64.wrap (wh % (k : Int) + 1) = id := by rw [IntKind.wrap_u64, hid]; omega
      have u6 : ((k : Int) == 0) = false := by simp; omega
      have u7 : (k == 0) = false := by simp; omega
      have u8 : ¬ (k : Int) = 0 := by omega
      have u9 : ¬ k = 0 := by omega
      clear hid hm0 hm1 hi1 hk1 hk6
      go_upto_region 12 with (first
        | (refine store_w rfl _ _ rfl w3.heap.size rfl v s rfl (th_zero w3) ?_; intro w4 hv4 hz4; have HB4 : Hid (Below w3.heap.size w3 w4) := Lib.hid (((Below.refl _ w3).alloc (Nat.le_refl _) _).trans (hz4.below (by simp) (fun k hk => by omega))); clear hv4 hz4))
      have HW4 := Lib.hid (HW3.out.later HB4.out)
      have HBW : Hid (Below W.heap.size W w4) := Lib.hid ((HB1.out.trans (HB3.out.mono HB1.out.size)).trans (HB4.out.mono (Nat.le_trans HB1.out.size HB3.out.size)))
      clear HW3 HB1 HB3 HB4
      have c8 := HW4.out.cells.c8
      obtain ⟨bs, hbs⟩ : ∃ bs, (fnd s.D id).isSome = bs := ⟨_, rfl⟩
      have HLD : Hid (Calls Tryz.prog 13 #[ptr x.pb, .int .u64 id] w4 fun e w' => e = .returned (.tuple #[.int .u64 1, .bool bs]) ∧ w4 = w') := Lib.hid (by
        have q := load_any w4 x.pb x.ab s.D s.S id HW4.out.bag ⟨by have := HI1.out; omega, by have := HI1.out; have := HM1.out; omega⟩
        rw [HGD.out.bW_ HI1.out.1 HI1.out.2, hbs] at q
        exact q)
      clear hbs
      go_wp2_with fail
      refine HLD.out.mono ?_
      rintro e w5 ⟨rfl, rfl⟩
      clear HLD c8 u1 u2 u3 u4 u5 u6 u7 u8 u9
      go_upto_region 16 with fail
      have HU : Hid (U64 id) := Lib.hid ⟨by have := HI1.out; omega, by have := HI1.out; have := HM1.out; omega⟩
      have c14 := HW4.out.cells.c14
      have c10 := HW4.out.cells.c10
      have c11 := HW4.out.cells.c11
      rw [HGD.out.live] at c14
      have hc14 : ∀ y : After w4, y.1.cell? ⟨x.pw, 14, none⟩ = some (.int .i64 (k : Int)) := fun y => y.cell c14
      have hc10 : ∀ y : After w4, y.1.cell? ⟨x.pw, 10, none⟩ = some (ptr x.ps) := fun y => y.cell c10
      have hc11 : ∀ y : After w4, y.1.cell? ⟨x.pw, 11, none⟩ = some (ptr x.bk.p) := fun y => y.cell c11
      obtain ⟨wn, hwn⟩ : ∃ wn, St.waitN s.sl = wn := ⟨_, rfl⟩
      obtain ⟨mk, hmk⟩ : ∃ mk, decide (id ∈ N) = mk := ⟨_, rfl⟩
      have HWT : Hid (∀ y : After w4, Calls Tryz.prog 20 #[ptr x.ps] y.1 fun e w' => e = .returned (.int .i64 (wn : Int)) ∧ Below y.1.heap.size y.1 w') := Lib.hid (fun y => by
        obtain ⟨r, hsl⟩ := (HW4.out.later y.2).slots
        have q := St.waiting_any y.1 base x.ps r s.sl hsl (by have := HSL.out; omega)
        rw [hwn] at q
        exact q)
      have HMK : Hid (∀ y : After w4, Calls Tryz.prog 21 #[ptr x.bk.p, .int .u64 id] y.1 fun e w' => e = .returned (.bool mk) ∧ y.1 = w') := Lib.hid (fun y => Le.marked_any y.1 x.bk s.leak s.L s.M s.T id (HW4.out.later y.2).book HU.out mk (by rw [show s.M = Le.mk N from HGI.out.mk_, Le.mk_fnd]; exact hmk))
      have HWN := Lib.hid hwn
      have HMD := Lib.hid hmk
      clear c14 c10 c11 hwn hmk
      go_wp2_with fail
      refine region_after (by kernel_rfl) (by kernel_rfl) ?_
      repeat (go_big_quiet_step (first
        | (go_at_call 20; exact After.call (HWT.out _))
        | (go_at_call 21; exact After.same (HMK.out _))))
      refine wpQuiet_nil ?_
      rintro w5 ⟨⟨_, hb5⟩, rfl⟩
      have HW5 := Lib.hid (HW4.out.later hb5)
      have HB5 : Hid (Below W.heap.size W w5) := Lib.hid (HBW.out.trans (hb5.mono HBW.out.size))
      clear hb5 hc14 hc10 hc11 HWT HMK HW4 HBW
      go_wp2_with fail
      refine (goffer_any 0 1 id 1 w5).mono ?_
      rintro e w6 ⟨rfl, b6⟩
      have HW6 := Lib.hid (HW5.out.later b6)
      have HB6 : Hid (Below W.heap.size W w6) := Lib.hid (HB5.out.trans (b6.mono HB5.out.size))
      clear b6 HW5 HB5
      go_upto_region 18 with (first
        | (refine store_g rfl _ _ rfl w6.heap.size rfl (g0 id) rfl ((box_g zg w6).choose_spec.1 ▸ (box_g zg w6).choose_spec.2.1.th) ?_; intro w7 hv7 hz7; have HV7 := Lib.hid hv7; have HB7 : Hid (Below w6.heap.size w6 w7) := Lib.hid (((Below.refl _ w6).alloc (Nat.le_refl _) _).trans (hz7.below (by simp) (fun k hk => by omega))); clear hv7 hz7))
      obtain ⟨gb, hgb⟩ : ∃ gb, w6.heap.size = gb := ⟨_, rfl⟩
      rw [hgb] at HV7
      rw [hgb]
      obtain ⟨q0, hq0⟩ : ∃ q0 : Gw, q0 = ⟨g0 id, s, N⟩ := ⟨_, rfl⟩
      obtain ⟨col7, h7, l7, c78, -⟩ := HW6.out.var HB7.out gb (by omega) HV7.out.lt
      have HW7 : Hid (Wv base col7 w7 x (itG 0 q0).s) := Lib.hid (by rw [hq0]; exact h7)
      have HV7' : Hid (Vg w7 gb (itG 0 q0).g) := Lib.hid (by rw [hq0]; exact HV7.out)
      have HC7 := Lib.hid c78
      have HGB : Hid (W.heap.size ≤ gb) := Lib.hid (by have := HB6.out.size; omega)
      have HBW : Hid (Below W.heap.size W w7) := Lib.hid (HB6.out.trans (HB7.out.mono HB6.out.size))
      have HQ0 := Lib.hid hq0
      have HGI0 : Hid (Gi q0 0) := Lib.hid (by rw [hq0]; exact HGI.out)
      clear h7 l7 c78 HB6 HB7 HW6 hgb hq0 HV7 HGI
      go_wp2_with fail
      go_loopw [93] (fun i wr => ∃ (j : Nat) (col : Nat → Nat), j ≤ 9 ∧ i = .int .i64 j ∧ Hid (Wv base col wr x (itG j q0).s) ∧ Hid (col gb = 8) ∧ Hid (Vg wr gb (itG j q0).g) ∧ Hid (Below W.heap.size W wr)) (fun i _ => 9 - (intOf i).toNat)
      case atStart => exact ⟨0, col7, Nat.zero_le _, rfl, HW7, HC7, HV7', HBW⟩
      case round =>
        clear HW7 HC7 HV7' HBW
        obtain ⟨j, col, hj, rfl, HW, HC, HV, HB⟩ := hrel
        by_cases hj9 : j < 9
        · have q2 : decide ((j : Int) < 9) = true := decide_eq_true (by omega)
          have t3 : IntKind.i64.wrap ((j : Int) + 1) = (j : Int) + 1 := by rw [IntKind.wrap_i64]; omega
          have HGJ := Lib.hid (HGI0.out.it j)
          obtain ⟨Q, hQ⟩ : ∃ Q, itG j q0 = Q := ⟨_, rfl⟩
          have HST : Hid (itG (j + 1) q0 = stepG Q) := Lib.hid (by rw [← hQ]; rfl)
          rw [hQ] at HW HV HGJ
          clear hQ
          have HRN := Lib.hid (give_run wr HW.out HGJ.out (by omega))
          go_wp2_with (first
            | (refine load_g rfl _ rfl gb rfl Q.g HV.out ?_))
          refine HRN.out.mono ?_
          rintro e w5 ⟨rfl, col5, h5, z5, l5⟩
          have HW5 := Lib.hid h5
          have HT5 := Lib.hid (HV.out.fw HC.out z5).th
          have HC5 : Hid (col5 gb = 8) := Lib.hid ((l5 gb HV.out.lt).trans HC.out)
          have HB5 : Hid (Below W.heap.size W w5) := Lib.hid (HB.out.trans (z5.below HB.out.size (fun g hg => Nat.le_trans HBS.out (HW.out.lo g hg.1))))
          clear h5 z5 l5 HRN
          go_wp2_with (first
            | (refine store_g rfl _ _ rfl gb rfl (stepG Q).g rfl HT5.out ?_; intro w6 hv6 hz6; have HV6 := Lib.hid hv6; have HZ6 := Lib.hid hz6; clear hv6 hz6))
          have HW6 : Hid (Wv base col5 w6 x (itG (j + 1) q0).s) := Lib.hid (by rw [HST.out]; exact HW5.out.aside HZ6.out (fun g _ e => e ▸ HC5.out))
          have HV6' : Hid (Vg w6 gb (itG (j + 1) q0).g) := Lib.hid (by rw [HST.out]; exact HV6.out)
          have HB6 : Hid (Below W.heap.size W w6) := Lib.hid (HB5.out.trans (HZ6.out.below HB5.out.size (fun g hg => by have := HGB.out; omega)))
          clear HV6 HZ6 HW5 HT5 HB5
          go_roundw
          case rel => exact ⟨j + 1, col5, by omega, by go_num, HW6, HC5, HV6', HB6⟩
          case measure => simp [intOf]; omega
        · obtain rfl : j = 9 := by omega
          clear hj hj9
          have q2 : decide (((9 : Nat) : Int) < 9) = false := by decide
          cases cl with
          | true =>
            have hor : s.closed = true ∨ id ∈ N := .inl HCL.out
            have hE := end_shut HGD.out HM1.out.1 HI1.out.1 HI1.out.2 N
            have HQ9 := keeps_shut HGD.out HI1.out.1 HI1.out.2 hor
            rw [← HQ0.out] at HQ9
            rw [HQ9] at HW HV
            have HW : Hid (Wv base col wr x (shutS s N id)) := HW
            have HV : Hid (Vg wr gb { g0 id with st := sDone }) := HV
            clear HQ9 hor

            obtain ⟨S, hS⟩ : ∃ S, shutS s N id = S := ⟨_, rfl⟩
            obtain ⟨G, hG⟩ : ∃ G : Gv, ({ g0 id with st := sDone } : Gv) = G := ⟨_, rfl⟩
            have HST : Hid ((G.st.toList == [100, 111, 110, 101]) = true) := Lib.hid (by rw [← hG]; exact sDone_is)
            rw [hS] at hE
            rw [hS] at HW
            rw [hG] at HV
            clear hS hG

            have HWD : Hid (bW S.D id = 7) := Lib.hid hE.1
            have hlv : S.live = (k : Int) - 1 := hE.2.1
            have HIX : Hid (Sn.sIdx S.S id = -1) := Lib.hid hE.2.2.1
            have HOP : Hid ((Fc.kn S.n S.C id 6 == 0) = false) := Lib.hid hE.2.2.2
            clear hE

            have c8 := HW.out.cells.c8
            obtain ⟨bs, hbs⟩ : ∃ bs, (fnd S.D id).isSome = bs := ⟨_, rfl⟩
            have HLD : Hid (Calls Tryz.prog 13 #[ptr x.pb, .int .u64 id] wr fun e w' => e = .returned (.tuple #[.int .u64 7, .bool bs]) ∧ wr = w') := Lib.hid (by
              have q := load_any wr x.pb x.ab S.D S.S id HW.out.bag HU.out
              rw [HWD.out, hbs] at q
              exact q)
            clear hbs
            go_wp2_with fail
            refine HLD.out.mono ?_
            rintro e w5 ⟨rfl, rfl⟩
            clear HLD c8
            have HDN : Hid (Calls Tryz.prog 24 #[G.val] wr fun e w' => e = .returned (.bool true) ∧ Below wr.heap.size wr w') := Lib.hid (by
              have q := gdone_any G wr
              rw [HST.out] at q
              exact q)
            go_wp2_with (first
              | (refine load_g rfl _ rfl gb rfl G HV.out ?_))
            refine HDN.out.mono ?_
            rintro e w5 ⟨rfl, b5⟩
            have HW5 := Lib.hid (HW.out.later b5)
            have HB5 : Hid (Below W.heap.size W w5) := Lib.hid (HB.out.trans (b5.mono HB.out.size))
            clear b5 HW HB HV HDN

            have c14 := HW5.out.cells.c14
            have c8 := HW5.out.cells.c8
            have c12 := HW5.out.cells.c12
            rw [hlv] at c14
            have t5 : IntKind.i64.wrap ((k : Int) - 1) = (k : Int) - 1 := by have := HM1.out; rw [IntKind.wrap_i64]; omega
            go_wp2_with fail

            have HSA := Lib.hid (Wd.state_any 7 w5 (by decide) (by decide))
            refine HSA.out.mono ?_
            rintro e w6 ⟨rfl, rfl⟩
            clear HSA

            go_wp2_with fail
            refine (blist_any w5 x.pb x.ab S.D S.S HW5.out.bag).mono ?_
            rintro e w6 ⟨A, nn, c, rfl, hrd, b6⟩
            have HRD := Lib.hid (hrd.later b6)
            have HB6 := Lib.hid b6
            have c12 := (b6.cell (p := ⟨x.pw, 12, none⟩) (Lw.lt_heap c12)).trans c12
            clear hrd c8 c14
            go_wp2_with fail
            refine (sidx_any A nn c S.S id w6 HRD.out).mono ?_
            rintro e w7 ⟨rfl, b7⟩
            have HB7 := Lib.hid (HB6.out.trans (b7.mono HB6.out.size))
            have c12 := (b7.cell (p := ⟨x.pw, 12, none⟩) (Lw.lt_heap c12)).trans c12
            rw [HIX.out]
            clear b6 b7 HRD HB6
            have HIO : Hid (Calls Tryz.prog 16 #[ptr x.pF, .int .u64 id] w7 fun e w' => e = .returned (.bool false) ∧ w7 = w') := Lib.hid (by
              have q := Fc.isopen_any x.pF x.bF x.mF S.n S.O S.P S.C id w7 (HW5.out.later HB7.out).fact HU.out
              rw [HOP.out] at q
              exact q)
            go_wp2_with fail
            refine HIO.out.mono ?_
            rintro e w8 ⟨rfl, rfl⟩
            clear HIO
            go_wp2_with fail
            go_ret
            exact ⟨rfl, HB5.out.trans (HB7.out.mono HB5.out.size)⟩
          | false =>
            have hcl : s.closed = false := HCL.out
            cases mk with
            | true =>
              have hor : s.closed = true ∨ id ∈ N := .inr (of_decide_eq_true HMD.out)
              have hE := end_shut HGD.out HM1.out.1 HI1.out.1 HI1.out.2 N
              have HQ9 := keeps_shut HGD.out HI1.out.1 HI1.out.2 hor
              rw [← HQ0.out] at HQ9
              rw [HQ9] at HW HV
              have HW : Hid (Wv base col wr x (shutS s N id)) := HW
              have HV : Hid (Vg wr gb { g0 id with st := sDone }) := HV
              clear HQ9 hor

              obtain ⟨S, hS⟩ : ∃ S, shutS s N id = S := ⟨_, rfl⟩
              obtain ⟨G, hG⟩ : ∃ G : Gv, ({ g0 id with st := sDone } : Gv) = G := ⟨_, rfl⟩
              have HST : Hid ((G.st.toList == [100, 111, 110, 101]) = true) := Lib.hid (by rw [← hG]; exact sDone_is)
              rw [hS] at hE
              rw [hS] at HW
              rw [hG] at HV
              clear hS hG

              have HWD : Hid (bW S.D id = 7) := Lib.hid hE.1
              have hlv : S.live = (k : Int) - 1 := hE.2.1
              have HIX : Hid (Sn.sIdx S.S id = -1) := Lib.hid hE.2.2.1
              have HOP : Hid ((Fc.kn S.n S.C id 6 == 0) = false) := Lib.hid hE.2.2.2
              clear hE

              have c8 := HW.out.cells.c8
              obtain ⟨bs, hbs⟩ : ∃ bs, (fnd S.D id).isSome = bs := ⟨_, rfl⟩
              have HLD : Hid (Calls Tryz.prog 13 #[ptr x.pb, .int .u64 id] wr fun e w' => e = .returned (.tuple #[.int .u64 7, .bool bs]) ∧ wr = w') := Lib.hid (by
                have q := load_any wr x.pb x.ab S.D S.S id HW.out.bag HU.out
                rw [HWD.out, hbs] at q
                exact q)
              clear hbs
              go_wp2_with fail
              refine HLD.out.mono ?_
              rintro e w5 ⟨rfl, rfl⟩
              clear HLD c8
              have HDN : Hid (Calls Tryz.prog 24 #[G.val] wr fun e w' => e = .returned (.bool true) ∧ Below wr.heap.size wr w') := Lib.hid (by
                have q := gdone_any G wr
                rw [HST.out] at q
                exact q)
              go_wp2_with (first
                | (refine load_g rfl _ rfl gb rfl G HV.out ?_))
              refine HDN.out.mono ?_
              rintro e w5 ⟨rfl, b5⟩
              have HW5 := Lib.hid (HW.out.later b5)
              have HB5 : Hid (Below W.heap.size W w5) := Lib.hid (HB.out.trans (b5.mono HB.out.size))
              clear b5 HW HB HV HDN

              have c14 := HW5.out.cells.c14
              have c8 := HW5.out.cells.c8
              have c12 := HW5.out.cells.c12
              rw [hlv] at c14
              have t5 : IntKind.i64.wrap ((k : Int) - 1) = (k : Int) - 1 := by have := HM1.out; rw [IntKind.wrap_i64]; omega
              go_wp2_with fail

              have HSA := Lib.hid (Wd.state_any 7 w5 (by decide) (by decide))
              refine HSA.out.mono ?_
              rintro e w6 ⟨rfl, rfl⟩
              clear HSA

              go_wp2_with fail
              refine (blist_any w5 x.pb x.ab S.D S.S HW5.out.bag).mono ?_
              rintro e w6 ⟨A, nn, c, rfl, hrd, b6⟩
              have HRD := Lib.hid (hrd.later b6)
              have HB6 := Lib.hid b6
              have c12 := (b6.cell (p := ⟨x.pw, 12, none⟩) (Lw.lt_heap c12)).trans c12
              clear hrd c8 c14
              go_wp2_with fail
              refine (sidx_any A nn c S.S id w6 HRD.out).mono ?_
              rintro e w7 ⟨rfl, b7⟩
              have HB7 := Lib.hid (HB6.out.trans (b7.mono HB6.out.size))
              have c12 := (b7.cell (p := ⟨x.pw, 12, none⟩) (Lw.lt_heap c12)).trans c12
              rw [HIX.out]
              clear b6 b7 HRD HB6
              have HIO : Hid (Calls Tryz.prog 16 #[ptr x.pF, .int .u64 id] w7 fun e w' => e = .returned (.bool false) ∧ w7 = w') := Lib.hid (by
                have q := Fc.isopen_any x.pF x.bF x.mF S.n S.O S.P S.C id w7 (HW5.out.later HB7.out).fact HU.out
                rw [HOP.out] at q
                exact q)
              go_wp2_with fail
              refine HIO.out.mono ?_
              rintro e w8 ⟨rfl, rfl⟩
              clear HIO
              go_wp2_with fail
              go_ret
              exact ⟨rfl, HB5.out.trans (HB7.out.mono HB5.out.size)⟩
              | false =>
                have hNo : id ∉ N := of_decide_eq_false HMD.out
                cases hfi : (St.fillR s.sl id).2.2 with
                | true =>
                  have HQ9 := keeps_fill (s := s) (N := N) (id := id) hcl hNo hfi
                  rw [← HQ0.out] at HQ9
                  rw [HQ9] at HW HV
                  have HW : Hid (Wv base col wr x { s with sl := (St.fillR s.sl id).1 }) := HW
                  have HV : Hid (Vg wr gb { g0 id with st := sDone }) := HV
                  clear HQ9
                  have hpos : 0 < wn := by rw [← HWN.out]; exact ((St_fill s.sl (by have := HI1.out; omega)).1).1 hfi
                  have hE : bW ({ s with sl := (St.fillR s.sl id).1 } : Ws).D id = 1 ∧ ({ s with sl := (St.fillR s.sl id).1 } : Ws).live = (k : Int) ∧ St.waitN ({ s with sl := (St.fillR s.sl id).1 } : Ws).sl = wn - 1 ∧ ({ s with sl := (St.fillR s.sl id).1 } : Ws).sl.length ≤ 5 := ⟨HGD.out.bW_ HI1.out.1 HI1.out.2, HGD.out.live, by rw [← HWN.out]; exact (St_fill s.sl (by have := HI1.out; omega)).2 (by rw [HWN.out]; exact hpos), by have := HSL.out; have h2 := St.fillR_len s.sl id; show (St.fillR s.sl id).1.length ≤ 5; omega⟩
                  clear hfi

                  obtain ⟨S, hS⟩ : ∃ S, ({ s with sl := (St.fillR s.sl id).1 } : Ws) = S := ⟨_, rfl⟩
                  obtain ⟨G, hG⟩ : ∃ G : Gv, ({ g0 id with st := sDone } : Gv) = G := ⟨_, rfl⟩
                  have HST : Hid ((G.st.toList == [100, 111, 110, 101]) = true) := Lib.hid (by rw [← hG]; exact sDone_is)
                  rw [hS] at hE
                  rw [hS] at HW
                  rw [hG] at HV
                  clear hS hG

                  have HWD : Hid (bW S.D id = 1) := Lib.hid hE.1
                  have hlv : S.live = (k : Int) := hE.2.1
                  have HSW := Lib.hid hE.2.2.1
                  have HSN := Lib.hid hE.2.2.2
                  clear hE

                  have c8 := HW.out.cells.c8
                  obtain ⟨bs, hbs⟩ : ∃ bs, (fnd S.D id).isSome = bs := ⟨_, rfl⟩
                  have HLD : Hid (Calls Tryz.prog 13 #[ptr x.pb, .int .u64 id] wr fun e w' => e = .returned (.tuple #[.int .u64 1, .bool bs]) ∧ wr = w') := Lib.hid (by
                    have q := load_any wr x.pb x.ab S.D S.S id HW.out.bag HU.out
                    rw [HWD.out, hbs] at q
                    exact q)
                  clear hbs
                  go_wp2_with fail
                  refine HLD.out.mono ?_
                  rintro e w5 ⟨rfl, rfl⟩
                  clear HLD c8
                  have HDN : Hid (Calls Tryz.prog 24 #[G.val] wr fun e w' => e = .returned (.bool true) ∧ Below wr.heap.size wr w') := Lib.hid (by
                    have q := gdone_any G wr
                    rw [HST.out] at q
                    exact q)
                  go_wp2_with (first
                    | (refine load_g rfl _ rfl gb rfl G HV.out ?_))
                  refine HDN.out.mono ?_
                  rintro e w5 ⟨rfl, b5⟩
                  have HW5 := Lib.hid (HW.out.later b5)
                  have HB5 : Hid (Below W.heap.size W w5) := Lib.hid (HB.out.trans (b5.mono HB.out.size))
                  clear b5 HW HB HV HDN

                  have HN5 : wn ≤ 5 := by have := HSL.out; have h2 : St.waitN s.sl ≤ s.sl.length := List.countP_le_length; have := HWN.out; omega
                  have c14 := HW5.out.cells.c14
                  have c10 := HW5.out.cells.c10
                  rw [hlv] at c14
                  have t5 : IntKind.i64.wrap ((wn : Int) - 1) = (wn : Int) - 1 := by rw [IntKind.wrap_i64]; omega
                  have t6 : decide ((0 : Int) < (wn : Int)) = true := decide_eq_true (by omega)
                  have t7 : decide (0 < wn) = true := decide_eq_true hpos
                  have HWT : Hid (Calls Tryz.prog 20 #[ptr x.ps] w5 fun e w' => e = .returned (.int .i64 ((wn : Int) - 1)) ∧ Below w5.heap.size w5 w') := Lib.hid (by
                    obtain ⟨r, hsl⟩ := HW5.out.slots
                    have q := St.waiting_any w5 base x.ps r S.sl hsl (by have := HSN.out; omega)
                    rw [HSW.out, show ((wn - 1 : Nat) : Int) = (wn : Int) - 1 by omega] at q
                    exact q)
                  clear hpos HN5
                  go_wp2_with fail
                  refine HWT.out.mono ?_
                  rintro e w6 ⟨rfl, b6⟩
                  have c14 := (b6.cell (p := ⟨x.pw, 14, none⟩) (Lw.lt_heap c14)).trans c14
                  have HB6 := Lib.hid b6
                  clear b6 HWT
                  go_wp2_with fail
                  go_ret
                  exact ⟨rfl, HB5.out.trans (HB6.out.mono HB5.out.size)⟩
                | false =>
                  have HQ9 := keeps_free HGD.out HI1.out.1 HI1.out.2 hcl hNo hfi
                  have hE := end_free HGD.out HI1.out.1 HI1.out.2
                  rw [← HQ0.out] at HQ9
                  rw [HQ9] at HW HV
                  have HW : Hid (Wv base col wr x (freeS s id)) := HW
                  have HV : Hid (Vg wr gb { g0 id with word := bV s.D id (Wd.wOf 1 0) 0, st := sDone }) := HV
                  clear HQ9
                  have hz : wn = 0 := by
                    have h1 := (St_fill s.sl (i := id) (by have := HI1.out; omega)).1
                    rw [hfi, HWN.out] at h1
                    have : ¬ 0 < wn := fun e => absurd (h1.2 e) (by decide)
                    omega
                  subst hz
                  clear hfi

                  obtain ⟨S, hS⟩ : ∃ S, freeS s id = S := ⟨_, rfl⟩
                  obtain ⟨G, hG⟩ : ∃ G : Gv, ({ g0 id with word := bV s.D id (Wd.wOf 1 0) 0, st := sDone } : Gv) = G := ⟨_, rfl⟩
                  have HST : Hid ((G.st.toList == [100, 111, 110, 101]) = true) := Lib.hid (by rw [← hG]; exact sDone_is)
                  rw [hS] at hE
                  rw [hS] at HW
                  rw [hG] at HV
                  clear hS hG

                  have HWD : Hid (bW S.D id = 4) := Lib.hid hE.1
                  have hlv : S.live = (k : Int) := hE.2.1
                  obtain ⟨iv, hiv⟩ : ∃ iv, Sn.sIdx S.S id = iv := ⟨_, rfl⟩
                  have t6 : decide (0 ≤ iv) = true := decide_eq_true (by rw [← hiv]; exact hE.2.2.1)
                  have HIX := Lib.hid hiv
                  have HOP : Hid ((Fc.kn S.n S.C id 6 == 0) = true) := Lib.hid hE.2.2.2
                  clear hE hiv

                  have c8 := HW.out.cells.c8
                  obtain ⟨bs, hbs⟩ : ∃ bs, (fnd S.D id).isSome = bs := ⟨_, rfl⟩
                  have HLD : Hid (Calls Tryz.prog 13 #[ptr x.pb, .int .u64 id] wr fun e w' => e = .returned (.tuple #[.int .u64 4, .bool bs]) ∧ wr = w') := Lib.hid (by
                    have q := load_any wr x.pb x.ab S.D S.S id HW.out.bag HU.out
                    rw [HWD.out, hbs] at q
                    exact q)
                  clear hbs
                  go_wp2_with fail
                  refine HLD.out.mono ?_
                  rintro e w5 ⟨rfl, rfl⟩
                  clear HLD c8
                  have HDN : Hid (Calls Tryz.prog 24 #[G.val] wr fun e w' => e = .returned (.bool true) ∧ Below wr.heap.size wr w') := Lib.hid (by
                    have q := gdone_any G wr
                    rw [HST.out] at q
                    exact q)
                  go_wp2_with (first
                    | (refine load_g rfl _ rfl gb rfl G HV.out ?_))
                  refine HDN.out.mono ?_
                  rintro e w5 ⟨rfl, b5⟩
                  have HW5 := Lib.hid (HW.out.later b5)
                  have HB5 : Hid (Below W.heap.size W w5) := Lib.hid (HB.out.trans (b5.mono HB.out.size))
                  clear b5 HW HB HV HDN

                  have c14 := HW5.out.cells.c14
                  have c8 := HW5.out.cells.c8
                  have c12 := HW5.out.cells.c12
                  rw [hlv] at c14
                  go_wp2_with fail

                  have HSA := Lib.hid (Wd.state_any 4 w5 (by decide) (by decide))
                  refine HSA.out.mono ?_
                  rintro e w6 ⟨rfl, rfl⟩
                  clear HSA

                  have HIO : Hid (Calls Tryz.prog 16 #[ptr x.pF, .int .u64 id] w5 fun e w' => e = .returned (.bool true) ∧ w5 = w') := Lib.hid (by
                    have q := Fc.isopen_any x.pF x.bF x.mF S.n S.O S.P S.C id w5 HW5.out.fact HU.out
                    rw [HOP.out] at q
                    exact q)
                  go_wp2_with fail
                  refine HIO.out.mono ?_
                  rintro e w8 ⟨rfl, rfl⟩
                  clear HIO
                  go_wp2_with fail
                  refine (blist_any w5 x.pb x.ab S.D S.S HW5.out.bag).mono ?_
                  rintro e w6 ⟨A, nn, c, rfl, hrd, b6⟩
                  have HRD := Lib.hid (hrd.later b6)
                  have HB6 := Lib.hid b6
                  clear hrd c8 c14 c12 b6
                  go_wp2_with fail
                  refine (sidx_any A nn c S.S id w6 HRD.out).mono ?_
                  rintro e w7 ⟨rfl, b7⟩
                  have HB7 := Lib.hid (HB6.out.trans (b7.mono HB6.out.size))
                  rw [HIX.out]
                  clear b7 HRD HB6
                  go_wp2_with fail
                  go_ret
                  exact ⟨rfl, HB5.out.trans (HB7.out.mono HB5.out.size)⟩
end Go.Proofs.YthmdiaingolfnaaGreatDoor.Wo
namespace Go.Proofs.YthmdiaingolfnaaGreatDoor.Wo
open Go Go.ChangeShapes Go.WideShapes Go.ChangeAt Go.RowKit Go.Deep Go.Maps Rw Hi Mt Ba
open Cn (Cf cfE)
set_option linter.unusedVariables false
set_option maxRecDepth 100000 in
theorem keeps_long (W : World) (hT : Tb.Tabs W) (n wh : Int) (Aw Am : Option Addr) (nw cw nm cm : Nat) (cl : Bool) (hm : nw ≤ 9223372036854775807) (hm' : nm ≤ 9223372036854775807) (hl : 5 < nw ∨ 5 < nm) :
    Calls Tryz.prog 4 #[.int .u8 n, .slice Aw nw cw, .slice Am nm cm, .bool cl, .int .u8 wh] W fun e w' => e = .returned (.bool true) ∧ Below W.heap.size W w' := by
  have HT := Lib.hid hT
  clear hT
  by_cases h1 : 5 < nw
  · have t0 : decide ((5 : Int) < (nw : Int)) = true := decide_eq_true (by omega)
    have t0' : decide (5 < nw) = true := decide_eq_true (by omega)
    clear hl h1
    go_enter Tryz.func4, Tryz.ntmps4
    go_wp2_with fail
    refine (awake17_any W HT.out).mono ?_
    rintro e w1 ⟨rfl, b1⟩
    have HB1 := Lib.hid b1
    clear b1
    go_wp2_with fail
    go_ret
    exact ⟨rfl, HB1.out⟩
  · have t0 : decide ((5 : Int) < (nw : Int)) = false := decide_eq_false (by omega)
    have t0' : decide (5 < nw) = false := decide_eq_false (by omega)
    have t1 : decide ((5 : Int) < (nm : Int)) = true := decide_eq_true (by omega)
    have t1' : decide (5 < nm) = true := decide_eq_true (by omega)
    clear hl h1
    go_enter Tryz.func4, Tryz.ntmps4
    go_wp2_with fail
    refine (awake17_any W HT.out).mono ?_
    rintro e w1 ⟨rfl, b1⟩
    have HB1 := Lib.hid b1
    clear b1
    go_wp2_with fail
    go_ret
    exact ⟨rfl, HB1.out⟩
end Go.Proofs.YthmdiaingolfnaaGreatDoor.Wo
