/- A part of the claim: the texts BoundsWalk. -/
import Derived.Test.YthmdiaingolfnaaGreatDoorZGKit
import Derived.Test.YthmdiaingolfnaaGreatDoorZBase1
import Derived.Deep.CutRange
import Derived.Deep.CutBlock
namespace Go.Proofs.YthmdiaingolfnaaGreatDoor.Wo
open Go Go.ChangeShapes Go.WideShapes Go.ChangeAt Go.RowKit Go.Deep Go.Maps Rw Hi Mt Ba
open Cn (Cf cfE)
set_option linter.unusedVariables false
theorem wanted_un {ops : Array Oper} {o : Oper} {a : Act} {g : Nat} {p : Bool} {d : Tmp} (hg : o.guard = some (g, p)) (hd : dstOf ops g = some d) (hv : a.tmps[d]? = some undef) : Region.wanted o (yielded ops a.tmps) = false := by
  have hy : yielded ops a.tmps g = none := by
    unfold yielded
    unfold dstOf at hd
    simp only [hd]
    simp [hv]
    try rfl
  unfold Region.wanted
  rw [hg]
  simp only [hy]
  cases p <;> rfl
set_option maxRecDepth 100000 in
set_option maxHeartbeats 40000000 in
theorem bounds_any (c : Cf) (hcf : c.ok) (Ao : Option Addr) (no co Bo_ : Nat) (O : List Bool) (A0 : Option Addr) (n c0 : Nat) (xs : List Ay) (sh : Int) (W : World) (hT : Tb.Tabs W) (hO : Rd Value.bool W Bo_ Ao no co O) (hBo : Bo_ ≤ W.heap.size) (hr : Rs encY 5 W W.heap.size A0 n c0 xs) (hok : ∀ x ∈ xs, x.ok) (hn : n ≤ 80) (hno : no ≤ 60) (hsh : 0 ≤ sh ∧ sh ≤ 255) :
    Calls Tryz.prog 3 #[c.raw, .slice Ao no co, .slice A0 n c0, .int .u8 sh] W fun e w' => e = .returned (.bool true) ∧ Below W.heap.size W w' := by
  have HT := Lib.hid hT
  have HR := Lib.hid hr
  have HO := Lib.hid hO
  have HOK := Lib.hid hok
  have HCF := Lib.hid hcf
  have q1 : decide ((80 : Int) < (n : Int)) = false := decide_eq_false (by omega)
  have q1' : decide (80 < n) = false := decide_eq_false (by omega)
  have q2 : decide ((60 : Int) < (no : Int)) = false := decide_eq_false (by omega)
  have q2' : decide (60 < no) = false := decide_eq_false (by omega)
  have hw8 : IntKind.i64.wrap sh = sh := by rw [IntKind.wrap_i64]; omega
  clear hT hr hok hO hcf
  have hb0 : Below W.heap.size W (W.alloc (.cells #[.int .i64 c.max, .int .i64 c.min, .int .u64 c.idle, .int .u64 c.life, .int .u64 c.keep, .int .u64 c.leak, .int .u64 c.var] 24)) := (Below.refl _ _).alloc (Nat.le_refl _) _
  have r0 : (W.alloc (.cells #[.int .i64 c.max, .int .i64 c.min, .int .u64 c.idle, .int .u64 c.life, .int .u64 c.keep, .int .u64 c.leak, .int .u64 c.var] 24)).cell? ⟨W.heap.size, 0, none⟩ = some (.int .i64 c.max) := by go_simp
  have r1 : (W.alloc (.cells #[.int .i64 c.max, .int .i64 c.min, .int .u64 c.idle, .int .u64 c.life, .int .u64 c.keep, .int .u64 c.leak, .int .u64 c.var] 24)).cell? ⟨W.heap.size, 1, none⟩ = some (.int .i64 c.min) := by go_simp
  have r2 : (W.alloc (.cells #[.int .i64 c.max, .int .i64 c.min, .int .u64 c.idle, .int .u64 c.life, .int .u64 c.keep, .int .u64 c.leak, .int .u64 c.var] 24)).cell? ⟨W.heap.size, 2, none⟩ = some (.int .u64 c.idle) := by go_simp
  have r3 : (W.alloc (.cells #[.int .i64 c.max, .int .i64 c.min, .int .u64 c.idle, .int .u64 c.life, .int .u64 c.keep, .int .u64 c.leak, .int .u64 c.var] 24)).cell? ⟨W.heap.size, 3, none⟩ = some (.int .u64 c.life) := by go_simp
  have r4 : (W.alloc (.cells #[.int .i64 c.max, .int .i64 c.min, .int .u64 c.idle, .int .u64 c.life, .int .u64 c.keep, .int .u64 c.leak, .int .u64 c.var] 24)).cell? ⟨W.heap.size, 4, none⟩ = some (.int .u64 c.keep) := by go_simp
  have r5 : (W.alloc (.cells #[.int .i64 c.max, .int .i64 c.min, .int .u64 c.idle, .int .u64 c.life, .int .u64 c.keep, .int .u64 c.leak, .int .u64 c.var] 24)).cell? ⟨W.heap.size, 5, none⟩ = some (.int .u64 c.leak) := by go_simp
  have r6 : (W.alloc (.cells #[.int .i64 c.max, .int .i64 c.min, .int .u64 c.idle, .int .u64 c.life, .int .u64 c.keep, .int .u64 c.leak, .int .u64 c.var] 24)).cell? ⟨W.heap.size, 6, none⟩ = some (.int .u64 c.var) := by go_simp
  have hs0 : (W.alloc (.cells #[.int .i64 c.max, .int .i64 c.min, .int .u64 c.idle, .int .u64 c.life, .int .u64 c.keep, .int .u64 c.leak, .int .u64 c.var] 24)).heap.size = W.heap.size + 1 := by simp
  have HB0 := Lib.hid hb0
  have HS0 := Lib.hid hs0
  clear hb0 hs0
  go_enter Tryz.func3, Tryz.ntmps3
  go_upto_region 1 with (fail)
  generalize (W.alloc (.cells #[.int .i64 c.max, .int .i64 c.min, .int .u64 c.idle, .int .u64 c.life, .int .u64 c.keep, .int .u64 c.leak, .int .u64 c.var] 24)) = W0 at *
  have hr0 : W.heap.size < W0.heap.size := Lw.lt_heap r0
  go_wp2_with fail
  refine (awake16_any W0 (HT.out.below HB0.out)).mono ?_
  rintro e w1 ⟨rfl, b1⟩
  have HB1 := Lib.hid b1
  have u0 := (b1.cell (p := ⟨W.heap.size, 0, none⟩) hr0).trans r0
  have u1 := (b1.cell (p := ⟨W.heap.size, 1, none⟩) hr0).trans r1
  have u2 := (b1.cell (p := ⟨W.heap.size, 2, none⟩) hr0).trans r2
  have u3 := (b1.cell (p := ⟨W.heap.size, 3, none⟩) hr0).trans r3
  have u4 := (b1.cell (p := ⟨W.heap.size, 4, none⟩) hr0).trans r4
  have u5 := (b1.cell (p := ⟨W.heap.size, 5, none⟩) hr0).trans r5
  have u6 := (b1.cell (p := ⟨W.heap.size, 6, none⟩) hr0).trans r6
  clear b1 r0 r1 r2 r3 r4 r5 r6
  go_wp2_with fail
  refine (Cn.make_any c HCF.out w1).mono ?_
  rintro e w2 ⟨rfl, b2⟩
  have HB2 := Lib.hid b2
  clear b2 u0 u1 u2 u3 u4 u5 u6
  go_upto_region 6 with (first
    | (refine store_c rfl _ _ rfl w2.heap.size rfl c rfl (th_conf w2) ?_; intro w3 hr3 hz3; have HR3 := Lib.hid hr3; have HB3 : Hid (Below w2.heap.size w2 w3) := Lib.hid (((Below.refl _ _).alloc (Nat.le_refl _) _).trans (hz3.below (by simp) (fun k hk => by omega))); clear hr3 hz3))
  obtain ⟨cb, hcbe⟩ : ∃ cb, w2.heap.size = cb := ⟨_, rfl⟩
  rw [hcbe] at HR3
  rw [hcbe]
  have HCB := Lib.hid hcbe
  clear hcbe
  have HBW : Hid (Below W.heap.size W w3) := Lib.hid (by
    exact (HB0.out.trans (HB1.out.mono HB0.out.size)).trans ((HB2.out.mono (Nat.le_trans HB0.out.size HB1.out.size)).trans (HB3.out.mono (Nat.le_trans (Nat.le_trans HB0.out.size HB1.out.size) HB2.out.size))))
  by_cases he : cfE c = 0
  · have HN := Lib.hid (new_ok c HCF.out he Ao none no co W.heap.size 0 0 W.heap.size O [] w3 ((HO.out.more hBo).below HBW.out) Rd.nil_ HBW.out.size HBW.out.size (by omega) (by omega))
    have hmx := Cn.cfE_zero he
    have HMX := Lib.hid (And.intro hmx.1 hmx.2.1)
    clear he hmx
    go_wp2_with (refine load_c rfl _ rfl cb rfl c HR3.out ?_)
    refine HN.out.mono ?_
    rintro e w4 ⟨x, col, rfl, h4, b4⟩
    clear HN
    obtain ⟨bs, hbs⟩ : ∃ bs, w3.heap.size = bs := ⟨_, rfl⟩
    have hcb3 := hr3lt HR3.out
    rw [hbs] at h4
    have hB4 : Below W.heap.size W w4 := HBW.out.trans (b4.mono HBW.out.size)
    obtain ⟨col, h4⟩ := h4.v
    have hc0 : col cb = 0 := Classical.byContradiction fun e => by have := h4.lo cb e; omega
    have S0 : Hid (Bo W bs x c cb w4 col ⟨c, 0, [], [], fun _ => [], [], c.leak, [], [], [], O, [], 0, [], 0, [], 0, false⟩ [] 0) := Lib.hid
      ⟨h4, by have := HBW.out.size; omega, Iv.init c O HMX.out, rfl, hB4, ((b4.cell (p := ⟨cb, 0, none⟩) hcb3).trans (by have := HR3.out 0 _ rfl; simpa using this)), hc0⟩
    clear h4 b4 hbs hcb3 hB4 hc0 HB0 HB1 HB2 HB3 HBW HCB HR3
    go_upto_region 9 with (fail)
    go_wp2_with fail
    go_loopw [44] (fun i wr => ∃ (k : Nat) (col : Nat → Nat) (s : Ws) (N : List Int), k ≤ n ∧ i = .int .i64 k ∧ Hid (Bo W bs x c cb wr col s N k)) (fun i _ => n - (intOf i).toNat)
    case atStart => exact ⟨0, col, _, [], Nat.zero_le _, rfl, S0⟩
    case round =>
      clear S0
      obtain ⟨k, col, s, N, hk, rfl, HB⟩ := hrel
      by_cases hkn : k < n
      · obtain ⟨b, o, y, rfl, hb, hy, c1, c2, c3, c4, c5⟩ := actY_at HR.out hkn
        have HY := Lib.hid (HOK.out y (List.mem_of_getElem? hy))
        have d0 := (HB.out.bel.cell (p := ⟨b, o + k * 5, none⟩) hb).trans c1
        have d1 := (HB.out.bel.cell (p := ⟨b, o + k * 5 + 1, none⟩) hb).trans c2
        have d2 := (HB.out.bel.cell (p := ⟨b, o + k * 5 + 2, none⟩) hb).trans c3
        have d3 := (HB.out.bel.cell (p := ⟨b, o + k * 5 + 3, none⟩) hb).trans c4
        have d4 := (HB.out.bel.cell (p := ⟨b, o + k * 5 + 4, none⟩) hb).trans c5
        have hkc : k < c0 := by have := HR.out.cap; omega
        clear c1 c2 c3 c4 c5 hb hy
        have hba : Below wr.heap.size wr (wr.alloc (.cells #[.int .u8 y.do_, .int .u64 y.id, .int .u64 y.n, .int .i64 y.th, .int .i64 y.st] 37)) := (Below.refl _ _).alloc (Nat.le_refl _) _
        have HB1 := Lib.hid (HB.out.later hba)
        have HYC := Lib.hid (Yc.new wr y)
        have HCQ : Hid (col wr.heap.size = 0) := Lib.hid (Classical.byContradiction fun e => by have := HB.out.wv.hi _ e; omega)
        clear HB hba
        go_upto_region 12 with (fail)
        obtain ⟨wz, hwz⟩ : ∃ wz, wr.alloc (.cells #[.int .u8 y.do_, .int .u64 y.id, .int .u64 y.n, .int .i64 y.th, .int .i64 y.st] 37) = wz := ⟨_, rfl⟩
        obtain ⟨q, hq⟩ : ∃ q, wr.heap.size = q := ⟨_, rfl⟩
        rw [hwz] at HB1
        rw [hwz, hq] at HYC
        rw [hq] at HCQ
        rw [hwz, hq]
        clear hwz hq d0 d1 d2 d3 d4
        obtain ⟨z0, z1, z2, z3, z4⟩ := HYC.out
        have f15 := HB1.out.wv.cells.fz 15
        have c15 := HB1.out.wv.cells.c15
        go_upto_if 52 with (fail)
        go_cut [] from 49 to 55 (fun wx => ∃ (bb : Bool), Hid (Bo W bs x c cb wx col { s with closed := bb } N k) ∧ Hid (Yc wx q y))
        case first =>
          by_cases hks : (k : Int) = sh
          · have e1 : ((k : Int) == sh) = true := by simpa using hks
            clear hks
            rw [e1]
            go_wp2_with fail
            have h2 := wset15 wz HB1.out.wv true
            go_meet
            case rel => exact ⟨true, Lib.hid (HB1.out.turn h2.1 h2.2 (El.refl _ _) (HB1.out.iv.closed true) rfl), Lib.hid (HYC.out.fw HCQ.out h2.2)⟩
          · have e1 : ((k : Int) == sh) = false := by simpa using hks
            clear hks
            rw [e1]
            go_wp2_with fail
            go_meet
            case rel => exact ⟨s.closed, HB1, HYC⟩
        case rest =>
          clear HB1 HYC z0 z1 z2 z3 z4 f15 c15
          obtain ⟨bb, HB2, HYC⟩ := hcut
          generalize ({ s with closed := bb } : Ws) = s at *
          generalize wc = w5 at *
          obtain ⟨z0, z1, z2, z3, z4⟩ := HYC.out
          have hd := HY.out.d
          have HD8 : Hid ((y.do_).tmod 8 = y.do_ % 8) := Lib.hid (Int.tmod_eq_emod_of_nonneg hd.1)
          go_upto_if 59 with (fail)
          go_cut [14, 15, 16, 17, 18, 19] from 56 to 153 (fun s14 s15 s16 s17 s18 s19 wx => ∃ (col' : Nat → Nat) (s' : Ws) (N' : List Int), Hid (Bo W bs x c cb wx col' s' N' (k + 1)))
          case first =>
            by_cases hk8 : y.do_ % 8 = 3
            · as_aux_lemma =>
                have m3 : (y.do_ % 8 == 3) = true := by rw [hk8]; rfl
                have m3t : ((y.do_).tmod 8 == 3) = true := by rw [HD8.out]; exact m3
                have m4 : (y.do_ % 8 == 4) = false := by rw [hk8]; rfl
                have m4t : ((y.do_).tmod 8 == 4) = false := by rw [HD8.out]; exact m4
                have m6 : (y.do_ % 8 == 6) = false := by rw [hk8]; rfl
                have m6t : ((y.do_).tmod 8 == 6) = false := by rw [HD8.out]; exact m6
                have m7 : (y.do_ % 8 == 7) = false := by rw [hk8]; rfl
                have m7t : ((y.do_).tmod 8 == 7) = false := by rw [HD8.out]; exact m7
                have n7 : (y.do_ % 8 != 7) = true := by rw [hk8]; rfl
                have n7t : ((y.do_).tmod 8 != 7) = true := by rw [HD8.out]; exact n7
                have l3 : decide (y.do_ % 8 < 3) = false := by rw [hk8]; rfl
                have l3t : decide ((y.do_).tmod 8 < 3) = false := by rw [HD8.out]; exact l3
                clear hk8
                obtain ⟨s6, hs6⟩ : ∃ s6 : Ws, ({ s with O := (Fc.nx s.O).2, n := opnN s.O s.n } : Ws) = s6 := ⟨_, rfl⟩
                have HOP := Lib.hid (wopen w5 HB2.out.wv (by have := HB2.out.iv.nl; omega))
                obtain ⟨ok, hok2⟩ : ∃ b, (Fc.nx s.O).1 = b := ⟨_, rfl⟩
                have HOK2 := Lib.hid hok2
                rw [hs6, hok2] at HOP
                clear hok2
                obtain ⟨I, hI⟩ : ∃ I, opnI s.O s.n = I := ⟨_, rfl⟩
                rw [hI] at HOP
                have HI := Lib.hid hI
                have HS6 := Lib.hid hs6
                clear hI hs6
                have c12 := HB2.out.wv.cells.c12
                go_wp2_with fail
                refine HOP.out.mono ?_
                rintro e w6 ⟨rfl, h6, hz6⟩
                have HW6 := Lib.hid h6
                have HZ6 := Lib.hid hz6
                clear h6 hz6 HOP c12
                cases ok with
                | false =>
                  have HB6 : Hid (Bo W bs x c cb w6 col s6 N (k + 1)) := Lib.hid (HB2.out.turn HW6.out HZ6.out (El.refl _ _) (HS6.out ▸ HB2.out.iv.noopen HOK2.out _) (by rw [← HS6.out]))
                  go_wp2_with fail
                  go_meet
                  case rel => exact ⟨_, _, _, HB6⟩
                | true =>
                  have HI1 : Hid (I = (s.n : Int) + 1) := Lib.hid (by rw [← HI.out]; unfold opnI; rw [HOK2.out]; rfl)
                  have HU : Hid (U64 I) := Lib.hid (by rw [HI1.out]; have := HB2.out.iv.nl; exact ⟨by omega, by omega⟩)
                  have HNW : Hid (U64 s6.now) := Lib.hid (by rw [← HS6.out]; exact HB2.out.iv.nw)
                  have HDL : Hid (s6.D.length < 1000000) := Lib.hid (by rw [← HS6.out]; have := HB2.out.iv.dl; show s.D.length < 1000000; omega)
                  go_wp2_with fail
                  have HS : Hid (Wc w6.drew x s6 ∧ Fw col w6 w6.drew) := Lib.hid ⟨HW6.out.cells.blk rfl, Fz.of_below (Below.refl _ _).drew⟩
                  have HW0 : Hid (Wv bs col w6.drew x s6) := Lib.hid (HW6.out.later (Below.refl _ _).drew)
                  refine reg_start 8 (fun w' => Wc w' x s6 ∧ Fw col w6 w') (by kernel_rfl) (by kernel_rfl) ?_
                  intro hTT
                  have HTT := Lib.hid hTT
                  clear hTT
                  refine reg_load 0 HTT.out rfl (by kernel_rfl) (by decide) (fun _ _ _ _ h => h) HS.out rfl ?_
                  apply Exists.intro
                  refine ⟨fun w' hw => by (go_simp; exact rfl), ?_⟩
                  refine reg_load 1 HTT.out rfl (by kernel_rfl) (by decide) (fun _ _ _ _ h => h) HS.out rfl ?_
                  apply Exists.intro
                  refine ⟨fun w' hw => by (go_simp; exact rfl), ?_⟩
                  refine reg_load 2 HTT.out rfl (by kernel_rfl) (by decide) (fun _ _ _ _ h => h) HS.out rfl ?_
                  apply Exists.intro
                  refine ⟨fun w' hw => by (go_simp; exact rfl), ?_⟩
                  refine reg_load 3 HTT.out rfl (by kernel_rfl) (by decide) (fun _ _ _ _ h => h) HS.out rfl ?_
                  apply Exists.intro
                  refine ⟨fun w' hw => by (have k8 := hw.1.c8; go_simp; exact rfl), ?_⟩
                  refine reg_load 4 HTT.out rfl (by kernel_rfl) (by decide) (fun _ _ _ _ h => h) HS.out rfl ?_
                  apply Exists.intro
                  refine ⟨fun w' hw => by (go_simp; exact rfl), ?_⟩
                  refine reg_load 5 HTT.out rfl (by kernel_rfl) (by decide) (fun _ _ _ _ h => h) HS.out rfl ?_
                  apply Exists.intro
                  refine ⟨fun w' hw => by (go_simp; exact rfl), ?_⟩
                  refine reg_only 6 rfl (by kernel_rfl) rfl ?_
                  unfold Oper.wp
                  go_simp
                  refine (wnow_any _ HS.out.1).mono ?_
                  rintro e w7 ⟨rfl, b7⟩
                  have hS : Wc w7 x s6 ∧ Fw col w6 w7 := ⟨HS.out.1.blk (b7.block _ HS.out.1.lt), HS.out.2.trans (Fz.of_below b7)⟩
                  refine ⟨hS, ?_⟩
                  have HW7 := Lib.hid (HW0.out.later b7)
                  have HSZ := Lib.hid hS.2.size
                  clear HS b7
                  have HS := Lib.hid hS
                  clear hS
                  refine reg_only 7 rfl (by kernel_rfl) rfl ?_
                  unfold Oper.wp
                  go_simp
                  refine (wenter w7 HW7.out I 1 s6.now HU.out HNW.out HDL.out).mono ?_
                  rintro e w8 ⟨rfl, col8, h8, z8, l8⟩
                  have hS : Wc w8 x s6 ∧ Fw col w6 w8 := ⟨h8.cells.to rfl rfl rfl rfl rfl rfl rfl rfl rfl rfl rfl, HS.out.2.trans z8⟩
                  refine ⟨hS, ?_⟩
                  have HW8 := Lib.hid h8
                  have HL8 := Lib.hid l8
                  clear HS h8 z8 l8
                  have HS := Lib.hid hS
                  clear hS
                  refine reg_done (by kernel_rfl) ?_
                  have HB8 : Hid (Bo W bs x c cb w8 col8 { s6 with D := entD s6.D I 1 s6.now } N (k + 1)) := Lib.hid (by
                    have hz := HZ6.out.trans HS.out.2
                    have hw7 := HZ6.out.size
                    refine HB2.out.turn HW8.out hz (fun g hg => HL8.out g (by have := HSZ.out; omega)) ?_ (by rw [← HS6.out])
                    have hi := HB2.out.iv.enter HB2.out.wv.cin (Fc.nx s.O).2
                    rw [← HS6.out, HI1.out]
                    have e : opnN s.O s.n = s.n + 1 := by unfold opnN; rw [HOK2.out]; rfl
                    rw [e]
                    exact hi)
                  go_wp2_with fail
                  go_meet
                  case rel => exact ⟨_, _, _, HB8⟩
            have hn3 := hk8
            clear hk8
            by_cases hk8 : y.do_ % 8 = 7
            · as_aux_lemma =>
                have m3 : (y.do_ % 8 == 3) = false := by rw [hk8]; rfl
                have m3t : ((y.do_).tmod 8 == 3) = false := by rw [HD8.out]; exact m3
                have m4 : (y.do_ % 8 == 4) = false := by rw [hk8]; rfl
                have m4t : ((y.do_).tmod 8 == 4) = false := by rw [HD8.out]; exact m4
                have m6 : (y.do_ % 8 == 6) = false := by rw [hk8]; rfl
                have m6t : ((y.do_).tmod 8 == 6) = false := by rw [HD8.out]; exact m6
                have m7 : (y.do_ % 8 == 7) = true := by rw [hk8]; rfl
                have m7t : ((y.do_).tmod 8 == 7) = true := by rw [HD8.out]; exact m7
                have n7 : (y.do_ % 8 != 7) = false := by rw [hk8]; rfl
                have n7t : ((y.do_).tmod 8 != 7) = false := by rw [HD8.out]; exact n7
                have l3 : decide (y.do_ % 8 < 3) = false := by rw [hk8]; rfl
                have l3t : decide ((y.do_).tmod 8 < 3) = false := by rw [HD8.out]; exact l3
                clear hk8
                go_wp2_with fail
                go_meet
                case rel => exact ⟨col, s, N, Lib.hid ⟨HB2.out.wv, HB2.out.hbs, HB2.out.iv.more, HB2.out.cf, HB2.out.bel, HB2.out.cc, HB2.out.c0⟩⟩
            have hn7 := hk8
            clear hk8
            by_cases hk8 : y.do_ % 8 = 0
            · as_aux_lemma =>
                have hkp := hk8
                have m3 : (y.do_ % 8 == 3) = false := by rw [hk8]; rfl
                have m3t : ((y.do_).tmod 8 == 3) = false := by rw [HD8.out]; exact m3
                have m4 : (y.do_ % 8 == 4) = false := by rw [hk8]; rfl
                have m4t : ((y.do_).tmod 8 == 4) = false := by rw [HD8.out]; exact m4
                have m6 : (y.do_ % 8 == 6) = false := by rw [hk8]; rfl
                have m6t : ((y.do_).tmod 8 == 6) = false := by rw [HD8.out]; exact m6
                have m7 : (y.do_ % 8 == 7) = false := by rw [hk8]; rfl
                have m7t : ((y.do_).tmod 8 == 7) = false := by rw [HD8.out]; exact m7
                have n7 : (y.do_ % 8 != 7) = true := by rw [hk8]; rfl
                have n7t : ((y.do_).tmod 8 != 7) = true := by rw [HD8.out]; exact n7
                have l3 : decide (y.do_ % 8 < 3) = true := by rw [hk8]; rfl
                have l3t : decide ((y.do_).tmod 8 < 3) = true := by rw [HD8.out]; exact l3
                clear hk8
                have hba : Below w5.heap.size w5 (w5.alloc (.cells #[.int .i64 0, .int .i64 0, .int .u64 0, .int .u64 0, .int .u64 0, .int .u64 0, .float .f64 0, .int .u64 0, .slice none 0 0, .slice none 0 0, .slice none 0 0, .slice none 0 0, .int .u64 0, .slice none 0 0, .slice none 0 0, .slice none 0 0, .slice none 0 0, .slice none 0 0, .slice none 0 0, .int .u64 0, .slice none 0 0, .int .i64 0, .bool false] 69)) := (Below.refl _ _).alloc (Nat.le_refl _) _
                have HZV := Lib.hid (zero_w w5)
                have HB5 := Lib.hid hba
                have HB3 := Lib.hid (HB2.out.later hba)
                have HYC3 := Lib.hid (HYC.out.later hba)
                clear hba
                go_upto_region 20 with (fail)
                clear z0 z1 z2 z3 z4 HYC
                generalize (w5.alloc (.cells #[.int .i64 0, .int .i64 0, .int .u64 0, .int .u64 0, .int .u64 0, .int .u64 0, .float .f64 0, .int .u64 0, .slice none 0 0, .slice none 0 0, .slice none 0 0, .slice none 0 0, .int .u64 0, .slice none 0 0, .slice none 0 0, .slice none 0 0, .slice none 0 0, .slice none 0 0, .slice none 0 0, .int .u64 0, .slice none 0 0, .int .i64 0, .bool false] 69)) = w6 at *
                obtain ⟨z0, z1, z2, z3, z4⟩ := HYC3.out
                obtain ⟨col8, h8, l8, e8, n8⟩ := HB2.out.wv.var HB5.out w5.heap.size (Nat.le_refl _) HZV.out.lt
                have HPL := Lib.hid (play0 w6 (y := y) hkp HY.out h8 HZV.out e8 HB2.out.iv.nw (by show (0 : Int) ≤ 0 ∧ (0 : Int) ≤ 18446744073709551615; omega))
                have HLO := Lib.hid h8.lo
                have HL8 := Lib.hid l8
                clear h8 l8 e8 n8 hkp
                go_wp2_with fail
                refine HPL.out.mono ?_
                rintro e w7 ⟨rfl, h7, -, hz7⟩
                have HB7 := Lib.hid (HB2.out.play HB5.out (Nat.le_refl _) HL8.out h7 hz7 HLO.out (HB2.out.iv.tick HY.out.n).more rfl)
                clear h7 hz7 HPL
                go_wp2_with fail
                go_meet
                case rel => exact ⟨_, _, _, HB7⟩
            have hn0 := hk8
            clear hk8
            by_cases hk8 : y.do_ % 8 = 1
            · as_aux_lemma =>
                have hkp := hk8
                have m3 : (y.do_ % 8 == 3) = false := by rw [hk8]; rfl
                have m3t : ((y.do_).tmod 8 == 3) = false := by rw [HD8.out]; exact m3
                have m4 : (y.do_ % 8 == 4) = false := by rw [hk8]; rfl
                have m4t : ((y.do_).tmod 8 == 4) = false := by rw [HD8.out]; exact m4
                have m6 : (y.do_ % 8 == 6) = false := by rw [hk8]; rfl
                have m6t : ((y.do_).tmod 8 == 6) = false := by rw [HD8.out]; exact m6
                have m7 : (y.do_ % 8 == 7) = false := by rw [hk8]; rfl
                have m7t : ((y.do_).tmod 8 == 7) = false := by rw [HD8.out]; exact m7
                have n7 : (y.do_ % 8 != 7) = true := by rw [hk8]; rfl
                have n7t : ((y.do_).tmod 8 != 7) = true := by rw [HD8.out]; exact n7
                have l3 : decide (y.do_ % 8 < 3) = true := by rw [hk8]; rfl
                have l3t : decide ((y.do_).tmod 8 < 3) = true := by rw [HD8.out]; exact l3
                clear hk8
                have hba : Below w5.heap.size w5 (w5.alloc (.cells #[.int .i64 0, .int .i64 0, .int .u64 0, .int .u64 0, .int .u64 0, .int .u64 0, .float .f64 0, .int .u64 0, .slice none 0 0, .slice none 0 0, .slice none 0 0, .slice none 0 0, .int .u64 0, .slice none 0 0, .slice none 0 0, .slice none 0 0, .slice none 0 0, .slice none 0 0, .slice none 0 0, .int .u64 0, .slice none 0 0, .int .i64 0, .bool false] 69)) := (Below.refl _ _).alloc (Nat.le_refl _) _
                have HZV := Lib.hid (zero_w w5)
                have HB5 := Lib.hid hba
                have HB3 := Lib.hid (HB2.out.later hba)
                have HYC3 := Lib.hid (HYC.out.later hba)
                clear hba
                go_upto_region 20 with (fail)
                clear z0 z1 z2 z3 z4 HYC
                generalize (w5.alloc (.cells #[.int .i64 0, .int .i64 0, .int .u64 0, .int .u64 0, .int .u64 0, .int .u64 0, .float .f64 0, .int .u64 0, .slice none 0 0, .slice none 0 0, .slice none 0 0, .slice none 0 0, .int .u64 0, .slice none 0 0, .slice none 0 0, .slice none 0 0, .slice none 0 0, .slice none 0 0, .slice none 0 0, .int .u64 0, .slice none 0 0, .int .i64 0, .bool false] 69)) = w6 at *
                obtain ⟨z0, z1, z2, z3, z4⟩ := HYC3.out
                obtain ⟨col8, h8, l8, e8, n8⟩ := HB2.out.wv.var HB5.out w5.heap.size (Nat.le_refl _) HZV.out.lt
                have HPL := Lib.hid (play1 w6 (y := y) hkp HY.out h8 HZV.out e8 ⟨HB2.out.iv.lv.1, by have := HB2.out.iv.mx; omega⟩ (by show (0 : Int) ≤ 0 ∧ (0 : Int) ≤ 1000000; omega))
                have HLO := Lib.hid h8.lo
                have HL8 := Lib.hid l8
                clear h8 l8 e8 n8 hkp
                obtain ⟨gb, hgb⟩ : ∃ b : Bool, (decide (s.live < s.conf.max) == decide (zs.live < zs.conf.max)) = b := ⟨_, rfl⟩
                rw [hgb] at HPL
                clear hgb
                go_wp2_with fail
                refine HPL.out.mono ?_
                rintro e w7 ⟨rfl, h7, -, hz7⟩
                have HB7 := Lib.hid (HB2.out.play HB5.out (Nat.le_refl _) HL8.out h7 hz7 HLO.out HB2.out.iv.grow.more rfl)
                clear h7 hz7 HPL
                go_wp2_with fail
                go_meet
                case rel => exact ⟨_, _, _, HB7⟩
            have hn1 := hk8
            clear hk8
            by_cases hk8 : y.do_ % 8 = 2
            · as_aux_lemma =>
                have hkp := hk8
                have m3 : (y.do_ % 8 == 3) = false := by rw [hk8]; rfl
                have m3t : ((y.do_).tmod 8 == 3) = false := by rw [HD8.out]; exact m3
                have m4 : (y.do_ % 8 == 4) = false := by rw [hk8]; rfl
                have m4t : ((y.do_).tmod 8 == 4) = false := by rw [HD8.out]; exact m4
                have m6 : (y.do_ % 8 == 6) = false := by rw [hk8]; rfl
                have m6t : ((y.do_).tmod 8 == 6) = false := by rw [HD8.out]; exact m6
                have m7 : (y.do_ % 8 == 7) = false := by rw [hk8]; rfl
                have m7t : ((y.do_).tmod 8 == 7) = false := by rw [HD8.out]; exact m7
                have n7 : (y.do_ % 8 != 7) = true := by rw [hk8]; rfl
                have n7t : ((y.do_).tmod 8 != 7) = true := by rw [HD8.out]; exact n7
                have l3 : decide (y.do_ % 8 < 3) = true := by rw [hk8]; rfl
                have l3t : decide ((y.do_).tmod 8 < 3) = true := by rw [HD8.out]; exact l3
                clear hk8
                have hba : Below w5.heap.size w5 (w5.alloc (.cells #[.int .i64 0, .int .i64 0, .int .u64 0, .int .u64 0, .int .u64 0, .int .u64 0, .float .f64 0, .int .u64 0, .slice none 0 0, .slice none 0 0, .slice none 0 0, .slice none 0 0, .int .u64 0, .slice none 0 0, .slice none 0 0, .slice none 0 0, .slice none 0 0, .slice none 0 0, .slice none 0 0, .int .u64 0, .slice none 0 0, .int .i64 0, .bool false] 69)) := (Below.refl _ _).alloc (Nat.le_refl _) _
                have HZV := Lib.hid (zero_w w5)
                have HB5 := Lib.hid hba
                have HB3 := Lib.hid (HB2.out.later hba)
                have HYC3 := Lib.hid (HYC.out.later hba)
                clear hba
                go_upto_region 20 with (fail)
                clear z0 z1 z2 z3 z4 HYC
                generalize (w5.alloc (.cells #[.int .i64 0, .int .i64 0, .int .u64 0, .int .u64 0, .int .u64 0, .int .u64 0, .float .f64 0, .int .u64 0, .slice none 0 0, .slice none 0 0, .slice none 0 0, .slice none 0 0, .int .u64 0, .slice none 0 0, .slice none 0 0, .slice none 0 0, .slice none 0 0, .slice none 0 0, .slice none 0 0, .int .u64 0, .slice none 0 0, .int .i64 0, .bool false] 69)) = w6 at *
                obtain ⟨z0, z1, z2, z3, z4⟩ := HYC3.out
                obtain ⟨col8, h8, l8, e8, n8⟩ := HB2.out.wv.var HB5.out w5.heap.size (Nat.le_refl _) HZV.out.lt
                have HPL := Lib.hid (play2 w6 (y := y) hkp HY.out h8 HZV.out e8 ⟨HB2.out.iv.lv.1, by have := HB2.out.iv.mx; have := HB2.out.iv.lv; omega⟩ (by show (0 : Int) ≤ 0 ∧ (0 : Int) ≤ 1000000; omega))
                have HLO := Lib.hid h8.lo
                have HL8 := Lib.hid l8
                clear h8 l8 e8 n8 hkp
                go_wp2_with fail
                refine HPL.out.mono ?_
                rintro e w7 ⟨rfl, h7, -, hz7⟩
                have HB7 := Lib.hid (HB2.out.play HB5.out (Nat.le_refl _) HL8.out h7 hz7 HLO.out HB2.out.iv.shrink.more rfl)
                clear h7 hz7 HPL
                go_wp2_with fail
                go_meet
                case rel => exact ⟨_, _, _, HB7⟩
            have hn2 := hk8
            clear hk8
            by_cases hk8 : y.do_ % 8 = 4
            · as_aux_lemma =>
                have m3 : (y.do_ % 8 == 3) = false := by rw [hk8]; rfl
                have m3t : ((y.do_).tmod 8 == 3) = false := by rw [HD8.out]; exact m3
                have m4 : (y.do_ % 8 == 4) = true := by rw [hk8]; rfl
                have m4t : ((y.do_).tmod 8 == 4) = true := by rw [HD8.out]; exact m4
                have m6 : (y.do_ % 8 == 6) = false := by rw [hk8]; rfl
                have m6t : ((y.do_).tmod 8 == 6) = false := by rw [HD8.out]; exact m6
                have m7 : (y.do_ % 8 == 7) = false := by rw [hk8]; rfl
                have m7t : ((y.do_).tmod 8 == 7) = false := by rw [HD8.out]; exact m7
                have n7 : (y.do_ % 8 != 7) = true := by rw [hk8]; rfl
                have n7t : ((y.do_).tmod 8 != 7) = true := by rw [HD8.out]; exact n7
                have l3 : decide (y.do_ % 8 < 3) = false := by rw [hk8]; rfl
                have l3t : decide ((y.do_).tmod 8 < 3) = false := by rw [HD8.out]; exact l3
                clear hk8
                have hba : Below w5.heap.size w5 (w5.alloc (.cells #[.int .i64 0, .int .i64 0, .int .u64 0, .int .u64 0, .int .u64 0, .int .u64 0, .float .f64 0, .int .u64 0, .slice none 0 0, .slice none 0 0, .slice none 0 0, .slice none 0 0, .int .u64 0, .slice none 0 0, .slice none 0 0, .slice none 0 0, .slice none 0 0, .slice none 0 0, .slice none 0 0, .int .u64 0, .slice none 0 0, .int .i64 0, .bool false] 69)) := (Below.refl _ _).alloc (Nat.le_refl _) _
                have HZV := Lib.hid (zero_w w5)
                have HB5 := Lib.hid hba
                have HB3 := Lib.hid (HB2.out.later hba)
                have HYC3 := Lib.hid (HYC.out.later hba)
                clear hba
                go_upto_region 20 with (fail)
                clear z0 z1 z2 z3 z4 HYC
                generalize (w5.alloc (.cells #[.int .i64 0, .int .i64 0, .int .u64 0, .int .u64 0, .int .u64 0, .int .u64 0, .float .f64 0, .int .u64 0, .slice none 0 0, .slice none 0 0, .slice none 0 0, .slice none 0 0, .int .u64 0, .slice none 0 0, .slice none 0 0, .slice none 0 0, .slice none 0 0, .slice none 0 0, .slice none 0 0, .int .u64 0, .slice none 0 0, .int .i64 0, .bool false] 69)) = w6 at *
                obtain ⟨z0, z1, z2, z3, z4⟩ := HYC3.out
                cases hcl : s.closed with
                | true =>
                  go_wp2_with fail
                  refine (wpub_closed _ HB3.out.wv y.id hcl).mono ?_
                  rintro e w7 ⟨rfl, rfl⟩
                  clear hcl
                  go_wp2_with fail
                  go_meet
                  case rel => exact ⟨col, s, N, Lib.hid ⟨HB3.out.wv, HB3.out.hbs, HB3.out.iv.more, HB3.out.cf, HB3.out.bel, HB3.out.cc, HB3.out.c0⟩⟩
                | false =>
                  have c15 := HB3.out.wv.cells.c15
                  rw [hcl] at c15
                  have HCL := Lib.hid hcl
                  have HPB := Lib.hid (wpub_open _ HB3.out.wv y.id HY.out.i (by have := HB3.out.iv.sl; omega) hcl)
                  obtain ⟨Z, hZ⟩ : ∃ Z, (kn s.D y.id == 0) = Z := ⟨_, rfl⟩
                  rw [hZ] at HPB
                  clear hcl hZ
                  go_wp2_with fail
                  refine HPB.out.mono ?_
                  rintro e w7 ⟨rfl, col6, h6, hz6, hl6⟩
                  have HB6 := Lib.hid (HB3.out.turn h6 hz6 hl6 (HB3.out.iv.publish y.id) rfl)
                  have d15 := h6.cells.c15
                  rw [show ({ s with S := pubS s.D s.S y.id } : Ws).closed = s.closed from rfl, HCL.out] at d15
                  have HYC7 := Lib.hid (HYC3.out.fw HCQ.out hz6)
                  clear h6 hz6 hl6 HPB c15 z0 z1 z2 z3 z4
                  obtain ⟨z0, z1, z2, z3, z4⟩ := HYC7.out
                  cases Z with
                  | true =>
                    go_wp2_with fail
                    go_meet
                    case rel => exact ⟨_, _, _, HB6⟩
                  | false =>
                    go_wp2_with fail
                    go_meet
                    case rel => exact ⟨_, _, _, HB6⟩
            have hn4 := hk8
            clear hk8
            by_cases hk8 : y.do_ % 8 = 6
            · as_aux_lemma =>
                have m3 : (y.do_ % 8 == 3) = false := by rw [hk8]; rfl
                have m3t : ((y.do_).tmod 8 == 3) = false := by rw [HD8.out]; exact m3
                have m4 : (y.do_ % 8 == 4) = false := by rw [hk8]; rfl
                have m4t : ((y.do_).tmod 8 == 4) = false := by rw [HD8.out]; exact m4
                have m6 : (y.do_ % 8 == 6) = true := by rw [hk8]; rfl
                have m6t : ((y.do_).tmod 8 == 6) = true := by rw [HD8.out]; exact m6
                have m7 : (y.do_ % 8 == 7) = false := by rw [hk8]; rfl
                have m7t : ((y.do_).tmod 8 == 7) = false := by rw [HD8.out]; exact m7
                have n7 : (y.do_ % 8 != 7) = true := by rw [hk8]; rfl
                have n7t : ((y.do_).tmod 8 != 7) = true := by rw [HD8.out]; exact n7
                have l3 : decide (y.do_ % 8 < 3) = false := by rw [hk8]; rfl
                have l3t : decide ((y.do_).tmod 8 < 3) = false := by rw [HD8.out]; exact l3
                clear hk8
                have hba : Below w5.heap.size w5 (w5.alloc (.cells #[.int .i64 0, .int .i64 0, .int .u64 0, .int .u64 0, .int .u64 0, .int .u64 0, .float .f64 0, .int .u64 0, .slice none 0 0, .slice none 0 0, .slice none 0 0, .slice none 0 0, .int .u64 0, .slice none 0 0, .slice none 0 0, .slice none 0 0, .slice none 0 0, .slice none 0 0, .slice none 0 0, .int .u64 0, .slice none 0 0, .int .i64 0, .bool false] 69)) := (Below.refl _ _).alloc (Nat.le_refl _) _
                have HZV := Lib.hid (zero_w w5)
                have HB5 := Lib.hid hba
                have HB3 := Lib.hid (HB2.out.later hba)
                have HYC3 := Lib.hid (HYC.out.later hba)
                clear hba
                go_upto_region 20 with (fail)
                clear z0 z1 z2 z3 z4 HYC
                generalize (w5.alloc (.cells #[.int .i64 0, .int .i64 0, .int .u64 0, .int .u64 0, .int .u64 0, .int .u64 0, .float .f64 0, .int .u64 0, .slice none 0 0, .slice none 0 0, .slice none 0 0, .slice none 0 0, .int .u64 0, .slice none 0 0, .slice none 0 0, .slice none 0 0, .slice none 0 0, .slice none 0 0, .slice none 0 0, .int .u64 0, .slice none 0 0, .int .i64 0, .bool false] 69)) = w6 at *
                obtain ⟨z0, z1, z2, z3, z4⟩ := HYC3.out
                have c8 := HB3.out.wv.cells.c8
                have hc8 : ∀ y : After w6, y.1.cell? ⟨x.pw, 8, none⟩ = some (ptr x.pb) := fun y => y.cell c8
                have hy1 : ∀ u : After w6, u.1.cell? ⟨q, 1, none⟩ = some (.int .u64 y.id) := fun u => u.cell z1
                obtain ⟨old, hold⟩ : ∃ old, bW s.D y.id = old := ⟨_, rfl⟩
                obtain ⟨is, his⟩ : ∃ is, (fnd s.D y.id).isSome = is := ⟨_, rfl⟩
                have HOU : Hid (U64 old) := Lib.hid (hold ▸ bW_u64 w6 x.pb x.ab s.S HB3.out.wv.bag y.id)
                have HLD : Hid (∀ u : After w6, Calls Tryz.prog 13 #[ptr x.pb, .int .u64 y.id] u.1 fun e w' => e = .returned (.tuple #[.int .u64 old, .bool is]) ∧ u.1 = w') := Lib.hid (fun u => by
                  have q := load_any u.1 x.pb x.ab s.D s.S y.id (HB3.out.wv.bag.later u.2) HY.out.i
                  rw [hold, his] at q
                  exact q)
                clear c8 his
                go_wp2_with fail
                refine region_after (by kernel_rfl) (by kernel_rfl) ?_
                repeat (go_big_quiet_step (first
                  | (go_at_call 13; exact After.same (HLD.out _))))
                refine wpQuiet_nil ?_
                rintro w7 ⟨⟨_, hb2⟩, rfl⟩
                have HB4 := Lib.hid (HB3.out.later hb2)
                have HYC4 := Lib.hid (HYC3.out.later hb2)
                clear hb2 hc8 hy1 HLD HB3 HYC3 z0 z1 z2 z3 z4
                obtain ⟨z0, z1, z2, z3, z4⟩ := HYC4.out
                have c12 := HB4.out.wv.cells.c12
                obtain ⟨m, hm⟩ : ∃ m, s.C.length = m := ⟨_, rfl⟩
                have hm80 : m ≤ 81 := by have := HB4.out.iv.cl; omega
                have HCL : Hid (Calls Tryz.prog 14 #[ptr x.pF] w7 fun e w' => e = .returned (.int .u64 m) ∧ w7 = w') := Lib.hid (by
                  have q := Fc.closed_any x.pF x.bF x.mF s.n s.O s.P s.C w7 HB4.out.wv.fact (by omega)
                  rw [hm] at q
                  exact q)
                have HM80 := Lib.hid hm80
                have HMC := Lib.hid hm
                have HOLD := Lib.hid hold
                clear hm hm80 hold
                go_wp2_with fail
                refine HCL.out.mono ?_
                rintro e w8 ⟨rfl, rfl⟩
                clear HCL c12
                go_wp2_with fail
                clear z0 z1 z2 z3 z4
                have HS : Hid (Wc w7.drew x s ∧ Yc w7.drew q y) := Lib.hid ⟨HB4.out.wv.cells.blk rfl, HYC4.out.blk rfl⟩
                have HB5 := Lib.hid (HB4.out.later (Below.refl _ _).drew)
                refine reg_start 31 (fun w' => Wc w' x s ∧ Yc w' q y) (by kernel_rfl) (by kernel_rfl) ?_
                intro hTT
                have HTT := Lib.hid hTT
                clear hTT
                refine reg_load 0 HTT.out rfl (by kernel_rfl) (by decide) (fun _ _ _ _ h => h) HS.out rfl ?_
                apply Exists.intro
                refine ⟨fun w' hw => by (go_simp; exact rfl), ?_⟩
                refine reg_load 1 HTT.out rfl (by kernel_rfl) (by decide) (fun _ _ _ _ h => h) HS.out rfl ?_
                apply Exists.intro
                refine ⟨fun w' hw => by (go_simp; exact rfl), ?_⟩
                refine reg_load 2 HTT.out rfl (by kernel_rfl) (by decide) (fun _ _ _ _ h => h) HS.out rfl ?_
                apply Exists.intro
                refine ⟨fun w' hw => by (have kz := hw.2.z1; go_simp; exact rfl), ?_⟩
                refine reg_load 3 HTT.out rfl (by kernel_rfl) (by decide) (fun _ _ _ _ h => h) HS.out rfl ?_
                apply Exists.intro
                refine ⟨fun w' hw => by (go_simp; exact rfl), ?_⟩
                cases hkb : bK s.D y.id old 3 with
                | false =>
                  refine reg_only 4 rfl (by kernel_rfl) rfl ?_
                  unfold Oper.wp
                  go_simp
                  refine (wrem_no _ N HB5.out.wv HB5.out.iv.mk_ y.id old 0 0 HY.out.i HB5.out.iv.nw HOU.out hkb).mono ?_
                  rintro e w9 ⟨rfl, col9, h9, z9, l9⟩
                  have hS : Wc w9 x s ∧ Yc w9 q y := ⟨h9.cells, (HYC4.out.blk rfl : Yc w7.drew q y).fw HCQ.out z9⟩
                  refine ⟨hS, ?_⟩
                  have HB9 := Lib.hid (HB5.out.turn h9 z9 l9 HB5.out.iv.more rfl)
                  clear HS h9 z9 l9 hkb
                  have HS := Lib.hid hS
                  clear hS
                  refine reg_load 5 HTT.out rfl (by kernel_rfl) (by decide) (fun _ _ _ _ h => h) HS.out rfl ?_
                  apply Exists.intro
                  refine ⟨fun w' hw => by (go_simp; exact rfl), ?_⟩
                  refine reg_skip 6 HTT.out rfl (by kernel_rfl) (fun _ _ _ _ h => h) (fun _ => HS.out) (wanted_no (g := 5) (p := true) (b := false) (d := 128) rfl (by kernel_rfl) (at_eq (Nat.lt_of_lt_of_eq (m := 183) (by decide) rfl)) rfl) ?_
                  refine reg_skip 7 HTT.out rfl (by kernel_rfl) (fun _ _ _ _ h => h) (fun _ => HS.out) (wanted_no (g := 5) (p := true) (b := false) (d := 128) rfl (by kernel_rfl) (at_ne (by decide) (at_eq (Nat.lt_of_lt_of_eq (m := 183) (by decide) rfl))) rfl) ?_
                  refine reg_skip 8 HTT.out rfl (by kernel_rfl) (fun _ _ _ _ h => h) (fun _ => HS.out) (wanted_no (g := 5) (p := true) (b := false) (d := 128) rfl (by kernel_rfl) (at_ne (by decide) (at_ne (by decide) (at_eq (Nat.lt_of_lt_of_eq (m := 183) (by decide) rfl)))) rfl) ?_
                  refine reg_skip 9 HTT.out rfl (by kernel_rfl) (fun _ _ _ _ h => h) (fun _ => HS.out) (wanted_no (g := 5) (p := true) (b := false) (d := 128) rfl (by kernel_rfl) (at_ne (by decide) (at_ne (by decide) (at_ne (by decide) (at_eq (Nat.lt_of_lt_of_eq (m := 183) (by decide) rfl))))) rfl) ?_
                  go_simp
                  refine reg_skip 10 HTT.out rfl (by kernel_rfl) (fun _ _ _ _ h => h) (fun _ => HS.out) (wanted_no (g := 5) (p := true) (b := false) (d := 128) rfl (by kernel_rfl) (by simp) rfl) ?_
                  refine reg_skip 11 HTT.out rfl (by kernel_rfl) (fun _ _ _ _ h => h) (fun _ => HS.out) (wanted_no (g := 5) (p := true) (b := false) (d := 128) rfl (by kernel_rfl) (at_ne (by decide) (by simp)) rfl) ?_
                  refine reg_skip 12 HTT.out rfl (by kernel_rfl) (fun _ _ _ _ h => h) (fun _ => HS.out) (wanted_no (g := 5) (p := true) (b := false) (d := 128) rfl (by kernel_rfl) (at_ne (by decide) (at_ne (by decide) (by simp))) rfl) ?_
                  refine reg_skip 13 HTT.out rfl (by kernel_rfl) (fun _ _ _ _ h => h) (fun _ => HS.out) (wanted_no (g := 5) (p := true) (b := false) (d := 128) rfl (by kernel_rfl) (at_ne (by decide) (at_ne (by decide) (at_ne (by decide) (by simp)))) rfl) ?_
                  refine reg_skip 14 HTT.out rfl (by kernel_rfl) (fun _ _ _ _ h => h) (fun _ => HS.out) (wanted_no (g := 5) (p := true) (b := false) (d := 128) rfl (by kernel_rfl) (at_ne (by decide) (at_ne (by decide) (at_ne (by decide) (at_ne (by decide) (by simp))))) rfl) ?_
                  go_simp
                  refine reg_skip 15 HTT.out rfl (by kernel_rfl) (fun _ _ _ _ h => h) (fun _ => HS.out) (wanted_un (g := 14) (p := false) (d := 137) rfl (by kernel_rfl) (by simp)) ?_
                  refine reg_skip 16 HTT.out rfl (by kernel_rfl) (fun _ _ _ _ h => h) (fun _ => HS.out) (wanted_un (g := 14) (p := false) (d := 137) rfl (by kernel_rfl) (at_ne (by decide) (by simp))) ?_
                  refine reg_skip 17 HTT.out rfl (by kernel_rfl) (fun _ _ _ _ h => h) (fun _ => HS.out) (wanted_un (g := 14) (p := false) (d := 137) rfl (by kernel_rfl) (at_ne (by decide) (at_ne (by decide) (by simp)))) ?_
                  refine reg_skip 18 HTT.out rfl (by kernel_rfl) (fun _ _ _ _ h => h) (fun _ => HS.out) (wanted_un (g := 14) (p := false) (d := 137) rfl (by kernel_rfl) (at_ne (by decide) (at_ne (by decide) (at_ne (by decide) (by simp))))) ?_
                  refine reg_skip 19 HTT.out rfl (by kernel_rfl) (fun _ _ _ _ h => h) (fun _ => HS.out) (wanted_un (g := 14) (p := false) (d := 137) rfl (by kernel_rfl) (at_ne (by decide) (at_ne (by decide) (at_ne (by decide) (at_ne (by decide) (by simp)))))) ?_
                  go_simp
                  refine reg_skip 20 HTT.out rfl (by kernel_rfl) (fun _ _ _ _ h => h) (fun _ => HS.out) (wanted_un (g := 14) (p := false) (d := 137) rfl (by kernel_rfl) (by simp)) ?_
                  refine reg_skip 21 HTT.out rfl (by kernel_rfl) (fun _ _ _ _ h => h) (fun _ => HS.out) (wanted_un (g := 14) (p := false) (d := 137) rfl (by kernel_rfl) (at_ne (by decide) (by simp))) ?_
                  refine reg_skip 22 HTT.out rfl (by kernel_rfl) (fun _ _ _ _ h => h) (fun _ => HS.out) (wanted_no (g := 5) (p := true) (b := false) (d := 128) rfl (by kernel_rfl) (at_ne (by decide) (at_ne (by decide) (by simp))) rfl) ?_
                  refine reg_skip 23 HTT.out rfl (by kernel_rfl) (fun _ _ _ _ h => h) (fun _ => HS.out) (wanted_no (g := 5) (p := true) (b := false) (d := 128) rfl (by kernel_rfl) (at_ne (by decide) (at_ne (by decide) (at_ne (by decide) (by simp)))) rfl) ?_
                  refine reg_skip 24 HTT.out rfl (by kernel_rfl) (fun _ _ _ _ h => h) (fun _ => HS.out) (wanted_un (g := 23) (p := false) (d := 146) rfl (by kernel_rfl) (at_eq (sz_put (sz_put (sz_put (Nat.lt_of_lt_of_eq (m := 183) (by decide) rfl)))))) ?_
                  go_simp
                  refine reg_skip 25 HTT.out rfl (by kernel_rfl) (fun _ _ _ _ h => h) (fun _ => HS.out) (wanted_un (g := 23) (p := false) (d := 146) rfl (by kernel_rfl) (by simp)) ?_
                  refine reg_skip 26 HTT.out rfl (by kernel_rfl) (fun _ _ _ _ h => h) (fun _ => HS.out) (wanted_un (g := 23) (p := false) (d := 146) rfl (by kernel_rfl) (at_ne (by decide) (by simp))) ?_
                  refine reg_skip 27 HTT.out rfl (by kernel_rfl) (fun _ _ _ _ h => h) (fun _ => HS.out) (wanted_un (g := 23) (p := false) (d := 146) rfl (by kernel_rfl) (at_ne (by decide) (at_ne (by decide) (by simp)))) ?_
                  refine reg_skip 28 HTT.out rfl (by kernel_rfl) (fun _ _ _ _ h => h) (fun _ => HS.out) (wanted_un (g := 23) (p := false) (d := 146) rfl (by kernel_rfl) (at_ne (by decide) (at_ne (by decide) (at_ne (by decide) (by simp))))) ?_
                  refine reg_skip 29 HTT.out rfl (by kernel_rfl) (fun _ _ _ _ h => h) (fun _ => HS.out) (wanted_no (g := 5) (p := true) (b := false) (d := 128) rfl (by kernel_rfl) (at_ne (by decide) (at_ne (by decide) (at_ne (by decide) (at_ne (by decide) (by simp))))) rfl) ?_
                  go_simp
                  refine reg_load 30 HTT.out rfl (by kernel_rfl) (by decide) (fun _ _ _ _ h => h) HS.out rfl ?_
                  apply Exists.intro
                  refine ⟨fun w' hw => by (go_simp; exact rfl), ?_⟩
                  refine reg_done (by kernel_rfl) ?_
                  go_wp2_with fail
                  go_meet
                  case rel => exact ⟨_, _, _, HB9⟩
                | true =>
                  obtain ⟨e0, hf0, hw0, hw1, hi1, hi2, hi3, hi4⟩ := HB5.out.iv.rem_known hkb
                  have HIV := Lib.hid (HB5.out.iv.rem (th := 0) (op := 0) hkb)
                  have hkb2 : bK (up s.D y.id (exS old 3 s.now)) y.id old 3 = false := by
                    unfold bK
                    rw [fnd_up_same hf0]
                    show Wd.wSwapOk (exS old 3 s.now e0).word old 3 = false
                    have ho : old = e0.word := by rw [← HOLD.out]; unfold bW; rw [hf0]; rfl
                    unfold Wd.wSwapOk
                    rw [decide_eq_false (by intro e; rw [e, ho] at hw1; exact hw0 hw1)]
                    rfl
                  have hC' : clsC s.n s.C y.id = s.C ++ [y.id] := hi4
                  have hkn : (Fc.kn s.n (s.C ++ [y.id]) y.id 6 == 0) = false := by
                    unfold Fc.kn
                    rw [if_neg (by intro e; rcases e with e | e <;> omega), if_pos (by simp)]
                    rfl
                  have HKN := Lib.hid hkn
                  have HK2 := Lib.hid hkb2
                  have HCC := Lib.hid hC'
                  clear hf0 hw0 hw1 hi1 hi2 hi3 hi4 hkb2 hC' hkn
                  refine reg_only 4 rfl (by kernel_rfl) rfl ?_
                  unfold Oper.wp
                  go_simp
                  refine (wrem_yes _ N HB5.out.wv HB5.out.iv.mk_ y.id old 0 0 HY.out.i HB5.out.iv.nw HOU.out hkb (by have := HB5.out.iv.cl; omega) (by have := HB5.out.iv.el; omega)).mono ?_
                  rintro e w9 ⟨rfl, col9, h9, z9, l9⟩
                  have hS : Wc w9 x s ∧ Yc w9 q y := ⟨h9.cells.to rfl rfl rfl rfl rfl rfl rfl rfl rfl rfl rfl, (HYC4.out.blk rfl : Yc w7.drew q y).fw HCQ.out z9⟩
                  refine ⟨hS, ?_⟩
                  have HB9 := Lib.hid (HB5.out.turn h9 z9 l9 HIV.out rfl)
                  have HC9 : Hid (col9 q = 0) := Lib.hid ((l9 q (by have := HYC4.out.lt; exact this)).trans HCQ.out)
                  clear HS h9 z9 l9 hkb
                  have HS := Lib.hid hS
                  clear hS
                  refine reg_load 5 HTT.out rfl (by kernel_rfl) (by decide) (fun _ _ _ _ h => h) HS.out rfl ?_
                  apply Exists.intro
                  refine ⟨fun w' hw => by (go_simp; exact rfl), ?_⟩
                  refine reg_load 6 HTT.out rfl (by kernel_rfl) (by decide) (fun _ _ _ _ h => h) HS.out (wanted_yes (g := 5) (p := true) (d := 128) rfl (by kernel_rfl) (at_eq (Nat.lt_of_lt_of_eq (m := 183) (by decide) rfl))) ?_
                  apply Exists.intro
                  refine ⟨fun w' hw => by (go_simp; exact rfl), ?_⟩
                  go_simp
                  refine reg_load 7 HTT.out rfl (by kernel_rfl) (by decide) (fun _ _ _ _ h => h) HS.out (wanted_yes (g := 5) (p := true) (d := 128) rfl (by kernel_rfl) (by simp)) ?_
                  apply Exists.intro
                  refine ⟨fun w' hw => by (go_simp; exact rfl), ?_⟩
                  refine reg_load 8 HTT.out rfl (by kernel_rfl) (by decide) (fun _ _ _ _ h => h) HS.out (wanted_yes (g := 5) (p := true) (d := 128) rfl (by kernel_rfl) (at_ne (by decide) (by simp))) ?_
                  apply Exists.intro
                  refine ⟨fun w' hw => by (go_simp; exact rfl), ?_⟩
                  go_simp
                  refine reg_load 9 HTT.out rfl (by kernel_rfl) (by decide) (fun _ _ _ _ h => h) HS.out (wanted_yes (g := 5) (p := true) (d := 128) rfl (by kernel_rfl) (by simp)) ?_
                  apply Exists.intro
                  refine ⟨fun w' hw => by (have kc := hw.1.c12; go_simp; exact rfl), ?_⟩
                  refine reg_load 11 HTT.out rfl (by kernel_rfl) (by decide) (fun _ _ _ _ h => h) HS.out (wanted_yes (g := 5) (p := true) (d := 128) rfl (by kernel_rfl) (at_ne (by decide) (by simp))) ?_
                  apply Exists.intro
                  refine ⟨fun w' hw => by (go_simp; exact rfl), ?_⟩
                  go_simp
                  refine reg_load 12 HTT.out rfl (by kernel_rfl) (by decide) (fun _ _ _ _ h => h) HS.out (wanted_yes (g := 5) (p := true) (d := 128) rfl (by kernel_rfl) (by simp)) ?_
                  apply Exists.intro
                  refine ⟨fun w' hw => by (have hwm : IntKind.u64.wrap ((m : Int) + 1) = (m : Int) + 1 := (by rw [IntKind.wrap_u64]; have := HM80.out; omega); go_simp; exact rfl), ?_⟩
                  refine reg_only 10 rfl (by kernel_rfl) (wanted_yes (g := 5) (p := true) (d := 128) rfl (by kernel_rfl) (at_ne (by decide) (by simp))) ?_
                  unfold Oper.wp
                  go_simp
                  have q := Fc.closed_any x.pF x.bF x.mF s.n s.O s.P (clsC s.n s.C y.id) _ HB9.out.wv.fact (by rw [HCC.out]; have := HM80.out; have := HMC.out; simp; omega)
                  rw [HCC.out, List.length_append, HMC.out] at q
                  refine q.mono ?_
                  rintro e w10 ⟨rfl, rfl⟩
                  clear q
                  refine ⟨HS.out, ?_⟩
                  refine reg_load 13 HTT.out rfl (by kernel_rfl) (by decide) (fun _ _ _ _ h => h) HS.out (wanted_yes (g := 5) (p := true) (d := 128) rfl (by kernel_rfl) (by simp)) ?_
                  apply Exists.intro
                  refine ⟨fun w' hw => by (have e1 : (((m + [y.id].length : Nat) : Int) == (m : Int) + 1) = true := (by simp); go_simp; exact rfl), ?_⟩
                  refine reg_load 14 HTT.out rfl (by kernel_rfl) (by decide) (fun _ _ _ _ h => h) HS.out (wanted_yes (g := 5) (p := true) (d := 128) rfl (by kernel_rfl) (at_ne (by decide) (by simp))) ?_
                  apply Exists.intro
                  refine ⟨fun w' hw => by (go_simp; exact rfl), ?_⟩
                  go_simp
                  refine reg_load 15 HTT.out rfl (by kernel_rfl) (by decide) (fun _ _ _ _ h => h) HS.out (wanted_yes (g := 14) (p := false) (d := 137) rfl (by kernel_rfl) (by simp)) ?_
                  apply Exists.intro
                  refine ⟨fun w' hw => by (go_simp; exact rfl), ?_⟩
                  refine reg_load 16 HTT.out rfl (by kernel_rfl) (by decide) (fun _ _ _ _ h => h) HS.out (wanted_yes (g := 14) (p := false) (d := 137) rfl (by kernel_rfl) (at_ne (by decide) (by simp))) ?_
                  apply Exists.intro
                  refine ⟨fun w' hw => by (go_simp; exact rfl), ?_⟩
                  go_simp
                  refine reg_load 17 HTT.out rfl (by kernel_rfl) (by decide) (fun _ _ _ _ h => h) HS.out (wanted_yes (g := 14) (p := false) (d := 137) rfl (by kernel_rfl) (by simp)) ?_
                  apply Exists.intro
                  refine ⟨fun w' hw => by (go_simp; exact rfl), ?_⟩
                  refine reg_load 18 HTT.out rfl (by kernel_rfl) (by decide) (fun _ _ _ _ h => h) HS.out (wanted_yes (g := 14) (p := false) (d := 137) rfl (by kernel_rfl) (at_ne (by decide) (by simp))) ?_
                  apply Exists.intro
                  refine ⟨fun w' hw => by (have kc := hw.1.c12; go_simp; exact rfl), ?_⟩
                  go_simp
                  refine reg_load 19 HTT.out rfl (by kernel_rfl) (by decide) (fun _ _ _ _ h => h) HS.out (wanted_yes (g := 14) (p := false) (d := 137) rfl (by kernel_rfl) (by simp)) ?_
                  apply Exists.intro
                  refine ⟨fun w' hw => by (go_simp; exact rfl), ?_⟩
                  refine reg_load 20 HTT.out rfl (by kernel_rfl) (by decide) (fun _ _ _ _ h => h) HS.out (wanted_yes (g := 14) (p := false) (d := 137) rfl (by kernel_rfl) (at_ne (by decide) (by simp))) ?_
                  apply Exists.intro
                  refine ⟨fun w' hw => by (have kz := hw.2.z1; go_simp; exact rfl), ?_⟩
                  go_simp
                  refine reg_only 21 rfl (by kernel_rfl) (wanted_yes (g := 14) (p := false) (d := 137) rfl (by kernel_rfl) (by simp)) ?_
                  unfold Oper.wp
                  go_simp
                  have q := Fc.isopen_any x.pF x.bF x.mF s.n s.O s.P (clsC s.n s.C y.id) y.id _ HB9.out.wv.fact HY.out.i
                  rw [HCC.out, HKN.out] at q
                  refine q.mono ?_
                  rintro e w10 ⟨rfl, rfl⟩
                  clear q
                  refine ⟨HS.out, ?_⟩
                  refine reg_load 22 HTT.out rfl (by kernel_rfl) (by decide) (fun _ _ _ _ h => h) HS.out (wanted_yes (g := 5) (p := true) (d := 128) rfl (by kernel_rfl) (by simp)) ?_
                  apply Exists.intro
                  refine ⟨fun w' hw => by (go_simp; exact rfl), ?_⟩
                  refine reg_load 23 HTT.out rfl (by kernel_rfl) (by decide) (fun _ _ _ _ h => h) HS.out (wanted_yes (g := 5) (p := true) (d := 128) rfl (by kernel_rfl) (at_ne (by decide) (by simp))) ?_
                  apply Exists.intro
                  refine ⟨fun w' hw => by (go_simp; exact rfl), ?_⟩
                  go_simp
                  refine reg_load 24 HTT.out rfl (by kernel_rfl) (by decide) (fun _ _ _ _ h => h) HS.out (wanted_yes (g := 23) (p := false) (d := 146) rfl (by kernel_rfl) (by simp)) ?_
                  apply Exists.intro
                  refine ⟨fun w' hw => by (go_simp; exact rfl), ?_⟩
                  refine reg_load 25 HTT.out rfl (by kernel_rfl) (by decide) (fun _ _ _ _ h => h) HS.out (wanted_yes (g := 23) (p := false) (d := 146) rfl (by kernel_rfl) (at_ne (by decide) (by simp))) ?_
                  apply Exists.intro
                  refine ⟨fun w' hw => by (go_simp; exact rfl), ?_⟩
                  go_simp
                  refine reg_load 26 HTT.out rfl (by kernel_rfl) (by decide) (fun _ _ _ _ h => h) HS.out (wanted_yes (g := 23) (p := false) (d := 146) rfl (by kernel_rfl) (by simp)) ?_
                  apply Exists.intro
                  refine ⟨fun w' hw => by (have kz := hw.2.z1; go_simp; exact rfl), ?_⟩
                  refine reg_load 27 HTT.out rfl (by kernel_rfl) (by decide) (fun _ _ _ _ h => h) HS.out (wanted_yes (g := 23) (p := false) (d := 146) rfl (by kernel_rfl) (at_ne (by decide) (by simp))) ?_
                  apply Exists.intro
                  refine ⟨fun w' hw => by (go_simp; exact rfl), ?_⟩
                  refine reg_only 28 rfl (by kernel_rfl) (wanted_yes (g := 23) (p := false) (d := 146) rfl (by kernel_rfl) (at_ne (by decide) (at_ne (by decide) (by simp)))) ?_
                  unfold Oper.wp
                  go_simp
                  refine (wrem_no _ (N.filter (· != y.id)) HB9.out.wv HB9.out.iv.mk_ y.id old 0 0 HY.out.i HB9.out.iv.nw HOU.out HK2.out).mono ?_
                  rintro e w10 ⟨rfl, col10, h10, z10, l10⟩
                  have hS : Wc w10 x s ∧ Yc w10 q y := ⟨h10.cells.to rfl rfl rfl rfl rfl rfl rfl rfl rfl rfl rfl, HS.out.2.fw HC9.out z10⟩
                  refine ⟨hS, ?_⟩
                  have HB10 := Lib.hid (HB9.out.turn h10 z10 l10 HIV.out rfl)
                  clear HS h10 z10 l10
                  have HS := Lib.hid hS
                  clear hS
                  refine reg_load 29 HTT.out rfl (by kernel_rfl) (by decide) (fun _ _ _ _ h => h) HS.out (wanted_yes (g := 5) (p := true) (d := 128) rfl (by kernel_rfl) (by simp)) ?_
                  apply Exists.intro
                  refine ⟨fun w' hw => by (go_simp; exact rfl), ?_⟩
                  refine reg_load 30 HTT.out rfl (by kernel_rfl) (by decide) (fun _ _ _ _ h => h) HS.out rfl ?_
                  apply Exists.intro
                  refine ⟨fun w' hw => by (go_simp; exact rfl), ?_⟩
                  refine reg_done (by kernel_rfl) ?_
                  go_wp2_with fail
                  go_meet
                  case rel => exact ⟨_, _, _, HB10⟩
            have hn6 := hk8
            clear hk8
            have hk8 : y.do_ % 8 = 5 := by omega
            clear hn3 hn7 hn0 hn1 hn2 hn4 hn6
            as_aux_lemma =>
              have m3 : (y.do_ % 8 == 3) = false := by rw [hk8]; rfl
              have m3t : ((y.do_).tmod 8 == 3) = false := by rw [HD8.out]; exact m3
              have m4 : (y.do_ % 8 == 4) = false := by rw [hk8]; rfl
              have m4t : ((y.do_).tmod 8 == 4) = false := by rw [HD8.out]; exact m4
              have m6 : (y.do_ % 8 == 6) = false := by rw [hk8]; rfl
              have m6t : ((y.do_).tmod 8 == 6) = false := by rw [HD8.out]; exact m6
              have m7 : (y.do_ % 8 == 7) = false := by rw [hk8]; rfl
              have m7t : ((y.do_).tmod 8 == 7) = false := by rw [HD8.out]; exact m7
              have n7 : (y.do_ % 8 != 7) = true := by rw [hk8]; rfl
              have n7t : ((y.do_).tmod 8 != 7) = true := by rw [HD8.out]; exact n7
              have l3 : decide (y.do_ % 8 < 3) = false := by rw [hk8]; rfl
              have l3t : decide ((y.do_).tmod 8 < 3) = false := by rw [HD8.out]; exact l3
              clear hk8
              have hba : Below w5.heap.size w5 (w5.alloc (.cells #[.int .i64 0, .int .i64 0, .int .u64 0, .int .u64 0, .int .u64 0, .int .u64 0, .float .f64 0, .int .u64 0, .slice none 0 0, .slice none 0 0, .slice none 0 0, .slice none 0 0, .int .u64 0, .slice none 0 0, .slice none 0 0, .slice none 0 0, .slice none 0 0, .slice none 0 0, .slice none 0 0, .int .u64 0, .slice none 0 0, .int .i64 0, .bool false] 69)) := (Below.refl _ _).alloc (Nat.le_refl _) _
              have HZV := Lib.hid (zero_w w5)
              have HB5 := Lib.hid hba
              have HB3 := Lib.hid (HB2.out.later hba)
              have HYC3 := Lib.hid (HYC.out.later hba)
              clear hba
              go_upto_region 20 with (fail)
              clear z0 z1 z2 z3 z4 HYC
              generalize (w5.alloc (.cells #[.int .i64 0, .int .i64 0, .int .u64 0, .int .u64 0, .int .u64 0, .int .u64 0, .float .f64 0, .int .u64 0, .slice none 0 0, .slice none 0 0, .slice none 0 0, .slice none 0 0, .int .u64 0, .slice none 0 0, .slice none 0 0, .slice none 0 0, .slice none 0 0, .slice none 0 0, .slice none 0 0, .int .u64 0, .slice none 0 0, .int .i64 0, .bool false] 69)) = w6 at *
              obtain ⟨z0, z1, z2, z3, z4⟩ := HYC3.out
              go_wp2_with fail
              go_meet
              case rel => exact ⟨col, s, N, Lib.hid ⟨HB3.out.wv, HB3.out.hbs, HB3.out.iv.more, HB3.out.cf, HB3.out.bel, HB3.out.cc, HB3.out.c0⟩⟩
          case rest =>
            clear HB2 HYC z0 z1 z2 z3 z4
            obtain ⟨col9, s9, N9, HB9⟩ := hcut
            generalize wc = w9 at *
            have hlv := HB9.out.iv.lv
            have hmx := HB9.out.iv.mx
            have l0 : decide (s9.live < 0) = false := decide_eq_false (by omega)
            have l1 : decide (c.max < s9.live) = false := decide_eq_false (by rw [← HB9.out.cf]; omega)
            have hct := HB9.out.iv.ct
            obtain ⟨m, hm⟩ : ∃ m, s9.C.length = m := ⟨_, rfl⟩
            have hm80 : m ≤ 81 := by have := HB9.out.iv.cl; omega
            have hwm : IntKind.u64.wrap (m : Int) = (m : Int) := by rw [IntKind.wrap_u64]; omega
            have hc14 : ∀ y : After w9, y.1.cell? ⟨x.pw, 14, none⟩ = some (.int .i64 s9.live) := fun y => y.cell HB9.out.wv.cells.c14
            have hc8 : ∀ y : After w9, y.1.cell? ⟨x.pw, 8, none⟩ = some (ptr x.pb) := fun y => y.cell HB9.out.wv.cells.c8
            have hc12 : ∀ y : After w9, y.1.cell? ⟨x.pw, 12, none⟩ = some (ptr x.pF) := fun y => y.cell HB9.out.wv.cells.c12
            have hcc : ∀ y : After w9, y.1.cell? ⟨cb, 0, none⟩ = some (.int .i64 c.max) := fun y => y.cell HB9.out.cc
            have HCT : ∀ y : After w9, Calls Tryz.prog 17 #[ptr x.pb, .int .i64 3] y.1 fun e w' => e = .returned (.int .i64 m) ∧ Below y.1.heap.size y.1 w' := fun y => by
              have q := count_any y.1 x.pb x.ab s9.D s9.S (HB9.out.wv.bag.later y.2) 3 (by have := HB9.out.iv.dl; omega)
              rw [hct, hm] at q
              exact q
            have HCL : ∀ y : After w9, Calls Tryz.prog 14 #[ptr x.pF] y.1 fun e w' => e = .returned (.int .u64 m) ∧ y.1 = w' := fun y => by
              have q := Fc.closed_any x.pF x.bF x.mF s9.n s9.O s9.P s9.C y.1 (HB9.out.wv.later y.2).fact (by omega)
              rw [hm] at q
              exact q
            have HCT := Lib.hid HCT
            have HCL := Lib.hid HCL
            clear hlv hmx hct hm hm80
            go_wp2_with fail
            refine region_after (by kernel_rfl) (by kernel_rfl) ?_
            repeat (go_big_quiet_step (first
              | (go_at_call 17; exact After.call (HCT.out _))
              | (go_at_call 14; exact After.same (HCL.out _))))
            refine wpQuiet_nil ?_
            rintro W2 ⟨⟨_, hb2⟩, rfl⟩
            have HB10 := Lib.hid (HB9.out.later hb2)
            clear hb2 hc14 hc8 hc12 hcc HCT HCL HB9
            go_wp2_with fail
            go_roundw
            case rel => exact ⟨k + 1, col9, s9, N9, by omega, by go_num, HB10⟩
            case measure => simp [intOf]; omega
      · have HBE := Lib.hid HB.out.bel
        go_wp2_with fail
        go_ret
        exact ⟨rfl, HBE.out⟩
  · have q0 : (cfE c != 0) = true := by simpa using he
    have HN := Lib.hid (new_no c HCF.out he (.slice Ao no co) (.slice none 0 0) w3)
    generalize cfE c = ec at *
    clear he
    go_wp2_with (refine load_c rfl _ rfl cb rfl c HR3.out ?_)
    refine HN.out.mono ?_
    rintro e w4 ⟨rfl, b4⟩
    have HB4 := Lib.hid b4
    clear b4
    go_wp2_with fail
    go_ret
    exact ⟨rfl, ((HB0.out.trans (HB1.out.mono HB0.out.size)).trans ((HB2.out.mono (Nat.le_trans HB0.out.size HB1.out.size)).trans ((HB3.out.mono (Nat.le_trans (Nat.le_trans HB0.out.size HB1.out.size) HB2.out.size)).trans (HB4.out.mono (Nat.le_trans (Nat.le_trans (Nat.le_trans HB0.out.size HB1.out.size) HB2.out.size) HB3.out.size)))))⟩
end Go.Proofs.YthmdiaingolfnaaGreatDoor.Wo
