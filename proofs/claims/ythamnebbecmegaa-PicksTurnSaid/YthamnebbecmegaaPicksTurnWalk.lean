/- The walk of hackneylaw08.PicksTurn. -/
import Derived.Test.YthamnebbecmegaaPicksRef
import Derived.Test.YthamnebbecmegaaRegApp
namespace Go.Proofs.Ythamnebbecmegaa.Pi
open Go.ChangeShapes Go.WideShapes Go.ChangeAt Go.RowKit Rw
set_option linter.unusedVariables false

/-- The document's picks at block d. -/
structure Rf (w : World) (B d : Nat) (L : List Int) (t : Int) : Prop where
  row : ∃ A n c, w.cell? ⟨d, 0, none⟩ = some (.slice A n c) ∧ Rd (Value.int .i64) w B A n c L
  turn : w.cell? ⟨d, 1, none⟩ = some (.int .i64 t)
  free0 : w.frozen? ⟨d, 0, none⟩ = false
  free1 : w.frozen? ⟨d, 1, none⟩ = false
theorem Rf.lt {w : World} {B d : Nat} {L : List Int} {t : Int} (h : Rf w B d L t) : d < w.heap.size := Lw.lt_heap h.turn
theorem Rf.grown {w w' : World} {B d : Nat} {L : List Int} {t : Int} {row : Option Nat} (h : Rf w B d L t) (hg : w.grownBy w' row) (hBs : B ≤ w.heap.size) (hd : ∀ j, row = some j → j ≠ d ∧ B ≤ j) : Rf w' B d L t := by
  have hl := h.lt
  obtain ⟨A, n, c, h0, hr⟩ := h.row
  have hne : some d ≠ row := by intro e; exact (hd d e.symm).1 rfl
  exact ⟨⟨A, n, c, hg.cell h0 hne, hr.grown hg hBs (fun j hj => (hd j hj).2)⟩, hg.cell h.turn hne, grown_frozen hg h.free0 hl hne, grown_frozen hg h.free1 hl hne⟩
theorem Rf.later {w w' : World} {B d : Nat} {L : List Int} {t : Int} (h : Rf w B d L t) (hB : B ≤ w.heap.size) (hb : Below w.heap.size w w') : Rf w' B d L t := h.grown (Gd.grown_of_below hb) hB (fun j hj => by cases hj)
theorem Rf.store {w : World} {B d : Nat} {L0 L : List Int} {t0 u : Int} {A : Option Addr} {n c : Nat} (h : Rf w B d L0 t0) (hr : Rd (Value.int .i64) w B A n c L) (hB : B ≤ d) :
    Rf ((w.setCell ⟨d, 0, none⟩ (.slice A n c)).setCell ⟨d, 1, none⟩ (.int .i64 u)) B d L u ∧ w.grownBy ((w.setCell ⟨d, 0, none⟩ (.slice A n c)).setCell ⟨d, 1, none⟩ (.int .i64 u)) (some d) := by
  obtain ⟨A0, n0, c0, h0, _⟩ := h.row
  have hne : (⟨d, 0, none⟩ : Addr) ≠ ⟨d, 1, none⟩ := fun e => by injection e with _ e; omega
  have k1 : (w.setCell ⟨d, 0, none⟩ (.slice A n c)).cell? ⟨d, 1, none⟩ = some (.int .i64 t0) := (World.cell?_setCell_other _ _ _ _ hne).trans h.turn
  refine ⟨⟨⟨A, n, c, (World.cell?_setCell_other _ _ _ _ hne.symm).trans (World.cell?_setCell_same _ _ _ h0), (hr.setCell hB _).setCell hB _⟩, World.cell?_setCell_same _ _ _ k1, ?_, ?_⟩, ?_⟩
  · simpa using h.free0
  · simpa using h.free1
  · exact World.grownBy.trans (grown_setCell w ⟨d, 0, none⟩ _) (grown_setCell _ ⟨d, 1, none⟩ _)
theorem rnext_any (A : Option Addr) (m c B : Nat) (L : List Int) (t n : Int) (hn : 1 ≤ n) (hn' : n ≤ 9223372036854775807) (ht : 0 ≤ t) (ht' : t < 9223372036854775807) (w : World) (h : Rd (Value.int .i64) w B A m c L) (hB : B ≤ w.heap.size) (hx : ∀ x ∈ L, Ok x) :
    Calls Try.prog 55 #[.agg #[.slice A m c, .int .i64 t], .int .i64 n] w fun e w' => ∃ A' m' c', e = .returned (.tuple #[.agg #[.slice A' m' c', .int .i64 (tk L t).2.2], .int .i64 ((tk L t).1 % n)]) ∧ Rd (Value.int .i64) w' B A' m' c' (tk L t).2.1 ∧ Below w.heap.size w w' := by
  cases L with
  | nil =>
    obtain rfl : 0 = m := h.len
    exact (rnext_none A c t n hn hn' ht ht' w).mono fun e w' ⟨h1, h2⟩ => ⟨none, 0, 0, h1, Rd.nil_, h2⟩
  | cons x l => exact rnext_some A m c B x l t n hn hn' ht ht' w h hB (hx x (by simp))
theorem tk_sub (L : List Int) (t : Int) : ∀ x ∈ (tk L t).2.1, x ∈ L := by
  cases L with
  | nil => intro x hx; exact hx
  | cons y l => intro x hx; exact List.mem_cons_of_mem _ hx
theorem tk_len (L : List Int) (t : Int) : (tk L t).2.1.length ≤ L.length := by cases L <;> simp [tk]
theorem tk_t (L : List Int) (t : Int) (ht : 0 ≤ t) : 0 ≤ (tk L t).2.2 ∧ (tk L t).2.2 ≤ t + 1 := by cases L <;> simp [tk] <;> omega
theorem left_b (g : Nat) (l : List Int) (t : Int) (w0 : World) (x : After w0) (h : Pk w0 g l t) (m : Nat) (hm : l.length = m) :
    Calls Try.prog 56 #[.pointer (some ⟨g, 0, none⟩)] x.1 fun e w' => e = .returned (.int .i64 m) ∧ x.1 = w' := by
  subst hm
  exact left_any g l t x.1 (h.later x.2)

set_option maxRecDepth 100000 in
set_option maxHeartbeats 8000000 in
theorem turn_any (A A2 : Option Addr) (len len2 c c2 : Nat) (l asked : List Int) (k : Int) (w : World) (h : Rd (Value.int .i64) w w.heap.size A len c l) (hu : ∀ y ∈ l, Ok y) (h2 : Rd (Value.int .i64) w w.heap.size A2 len2 c2 asked) (hu2 : ∀ y ∈ asked, Ok y)
    (hl : len ≤ 200) (hl2 : len2 ≤ 200) (hk : -128 ≤ k) (hk' : k ≤ 127) :
    Calls Try.prog 8 #[.slice A len c, .slice A2 len2 c2, .int .i8 k] w fun e w' => e = .returned (.bool true) ∧ Below w.heap.size w w' := by
  obtain ⟨i0, hi, hz0, hz1, hz2⟩ := info_parts Si.info_int
  have t0 : decide ((200 : Int) < (len : Int)) = false := decide_eq_false (by omega)
  have t0' : decide (200 < len) = false := decide_eq_false (by omega)
  have t1 : decide ((200 : Int) < (len2 : Int)) = false := decide_eq_false (by omega)
  have t1' : decide (200 < len2) = false := decide_eq_false (by omega)
  have HR := Lib.hid h
  have HU := Lib.hid hu
  have HR2 := Lib.hid h2
  have HU2 := Lib.hid hu2
  have HLEN := Lib.hid h.len
  clear h hu h2 hu2
  go_enter Try.func8, Try.ntmps8
  go_wp2_with fail
  refine (awake8_any _).mono ?_
  rintro e w1 ⟨rfl, b1⟩
  go_wp2_with fail
  refine (new_any A len c l _ _ (HR.out.below b1) b1.size HU.out (by omega)).mono ?_
  rintro e w2 ⟨g, rfl, hp2, hg2, hb2⟩
  have hwg : w.heap.size ≤ g := Nat.le_trans b1.size hg2
  have HB2 := Lib.hid (b1.trans (hb2.mono b1.size))
  have HP2 := Lib.hid hp2
  have hgl := hp2.lt
  have HR3 := Lib.hid ((HR.out.below b1).below (hb2.mono b1.size))
  clear b1 hb2 hp2 hg2 HR
  go_wp2_with fail
  go_loopw [35] (fun i wr => ∃ (m : Nat) (L : List Int) (t : Int), m ≤ len2 ∧ i = .int .i64 m ∧ Pk wr g L t ∧ Rf wr w.heap.size w2.heap.size L t ∧ (∀ x ∈ L, Ok x) ∧ L.length ≤ 200 ∧ 0 ≤ t ∧ t ≤ m ∧ Below w.heap.size w wr) (fun i _ => len2 - (intOf i).toNat)
  case atStart =>
    refine ⟨0, l, 0, Nat.zero_le _, rfl, ?_, ?_, HU.out, by have := HLEN.out; omega, by omega, by omega, ?_⟩
    · exact HP2.out.later (by go_simp; exact (Below.refl _ _).alloc (Nat.le_refl _) _)
    · exact ⟨⟨A, len, c, by go_simp, HR3.out.alloc HB2.out.size _⟩, by go_simp, by go_simp, by go_simp⟩
    · exact HB2.out.alloc HB2.out.size _
  case round =>
    clear HP2 HB2 HR3
    obtain ⟨m, L, t, hm, rfl, hp, hrf, hL, hLl, ht0, ht1, hbr⟩ := hrel
    have HP := Lib.hid hp
    have HRF := Lib.hid hrf
    have HL := Lib.hid hL
    have hgw := hp.lt
    have hdw := hrf.lt
    have hbs := hbr.size
    clear hp hrf hL
    by_cases hlt : m < len2
    · obtain ⟨b, o, x, rfl, hb, hy, hcy⟩ := HR2.out.get hlt
      have hcell : wr.cell? ⟨b, o + m, none⟩ = some (.int .i64 x) := (hbr.cell (p := ⟨b, o + m, none⟩) hb).trans hcy
      have hx := HU2.out x (List.mem_of_getElem? hy)
      unfold Ok at hx
      have HX := Lib.hid hx
      clear hy hcy hx
      go_wp2_with fail
      refine (clone_any g L t _ HP.out (by omega)).mono ?_
      rintro e w3 ⟨g3, rfl, hp3, hg3, hb3⟩
      have HPc := Lib.hid (HP.out.later hb3)
      have HRFc := Lib.hid (HRF.out.later hbs hb3)
      have HP3 := Lib.hid hp3
      have hbs3 := hb3.size
      have HB3 := Lib.hid (hbr.trans (hb3.mono hbs))
      clear hp3 hb3 hcell hbr HP HRF
      go_wp2_with fail
      refine (next_any g3 L t 3 (by omega) (by omega) _ HP3.out (by omega)).mono ?_
      rintro e w4 ⟨rfl, hp4, hg4⟩
      have HPd := Lib.hid (HPc.out.kept hg4 (by omega))
      have HRFd := Lib.hid (HRFc.out.grown hg4 (by omega) (fun j hj => by cases hj; omega))
      have HB4 := Lib.hid (HB3.out.grown hg4 (by omega) (fun j hj => by cases hj; omega))
      have hbs4 := hg4.size
      clear hp4 hg4 HP3 HPc HRFc HB3
      go_wp2_with fail
      by_cases hx1 : x < 1
      · have q1 : decide ((1 : Int) ≤ x) = false := decide_eq_false (by omega)
        refine (next_low g x hx1 _).mono ?_
        rintro e w5 ⟨rfl, rfl⟩
        go_wp2_with fail
        go_roundw
        case rel => exact ⟨m + 1, L, t, by omega, by go_num, HPd.out, HRFd.out, HL.out, hLl, ht0, by omega, HB4.out⟩
        case measure => simp [intOf]; omega
      · have q1 : decide ((1 : Int) ≤ x) = true := decide_eq_true (by omega)
        refine (next_any g L t x (by omega) HX.out.2 _ HPd.out (by omega)).mono ?_
        rintro e w5 ⟨rfl, hp5, hg5⟩
        obtain ⟨A5, n5, c5, e0, hr5⟩ := (HRFd.out.grown hg5 (by omega) (fun j hj => by cases hj; omega)).row
        have hrf5 := (HRFd.out.grown hg5 (by omega) (fun j hj => by cases hj; omega))
        have e1 := hrf5.turn
        have HR5 := Lib.hid hr5
        have HRF5 := Lib.hid hrf5
        have HP5 := Lib.hid hp5
        have HB5 := Lib.hid (HB4.out.grown hg5 (by omega) (fun j hj => by cases hj; exact hwg))
        have hbs5 := hg5.size
        clear hp5 hg5 hr5 hrf5 HPd HRFd HB4
        go_wp2_with fail
        refine (rnext_any A5 n5 c5 w.heap.size L t x (by omega) HX.out.2 (by omega) (by omega) _ HR5.out (by omega) HL.out).mono ?_
        rintro e w6 ⟨A6, n6, c6, rfl, hr6, hb6⟩
        have s1 := tk_sub L t
        have s2 := tk_len L t
        have s3 := tk_t L t ht0
        generalize tk L t = T at *
        obtain ⟨z, L1, u⟩ := T
        simp only at hr6 s1 s2 s3 HP5 ⊢
        have hn6 : L1.length = n6 := hr6.len
        have hs6 := hb6.size
        have HB6 := Lib.hid (HB5.out.trans (hb6.mono HB5.out.size))
        have HP6 := Lib.hid (HP5.out.later hb6)
        have HRF6 := Lib.hid (HRF5.out.later (by omega) hb6)
        have HR6 := Lib.hid hr6
        have HS1 := Lib.hid s1
        clear hr6 hb6 s1 HP5 HRF5 HR5 HB5 e0 e1
        generalize z % x = y at *
        go_wp2_with fail
        have f0 : ∀ q : After (w6.alloc (.cells #[.slice A6 n6 c6, .int .i64 u] 88)), q.1.cell? ⟨w6.heap.size, 0, none⟩ = some (.slice A6 n6 c6) := fun q => q.cell (by go_simp)
        have HP7 : Hid (Pk (w6.alloc (.cells #[.slice A6 n6 c6, .int .i64 u] 88)) g L1 u) := Lib.hid (HP6.out.later ((Below.refl _ _).alloc (Nat.le_refl _) _))
        refine region_after (W := w6.alloc (.cells #[.slice A6 n6 c6, .int .i64 u] 88)) (by kernel_rfl) (by kernel_rfl) ?_
        repeat (go_big_quiet_step (first
          | (go_at_call 56; exact After.same (left_b g L1 u _ _ HP7.out n6 hn6))))
        refine wpQuiet_nil ?_
        rintro W3 ⟨⟨_, hb7⟩, rfl⟩
        have hb8 : Below w6.heap.size w6 W3 := ((Below.refl _ _).alloc (Nat.le_refl _) _).trans (hb7.mono (by simp))
        have HP8 := Lib.hid (HP6.out.later hb8)
        have HRF8 := Lib.hid (HRF6.out.later (by omega) hb8)
        have HB8 := Lib.hid (HB6.out.trans (hb8.mono HB6.out.size))
        have HR8 := Lib.hid (HR6.out.below (hb8.mono (by omega)))
        have d0 : W3.cell? ⟨w6.heap.size, 0, none⟩ = some (.slice A6 n6 c6) := (hb7.cell (p := ⟨w6.heap.size, 0, none⟩) (by simp)).trans (by go_simp)
        have d1 : W3.cell? ⟨w6.heap.size, 1, none⟩ = some (.int .i64 u) := (hb7.cell (p := ⟨w6.heap.size, 1, none⟩) (by simp)).trans (by go_simp)
        have hs8 := hb8.size
        obtain ⟨A8, n8, c8, r0, _⟩ := HRF8.out.row
        have r1 := HRF8.out.turn
        have z0 := HRF8.out.free0
        have z1 := HRF8.out.free1
        clear hb7 hb8 f0 HP7 HP6 HRF6 HB6 HR6
        go_wp2_with fail
        go_roundw
        case rel =>
          obtain ⟨q1, q2⟩ := HRF8.out.store (u := u) HR8.out (by omega)
          exact ⟨m + 1, L1, u, by omega, by go_num, HP8.out.grown q2 (fun j hj => by cases hj; omega), q1, fun x hx => HL.out x (HS1.out x hx), by omega, by omega, by omega, HB8.out.grown q2 HB8.out.size (fun j hj => by cases hj; omega)⟩
        case measure => simp [intOf]; omega
    · obtain rfl : m = len2 := by omega
      clear hlt
      go_wp2_with fail
      go_loopw [16, 78] (fun v i wr' => ∃ (q c' : Nat) (A' : Option Addr), (q = 0 ∨ (q : Int) ≤ k) ∧ i = .int .i64 q ∧ v = .slice A' q c' ∧
        wr'.ownsRow (w2.heap.size + 1) 3 1 (.slice A' q c') q ((outs L t 5 q).map (Value.int .i64)) ∧ Pk wr' g L t ∧ Rf wr' w.heap.size w2.heap.size (L.drop q) (t + ((q - L.length : Nat) : Int)) ∧ Below w.heap.size w wr') (fun _ i _ => k.toNat - (intOf i).toNat)
      case atStart => exact ⟨0, 0, none, .inl rfl, rfl, rfl, World.ownsRow_nil _ _ _ _, HP.out, by simpa using HRF.out, hbr⟩
      case round =>
        clear HP HRF hbr hgw hdw hbs
        obtain ⟨q, c', A', hq, rfl, rfl, hrow, hp, hrf, hbr⟩ := hrel
        have HP := Lib.hid hp
        have HRF := Lib.hid hrf
        have HROW := Lib.hid hrow
        have hgw := hp.lt
        have hdw := hrf.lt
        have hbs := hbr.size
        clear hp hrf hrow
        by_cases hlt2 : (q : Int) < k
        · have hd2 : decide ((q : Int) < k) = true := decide_eq_true hlt2
          obtain ⟨A5, n5, c5, e0, hr5⟩ := HRF.out.row
          have e1 := HRF.out.turn
          have HR5 := Lib.hid hr5
          clear hr5
          go_wp2_with fail
          refine (rnext_any A5 n5 c5 w.heap.size (L.drop q) _ 5 (by omega) (by omega) (by omega) (by omega) _ HR5.out (by omega) (fun x hx => HL.out x (List.mem_of_mem_drop hx))).mono ?_
          rw [tk_drop]
          rintro e w6 ⟨A6, n6, c6, rfl, hr6, hb6⟩
          have hs6 := hb6.size
          have HROW6 := Lib.hid (Gd.own_keep HROW.out hb6)
          have HP6 := Lib.hid (HP.out.later hb6)
          have HRF6 := Lib.hid (HRF.out.later (by omega) hb6)
          have HB6 := Lib.hid (hbr.trans (hb6.mono hbr.size))
          have HR6 := Lib.hid hr6
          have hmp : (outs L t 5 q).map (Value.int .i64) ++ [val L t q % 5].map (Value.int .i64) = (outs L t 5 (q + 1)).map (Value.int .i64) := by rw [outs_succ, List.map_append]
          have HMP := Lib.hid hmp
          obtain ⟨u, hu⟩ : ∃ u, t + ((q + 1 - L.length : Nat) : Int) = u := ⟨_, rfl⟩
          rw [hu]
          have HUU := Lib.hid hu
          clear hr6 hb6 hmp HROW HP HRF HR5 hbr e0 e1 hu
          generalize val L t q % 5 = y at *
          go_wp2_with fail
          have d0 : (w6.alloc (.cells #[.slice A6 n6 c6, .int .i64 u] 88)).cell? ⟨w6.heap.size, 0, none⟩ = some (.slice A6 n6 c6) := by go_simp
          have d1 : (w6.alloc (.cells #[.slice A6 n6 c6, .int .i64 u] 88)).cell? ⟨w6.heap.size, 1, none⟩ = some (.int .i64 u) := by go_simp
          refine reg_start 5 (fun w' => w'.cell? ⟨w6.heap.size, 0, none⟩ = some (.slice A6 n6 c6) ∧ w'.cell? ⟨w6.heap.size, 1, none⟩ = some (.int .i64 u)) (by kernel_rfl) (by kernel_rfl) ?_
          intro hT
          have HT := Lib.hid hT
          clear hT
          refine reg_load 0 HT.out rfl (by kernel_rfl) (by decide) (fun _ _ _ _ h => h) ⟨d0, d1⟩ rfl ?_
          apply Exists.intro
          refine ⟨fun w' hw => by (obtain ⟨h1, h2⟩ := hw; go_simp; exact rfl), ?_⟩
          refine reg_load 1 HT.out rfl (by kernel_rfl) (by decide) (fun _ _ _ _ h => h) ⟨d0, d1⟩ rfl ?_
          apply Exists.intro
          refine ⟨fun w' hw => by (obtain ⟨h1, h2⟩ := hw; go_simp; exact rfl), ?_⟩
          refine reg_load 2 HT.out rfl (by kernel_rfl) (by decide) (fun _ _ _ _ h => h) ⟨d0, d1⟩ rfl ?_
          apply Exists.intro
          refine ⟨fun w' hw => by (obtain ⟨h1, h2⟩ := hw; go_simp; exact rfl), ?_⟩
          refine reg_only 3 rfl (by kernel_rfl) rfl ?_
          unfold Oper.wp
          go_simp
          have hrd : Rd (Value.int .i64) ((w6.alloc (.cells #[.slice A6 n6 c6, .int .i64 u] 88)).drew.alloc (.cells #[.int .i64 y] 3)) (w6.heap.size + 1 + 1) (some ⟨w6.heap.size + 1, 0, none⟩) 1 1 [y] := by
            have := rd_one (enc := Value.int .i64) ((w6.alloc (.cells #[.slice A6 n6 c6, .int .i64 u] 88)).drew) y 3
            simpa using this
          have HRD := Lib.hid hrd
          have hrow7 := (HROW6.out.alloc (.cells #[.slice A6 n6 c6, .int .i64 u] 88))
          have HROW7 := Lib.hid hrow7
          clear hrd hrow7
          refine reg_only 4 rfl (by kernel_rfl) rfl ?_
          refine wp_append_rd _ _ 80 rfl (w2.heap.size + 1) 3 i0 (.int .i64 0) 8 Try.underlying80 hi hz0 hz1 hz2 rfl (.slice A' q c') q _ rfl (HROW7.out.drew.alloc _) _ _ 1 1 [y] rfl HRD.out Si.one_int (q + 1) rfl _ HMP.out (by unfold maxLen; omega) (by omega) (by simp; omega) ?_
          intro A9 c9 w9 hrow9 hg9 hat9
          have hown := HROW6.out.lt
          have hne : some w6.heap.size ≠ (Value.slice A' q c').ownBlock := fun h => by have := (hown _ h.symm).2; omega
          have k0 : w9.cell? ⟨w6.heap.size, 0, none⟩ = some (.slice A6 n6 c6) := hg9.cell (by go_simp) hne
          have k1 : w9.cell? ⟨w6.heap.size, 1, none⟩ = some (.int .i64 u) := hg9.cell (by go_simp) hne
          have b68 : Below w6.heap.size w6 ((w6.alloc (.cells #[.slice A6 n6 c6, .int .i64 u] 88)).drew.alloc (.cells #[.int .i64 y] 3)) := (((Below.refl _ _).alloc (Nat.le_refl _) _).drew).alloc (by simp) _
          have b69 : Below w.heap.size w6 w9 := (b68.mono (by omega)).grown hg9 (by simp; omega) (fun j hj => by have := (hown j hj).1; omega)
          have hrf9 : Rf w9 w.heap.size w2.heap.size (L.drop q) (t + ((q - L.length : Nat) : Int)) := (HRF6.out.later (by omega) b68).grown hg9 (by simp; omega) (fun j hj => by have := (hown j hj).1; omega)
          have hp9 : Pk w9 g L t := (HP6.out.later b68).grown hg9 (fun j hj => by have := (hown j hj).1; omega)
          have HRF9 := Lib.hid hrf9
          have HP9 := Lib.hid hp9
          have HROW9 := Lib.hid hrow9
          have HB9 := Lib.hid (HB6.out.trans b69)
          have HR9 := Lib.hid (HR6.out.below b69)
          have hs9 := b69.size
          have z0 := hrf9.free0
          have z1 := hrf9.free1
          have y1 := hrf9.turn
          obtain ⟨A8, n8, c8, y0, _⟩ := hrf9.row
          clear hrow9 hg9 hat9 hne b68 b69 hrf9 hp9 hown HROW6 HRF6 HP6 HB6 HR6 HRD HROW7 d0 d1
          refine ⟨fun _ => ⟨k0, k1⟩, ?_⟩
          refine reg_only 5 rfl (by kernel_rfl) rfl ?_
          unfold Oper.wp
          go_simp
          refine reg_only 6 rfl (by kernel_rfl) rfl ?_
          unfold Oper.wp
          go_simp
          refine reg_done (by kernel_rfl) ?_
          obtain ⟨p1, p2⟩ := HRF9.out.store (u := u) HR9.out (by omega)
          have hp10 := HP9.out.grown p2 (fun j hj => by cases hj; omega)
          have hb10 := HB9.out.grown p2 HB9.out.size (fun j hj => by cases hj; omega)
          have hrow10 := HROW9.out.kept p2 (by
            cases hv : (Value.slice A9 (q + 1) c9).ownBlock with
            | none => exact .inl rfl
            | some j => exact .inr (fun e => by injection e with e; have := (HROW9.out.lt j hv).1; omega))
          have P1 := Lib.hid p1
          have P3 := Lib.hid hp10
          have P4 := Lib.hid hb10
          have P5 := Lib.hid hrow10
          clear p1 p2 hp10 hb10 hrow10 HRF9 HR9 HP9 HB9 HROW9 k0 k1 z0 z1 y0 y1
          go_wp2_with fail
          go_roundw
          case rel => exact ⟨q + 1, c9, A9, .inr (by omega), by go_num, rfl, P5.out, P3.out, by rw [HUU.out]; exact P1.out, P4.out⟩
          case measure => simp [intOf]; omega
        · have hd2 : decide ((q : Int) < k) = false := decide_eq_false hlt2
          clear HRF
          go_wp2_with fail
          by_cases hk0 : k ≤ 0
          · obtain rfl : q = 0 := by omega
            refine (some_zero _ _ _ hk0 _).mono ?_
            rintro e w6 ⟨rfl, rfl⟩
            go_wp2_with fail
            refine (equal_true _ _ _ _ _ _ [] [] 0 _ _ Rd.nil_ (Rd.own_rd HROW.out) rfl).mono ?_
            rintro e w7 ⟨rfl, hb7⟩
            have HB7 := Lib.hid (hbr.trans (hb7.mono hbs))
            clear hbr hb7 HROW
            go_wp2_with fail
            refine (some_low _ _ _ (by omega) (by omega) (by omega) _).mono ?_
            rintro e w8 ⟨rfl, rfl⟩
            go_wp2_with fail
            go_ret
            exact ⟨rfl, HB7.out⟩
          · obtain ⟨kk, rfl⟩ := Int.eq_ofNat_of_zero_le (a := k) (by omega)
            obtain rfl : q = kk := by omega
            refine (some_any g L t 5 q (by omega) (by omega) (by omega) _ HP.out (by omega) (by omega)).mono ?_
            rintro e w6 ⟨A6, c6, rfl, hrow6, hp6, hg6⟩
            have hrd : Rd (Value.int .i64) w6 w6.heap.size A' q c' (outs L t 5 q) := Rd.own_rd (HROW.out.kept hg6 (by
              cases hv : (Value.slice A' q c').ownBlock with
              | none => exact .inl rfl
              | some j => exact .inr (fun e => by injection e with e; have := (HROW.out.lt j hv).1; omega)))
            have HRD := Lib.hid hrd
            have HR6 := Lib.hid (Rd.own_rd hrow6)
            have HB6 := Lib.hid (hbr.grown hg6 hbs (fun j hj => by cases hj; exact hwg))
            clear hrd hrow6 hp6 hg6 hbr HROW HP
            go_wp2_with fail
            refine (equal_true _ _ _ _ _ _ _ _ _ _ _ HR6.out HRD.out rfl).mono ?_
            rintro e w7 ⟨rfl, hb7⟩
            have HB7 := Lib.hid (HB6.out.trans (hb7.mono HB6.out.size))
            clear hb7 HR6 HRD HB6
            go_wp2_with fail
            refine (some_low _ _ _ (by omega) (by omega) (by omega) _).mono ?_
            rintro e w8 ⟨rfl, rfl⟩
            go_wp2_with fail
            go_ret
            exact ⟨rfl, HB7.out⟩
theorem turn_long (A A2 : Option Addr) (n n2 c c2 : Nat) (k : Int) (w : World) (hn : n ≤ 9223372036854775807) (hn2 : n2 ≤ 9223372036854775807) (h : 200 < n ∨ (n ≤ 200 ∧ 200 < n2)) :
    Calls Try.prog 8 #[.slice A n c, .slice A2 n2 c2, .int .i8 k] w fun e w' => e = .returned (.bool true) ∧ Below w.heap.size w w' := by
  rcases h with h | ⟨h0, h⟩
  · have t0 : decide ((200 : Int) < (n : Int)) = true := decide_eq_true (by omega)
    have t0' : decide (200 < n) = true := decide_eq_true (by omega)
    go_enter Try.func8, Try.ntmps8
    go_wp2_with fail
    refine (awake8_any _).mono ?_
    rintro e w1 ⟨rfl, b1⟩
    go_wp2_with fail
    go_ret
    exact ⟨rfl, b1⟩
  · have t0 : decide ((200 : Int) < (n : Int)) = false := decide_eq_false (by omega)
    have t0' : decide (200 < n) = false := decide_eq_false (by omega)
    have t1 : decide ((200 : Int) < (n2 : Int)) = true := decide_eq_true (by omega)
    have t1' : decide (200 < n2) = true := decide_eq_true (by omega)
    go_enter Try.func8, Try.ntmps8
    go_wp2_with fail
    refine (awake8_any _).mono ?_
    rintro e w1 ⟨rfl, b1⟩
    go_wp2_with fail
    go_ret
    exact ⟨rfl, b1⟩
end Go.Proofs.Ythamnebbecmegaa.Pi
