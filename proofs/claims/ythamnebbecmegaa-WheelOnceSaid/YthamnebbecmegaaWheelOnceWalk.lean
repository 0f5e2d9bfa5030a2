/- The walk of hackneylaw05.WheelOnce. -/
import Derived.Test.YthamnebbecmegaaOnceKit
namespace Go.Proofs.Ythamnebbecmegaa.Wl
open Go.ChangeShapes Go.WideShapes Go.ChangeAt Go.RowKit Go.Maps Rw Sl Sn Ck
set_option linter.unusedVariables false

theorem rem_rem (L : List (Int × Int)) (a b : List Int) : rem (rem L a) b = rem L (a ++ b) := by
  unfold rem
  rw [List.filter_filter]
  apply List.filter_congr
  intro x _
  rw [List.contains_append, Bool.not_or, Bool.and_comm]
theorem mem_rem {L : List (Int × Int)} {a : List Int} {x : Int × Int} : x ∈ rem L a ↔ x ∈ L ∧ x.1 ∉ a := by unfold rem; simp
theorem rem_left {L : List (Int × Int)} (h : Tms L) (acc : List Int) (now : Int) : left (rem L acc) now = rem L (acc ++ (due (rem L acc) now).map Prod.fst) := by
  rw [← rem_rem, rem_due (h.rem acc) now]
theorem due_nodup {L : List (Int × Int)} (h : Tms L) (now : Int) : ((due L now).map Prod.fst).Nodup := (h.filter (fun a => decide (a.2 ≤ now))).nd
theorem acc_more {L : List (Int × Int)} (h : Tms L) {acc : List Int} (hn : acc.Nodup) (now : Int) : (acc ++ (due (rem L acc) now).map Prod.fst).Nodup := by
  rw [List.nodup_append]
  refine ⟨hn, due_nodup (h.rem acc) now, fun a ha b hb e => ?_⟩
  subst e
  obtain ⟨x, hx, rfl⟩ := List.mem_map.1 hb
  exact (mem_rem.1 (mem_due.1 hx).1).2 ha
theorem rem_count {L : List (Int × Int)} (h : Tms L) : ∀ (acc : List Int), acc.Nodup → (∀ k ∈ acc, k ∈ L.map Prod.fst) → (rem L acc).length + acc.length = L.length := by
  intro acc
  induction hl : acc.length generalizing acc with
  | zero =>
    intro _ _
    obtain rfl := List.eq_nil_of_length_eq_zero hl
    rw [rem_nil]; rfl
  | succ n ih =>
    intro hn hm
    obtain ⟨l, y, rfl⟩ : ∃ l y, acc = l ++ [y] := ⟨acc.dropLast, acc.getLast (by intro e; simp [e] at hl), (List.dropLast_concat_getLast _).symm⟩
    rw [List.nodup_append] at hn
    have h1 : l.length = n := by simpa using hl
    have hy : y ∉ l := fun hm => hn.2.2 y hm y (by simp) rfl
    have h2 := ih l h1 hn.1 (fun k hk => hm k (by simp [hk]))
    rw [← rem_snoc]
    have h3 : y ∈ (rem L l).map Prod.fst := by
      obtain ⟨x, hx, rfl⟩ := List.mem_map.1 (hm y (by simp))
      exact List.mem_map.2 ⟨x, mem_rem.2 ⟨hx, hy⟩, rfl⟩
    have h4 := wo_len_has (h.rem l).nd h3
    omega
theorem own_other {w w' : World} {b n : Nat} {R : Value → Option (DataW Unit × List MemPlace)} {k : TypeId} {D : DataW Unit} {row : Option Nat} (h : w.ownsMap Try.prog k R b n D) (hg : w.grownBy w' row) (hne : some b ≠ row) : w'.ownsMap Try.prog k R b n D := h.kept hg hne
theorem arm_room {L : List (Int × Int)} {x t : Int} (h : L.length ≤ 60) : armE L x = 0 ∧ arm L x t = ins (x, cut t) (wo L x) := by
  have hf : full L x = false := decide_eq_false (by have := wo_len L x; omega)
  unfold armE arm
  rw [hf]; exact ⟨rfl, rfl⟩

set_option maxRecDepth 100000 in
set_option maxHeartbeats 8000000 in
theorem once_any (ab ao n c n2 c2 : Nat) (A A2 : Option Addr) (K T O : Nat → Int) (looks : List Int) (w : World) (hn : n ≤ 60) (hnc : n ≤ c) (hn2 : n2 ≤ 60) (hA : 0 < n → A = some ⟨ab, ao, none⟩) (hab : 0 < n → ab < w.heap.size)
    (hc : ∀ j, j < n → w.cell? ⟨ab, ao + j * 3, none⟩ = some (.int .u8 (O j)) ∧ w.cell? ⟨ab, ao + j * 3 + 1, none⟩ = some (.int .u64 (K j)) ∧ w.cell? ⟨ab, ao + j * 3 + 2, none⟩ = some (.int .u64 (T j)))
    (hK : ∀ j, j < n → (0 ≤ K j ∧ K j ≤ 18446744073709551615) ∧ (0 ≤ T j ∧ T j ≤ 18446744073709551615))
    (h2 : Rd (Value.int .u64) w w.heap.size A2 n2 c2 looks) (hu2 : ∀ y ∈ looks, 0 ≤ y ∧ y ≤ 18446744073709551615) :
    Calls Try.prog 5 #[.slice A n c, .slice A2 n2 c2] w fun e w' => e = .returned (.bool true) ∧ Below w.heap.size w w' := by
  have t0 : decide ((60 : Int) < (n : Int)) = false := decide_eq_false (by omega)
  have t0' : decide (60 < n) = false := decide_eq_false (by omega)
  have t1 : decide ((60 : Int) < (n2 : Int)) = false := decide_eq_false (by omega)
  have t1' : decide (60 < n2) = false := decide_eq_false (by omega)
  have hmm := @run_makeMap Try.prog
  have HA := Lib.hid hA
  have HAB := Lib.hid hab
  have HC := Lib.hid hc
  have HKK := Lib.hid hK
  have HR2 := Lib.hid h2
  have HU2 := Lib.hid hu2
  clear hA hab hc hK h2 hu2
  go_enter Try.func5, Try.ntmps5
  go_wp2_with fail
  refine (awake5_any _).mono ?_
  rintro e w1 ⟨rfl, b1⟩
  go_wp2_with fail
  refine (Wl.new_any _).mono ?_
  rintro e w2 ⟨rfl, hw2, hb2, hs2⟩
  obtain ⟨p, hp⟩ : ∃ p, w1.heap.size + 1 = p := ⟨_, rfl⟩
  obtain ⟨m, hm⟩ : ∃ m, w1.heap.size = m := ⟨_, rfl⟩
  rw [hp] at hw2 ⊢
  have hm' : w.heap.size ≤ m := by have := b1.size; omega
  have hw2' : Wh w2 p m [] := by rw [← hm]; exact hw2
  have b2 := b1.trans (hb2.mono b1.size)
  have I0 : Hid (m < p ∧ p < w2.heap.size ∧ w.heap.size ≤ m) := Lib.hid ⟨by omega, by omega, hm'⟩
  have HW2 := Lib.hid hw2'
  have HB2 := Lib.hid b2
  clear hw2 hp hm hs2 b1 hb2 hw2' b2 hm'
  go_wp2_with fail
  go_loopw [30] (fun i wr => ∃ (k : Nat) (L : List (Int × Int)), k ≤ n ∧ i = .int .i64 k ∧ Wh wr p m L ∧ Mw wr w2.heap.size L ∧ L.length ≤ k ∧ Below w.heap.size w wr) (fun i _ => n - (intOf i).toNat)
  case atStart => exact ⟨0, [], Nat.zero_le _, rfl, HW2.out.later ((Below.refl _ _).alloc (Nat.le_refl _) _), Mw.mk (World.ownsMap_made w2 _ _ _) Tel.nil, by simp, HB2.out.alloc HB2.out.size _⟩
  case round =>
    clear HW2
    have hM2 := HB2.out.size
    obtain ⟨M, hM⟩ : ∃ M, w2.heap.size = M := ⟨_, rfl⟩
    rw [hM] at hrel I0 hM2 ⊢
    clear HB2 hM
    obtain ⟨k, L, hk, rfl, hw, hmw, hL, hbr⟩ := hrel
    have HW := Lib.hid hw
    have HMW := Lib.hid hmw
    clear hw hmw
    by_cases hlt : k < n
    · obtain ⟨d0, d1, d2⟩ := HC.out k hlt
      have hab := HAB.out (by omega)
      obtain rfl := HA.out (by omega)
      rw [← hbr.cell (p := ⟨ab, _, none⟩) hab] at d0 d1 d2
      have hKT := HKK.out k hlt
      generalize K k = x at *
      generalize T k = t at *
      generalize O k = o at *
      have HKT := Lib.hid hKT
      have hmn := min_cut t
      clear hKT
      have hbs := hbr.size
      have hbl := hbr.alloc hbs (.cells #[.int .u8 o, .int .u64 x, .int .u64 t] 46)
      have HBL := Lib.hid hbl
      clear hbl
      go_wp2_with fail
      refine (arm_any _ p m L x t (HW.out.later ((Below.refl _ _).alloc (Nat.le_refl _) _)) HKT.out.1 HKT.out.2 (by omega)).mono ?_
      obtain ⟨ha, hb⟩ := arm_room (x := x) (t := t) (L := L) (by omega)
      rw [ha, hb]
      clear ha hb
      rintro e w3 ⟨rfl, hw3, hg3⟩
      have c1 : w3.cell? ⟨wr.heap.size, 1, none⟩ = some (.int .u64 x) := hg3.cell (by go_simp) (by have := HW.out.lt.2; intro e; injection e with e; simp only at e; omega)
      have c2 : w3.cell? ⟨wr.heap.size, 2, none⟩ = some (.int .u64 t) := hg3.cell (by go_simp) (by have := HW.out.lt.2; intro e; injection e with e; simp only at e; omega)
      have hmw3 : Mw w3 M L := (HMW.out.kept (World.grownBy_alloc wr _ none) (by simp)).kept hg3 (by have := I0.out; intro e; injection e with e; omega)
      have HB3 := Lib.hid (HBL.out.grown hg3 (by simp; omega) (fun j hj => by cases hj; exact I0.out.2.2))
      obtain ⟨D, ho, ht⟩ := hmw3
      have HT := Lib.hid ht
      have HW3 := Lib.hid hw3
      have htms := HW.out.tms
      have HTM := Lib.hid htms
      clear ht hw3 hg3 hbr HBL HW HMW htms
      go_wp2_with (
        at_mapUpdate
        refine wpList_mapUpdate_own _ rfl _ _ _ 63 rfl 31 31 law Try.underlying63 (plainElem Try.prog 31) M L.length D rfl ho (by unfold maxLen; omega) _ _ _ rfl rfl (key64 HKT.out.1) (.lit (.int .u64 (cut t))) [] (plainElem_int Try.underlying31 (wf64 (by have := cut_ok HKT.out.2.1; omega))) ?_
        intro w4 ho4 hg4
        have HO4 := Lib.hid ho4
        have HG4 := Lib.hid hg4
        clear ho4 hg4)
      have hmw4 : Mw w4 M (ins (x, cut t) (wo L x)) := Mw.mk HO4.out (HT.out.put HTM.out (ho.tidy law) x (cut t))
      have HMW4 := Lib.hid hmw4
      have HW4 := Lib.hid (HW3.out.kept HG4.out (by have := I0.out; intro e; injection e with e; omega) (by have := I0.out; intro e; injection e with e; omega))
      have HB4 := Lib.hid (HB3.out.grown HG4.out HB3.out.size (fun j hj => by cases hj; exact hM2))
      clear hmw4 ho HO4 HG4 HB3 HW3 c1 c2
      go_roundw
      case rel => exact ⟨k + 1, _, by omega, by go_num, HW4.out, HMW4.out, by rw [ins_len]; have := wo_len L x; omega, HB4.out⟩
      case measure => simp [intOf]; omega
    · obtain rfl : k = n := by omega
      have hML := HMW.out.lt
      obtain ⟨sB, hsB⟩ : ∃ sB, wr.heap.size = sB := ⟨_, rfl⟩
      have I1 : Hid (m < p ∧ p < M ∧ M < sB ∧ w.heap.size ≤ m) := Lib.hid ⟨I0.out.1, I0.out.2.1, by omega, I0.out.2.2⟩
      have htms := HW.out.tms
      have HTM := Lib.hid htms
      have HBR := Lib.hid hbr
      have HSB := Lib.hid hsB
      clear I0 hlt hk hbr htms hML hsB
      go_wp2_with fail
      rw [HSB.out]
      go_loopw [51] (fun i wr2 => ∃ (r : Nat) (acc : List Int), r ≤ n2 ∧ i = .int .i64 r ∧ acc.Nodup ∧ (∀ k ∈ acc, k ∈ L.map Prod.fst) ∧ Wh wr2 p m (rem L acc) ∧ Mw wr2 M L ∧
        wr2.ownsMap Try.prog 31 (plainElem Try.prog 4) sB acc.length (Mp.setD .u64 acc) ∧ Below w.heap.size w wr2) (fun i _ => n2 - (intOf i).toNat)
      case atStart =>
        refine ⟨0, [], Nat.zero_le _, rfl, List.nodup_nil, fun k h => (by cases h), by rw [rem_nil]; exact HW.out.later ((Below.refl _ _).alloc (Nat.le_refl _) _), HMW.out.kept (World.grownBy_alloc wr _ none) (by simp), ?_, HBR.out.alloc HBR.out.size _⟩
        rw [← HSB.out]
        exact World.ownsMap_made wr _ _ _
      case round =>
        clear HW HMW HBR HSB
        obtain ⟨r, acc, hr, rfl, hnd, hsub, hw, hmw, hset, hbr⟩ := hrel
        have hcnt := rem_count HTM.out acc hnd hsub
        have HND := Lib.hid hnd
        have HSUB := Lib.hid hsub
        have HW := Lib.hid hw
        have HMW := Lib.hid hmw
        have HSET := Lib.hid hset
        have hsl := hset.lt
        have hbs := hbr.size
        clear hnd hsub hw hmw hset
        by_cases hlt : r < n2
        · obtain ⟨b, o, now, rfl, hb, hy, hcy⟩ := HR2.out.get hlt
          have hcell : wr.cell? ⟨b, o + r, none⟩ = some (.int .u64 now) := (hbr.cell (p := ⟨b, o + r, none⟩) hb).trans hcy
          have hnow := HU2.out now (List.mem_of_getElem? hy)
          have HNOW := Lib.hid hnow
          clear hcy hy hnow
          go_wp2_with fail
          refine (due_any _ p m (rem L acc) now HW.out HNOW.out (by omega)).mono ?_
          rintro e w3 ⟨A3, c3, rfl, hrow3, hw3, hg3⟩
          obtain ⟨ks, hks⟩ : ∃ ks, (due (rem L acc) now).map Prod.fst = ks := ⟨_, rfl⟩
          have hkl : (due (rem L acc) now).length = ks.length := by rw [← hks]; simp
          rw [hks, hkl] at hrow3
          rw [hkl]
          have hmemk : ∀ x, x ∈ ks → ∃ t, (x, t) ∈ L ∧ t ≤ now ∧ x ∉ acc := by
            intro x hx
            rw [← hks] at hx
            obtain ⟨a, ha, rfl⟩ := List.mem_map.1 hx
            obtain ⟨h1, h2⟩ := mem_due.1 ha
            obtain ⟨h3, h4⟩ := mem_rem.1 h1
            exact ⟨a.2, h3, h2, h4⟩
          have hmemr : ∀ x t, (x, t) ∈ L → t ≤ now → x ∈ acc ++ ks := by
            intro x t hx ht
            by_cases hxa : x ∈ acc
            · exact List.mem_append.2 (.inl hxa)
            · refine List.mem_append.2 (.inr ?_)
              rw [← hks]
              exact List.mem_map.2 ⟨(x, t), mem_due.2 ⟨mem_rem.2 ⟨hx, hxa⟩, ht⟩, rfl⟩
          have hknd : ks.Nodup := by rw [← hks]; exact due_nodup (HTM.out.rem acc) now
          have hnd2 : (acc ++ ks).Nodup := by rw [← hks]; exact acc_more HTM.out HND.out now
          have hlf : left (rem L acc) now = rem L (acc ++ ks) := by rw [← hks]; exact rem_left HTM.out acc now
          rw [hlf] at hw3
          have hsub2 : ∀ k ∈ acc ++ ks, k ∈ L.map Prod.fst := by
            intro k hk
            rcases List.mem_append.1 hk with h | h
            · exact HSUB.out k h
            · obtain ⟨t, h1, _⟩ := hmemk k h
              exact List.mem_map.2 ⟨(k, t), h1, rfl⟩
          have hcnt2 := rem_count HTM.out (acc ++ ks) hnd2 hsub2
          have hl2 : acc.length + ks.length ≤ 60 := by simp at hcnt2; omega
          have HMK := Lib.hid hmemk
          have HMR := Lib.hid hmemr
          have HKND := Lib.hid hknd
          have HND2 := Lib.hid hnd2
          have HSUB2 := Lib.hid hsub2
          have HW3 := Lib.hid hw3
          have HROW3 := Lib.hid hrow3
          have HMW3 := Lib.hid (HMW.out.kept hg3 (by have := I1.out; intro e; injection e with e; omega))
          have HSET3 := Lib.hid (own_other HSET.out hg3 (by have := I1.out; intro e; injection e with e; omega))
          have HB3 := Lib.hid (hbr.grown hg3 hbs (fun j hj => by cases hj; exact I1.out.2.2.2))
          obtain ⟨bs, hbse⟩ : ∃ bs, wr.heap.size = bs := ⟨_, rfl⟩
          rw [hbse] at HROW3
          have hsbs : sB < bs := by omega
          clear hrow3 hw3 hg3 hks hkl hmemk hmemr hknd hnd2 hlf hsub2 hcnt2 HND HSUB HW HMW HSET hbr hbs hsl hcell hcnt hbse
          go_wp2_with fail
          go_loopw [59] (fun i wr3 => ∃ q : Nat, q ≤ ks.length ∧ i = .int .i64 q ∧ Wh wr3 p m (rem L (acc ++ ks)) ∧ Mw wr3 M L ∧
            wr3.ownsMap Try.prog 31 (plainElem Try.prog 4) sB (acc.length + q) (Mp.setD .u64 (acc ++ ks.take q)) ∧ wr3.ownsRow bs 31 1 (.slice A3 ks.length c3) ks.length (ks.map (Value.int .u64)) ∧ Below w.heap.size w wr3) (fun i _ => ks.length - (intOf i).toNat)
          case atStart => exact ⟨0, Nat.zero_le _, rfl, HW3.out, HMW3.out, by simpa using HSET3.out, HROW3.out, HB3.out⟩
          case round =>
            clear HW3 HMW3 HSET3 HROW3 HB3
            obtain ⟨q, hq, rfl, hw, hmw, hset, hrow, hbr⟩ := hrel
            have HW := Lib.hid hw
            have HMW := Lib.hid hmw
            have HSET := Lib.hid hset
            have HROW := Lib.hid hrow
            have hbs := hbr.size
            clear hw hmw hset hrow
            by_cases hlq : q < ks.length
            · have hrd : Rd (Value.int .u64) wr wr.heap.size A3 ks.length c3 ks := Rd.own_rd HROW.out
              obtain ⟨b, o, x, rfl, hb, hx, hcx⟩ := hrd.get hlq
              have hcap := hrd.cap
              obtain ⟨t, hxt, htn, hxa⟩ := HMK.out x (List.mem_of_getElem? hx)
              have hxq : x ∉ ks.take q := by
                intro h
                obtain ⟨j, hj⟩ := List.mem_iff_getElem?.1 h
                have hjq : j < q := by
                  have := (List.getElem?_eq_some_iff.1 hj).1
                  simp at this; omega
                rw [List.getElem?_take_of_lt hjq] at hj
                have := (List.getElem?_inj (by have := (List.getElem?_eq_some_iff.1 hx).1; omega) HKND.out).1 (hj.trans hx.symm)
                omega
              have hno : decide (x ∈ acc ++ ks.take q) = false := decide_eq_false (by rw [List.mem_append]; rintro (h | h); exact hxa h; exact hxq h)
              have hxo := HTM.out.ok _ hxt
              have hx64 : 0 ≤ x ∧ x ≤ 18446744073709551615 := ⟨hxo.1, hxo.2.1⟩
              have e1 : (Instr.lookup 64 (.map (some sB)) (.int .u64 x) false).run Try.prog wr = .ok (.bool false) wr := (set_run hx64 HSET.out).trans (by rw [hno])
              have e2 : (Instr.lookup 63 (.map (some M)) (.int .u64 x) false).run Try.prog wr = .ok (.int .u64 t) wr := by rw [← tick_hit HTM.out hxt]; exact look_tick hx64 HMW.out HTM.out
              have hd : decide (now < t) = false := decide_eq_false (by omega)
              have htk : ks.take (q + 1) = ks.take q ++ [x] := by rw [List.take_add_one, hx]; rfl
              have HTK := Lib.hid htk
              have HX64 := Lib.hid hx64
              clear hrd hx hxt htn hxa hxq hno hxo htk hx64
              go_wp2_with (
                at_mapUpdate
                refine Mp.update_set _ rfl _ _ _ 64 rfl 31 4 .u64 Try.underlying31 Try.underlying64 Try.underlying4 sB (acc.length + q) (acc ++ ks.take q) rfl HSET.out (by unfold maxLen; omega) x rfl rfl (wf64 HX64.out) ?_
                intro w4 hset4 hg4
                have HSET4 := Lib.hid hset4
                have HG4 := Lib.hid hg4
                clear hset4 hg4)
              have I := I1.out
              have hrow4 := HROW.out.kept HG4.out (by
                cases hv : (Value.slice (some ⟨b, o, none⟩) ks.length c3).ownBlock with
                | none => exact .inl rfl
                | some j => exact .inr (fun e => by injection e with e; have := (HROW.out.lt j hv).1; omega))
              have HROW4 := Lib.hid hrow4
              have HW4 := Lib.hid (HW.out.kept HG4.out (by intro e; injection e with e; omega) (by intro e; injection e with e; omega))
              have HMW4 := Lib.hid (HMW.out.kept HG4.out (by intro e; injection e with e; omega))
              have HB4 := Lib.hid (hbr.grown HG4.out hbs (fun j hj => by cases hj; omega))
              clear hrow4 HW HMW HSET HROW hbr hbs HG4 e1 e2 hcx
              go_roundw
              case rel => exact ⟨q + 1, by omega, by go_num, HW4.out, HMW4.out, by rw [HTK.out, ← List.append_assoc]; exact HSET4.out, HROW4.out, HB4.out⟩
              case measure => simp [intOf]; omega
            · obtain rfl : q = ks.length := by omega
              obtain ⟨D, ho, ht⟩ := HMW.out
              have HT := Lib.hid ht
              have hset5 := HSET.out
              rw [List.take_of_length_le (Nat.le_refl _)] at hset5
              have HSET5 := Lib.hid hset5
              have HBR := Lib.hid hbr
              have hsb5 := hset5.lt
              clear ht hset5 HSET HROW hq hlq
              go_wp2_with (at_range; refine wpList_range_own _ rfl _ 63 rfl 31 31 law Try.underlying63 _ M L.length D rfl ho ?_; intro w0 hrg0 hg0 hs0)
              go_frame
              obtain ⟨it, hit⟩ : ∃ it, wr.heap.size = it := ⟨_, rfl⟩
              rw [hit] at hrg0
              have I := I1.out
              have hits : sB < it ∧ M < it ∧ w.heap.size ≤ it := ⟨by omega, by have := HMW.out.lt; omega, by omega⟩
              have HW0 := Lib.hid (HW.out.kept hg0 (by simp) (by simp))
              have HMW0 := Lib.hid (HMW.out.kept hg0 (by simp))
              have HSET0 := Lib.hid (own_other HSET5.out hg0 (by simp))
              have HB0 := Lib.hid (HBR.out.grown hg0 hbs (fun j hj => by cases hj))
              have hs00 := hg0.size
              clear HW HMW HSET5 HBR hbr hbs hg0 hs0 hsb5 ho
              try rw [hit]
              clear hit
              go_loopw [14] (fun v wr4 => ∃ (left : Lit → Bool) (cnt : Nat), wr4.ranges Try.prog 31 (plainElem Try.prog 31) M it L.length D left cnt ∧ w0.grownBy wr4 (some it)) (fun _ wr4 => wr4.rangeLeft M it)
              case atStart => exact ⟨_, _, hrg0, World.grownBy.refl _ _⟩
              case round =>
                clear hrg0
                obtain ⟨left, cnt, hrg, hgw⟩ := hrel
                go_wp2_with (at_next; refine wpList_next_ranges_ii _ rfl _ rfl 31 31 .u64 .u64 law Try.underlying31 Try.underlying31 M it L.length _ _ _ rfl hrg ?_ ?_)
                · intro _ hl0
                  have hw9 := HW0.out.kept hgw (by intro e; injection e with e; omega) (by intro e; injection e with e; omega)
                  have hmw9 := HMW0.out.kept hgw (by intro e; injection e with e; omega)
                  have hset9 := own_other HSET0.out hgw (by intro e; injection e with e; omega)
                  have hb9 := HB0.out.grown hgw HB0.out.size (fun j hj => by cases hj; exact hits.2.2)
                  have HW9 := Lib.hid hw9
                  have HMW9 := Lib.hid hmw9
                  have HSET9 := Lib.hid hset9
                  have HB9 := Lib.hid hb9
                  clear hw9 hmw9 hset9 hb9 hrg hgw HW0 HMW0 HSET0 HB0
                  go_wp2
                  go_roundw
                  case rel => exact ⟨r + 1, acc ++ ks, by omega, by go_num, HND2.out, HSUB2.out, HW9.out, HMW9.out, by rw [List.length_append]; exact HSET9.out, HB9.out⟩
                  case measure => simp [intOf]; omega
                · intro y c w1 cnt1 hwx hwc hlx hat hrg1 hltm hg1 hs1 hen
                  have hm := HT.out.of_at HTM.out hat
                  have hgw1 : w0.grownBy w1 (some it) := hgw.trans hg1
                  have hyo := HTM.out.ok _ hm
                  have hset9 := own_other HSET0.out hgw1 (by intro e; injection e with e; omega)
                  have e3 := set_run (y := y) ⟨hyo.1, hyo.2.1⟩ hset9
                  have hrl := hrg1.left_eq
                  have hrl0 := hrg.left_eq
                  have HRG1 := Lib.hid hrg1
                  have HGW1 := Lib.hid hgw1
                  have HRL := Lib.hid hrl
                  have HRL0 := Lib.hid hrl0
                  have HLT := Lib.hid hltm
                  by_cases hcn : c ≤ now
                  · have hin : decide (y ∈ acc ++ ks) = true := decide_eq_true (HMR.out y c hm hcn)
                    rw [hin] at e3
                    have hcd : decide (c ≤ now) = true := decide_eq_true hcn
                    clear hset9 hin hyo hm hat hrg1 hgw1 hrl hrl0 hltm hg1 hs1 hrg hgw hwx hwc hlx
                    go_wp2
                    go_roundw
                    case rel => exact ⟨_, cnt1, HRG1.out, HGW1.out⟩
                    case measure => rw [HRL.out, HRL0.out]; exact HLT.out
                  · have hcd : decide (c ≤ now) = false := decide_eq_false hcn
                    clear hset9 e3 hyo hm hat hrg1 hgw1 hrl hrl0 hltm hg1 hs1 hrg hgw hwx hwc hlx
                    go_wp2
                    go_roundw
                    case rel => exact ⟨_, cnt1, HRG1.out, HGW1.out⟩
                    case measure => rw [HRL.out, HRL0.out]; exact HLT.out
        · obtain rfl : r = n2 := by omega
          obtain ⟨D, ho, ht⟩ := HMW.out
          have hs1 := ht.size
          have hs2 := setD_size acc HND.out
          have hfin : (((rem L acc).length : Int) == (L.length : Int) - (acc.length : Int)) = true := by simp; omega
          have HSZ1 := Lib.hid hs1
          have HCN := Lib.hid hcnt
          have HSZ2 := Lib.hid hs2
          have HBR := Lib.hid hbr
          clear hs1 hs2 ht hbr hcnt hlt hr
          go_wp2_with fail
          refine (len_any _ p m (rem L acc) HW.out).mono ?_
          rintro e w9 ⟨rfl, rfl⟩
          go_wp2_with (first
            | (at_len; refine wpList_len_own _ rfl _ 63 rfl 31 31 Try.underlying63 _ M L.length D rfl ho ?_; rw [HSZ1.out])
            | (at_len; refine wpList_len_own _ rfl _ 64 rfl 31 4 Try.underlying64 _ sB acc.length (Mp.setD .u64 acc) rfl HSET.out ?_; rw [HSZ2.out]))
          go_ret
          refine ⟨?_, HBR.out⟩
          have hcc := HCN.out
          have hwr : wrap64 ((L.length : Int) - (acc.length : Int)) = (L.length : Int) - (acc.length : Int) := by unfold wrap64; omega
          simp only [hwr]
          simp
          omega
theorem once_long (A A2 : Option Addr) (n n2 c c2 : Nat) (w : World) (hn : n ≤ 9223372036854775807) (hn2 : n2 ≤ 9223372036854775807) (h : 60 < n ∨ (n ≤ 60 ∧ 60 < n2)) :
    Calls Try.prog 5 #[.slice A n c, .slice A2 n2 c2] w fun e w' => e = .returned (.bool true) ∧ Below w.heap.size w w' := by
  rcases h with h | ⟨h0, h⟩
  · have t0 : decide ((60 : Int) < (n : Int)) = true := decide_eq_true (by omega)
    have t0' : decide (60 < n) = true := decide_eq_true (by omega)
    go_enter Try.func5, Try.ntmps5
    go_wp2_with fail
    refine (awake5_any _).mono ?_
    rintro e w1 ⟨rfl, b1⟩
    go_wp2_with fail
    go_ret
    exact ⟨rfl, b1⟩
  · have t0 : decide ((60 : Int) < (n : Int)) = false := decide_eq_false (by omega)
    have t0' : decide (60 < n) = false := decide_eq_false (by omega)
    have t1 : decide ((60 : Int) < (n2 : Int)) = true := decide_eq_true (by omega)
    have t1' : decide (60 < n2) = true := decide_eq_true (by omega)
    go_enter Try.func5, Try.ntmps5
    go_wp2_with fail
    refine (awake5_any _).mono ?_
    rintro e w1 ⟨rfl, b1⟩
    go_wp2_with fail
    go_ret
    exact ⟨rfl, b1⟩
end Go.Proofs.Ythamnebbecmegaa.Wl
