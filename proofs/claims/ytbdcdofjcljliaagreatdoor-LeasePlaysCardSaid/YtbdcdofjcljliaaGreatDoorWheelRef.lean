/- The document's answer of layer 5. -/
import Derived.Test.YtbdcdofjcljliaaGreatDoorBase2
import Derived.Test.YtbdcdofjcljliaaGreatDoorBase1
namespace Go.Proofs.YtbdcdofjcljliaaGreatDoor.Wl
open Go.ChangeShapes Go.WideShapes Go.ChangeAt Go.RowKit Go.Maps Rw Sl Sn Ck
set_option linter.unusedVariables false

def enc2 (a : Int × Int) : List Value := [.int .u64 a.1, .int .u64 a.2]
theorem enc2_len (a : Int × Int) : (enc2 a).length = 2 := rfl
theorem enc2_one (y : Int × Int) : ∀ u ∈ enc2 y, u.oneCell' = true := by intro u hu; simp [enc2] at hu; rcases hu with rfl | rfl <;> rfl
theorem info_timer : (Tryz.prog.info? 96).map (fun i => (i.zero, i.size, i.bytes)) = some (some (.agg #[.int .u64 0, .int .u64 0]), 2, 16) := by kernel_rfl
abbrev Tr (w : World) (B : Nat) (A : Option Addr) (n c : Nat) (l : List (Int × Int)) : Prop := Rs enc2 2 w B A n c l
theorem Rs.two {w : World} {B : Nat} {A : Option Addr} {n c : Nat} {l : List (Int × Int)} (h : Tr w B A n c l) {k : Nat} (hk : k < n) :
    ∃ b o x, A = some ⟨b, o, none⟩ ∧ b < B ∧ l[k]? = some x ∧ w.cell? ⟨b, o + k * 2, none⟩ = some (.int .u64 x.1) ∧ w.cell? ⟨b, o + k * 2 + 1, none⟩ = some (.int .u64 x.2) := by
  obtain ⟨b, o, x, hA, hb, hx, hc⟩ := h.get hk
  exact ⟨b, o, x, hA, hb, hx, by simpa using hc 0 (.int .u64 x.1) (by omega) rfl, hc 1 (.int .u64 x.2) (by omega) rfl⟩
theorem wo_snoc_hit {l : List (Int × Int)} {k : Nat} {a : Int × Int} {key : Int} (h : l[k]? = some a) (he : a.1 = key) : wo (l.take (k + 1)) key = wo (l.take k) key := by
  rw [List.take_add_one, h]; simp [wo, he]
theorem wo_snoc_miss {l : List (Int × Int)} {k : Nat} {a : Int × Int} {key : Int} (h : l[k]? = some a) (he : a.1 ≠ key) : wo (l.take (k + 1)) key = wo (l.take k) key ++ [a] := by
  rw [List.take_add_one, h]; simp [wo, he]
theorem key_snoc {l : List (Int × Int)} {k : Nat} {a : Int × Int} {key : Int} (h : l[k]? = some a) : decide (key ∈ (l.take (k + 1)).map Prod.fst) = (decide (key ∈ (l.take k).map Prod.fst) || decide (a.1 = key)) := by
  rw [List.take_add_one, h, Bool.eq_iff_iff, Bool.or_eq_true, decide_eq_true_eq, decide_eq_true_eq, decide_eq_true_eq]
  simp
  constructor
  · rintro (h | h)
    · exact .inl h
    · exact .inr h.symm
  · rintro (h | h)
    · exact .inl h
    · exact .inr h.symm

set_option maxRecDepth 100000 in
set_option maxHeartbeats 2000000 in
theorem twithout_any (A : Option Addr) (n c B : Nat) (l : List (Int × Int)) (key : Int) (w : World) (h : Tr w B A n c l) (hB : B ≤ w.heap.size) (hn : n ≤ 100000) :
    Calls Tryz.prog 30 #[.slice A n c, .int .u64 key] w fun e w' => ∃ A' c', e = .returned (.tuple #[.slice A' (wo l key).length c', .bool (decide (key ∈ l.map Prod.fst))]) ∧
      w'.ownsRow w.heap.size 96 2 (.slice A' (wo l key).length c') (wo l key).length (flat enc2 (wo l key)) ∧ Below w.heap.size w w' := by
  obtain ⟨i0, hi, hz0, hz1, hz2⟩ := info_parts info_timer
  have HR := Lib.hid h
  have HLEN := Lib.hid h.len
  clear h
  go_enter Tryz.func30, Tryz.ntmps30
  go_wp2_with fail
  go_loopw [6, 7, 12] (fun v b i wr => ∃ (k q c' : Nat) (A' : Option Addr), k ≤ n ∧ i = .int .i64 k ∧ b = .bool (decide (key ∈ (l.take k).map Prod.fst)) ∧ v = .slice A' q c' ∧ q ≤ k ∧ q = (wo (l.take k) key).length ∧
      wr.ownsRow w.heap.size 96 2 (.slice A' q c') q (flat enc2 (wo (l.take k) key)) ∧ Below w.heap.size w wr) (fun _ _ i _ => n - (intOf i).toNat)
  case atStart => exact ⟨0, 0, 0, none, Nat.zero_le _, rfl, rfl, rfl, Nat.zero_le _, rfl, World.ownsRow_nil _ _ _ _, Below.refl _ _⟩
  case round =>
    obtain ⟨k, q, c', A', hk, rfl, rfl, rfl, hqk, hql, hrow, hbr⟩ := hrel
    have HROW := Lib.hid hrow
    have HQL := Lib.hid hql
    clear hrow hql
    by_cases hlt : k < n
    · obtain ⟨b, o, a, rfl, hb, ha, hc0, hc1⟩ := Rs.two HR.out hlt
      have d0 : wr.cell? ⟨b, o + k * 2, none⟩ = some (.int .u64 a.1) := (hbr.cell (p := ⟨b, o + k * 2, none⟩) (by simp only; omega)).trans hc0
      have d1 : wr.cell? ⟨b, o + k * 2 + 1, none⟩ = some (.int .u64 a.2) := (hbr.cell (p := ⟨b, o + k * 2 + 1, none⟩) (by simp only; omega)).trans hc1
      have HAA := Lib.hid ha
      have hbs := hbr.size
      obtain ⟨x, y⟩ := a
      simp only at d0 d1
      clear hc0 hc1 ha
      by_cases hx : x = key
      · have e1 : (x == key) = true := by simpa using hx
        have ek := key_snoc (key := key) HAA.out
        have ew := wo_snoc_hit (key := key) HAA.out hx
        have EK := Lib.hid ek
        have EW := Lib.hid ew
        have HX := Lib.hid hx
        have HB2 := Lib.hid (hbr.alloc hbs (.cells #[.int .u64 x, .int .u64 y] 96))
        clear ek ew hx hbr
        go_wp2_with fail
        go_roundw
        case rel =>
          refine ⟨k + 1, q, c', A', by omega, by go_num, ?_, rfl, by omega, by rw [EW.out]; exact HQL.out, by rw [EW.out]; exact HROW.out.alloc _, HB2.out⟩
          rw [EK.out]
          simp [HX.out]
        case measure => simp [intOf]; omega
      · have e1 : (x == key) = false := by simpa using hx
        have ek := key_snoc (key := key) HAA.out
        have ew := wo_snoc_miss (key := key) HAA.out hx
        have EK := Lib.hid ek
        have EW := Lib.hid ew
        have HX := Lib.hid hx
        have hb2 := hbr.alloc hbs (.cells #[.int .u64 x, .int .u64 y] 96)
        have HB2 := Lib.hid (hb2.alloc (by simp; omega) (.cells #[.int .u64 x, .int .u64 y] 96))
        have hrs : Tr ((wr.alloc (.cells #[.int .u64 x, .int .u64 y] 96)).alloc (.cells #[.int .u64 x, .int .u64 y] 96)) (wr.heap.size + 1 + 1) (some ⟨wr.heap.size + 1, 0, none⟩) 1 1 [(x, y)] := by
          have := rs_one enc2_len (wr.alloc (.cells #[.int .u64 x, .int .u64 y] 96)) (x, y) 96 (cs := #[.int .u64 x, .int .u64 y]) rfl
          simpa using this
        have HRS := Lib.hid hrs
        have hmp : flat enc2 (wo (l.take k) key) ++ flat enc2 [(x, y)] = flat enc2 (wo (l.take (k + 1)) key) := by rw [EW.out, flat_append]
        have HMP := Lib.hid hmp
        have HROW2 := Lib.hid ((HROW.out.alloc (.cells #[.int .u64 x, .int .u64 y] 96)).alloc (.cells #[.int .u64 x, .int .u64 y] 96))
        clear ek ew hx hbr hb2 hrs hmp
        go_wp2_with (
          at_builtin
          refine append_rs enc2_len rfl _ _ 29 rfl w.heap.size 96 i0 _ 16 Tryz.underlying29 hi hz0 hz1 hz2 rfl (by decide) _ q _ rfl HROW2.out _ _ 1 1 [(x, y)] rfl HRS.out enc2_one (q + 1) rfl _ HMP.out (by unfold maxLen; omega) (by omega) (by simp; omega) ?_
          intro A3 c3 w3 hrow3 hg3 hat3
          have HROW3 := Lib.hid hrow3
          have HB3 := Lib.hid (HB2.out.grown hg3 (by simp; omega) (fun j hj => (HROW2.out.lt j hj).1))
          clear hrow3 hg3 hat3)
        go_roundw
        case rel =>
          refine ⟨k + 1, q + 1, c3, A3, by omega, by go_num, ?_, rfl, by omega, by rw [EW.out, List.length_append, ← HQL.out]; rfl, HROW3.out, HB3.out⟩
          rw [EK.out]
          simp [HX.out]
        case measure => simp [intOf]; omega
    · obtain rfl : k = n := by omega
      have ht : l.take k = l := List.take_of_length_le (by have := HLEN.out; omega)
      have hrow := HROW.out
      have hql := HQL.out
      rw [ht] at hrow hql ⊢
      subst hql
      have HROW2 := Lib.hid hrow
      clear hrow HROW HQL ht
      go_wp2_with fail
      go_ret2
      exact ⟨A', c', rfl, HROW2.out, hbr⟩
/-- A slice as it can be made: nil, or at an address that is no spot. -/
def Fm (A : Option Addr) (c : Nat) : Prop := (A = none ∧ c = 0) ∨ ∃ b o, A = some ⟨b, o, none⟩
theorem own_fm {w : World} {base : Nat} {e : TypeId} {size n : Nat} {A : Option Addr} {c : Nat} {xs : List Value} (h : w.ownsRow base e size (.slice A n c) n xs) : Fm A c := by
  rcases h.2 with ⟨h1, _⟩ | ⟨g, cap, cur, h1, _⟩
  · injection h1 with h1 _ h2; exact .inl ⟨h1, h2⟩
  · injection h1 with h1 _ h2; exact .inr ⟨g, 0, h1⟩
theorem own_len {w : World} {base : Nat} {e : TypeId} {A : Option Addr} {c n n' : Nat} {xs xs' : List Int} (h : w.ownsRow base e 1 (.slice A n c) n (xs.map (Value.int .u64))) (hn : n = n') (hx : xs = xs') : w.ownsRow base e 1 (.slice A n' c) n' (xs'.map (Value.int .u64)) := by subst hn hx; exact h
set_option maxRecDepth 100000 in
set_option maxHeartbeats 2000000 in
theorem tdue_any (A : Option Addr) (n c B : Nat) (l : List (Int × Int)) (now : Int) (w : World) (h : Tr w B A n c l) (hA : Fm A c) (hB : B ≤ w.heap.size) (hn : n ≤ 100000) (tms : Tms l) :
    Calls Tryz.prog 31 #[.slice A n c, .int .u64 now] w fun e w' => ∃ A1 n1 c1 A2 n2 c2, e = .returned (.tuple #[.slice A1 n1 c1, .slice A2 n2 c2]) ∧ Tr w' B A1 n1 c1 (left l now) ∧ Fm A1 c1 ∧
      w'.ownsRow w.heap.size 22 1 (.slice A2 n2 c2) n2 (((due l now).map Prod.fst).map (Value.int .u64)) ∧ Below w.heap.size w w' := by
  obtain ⟨i0, hi, hz0, hz1, hz2⟩ := info_parts info_u64
  have HR := Lib.hid h
  have HT := Lib.hid tms
  have HLEN := Lib.hid h.len
  have hnc := h.cap
  have htop := h.top
  clear h tms
  go_enter Tryz.func31, Tryz.ntmps31
  go_wp2_with fail
  go_loopw [6, 7] (fun v i wr => ∃ (k c' : Nat) (A' : Option Addr), k ≤ n ∧ i = .int .i64 k ∧ v = .slice A' k c' ∧ (∀ j x, j < k → l[j]? = some x → x.2 ≤ now) ∧
      wr.ownsRow w.heap.size 22 1 (.slice A' k c') k (((l.take k).map Prod.fst).map (Value.int .u64)) ∧ Below w.heap.size w wr) (fun _ i _ => n - (intOf i).toNat)
  case atStart => exact ⟨0, 0, none, Nat.zero_le _, rfl, rfl, fun j x h => absurd h (by omega), World.ownsRow_nil _ _ _ _, Below.refl _ _⟩
  case round =>
    obtain ⟨k, c', A', hk, rfl, rfl, hall, hrow, hbr⟩ := hrel
    have HROW := Lib.hid hrow
    have HALL := Lib.hid hall
    clear hrow hall
    by_cases hlt : k < n
    · obtain ⟨b, o, a, rfl, hb, ha, hc0, hc1⟩ := Rs.two HR.out hlt
      have d0 : wr.cell? ⟨b, o + k * 2, none⟩ = some (.int .u64 a.1) := (hbr.cell (p := ⟨b, o + k * 2, none⟩) (by simp only; omega)).trans hc0
      have d1 : wr.cell? ⟨b, o + k * 2 + 1, none⟩ = some (.int .u64 a.2) := (hbr.cell (p := ⟨b, o + k * 2 + 1, none⟩) (by simp only; omega)).trans hc1
      have HAA := Lib.hid ha
      have hbs := hbr.size
      obtain ⟨x, y⟩ := a
      simp only at d0 d1
      clear hc0 hc1 ha
      by_cases hy : y ≤ now
      · have hd : decide (y ≤ now) = true := decide_eq_true hy
        have hrd : Rd (Value.int .u64) (wr.alloc (.cells #[.int .u64 x] 22)) (wr.heap.size + 1) (some ⟨wr.heap.size, 0, none⟩) 1 1 [x] := rd_one wr x 22
        have HRD := Lib.hid hrd
        have htk : l.take (k + 1) = l.take k ++ [(x, y)] := by rw [List.take_add_one, HAA.out]; rfl
        have hmp : ((l.take k).map Prod.fst).map (Value.int .u64) ++ [x].map (Value.int .u64) = ((l.take (k + 1)).map Prod.fst).map (Value.int .u64) := by rw [htk]; simp
        have HMP := Lib.hid hmp
        have HY := Lib.hid hy
        clear hrd hmp hy htk
        go_wp2_with (
          at_builtin
          refine append_rd _ rfl _ _ 28 rfl w.heap.size 22 i0 (.int .u64 0) 8 Tryz.underlying28 hi hz0 hz1 hz2 rfl _ k _ rfl (HROW.out.alloc _) _ _ 1 1 [x] rfl HRD.out one_u64 (k + 1) rfl _ HMP.out (by unfold maxLen; omega) (by omega) (by simp; omega) ?_
          intro A3 c3 w3 hrow3 hg3 hat3
          have HROW3 := Lib.hid hrow3
          have HB3 := Lib.hid ((hbr.alloc hbs _).grown hg3 (by simp; omega) (fun j hj => (HROW.out.lt j hj).1))
          clear hrow3 hg3 hat3)
        go_roundw
        case rel =>
          refine ⟨k + 1, c3, A3, by omega, by go_num, rfl, fun j z hj hz => ?_, HROW3.out, HB3.out⟩
          rcases Nat.lt_or_ge j k with h | h
          · exact HALL.out j z h hz
          · obtain rfl : j = k := by omega
            have := HAA.out.symm.trans hz
            injection this with this
            subst this
            exact HY.out
        case measure => simp [intOf]; omega
      · have hd : decide (y ≤ now) = false := decide_eq_false hy
        obtain ⟨hdue, hleft⟩ := HT.out.due_at HALL.out (fun z hz => by have := HAA.out.symm.trans hz; injection this with this; subst this; omega)
        have hck : k < c := by omega
        have hcn : ¬ c = k := by omega
        have HB2 := Lib.hid hbr
        have hts : Tr wr B (some ⟨b, o + k * 2, none⟩) (n - k) (c - k) (left l now) := by rw [hleft]; exact (HR.out.below (hbr.mono hB)).back (by omega) rfl (fun _ => rfl)
        have hrow := HROW.out
        rw [← hdue] at hrow
        have HTS := Lib.hid hts
        have HRW := Lib.hid hrow
        clear hdue hleft hts hrow HROW HALL hbr hy d0
        go_wp2_with fail
        go_ret2
        exact ⟨_, _, _, _, _, _, rfl, HTS.out, .inr ⟨_, _, rfl⟩, HRW.out, HB2.out⟩
    · obtain rfl : k = n := by omega
      obtain ⟨hdue, hleft⟩ := HT.out.due_at HALL.out (fun z hz => by have := (List.getElem?_eq_some_iff.1 hz).1; have := HLEN.out; omega)
      have hl0 : left l now = [] := by rw [hleft]; exact List.drop_eq_nil_of_le (by have := HLEN.out; omega)
      have hrow := HROW.out
      rw [← hdue] at hrow
      have HB2 := Lib.hid hbr
      have HRW := Lib.hid hrow
      have HL0 := Lib.hid hl0
      have hnk : ¬ k < k := by omega
      clear hdue hleft hrow HROW HALL hbr hl0
      rcases hA with ⟨rfl, rfl⟩ | ⟨b, o, rfl⟩
      · obtain rfl : k = 0 := by omega
        go_wp2_with fail
        go_ret2
        exact ⟨_, _, _, _, _, _, rfl, by rw [HL0.out]; exact Rs.nil_, .inl ⟨rfl, rfl⟩, HRW.out, HB2.out⟩
      · by_cases hck : c = k
        · subst hck
          go_wp2_with fail
          go_ret2
          exact ⟨_, _, _, _, _, _, rfl, by rw [HL0.out]; exact Rs.empty _ (by omega), .inr ⟨_, _, rfl⟩, HRW.out, HB2.out⟩
        · have hck2 : k < c := by omega
          go_wp2_with fail
          go_ret2
          refine ⟨_, _, _, _, _, _, rfl, ?_, .inr ⟨_, _, rfl⟩, HRW.out, HB2.out⟩
          rw [HL0.out]
          exact Rs.empty _ (by omega)
theorem grown_of_below {w w' : World} (h : Below w.heap.size w w') : w.grownBy w' none := ⟨h.os, h.tape, h.output, h.size, fun k hk _ => h.block k hk⟩
theorem own_keep {w w' : World} {base e size n : Nat} {v : Value} {xs : List Value} (h : w.ownsRow base e size v n xs) (hb : Below w.heap.size w w') : w'.ownsRow base e size v n xs :=
  h.kept (grown_of_below hb) (by cases hv : v.ownBlock with | none => exact .inl rfl | some k => exact .inr (by simp))
theorem bf_parts (x y key t : Int) : bf (x, y) (key, t) = (decide (y < t) || (decide (y = t) && decide (x < key))) := rfl
set_option maxRecDepth 100000 in
set_option maxHeartbeats 4000000 in
theorem tarm_room (A : Option Addr) (n c B : Nat) (l : List (Int × Int)) (key at_ : Int) (w : World) (h : Tr w B A n c l) (hB : B ≤ w.heap.size) (hn : n ≤ 1024) (tms : Tms l) (ha : 0 ≤ at_ ∧ at_ ≤ 18446744073709551615) (hf : ¬ 1024 ≤ (wo l key).length) :
    Calls Tryz.prog 33 #[.slice A n c, .int .u64 key, .int .u64 at_] w fun e w' => ∃ A1 c1, e = .returned (.tuple #[.slice A1 ((wo l key).length + 1) c1, .int .i64 0]) ∧
      w'.ownsRow w.heap.size 96 2 (.slice A1 ((wo l key).length + 1) c1) ((wo l key).length + 1) (flat enc2 (ins (key, cut at_) (wo l key))) ∧ Below w.heap.size w w' := by
  obtain ⟨i0, hi, hz0, hz1, hz2⟩ := info_parts info_timer
  have HR := Lib.hid h
  have HT := Lib.hid tms
  have HLEN := Lib.hid h.len
  clear h tms
  have tms2 : Tms (wo l key) := HT.out.filter _
  obtain ⟨R, hR⟩ : ∃ R, wo l key = R := ⟨_, rfl⟩
  rw [hR] at tms2 hf ⊢
  have hd : decide ((1024 : Int) ≤ (R.length : Int)) = false := decide_eq_false (by omega)
  have hd' : decide (1024 ≤ R.length) = false := decide_eq_false (by omega)
  have HT2 := Lib.hid tms2
  have HRR := Lib.hid hR
  have hlen : R.length ≤ 1024 := by omega
  clear tms2 hR hf
  go_enter Tryz.func33, Tryz.ntmps33
  go_wp2_with fail
  refine (twithout_any A n c B l key _ HR.out hB (by omega)).mono ?_
  rw [HRR.out]
  rintro e w1 ⟨A1, c1, rfl, hrow1, hb1⟩
  have htr : Tr w1 w1.heap.size A1 R.length c1 R := Rs.own_rs enc2_len rfl hrow1
  have hfm := own_fm hrow1
  have HTR0 := Lib.hid htr
  have HB1 := Lib.hid hb1
  clear hrow1 hb1 htr HR HT HLEN
  go_wp2_with fail
  refine (radd_any at_ 0 _ ha.1 ha.2 (by omega) (by omega)).mono ?_
  rintro e w2 ⟨rfl, rfl⟩
  rw [cut_add]
  have hco := cut_ok ha.1
  go_wp2_with fail
  obtain ⟨T, hT⟩ : ∃ T, w1.heap.size = T := ⟨_, rfl⟩
  rw [hT]
  have hx0 : (w1.alloc (.cells #[.int .u64 key, .int .u64 (cut at_)] 96)).cell? ⟨T, 0, none⟩ = some (.int .u64 key) := by rw [← hT]; go_simp
  have hx1 : (w1.alloc (.cells #[.int .u64 key, .int .u64 (cut at_)] 96)).cell? ⟨T, 1, none⟩ = some (.int .u64 (cut at_)) := by rw [← hT]; go_simp
  have HX0 := Lib.hid hx0
  have HX1 := Lib.hid hx1
  have HB2 := Lib.hid (HB1.out.alloc HB1.out.size (.cells #[.int .u64 key, .int .u64 (cut at_)] 96))
  have HTR2 := Lib.hid ((HTR0.out.alloc (Nat.le_refl _) (.cells #[.int .u64 key, .int .u64 (cut at_)] 96)).more (B' := (w1.alloc (.cells #[.int .u64 key, .int .u64 (cut at_)] 96)).heap.size) (by simp))
  clear hT hx0 hx1 HTR0 HB1
  change Code.wp _ _ _ _ (w1.alloc (.cells #[.int .u64 key, .int .u64 (cut at_)] 96))
  generalize w1.alloc (.cells #[.int .u64 key, .int .u64 (cut at_)] 96) = w3 at *
  go_loopw [11] (fun i wr => ∃ k : Nat, k ≤ R.length ∧ i = .int .i64 k ∧ (∀ j x, j < k → R[j]? = some x → bf x (key, cut at_) = true) ∧ Tr wr wr.heap.size A1 R.length c1 R ∧ wr.cell? ⟨T, 0, none⟩ = some (.int .u64 key) ∧ wr.cell? ⟨T, 1, none⟩ = some (.int .u64 (cut at_)) ∧ Below w.heap.size w wr) (fun i _ => R.length - (intOf i).toNat)
  case atStart => exact ⟨0, Nat.zero_le _, rfl, fun j x h => absurd h (by omega), HTR2.out, HX0.out, HX1.out, HB2.out⟩
  case round =>
    clear HTR2 HX0 HX1 HB2
    obtain ⟨k, hkR, rfl, hall, htr, x0, x1, hbr⟩ := hrel
    have HTR := Lib.hid htr
    have HALL := Lib.hid hall
    have hcap := htr.cap
    have htop := htr.top
    clear htr hall
    have f0 : ∀ q : After wr, q.1.cell? ⟨T, 0, none⟩ = some (.int .u64 key) := fun q => q.cell x0
    have f1 : ∀ q : After wr, q.1.cell? ⟨T, 1, none⟩ = some (.int .u64 (cut at_)) := fun q => q.cell x1
    by_cases hlt : k < R.length
    · obtain ⟨b, o, a, rfl, hb, haa, hc0, hc1⟩ := Rs.two HTR.out hlt
      have HAA := Lib.hid haa
      obtain ⟨x, y⟩ := a
      simp only at hc0 hc1
      have g0 : ∀ q : After wr, q.1.cell? ⟨b, o + k * 2, none⟩ = some (.int .u64 x) := fun q => q.cell hc0
      have g1 : ∀ q : After wr, q.1.cell? ⟨b, o + k * 2 + 1, none⟩ = some (.int .u64 y) := fun q => q.cell hc1
      clear haa
      by_cases hbf : bf (x, y) (key, cut at_) = true
      · have hround : ∀ W3, Below wr.heap.size wr W3 → ∃ q : Nat, q ≤ R.length ∧ (Value.int .i64 ((k : Int) + 1)) = .int .i64 q ∧ (∀ j z, j < q → R[j]? = some z → bf z (key, cut at_) = true) ∧ Tr W3 W3.heap.size (some ⟨b, o, none⟩) R.length c1 R ∧ W3.cell? ⟨T, 0, none⟩ = some (.int .u64 key) ∧ W3.cell? ⟨T, 1, none⟩ = some (.int .u64 (cut at_)) ∧ Below w.heap.size w W3 := by
          intro W3 h3
          refine ⟨k + 1, by omega, by go_num, fun j z hj hz => ?_, HTR.out.later h3, (h3.cell (p := ⟨T, 0, none⟩) (Lw.lt_heap x0)).trans x0, (h3.cell (p := ⟨T, 1, none⟩) (Lw.lt_heap x1)).trans x1, hbr.trans (h3.mono hbr.size)⟩
          rcases Nat.lt_or_ge j k with h | h
          · exact HALL.out j z h hz
          · obtain rfl : j = k := by omega
            have := HAA.out.symm.trans hz
            injection this with this
            subst this
            exact hbf
        have HRND := Lib.hid hround
        clear hround hbr HTR HALL HAA hcap htop
        by_cases hyt : y < cut at_
        · have d1 : decide (y < cut at_) = true := decide_eq_true hyt
          clear hbf hyt
          go_wp2_with fail
          refine region_after (by kernel_rfl) (by kernel_rfl) ?_
          repeat (go_big_quiet_step (fail))
          refine wpQuiet_nil ?_
          rintro W3 ⟨⟨_, hb3⟩, rfl⟩
          go_wp2_with fail
          go_roundw
          case rel => exact HRND.out W3 hb3
          case measure => simp [intOf]; omega
        · have d1 : decide (y < cut at_) = false := decide_eq_false hyt
          rw [bf_parts, d1, Bool.false_or, Bool.and_eq_true] at hbf
          have hye : y = cut at_ := of_decide_eq_true hbf.1
          have d2 : (y == cut at_) = true := by simpa using hye
          have d3 : decide (x < key) = true := hbf.2
          clear hbf hyt hye
          go_wp2_with fail
          refine region_after (by kernel_rfl) (by kernel_rfl) ?_
          repeat (go_big_quiet_step (fail))
          refine wpQuiet_nil ?_
          rintro W3 ⟨⟨_, hb3⟩, rfl⟩
          go_wp2_with fail
          go_roundw
          case rel => exact HRND.out W3 hb3
          case measure => simp [intOf]; omega
      · have hins : ins (key, cut at_) R = R.take k ++ (key, cut at_) :: R.drop k := HT2.out.ins_at HALL.out (fun z hz => by have := HAA.out.symm.trans hz; injection this with this; subst this; simpa using hbf)
        have HINS := Lib.hid hins
        have hkc : k < c1 := by omega
        have hck : ¬ c1 = k := by omega
        have d1 : decide (y < cut at_) = false := by
          cases hq : decide (y < cut at_) with
          | false => rfl
          | true => exact absurd (by rw [bf_parts, hq]; rfl) hbf
        have hor : (y == cut at_) = false ∨ ((y == cut at_) = true ∧ decide (x < key) = false) := by
          cases hq : (y == cut at_) with
          | false => exact .inl rfl
          | true =>
            refine .inr ⟨rfl, ?_⟩
            cases hq2 : decide (x < key) with
            | false => rfl
            | true =>
              have hye : y = cut at_ := by simpa using hq
              exact absurd (by rw [bf_parts, hq2]; simp [hye]) hbf
        clear hins hbf HALL
        rcases hor with d2 | ⟨d2, d3⟩
        · go_wp2_with fail
          refine region_after (by kernel_rfl) (by kernel_rfl) ?_
          repeat (go_big_quiet_step (fail))
          refine wpQuiet_nil ?_
          rintro W3 ⟨⟨_, hb3⟩, rfl⟩
          have HTR4 := Lib.hid (HTR.out.later hb3)
          have x4 : W3.cell? ⟨T, 0, none⟩ = some (.int .u64 key) := (hb3.cell (p := ⟨T, 0, none⟩) (Lw.lt_heap x0)).trans x0
          have x5 : W3.cell? ⟨T, 1, none⟩ = some (.int .u64 (cut at_)) := (hb3.cell (p := ⟨T, 1, none⟩) (Lw.lt_heap x1)).trans x1
          have hb4 : Below w.heap.size w W3 := hbr.trans (hb3.mono hbr.size)
          clear hc0 hc1 f0 f1 g0 g1 x0 x1 hb3 hbr HTR HAA
          have hbs := hb4.size
          have hfr : Tr W3 W3.heap.size (some ⟨b, o, none⟩) k c1 (R.take k) := HTR4.out.front (by omega)
          have hbk : Tr W3 W3.heap.size (some ⟨b, o + k * 2, none⟩) (R.length - k) (c1 - k) (R.drop k) := HTR4.out.back (by omega) rfl (fun _ => rfl)
          obtain ⟨bs, hbe⟩ : ∃ bs, W3.heap.size = bs := ⟨_, rfl⟩
          rw [hbe] at hfr hbk hbs
          have hble : bs ≤ W3.heap.size := by omega
          have hbge : W3.heap.size ≤ bs := by omega
          have HFR := Lib.hid hfr
          have HBK := Lib.hid hbk
          have HBR := Lib.hid hb4
          have hmp1 : flat enc2 (R.take k) ++ flat enc2 [(key, cut at_)] = flat enc2 (R.take k ++ [(key, cut at_)]) := (flat_append _ _).symm
          have hmp2 : flat enc2 (R.take k ++ [(key, cut at_)]) ++ flat enc2 (R.drop k) = flat enc2 (ins (key, cut at_) R) := by (rw [HINS.out, ← flat_append]) <;> (congr 1 <;> simp)
          have HMP1 := Lib.hid hmp1
          have HMP2 := Lib.hid hmp2
          clear hfr hbk hbe hb4 HTR4 hmp1 hmp2
          go_wp2_with (first
            | (at_builtin
               refine append_rs enc2_len rfl (.tmp 62) (.tmp 65) 29 rfl bs 96 i0 _ 16 Tryz.underlying29 hi hz0 hz1 hz2 rfl (by decide) (.slice none 0 0) 0 [] rfl (World.ownsRow_nil _ _ _ _) _ (some ⟨b, o, none⟩) k c1 (R.take k) rfl HFR.out enc2_one k (Nat.zero_add _) (flat enc2 (R.take k)) rfl (by unfold maxLen; omega) (by omega) hble ?_
               intro A3 c3 w3 hrow3 hg3 hat3
               have z0 : w3.cell? ⟨T, 0, none⟩ = some (.int .u64 key) := hg3.cell x4 (by simp [Value.ownBlock])
               have z1 : w3.cell? ⟨T, 1, none⟩ = some (.int .u64 (cut at_)) := hg3.cell x5 (by simp [Value.ownBlock])
               have HROW3 := Lib.hid hrow3
               have HBK3 := Lib.hid (HBK.out.grown hg3 hble (fun g hg => by cases hg))
               have HB3 := Lib.hid (HBR.out.grown hg3 HBR.out.size (fun j hj => by cases hj))
               have hs3 := hg3.size
               have HRS := Lib.hid (rs_one enc2_len w3 (key, cut at_) 96 (cs := #[.int .u64 key, .int .u64 (cut at_)]) rfl)
               clear hrow3 hg3 hat3)
            | (at_builtin
               refine append_rs enc2_len rfl (.tmp 67) (.tmp 69) 29 rfl bs 96 i0 _ 16 Tryz.underlying29 hi hz0 hz1 hz2 rfl (by decide) _ k _ rfl (HROW3.out.alloc _) _ _ 1 1 [(key, cut at_)] rfl HRS.out enc2_one (k + 1) rfl _ HMP1.out (by unfold maxLen; omega) (by omega) (by simp; omega) ?_
               intro A4 c4 w4 hrow4 hg4 hat4
               have HROW4 := Lib.hid hrow4
               have HBK4 := Lib.hid ((HBK3.out.alloc (by omega) _).grown hg4 (by simp; omega) (fun g hg => (HROW3.out.lt g hg).1))
               have HB4 := Lib.hid ((HB3.out.alloc HB3.out.size _).grown hg4 (by have := HB3.out.size; simp; omega) (fun j hj => by have := (HROW3.out.lt j hj).1; omega))
               have hs4 := hg4.size
               clear hrow4 hg4 hat4)
            | (at_builtin
               refine append_rs enc2_len rfl (.tmp 71) (.tmp 74) 29 rfl bs 96 i0 _ 16 Tryz.underlying29 hi hz0 hz1 hz2 rfl (by decide) _ (k + 1) _ rfl HROW4.out _ (some ⟨b, o + k * 2, none⟩) ((R.length - k)) ((c1 - k)) (R.drop k) rfl HBK4.out enc2_one (R.length + 1) (by omega) _ HMP2.out (by unfold maxLen; omega) (by omega) (by simp at hs4; omega) ?_
               intro A5 c5 w5 hrow5 hg5 hat5
               have HROW5 := Lib.hid hrow5
               have HB5 := Lib.hid (HB4.out.grown hg5 HB4.out.size (fun j hj => by have := (HROW4.out.lt j hj).1; omega))
               clear hrow5 hg5 hat5))
          go_ret2
          exact ⟨A5, c5, rfl, own_mono HROW5.out (by omega), HB5.out⟩
        · go_wp2_with fail
          refine region_after (by kernel_rfl) (by kernel_rfl) ?_
          repeat (go_big_quiet_step (fail))
          refine wpQuiet_nil ?_
          rintro W3 ⟨⟨_, hb3⟩, rfl⟩
          have HTR4 := Lib.hid (HTR.out.later hb3)
          have x4 : W3.cell? ⟨T, 0, none⟩ = some (.int .u64 key) := (hb3.cell (p := ⟨T, 0, none⟩) (Lw.lt_heap x0)).trans x0
          have x5 : W3.cell? ⟨T, 1, none⟩ = some (.int .u64 (cut at_)) := (hb3.cell (p := ⟨T, 1, none⟩) (Lw.lt_heap x1)).trans x1
          have hb4 : Below w.heap.size w W3 := hbr.trans (hb3.mono hbr.size)
          clear hc0 hc1 f0 f1 g0 g1 x0 x1 hb3 hbr HTR HAA
          have hbs := hb4.size
          have hfr : Tr W3 W3.heap.size (some ⟨b, o, none⟩) k c1 (R.take k) := HTR4.out.front (by omega)
          have hbk : Tr W3 W3.heap.size (some ⟨b, o + k * 2, none⟩) (R.length - k) (c1 - k) (R.drop k) := HTR4.out.back (by omega) rfl (fun _ => rfl)
          obtain ⟨bs, hbe⟩ : ∃ bs, W3.heap.size = bs := ⟨_, rfl⟩
          rw [hbe] at hfr hbk hbs
          have hble : bs ≤ W3.heap.size := by omega
          have hbge : W3.heap.size ≤ bs := by omega
          have HFR := Lib.hid hfr
          have HBK := Lib.hid hbk
          have HBR := Lib.hid hb4
          have hmp1 : flat enc2 (R.take k) ++ flat enc2 [(key, cut at_)] = flat enc2 (R.take k ++ [(key, cut at_)]) := (flat_append _ _).symm
          have hmp2 : flat enc2 (R.take k ++ [(key, cut at_)]) ++ flat enc2 (R.drop k) = flat enc2 (ins (key, cut at_) R) := by (rw [HINS.out, ← flat_append]) <;> (congr 1 <;> simp)
          have HMP1 := Lib.hid hmp1
          have HMP2 := Lib.hid hmp2
          clear hfr hbk hbe hb4 HTR4 hmp1 hmp2
          go_wp2_with (first
            | (at_builtin
               refine append_rs enc2_len rfl (.tmp 62) (.tmp 65) 29 rfl bs 96 i0 _ 16 Tryz.underlying29 hi hz0 hz1 hz2 rfl (by decide) (.slice none 0 0) 0 [] rfl (World.ownsRow_nil _ _ _ _) _ (some ⟨b, o, none⟩) k c1 (R.take k) rfl HFR.out enc2_one k (Nat.zero_add _) (flat enc2 (R.take k)) rfl (by unfold maxLen; omega) (by omega) hble ?_
               intro A3 c3 w3 hrow3 hg3 hat3
               have z0 : w3.cell? ⟨T, 0, none⟩ = some (.int .u64 key) := hg3.cell x4 (by simp [Value.ownBlock])
               have z1 : w3.cell? ⟨T, 1, none⟩ = some (.int .u64 (cut at_)) := hg3.cell x5 (by simp [Value.ownBlock])
               have HROW3 := Lib.hid hrow3
               have HBK3 := Lib.hid (HBK.out.grown hg3 hble (fun g hg => by cases hg))
               have HB3 := Lib.hid (HBR.out.grown hg3 HBR.out.size (fun j hj => by cases hj))
               have hs3 := hg3.size
               have HRS := Lib.hid (rs_one enc2_len w3 (key, cut at_) 96 (cs := #[.int .u64 key, .int .u64 (cut at_)]) rfl)
               clear hrow3 hg3 hat3)
            | (at_builtin
               refine append_rs enc2_len rfl (.tmp 67) (.tmp 69) 29 rfl bs 96 i0 _ 16 Tryz.underlying29 hi hz0 hz1 hz2 rfl (by decide) _ k _ rfl (HROW3.out.alloc _) _ _ 1 1 [(key, cut at_)] rfl HRS.out enc2_one (k + 1) rfl _ HMP1.out (by unfold maxLen; omega) (by omega) (by simp; omega) ?_
               intro A4 c4 w4 hrow4 hg4 hat4
               have HROW4 := Lib.hid hrow4
               have HBK4 := Lib.hid ((HBK3.out.alloc (by omega) _).grown hg4 (by simp; omega) (fun g hg => (HROW3.out.lt g hg).1))
               have HB4 := Lib.hid ((HB3.out.alloc HB3.out.size _).grown hg4 (by have := HB3.out.size; simp; omega) (fun j hj => by have := (HROW3.out.lt j hj).1; omega))
               have hs4 := hg4.size
               clear hrow4 hg4 hat4)
            | (at_builtin
               refine append_rs enc2_len rfl (.tmp 71) (.tmp 74) 29 rfl bs 96 i0 _ 16 Tryz.underlying29 hi hz0 hz1 hz2 rfl (by decide) _ (k + 1) _ rfl HROW4.out _ (some ⟨b, o + k * 2, none⟩) ((R.length - k)) ((c1 - k)) (R.drop k) rfl HBK4.out enc2_one (R.length + 1) (by omega) _ HMP2.out (by unfold maxLen; omega) (by omega) (by simp at hs4; omega) ?_
               intro A5 c5 w5 hrow5 hg5 hat5
               have HROW5 := Lib.hid hrow5
               have HB5 := Lib.hid (HB4.out.grown hg5 HB4.out.size (fun j hj => by have := (HROW4.out.lt j hj).1; omega))
               clear hrow5 hg5 hat5))
          go_ret2
          exact ⟨A5, c5, rfl, own_mono HROW5.out (by omega), HB5.out⟩
    · obtain rfl : k = R.length := by omega
      have hins : ins (key, cut at_) R = R.take R.length ++ (key, cut at_) :: R.drop R.length := HT2.out.ins_at HALL.out (fun z hz => by have := (List.getElem?_eq_some_iff.1 hz).1; omega)
      have HINS := Lib.hid hins
      clear hins HALL
      rcases hfm with ⟨rfl, rfl⟩ | ⟨b, o, rfl⟩
      · obtain rfl : R = [] := List.eq_nil_of_length_eq_zero (by omega)
        go_wp2_with fail
        refine region_after (by kernel_rfl) (by kernel_rfl) ?_
        repeat (go_big_quiet_step (fail))
        refine wpQuiet_nil ?_
        rintro W3 ⟨⟨_, hb3⟩, rfl⟩
        have HTR4 := Lib.hid (HTR.out.later hb3)
        have x4 : W3.cell? ⟨T, 0, none⟩ = some (.int .u64 key) := (hb3.cell (p := ⟨T, 0, none⟩) (Lw.lt_heap x0)).trans x0
        have x5 : W3.cell? ⟨T, 1, none⟩ = some (.int .u64 (cut at_)) := (hb3.cell (p := ⟨T, 1, none⟩) (Lw.lt_heap x1)).trans x1
        have hb4 : Below w.heap.size w W3 := hbr.trans (hb3.mono hbr.size)
        clear f0 f1 x0 x1 hb3 hbr HTR
        have hbs := hb4.size
        have hfr : Tr W3 W3.heap.size none 0 0 ([].take 0) := HTR4.out.front (by omega)
        have hbk : Tr W3 W3.heap.size none 0 0 ([].drop 0) := Rs.nil_
        obtain ⟨bs, hbe⟩ : ∃ bs, W3.heap.size = bs := ⟨_, rfl⟩
        rw [hbe] at hfr hbk hbs
        have hble : bs ≤ W3.heap.size := by omega
        have hbge : W3.heap.size ≤ bs := by omega
        have HFR := Lib.hid hfr
        have HBK := Lib.hid hbk
        have HBR := Lib.hid hb4
        have hmp1 : flat enc2 ([].take 0) ++ flat enc2 [(key, cut at_)] = flat enc2 ([].take 0 ++ [(key, cut at_)]) := (flat_append _ _).symm
        have hmp2 : flat enc2 ([].take 0 ++ [(key, cut at_)]) ++ flat enc2 ([].drop 0) = flat enc2 (ins (key, cut at_) []) := by (rw [HINS.out, ← flat_append]) <;> (congr 1 <;> simp)
        have HMP1 := Lib.hid hmp1
        have HMP2 := Lib.hid hmp2
        clear hfr hbk hbe hb4 HTR4 hmp1 hmp2
        go_wp2_with (first
          | (at_builtin
             refine append_rs enc2_len rfl (.tmp 62) (.tmp 65) 29 rfl bs 96 i0 _ 16 Tryz.underlying29 hi hz0 hz1 hz2 rfl (by decide) (.slice none 0 0) 0 [] rfl (World.ownsRow_nil _ _ _ _) _ none 0 0 ([].take 0) rfl HFR.out enc2_one 0 (Nat.zero_add _) (flat enc2 ([].take 0)) rfl (by unfold maxLen; omega) (by omega) hble ?_
             intro A3 c3 w3 hrow3 hg3 hat3
             have z0 : w3.cell? ⟨T, 0, none⟩ = some (.int .u64 key) := hg3.cell x4 (by simp [Value.ownBlock])
             have z1 : w3.cell? ⟨T, 1, none⟩ = some (.int .u64 (cut at_)) := hg3.cell x5 (by simp [Value.ownBlock])
             have HROW3 := Lib.hid hrow3
             have HBK3 := Lib.hid (HBK.out.grown hg3 hble (fun g hg => by cases hg))
             have HB3 := Lib.hid (HBR.out.grown hg3 HBR.out.size (fun j hj => by cases hj))
             have hs3 := hg3.size
             have HRS := Lib.hid (rs_one enc2_len w3 (key, cut at_) 96 (cs := #[.int .u64 key, .int .u64 (cut at_)]) rfl)
             clear hrow3 hg3 hat3)
          | (at_builtin
             refine append_rs enc2_len rfl (.tmp 67) (.tmp 69) 29 rfl bs 96 i0 _ 16 Tryz.underlying29 hi hz0 hz1 hz2 rfl (by decide) _ 0 _ rfl (HROW3.out.alloc _) _ _ 1 1 [(key, cut at_)] rfl HRS.out enc2_one (0 + 1) rfl _ HMP1.out (by unfold maxLen; omega) (by omega) (by simp; omega) ?_
             intro A4 c4 w4 hrow4 hg4 hat4
             have HROW4 := Lib.hid hrow4
             have HBK4 := Lib.hid ((HBK3.out.alloc (by omega) _).grown hg4 (by simp; omega) (fun g hg => (HROW3.out.lt g hg).1))
             have HB4 := Lib.hid ((HB3.out.alloc HB3.out.size _).grown hg4 (by have := HB3.out.size; simp; omega) (fun j hj => by have := (HROW3.out.lt j hj).1; omega))
             have hs4 := hg4.size
             clear hrow4 hg4 hat4)
          | (at_builtin
             refine append_rs enc2_len rfl (.tmp 71) (.tmp 74) 29 rfl bs 96 i0 _ 16 Tryz.underlying29 hi hz0 hz1 hz2 rfl (by decide) _ (0 + 1) _ rfl HROW4.out _ none (0) (0) ([].drop 0) rfl HBK4.out enc2_one (0 + 1) (by omega) _ HMP2.out (by unfold maxLen; omega) (by omega) (by simp at hs4; omega) ?_
             intro A5 c5 w5 hrow5 hg5 hat5
             have HROW5 := Lib.hid hrow5
             have HB5 := Lib.hid (HB4.out.grown hg5 HB4.out.size (fun j hj => by have := (HROW4.out.lt j hj).1; omega))
             clear hrow5 hg5 hat5))
        go_ret2
        exact ⟨A5, c5, rfl, own_mono HROW5.out (by omega), HB5.out⟩
      · by_cases hck : c1 = R.length
        · subst hck
          go_wp2_with fail
          refine region_after (by kernel_rfl) (by kernel_rfl) ?_
          repeat (go_big_quiet_step (fail))
          refine wpQuiet_nil ?_
          rintro W3 ⟨⟨_, hb3⟩, rfl⟩
          have HTR4 := Lib.hid (HTR.out.later hb3)
          have x4 : W3.cell? ⟨T, 0, none⟩ = some (.int .u64 key) := (hb3.cell (p := ⟨T, 0, none⟩) (Lw.lt_heap x0)).trans x0
          have x5 : W3.cell? ⟨T, 1, none⟩ = some (.int .u64 (cut at_)) := (hb3.cell (p := ⟨T, 1, none⟩) (Lw.lt_heap x1)).trans x1
          have hb4 : Below w.heap.size w W3 := hbr.trans (hb3.mono hbr.size)
          clear f0 f1 x0 x1 hb3 hbr HTR
          have hbs := hb4.size
          have hfr : Tr W3 W3.heap.size (some ⟨b, o, none⟩) R.length R.length (R.take R.length) := HTR4.out.front (by omega)
          have hbk : Tr W3 W3.heap.size (some ⟨b, o, none⟩) 0 0 (R.drop R.length) := by have := HTR4.out.back (i := R.length) (A' := some ⟨b, o, none⟩) (Nat.le_refl _) rfl (by omega); simpa using this
          obtain ⟨bs, hbe⟩ : ∃ bs, W3.heap.size = bs := ⟨_, rfl⟩
          rw [hbe] at hfr hbk hbs
          have hble : bs ≤ W3.heap.size := by omega
          have hbge : W3.heap.size ≤ bs := by omega
          have HFR := Lib.hid hfr
          have HBK := Lib.hid hbk
          have HBR := Lib.hid hb4
          have hmp1 : flat enc2 (R.take R.length) ++ flat enc2 [(key, cut at_)] = flat enc2 (R.take R.length ++ [(key, cut at_)]) := (flat_append _ _).symm
          have hmp2 : flat enc2 (R.take R.length ++ [(key, cut at_)]) ++ flat enc2 (R.drop R.length) = flat enc2 (ins (key, cut at_) R) := by (rw [HINS.out, ← flat_append]) <;> (congr 1 <;> simp)
          have HMP1 := Lib.hid hmp1
          have HMP2 := Lib.hid hmp2
          clear hfr hbk hbe hb4 HTR4 hmp1 hmp2
          go_wp2_with (first
            | (at_builtin
               refine append_rs enc2_len rfl (.tmp 62) (.tmp 65) 29 rfl bs 96 i0 _ 16 Tryz.underlying29 hi hz0 hz1 hz2 rfl (by decide) (.slice none 0 0) 0 [] rfl (World.ownsRow_nil _ _ _ _) _ (some ⟨b, o, none⟩) R.length R.length (R.take R.length) rfl HFR.out enc2_one R.length (Nat.zero_add _) (flat enc2 (R.take R.length)) rfl (by unfold maxLen; omega) (by omega) hble ?_
               intro A3 c3 w3 hrow3 hg3 hat3
               have z0 : w3.cell? ⟨T, 0, none⟩ = some (.int .u64 key) := hg3.cell x4 (by simp [Value.ownBlock])
               have z1 : w3.cell? ⟨T, 1, none⟩ = some (.int .u64 (cut at_)) := hg3.cell x5 (by simp [Value.ownBlock])
               have HROW3 := Lib.hid hrow3
               have HBK3 := Lib.hid (HBK.out.grown hg3 hble (fun g hg => by cases hg))
               have HB3 := Lib.hid (HBR.out.grown hg3 HBR.out.size (fun j hj => by cases hj))
               have hs3 := hg3.size
               have HRS := Lib.hid (rs_one enc2_len w3 (key, cut at_) 96 (cs := #[.int .u64 key, .int .u64 (cut at_)]) rfl)
               clear hrow3 hg3 hat3)
            | (at_builtin
               refine append_rs enc2_len rfl (.tmp 67) (.tmp 69) 29 rfl bs 96 i0 _ 16 Tryz.underlying29 hi hz0 hz1 hz2 rfl (by decide) _ R.length _ rfl (HROW3.out.alloc _) _ _ 1 1 [(key, cut at_)] rfl HRS.out enc2_one (R.length + 1) rfl _ HMP1.out (by unfold maxLen; omega) (by omega) (by simp; omega) ?_
               intro A4 c4 w4 hrow4 hg4 hat4
               have HROW4 := Lib.hid hrow4
               have HBK4 := Lib.hid ((HBK3.out.alloc (by omega) _).grown hg4 (by simp; omega) (fun g hg => (HROW3.out.lt g hg).1))
               have HB4 := Lib.hid ((HB3.out.alloc HB3.out.size _).grown hg4 (by have := HB3.out.size; simp; omega) (fun j hj => by have := (HROW3.out.lt j hj).1; omega))
               have hs4 := hg4.size
               clear hrow4 hg4 hat4)
            | (at_builtin
               refine append_rs enc2_len rfl (.tmp 71) (.tmp 74) 29 rfl bs 96 i0 _ 16 Tryz.underlying29 hi hz0 hz1 hz2 rfl (by decide) _ (R.length + 1) _ rfl HROW4.out _ (some ⟨b, o, none⟩) (0) (0) (R.drop R.length) rfl HBK4.out enc2_one (R.length + 1) (by omega) _ HMP2.out (by unfold maxLen; omega) (by omega) (by simp at hs4; omega) ?_
               intro A5 c5 w5 hrow5 hg5 hat5
               have HROW5 := Lib.hid hrow5
               have HB5 := Lib.hid (HB4.out.grown hg5 HB4.out.size (fun j hj => by have := (HROW4.out.lt j hj).1; omega))
               clear hrow5 hg5 hat5))
          go_ret2
          exact ⟨A5, c5, rfl, own_mono HROW5.out (by omega), HB5.out⟩
        · have hkc : R.length < c1 := by omega
          go_wp2_with fail
          refine region_after (by kernel_rfl) (by kernel_rfl) ?_
          repeat (go_big_quiet_step (fail))
          refine wpQuiet_nil ?_
          rintro W3 ⟨⟨_, hb3⟩, rfl⟩
          have HTR4 := Lib.hid (HTR.out.later hb3)
          have x4 : W3.cell? ⟨T, 0, none⟩ = some (.int .u64 key) := (hb3.cell (p := ⟨T, 0, none⟩) (Lw.lt_heap x0)).trans x0
          have x5 : W3.cell? ⟨T, 1, none⟩ = some (.int .u64 (cut at_)) := (hb3.cell (p := ⟨T, 1, none⟩) (Lw.lt_heap x1)).trans x1
          have hb4 : Below w.heap.size w W3 := hbr.trans (hb3.mono hbr.size)
          clear f0 f1 x0 x1 hb3 hbr HTR
          have hbs := hb4.size
          have hfr : Tr W3 W3.heap.size (some ⟨b, o, none⟩) R.length c1 (R.take R.length) := HTR4.out.front (by omega)
          have hbk : Tr W3 W3.heap.size (some ⟨b, o + R.length * 2, none⟩) 0 (c1 - R.length) (R.drop R.length) := by have := HTR4.out.back (i := R.length) (A' := some ⟨b, o + R.length * 2, none⟩) (Nat.le_refl _) rfl (by omega); rwa [Nat.sub_self] at this
          obtain ⟨bs, hbe⟩ : ∃ bs, W3.heap.size = bs := ⟨_, rfl⟩
          rw [hbe] at hfr hbk hbs
          have hble : bs ≤ W3.heap.size := by omega
          have hbge : W3.heap.size ≤ bs := by omega
          have HFR := Lib.hid hfr
          have HBK := Lib.hid hbk
          have HBR := Lib.hid hb4
          have hmp1 : flat enc2 (R.take R.length) ++ flat enc2 [(key, cut at_)] = flat enc2 (R.take R.length ++ [(key, cut at_)]) := (flat_append _ _).symm
          have hmp2 : flat enc2 (R.take R.length ++ [(key, cut at_)]) ++ flat enc2 (R.drop R.length) = flat enc2 (ins (key, cut at_) R) := by (rw [HINS.out, ← flat_append]) <;> (congr 1 <;> simp)
          have HMP1 := Lib.hid hmp1
          have HMP2 := Lib.hid hmp2
          clear hfr hbk hbe hb4 HTR4 hmp1 hmp2
          go_wp2_with (first
            | (at_builtin
               refine append_rs enc2_len rfl (.tmp 62) (.tmp 65) 29 rfl bs 96 i0 _ 16 Tryz.underlying29 hi hz0 hz1 hz2 rfl (by decide) (.slice none 0 0) 0 [] rfl (World.ownsRow_nil _ _ _ _) _ (some ⟨b, o, none⟩) R.length c1 (R.take R.length) rfl HFR.out enc2_one R.length (Nat.zero_add _) (flat enc2 (R.take R.length)) rfl (by unfold maxLen; omega) (by omega) hble ?_
               intro A3 c3 w3 hrow3 hg3 hat3
               have z0 : w3.cell? ⟨T, 0, none⟩ = some (.int .u64 key) := hg3.cell x4 (by simp [Value.ownBlock])
               have z1 : w3.cell? ⟨T, 1, none⟩ = some (.int .u64 (cut at_)) := hg3.cell x5 (by simp [Value.ownBlock])
               have HROW3 := Lib.hid hrow3
               have HBK3 := Lib.hid (HBK.out.grown hg3 hble (fun g hg => by cases hg))
               have HB3 := Lib.hid (HBR.out.grown hg3 HBR.out.size (fun j hj => by cases hj))
               have hs3 := hg3.size
               have HRS := Lib.hid (rs_one enc2_len w3 (key, cut at_) 96 (cs := #[.int .u64 key, .int .u64 (cut at_)]) rfl)
               clear hrow3 hg3 hat3)
            | (at_builtin
               refine append_rs enc2_len rfl (.tmp 67) (.tmp 69) 29 rfl bs 96 i0 _ 16 Tryz.underlying29 hi hz0 hz1 hz2 rfl (by decide) _ R.length _ rfl (HROW3.out.alloc _) _ _ 1 1 [(key, cut at_)] rfl HRS.out enc2_one (R.length + 1) rfl _ HMP1.out (by unfold maxLen; omega) (by omega) (by simp; omega) ?_
               intro A4 c4 w4 hrow4 hg4 hat4
               have HROW4 := Lib.hid hrow4
               have HBK4 := Lib.hid ((HBK3.out.alloc (by omega) _).grown hg4 (by simp; omega) (fun g hg => (HROW3.out.lt g hg).1))
               have HB4 := Lib.hid ((HB3.out.alloc HB3.out.size _).grown hg4 (by have := HB3.out.size; simp; omega) (fun j hj => by have := (HROW3.out.lt j hj).1; omega))
               have hs4 := hg4.size
               clear hrow4 hg4 hat4)
            | (at_builtin
               refine append_rs enc2_len rfl (.tmp 71) (.tmp 74) 29 rfl bs 96 i0 _ 16 Tryz.underlying29 hi hz0 hz1 hz2 rfl (by decide) _ (R.length + 1) _ rfl HROW4.out _ (some ⟨b, o + R.length * 2, none⟩) (0) ((c1 - R.length)) (R.drop R.length) rfl HBK4.out enc2_one (R.length + 1) (by omega) _ HMP2.out (by unfold maxLen; omega) (by omega) (by simp at hs4; omega) ?_
               intro A5 c5 w5 hrow5 hg5 hat5
               have HROW5 := Lib.hid hrow5
               have HB5 := Lib.hid (HB4.out.grown hg5 HB4.out.size (fun j hj => by have := (HROW4.out.lt j hj).1; omega))
               clear hrow5 hg5 hat5))
          go_ret2
          exact ⟨A5, c5, rfl, own_mono HROW5.out (by omega), HB5.out⟩
set_option maxRecDepth 100000 in
set_option maxHeartbeats 4000000 in
theorem tarm_any (A : Option Addr) (n c B : Nat) (l : List (Int × Int)) (key at_ : Int) (w : World) (h : Tr w B A n c l) (hA : Fm A c) (hB : B ≤ w.heap.size) (hn : n ≤ 1024) (tms : Tms l) (hk : 0 ≤ key ∧ key ≤ 18446744073709551615) (ha : 0 ≤ at_ ∧ at_ ≤ 18446744073709551615) :
    Calls Tryz.prog 33 #[.slice A n c, .int .u64 key, .int .u64 at_] w fun e w' => ∃ A1 n1 c1, e = .returned (.tuple #[.slice A1 n1 c1, .int .i64 (armE l key)]) ∧ Tr w' w'.heap.size A1 n1 c1 (arm l key at_) ∧ Fm A1 c1 ∧ Below w.heap.size w w' := by
  obtain ⟨i0, hi, hz0, hz1, hz2⟩ := info_parts info_timer
  have HR := Lib.hid h
  have HT := Lib.hid tms
  have HLEN := Lib.hid h.len
  clear h tms
  by_cases hf : 1024 ≤ (wo l key).length
  · have hful : full l key = true := decide_eq_true hf
    have ha : arm l key at_ = l := by unfold arm; rw [if_pos hful]
    have he : armE l key = 11 := by unfold armE; rw [if_pos hful]
    have hd : decide ((1024 : Int) ≤ ((wo l key).length : Int)) = true := decide_eq_true (by omega)
    have hd' : decide (1024 ≤ (wo l key).length) = true := decide_eq_true (by omega)
    rw [ha, he]
    clear hf hful ha he
    go_enter Tryz.func33, Tryz.ntmps33
    go_wp2_with fail
    refine (twithout_any A n c B l key _ HR.out hB (by omega)).mono ?_
    rintro e w1 ⟨A1, c1, rfl, hrow1, hb1⟩
    have HB1 := Lib.hid hb1
    clear hrow1 hb1
    go_wp2_with fail
    go_ret2
    exact ⟨A, n, c, rfl, (HR.out.below (HB1.out.mono hB)).more (by have := HB1.out.size; omega), hA, HB1.out⟩
  · have hful : full l key = false := decide_eq_false hf
    have hae : arm l key at_ = ins (key, cut at_) (wo l key) := by unfold arm; rw [if_neg (by rw [hful]; simp)]
    have he : armE l key = 0 := by unfold armE; rw [if_neg (by rw [hful]; simp)]
    rw [hae, he]
    refine (tarm_room A n c B l key at_ w HR.out hB hn HT.out ha hf).mono ?_
    rintro e w' ⟨A1, c1, rfl, h1, h2⟩
    exact ⟨A1, _, c1, rfl, Rs.own_rs enc2_len (ins_len _ _) h1, own_fm h1, h2⟩
end Go.Proofs.YtbdcdofjcljliaaGreatDoor.Wl
