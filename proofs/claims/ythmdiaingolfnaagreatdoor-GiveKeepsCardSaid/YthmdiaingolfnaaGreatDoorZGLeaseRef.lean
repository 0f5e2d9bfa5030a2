/- A part of the claim: the texts LeaseRef WheelRef LeaseRefB. -/
import Derived.Test.YthmdiaingolfnaaGreatDoorZGLease
import Derived.Test.YthmdiaingolfnaaGreatDoorZBase5
import Derived.Test.YthmdiaingolfnaaGreatDoorZBase2
import Derived.Test.YthmdiaingolfnaaGreatDoorZBase1
import Derived.Test.YthmdiaingolfnaaGreatDoorZKeep
namespace Go.Proofs.YthmdiaingolfnaaGreatDoor.Le
open Go.ChangeShapes Go.WideShapes Go.ChangeAt Go.RowKit Go.Maps Rw Hi Mt
set_option linter.unusedVariables false
def enc4 (a : Int × Ls) : List Value := [.int .u64 a.1, .int .i64 a.2.thread, .int .u64 a.2.since, .bool a.2.flag]
theorem enc4_len (a : Int × Ls) : (enc4 a).length = 4 := rfl
theorem enc4_one (y : Int × Ls) : ∀ u ∈ enc4 y, u.oneCell' = true := by intro u hu; simp [enc4] at hu; rcases hu with rfl | rfl | rfl | rfl <;> rfl
theorem info_lease : (Tryz.prog.info? 210).map (fun i => (i.zero, i.size, i.bytes)) = some (some (.agg #[.int .u64 0, .int .i64 0, .int .u64 0, .bool false]), 4, 32) := by kernel_rfl
abbrev Rl (w : World) (B : Nat) (A : Option Addr) (n c : Nat) (l : List (Int × Ls)) : Prop := Rs enc4 4 w B A n c l
theorem four_at {w : World} {B : Nat} {A : Option Addr} {n c : Nat} {l : List (Int × Ls)} (h : Rl w B A n c l) {k : Nat} (hk : k < n) :
    ∃ b o x t s f, A = some ⟨b, o, none⟩ ∧ b < B ∧ l[k]? = some (x, ⟨t, s, f⟩) ∧ w.cell? ⟨b, o + k * 4, none⟩ = some (.int .u64 x) ∧ w.cell? ⟨b, o + k * 4 + 1, none⟩ = some (.int .i64 t) ∧ w.cell? ⟨b, o + k * 4 + 2, none⟩ = some (.int .u64 s) ∧ w.cell? ⟨b, o + k * 4 + 3, none⟩ = some (.bool f) := by
  obtain ⟨b, o, ⟨x, t, s, f⟩, hA, hb, hx, hc⟩ := h.get hk
  exact ⟨b, o, x, t, s, f, hA, hb, hx, hc 0 _ (by omega) rfl, hc 1 _ (by omega) rfl, hc 2 _ (by omega) rfl, hc 3 _ (by omega) rfl⟩
def fx (D : List (Int × Ls)) (id : Int) : Int := match D.findIdx? (fun a => a.1 == id) with
  | some i => (i : Int)
  | none => -1
theorem fx_hit {D : List (Int × Ls)} {id : Int} {k : Nat} {y : Ls} (h : ∀ a ∈ D.take k, a.1 ≠ id) (hk : D[k]? = some (id, y)) : fx D id = k := by
  have : D.findIdx? (fun a => a.1 == id) = some k := by
    obtain ⟨hl, e⟩ := List.getElem?_eq_some_iff.1 hk
    rw [List.findIdx?_eq_some_iff_getElem]
    refine ⟨hl, by rw [e]; simp, fun j hj => ?_⟩
    have := h D[j] (List.mem_take_iff_getElem.2 ⟨j, by omega, rfl⟩)
    simpa using this
  unfold fx; rw [this]
theorem fx_miss {D : List (Int × Ls)} {id : Int} (h : ∀ a ∈ D, a.1 ≠ id) : fx D id = -1 := by
  have : D.findIdx? (fun a => a.1 == id) = none := by
    rw [List.findIdx?_eq_none_iff]
    intro a ha
    simpa using h a ha
  unfold fx; rw [this]
theorem take_ne {D : List (Int × Ls)} {id : Int} {k : Nat} {a : Int × Ls} (h : ∀ a ∈ D.take k, a.1 ≠ id) (hk : D[k]? = some a) (hne : a.1 ≠ id) : ∀ a ∈ D.take (k + 1), a.1 ≠ id := by
  obtain ⟨hl, rfl⟩ := List.getElem?_eq_some_iff.1 hk
  intro b hb
  rw [List.take_succ_eq_append_getElem hl] at hb
  rcases List.mem_append.1 hb with hb | hb
  · exact h b hb
  · rw [List.mem_singleton.1 hb]; exact hne
theorem fx_cases (D : List (Int × Ls)) (id : Int) : (fnd D id = none ∧ fx D id = -1) ∨ ∃ (k : Nat) (y : Ls), D[k]? = some (id, y) ∧ (∀ a ∈ D.take k, a.1 ≠ id) ∧ fx D id = k ∧ fnd D id = some y := by
  by_cases h : ∀ a ∈ D, a.1 ≠ id
  · refine .inl ⟨?_, fx_miss h⟩
    refine fnd_none fun hm => ?_
    obtain ⟨a, ha, e⟩ := List.mem_map.1 hm
    exact h a ha e
  · cases hf : D.findIdx? (fun a => a.1 == id) with
    | none =>
      rw [List.findIdx?_eq_none_iff] at hf
      exact absurd (fun a ha => by simpa using hf a ha) h
    | some k =>
      rw [List.findIdx?_eq_some_iff_getElem] at hf
      obtain ⟨hl, h1, h2⟩ := hf
      refine .inr ⟨k, D[k].2, ?_, fun a ha => ?_, ?_, ?_⟩
      · rw [List.getElem?_eq_getElem hl]
        have : D[k].1 = id := by simpa using h1
        rw [← this]
      · obtain ⟨j, hj, rfl⟩ := List.mem_take_iff_getElem.1 ha
        have := h2 j (by omega)
        simpa using this
      · unfold fx
        rw [List.findIdx?_eq_some_iff_getElem.2 ⟨hl, h1, h2⟩]
      · unfold fnd
        have hp : D.find? (fun a => a.1 == id) = some D[k] := List.find?_eq_some_iff_getElem.2 ⟨h1, k, hl, rfl, fun j hj => by simpa using h2 j hj⟩
        rw [hp]; rfl
section
variable (leak : Int) (A A2 A3 : Option Addr) (n c n2 c2 n3 c3 B : Nat) (D : List (Int × Ls)) (w : World)
set_option maxRecDepth 100000 in
set_option maxHeartbeats 2000000 in
theorem rfind_any (id : Int) (h : Rl w B A n c D) (hB : B ≤ w.heap.size) (hn : n ≤ 100000) :
    Calls Tryz.prog 115 #[.agg #[.int .u64 leak, .slice A n c, .slice A2 n2 c2, .slice A3 n3 c3], .int .u64 id] w fun e w' => e = .returned (.int .i64 (fx D id)) ∧ Below w.heap.size w w' := by
  have HR := Lib.hid h
  have HLEN := Lib.hid h.len
  have b0 := Lib.hid ((Below.refl w.heap.size w).alloc (Nat.le_refl _) (.cells #[.int .u64 leak, .slice A n c, .slice A2 n2 c2, .slice A3 n3 c3] 62))
  clear h
  go_enter Tryz.func115, Tryz.ntmps115
  go_wp2_with fail
  go_loopw [5, 6, 10] (fun s5 s6 i wr => ∃ k : Nat, k ≤ n ∧ i = .int .i64 k ∧ Hid (∀ a ∈ D.take k, a.1 ≠ id) ∧ Below w.heap.size w wr) (fun _ _ i _ => n - (intOf i).toNat)
  case atStart => exact ⟨0, Nat.zero_le _, rfl, Lib.hid (fun a ha => by simp at ha), b0.out⟩
  case round =>
    obtain ⟨k, hk, rfl, hno, hbr⟩ := hrel
    by_cases hlt : k < n
    · obtain ⟨b, o, x, t, s, f, rfl, hb, ha, c0, c1, c2, c3⟩ := four_at HR.out hlt
      have d0 := (hbr.cell (p := ⟨b, o + k * 4, none⟩) (by simp only; omega)).trans c0
      have d1 := (hbr.cell (p := ⟨b, o + k * 4 + 1, none⟩) (by simp only; omega)).trans c1
      have d2 := (hbr.cell (p := ⟨b, o + k * 4 + 2, none⟩) (by simp only; omega)).trans c2
      have d3 := (hbr.cell (p := ⟨b, o + k * 4 + 3, none⟩) (by simp only; omega)).trans c3
      have HAA := Lib.hid ha
      have hbs := hbr.size
      have HB2 := Lib.hid (hbr.alloc hbs (.cells #[.int .u64 x, .int .i64 t, .int .u64 s, .bool f] 210))
      clear c0 c1 c2 c3 ha hbr
      by_cases hx : x = id
      · subst hx
        have HF := Lib.hid (fx_hit hno.out HAA.out)
        go_wp2_with fail
        go_ret
        exact ⟨by rw [HF.out]; rfl, HB2.out⟩
      · have e1 : (x == id) = false := by simpa using hx
        have HN2 := Lib.hid (take_ne hno.out HAA.out hx)
        clear hx
        go_wp2_with fail
        go_roundw
        case rel => exact ⟨k + 1, by omega, by go_num, HN2, HB2.out⟩
        case measure => simp [intOf]; omega
    · have HF : Hid (fx D id = -1) := Lib.hid (fx_miss (by
        have h9 := hno.out
        rw [List.take_of_length_le (by have := HLEN.out; omega)] at h9
        exact h9))
      go_wp2_with fail
      go_ret
      exact ⟨by rw [HF.out]; rfl, hbr⟩
theorem info_u64' : (Tryz.prog.info? 22).map (fun i => (i.zero, i.size, i.bytes)) = some (some (.int .u64 0), 1, 8) := by kernel_rfl
end
end Go.Proofs.YthmdiaingolfnaaGreatDoor.Le
namespace Go.Proofs.YthmdiaingolfnaaGreatDoor.Wl
open Go.ChangeShapes Go.WideShapes Go.ChangeAt Go.RowKit Go.Maps Rw Sl Sn Ck
set_option linter.unusedVariables false
def enc2 (a : Int × Int) : List Value := [.int .u64 a.1, .int .u64 a.2]
theorem enc2_len (a : Int × Int) : (enc2 a).length = 2 := rfl
theorem enc2_one (y : Int × Int) : ∀ u ∈ enc2 y, u.oneCell' = true := by intro u hu; simp [enc2] at hu; rcases hu with rfl | rfl <;> rfl
theorem info_timer : (Tryz.prog.info? 239).map (fun i => (i.zero, i.size, i.bytes)) = some (some (.agg #[.int .u64 0, .int .u64 0]), 2, 16) := by kernel_rfl
abbrev Tr (w : World) (B : Nat) (A : Option Addr) (n c : Nat) (l : List (Int × Int)) : Prop := Rs enc2 2 w B A n c l
theorem Rs.two {w : World} {B : Nat} {A : Option Addr} {n c : Nat} {l : List (Int × Int)} (h : Tr w B A n c l) {k : Nat} (hk : k < n) :
    ∃ b o x, A = some ⟨b, o, none⟩ ∧ b < B ∧ l[k]? = some x ∧ w.cell? ⟨b, o + k * 2, none⟩ = some (.int .u64 x.1) ∧ w.cell? ⟨b, o + k * 2 + 1, none⟩ = some (.int .u64 x.2) := by
  obtain ⟨b, o, x, hA, hb, hx, hc⟩ := h.get hk
  exact ⟨b, o, x, hA, hb, hx, by simpa using hc 0 (.int .u64 x.1) (by omega) rfl, hc 1 (.int .u64 x.2) (by omega) rfl⟩
theorem wo_snoc_hit {l : List (Int × Int)} {k : Nat} {a : Int × Int} {key : Int} (h : l[k]? = some a) (he : a.1 = key) : wo (l.take (k + 1)) key = wo (l.take k) key := by
  rw [List.take_add_one, h]; simp [wo, he]
theorem wo_snoc_miss {l : List (Int × Int)} {k : Nat} {a : Int × Int} {key : Int} (h : l[k]? = some a) (he : a.1 ≠ key) : wo (l.take (k + 1)) key = wo (l.take k) key ++ [a] := by
  rw [List.take_add_one, h]; simp [wo, he]
theorem key_snoc {l : List (Int × Int)} {k : Nat} {a : Int × Int} {key : Int} (h : l[k]? = some a) : decide (key ∈ (l.take (k + 1)).map Prod.fst) = (decide (key ∈ (l.take k).map Prod.fst) || decide (a.1 = key)) := by
  rw [List.take_add_one, h, Bool.eq_iff_iff, Bool.or_eq_true, decide_eq_true_eq, decide_eq_true_eq, decide_eq_true_eq]
  simp
  constructor
  · rintro (h | h)
    · exact .inl h
    · exact .inr h.symm
  · rintro (h | h)
    · exact .inl h
    · exact .inr h.symm
set_option maxRecDepth 100000 in
set_option maxHeartbeats 2000000 in
theorem twithout_any (A : Option Addr) (n c B : Nat) (l : List (Int × Int)) (key : Int) (w : World) (h : Tr w B A n c l) (hB : B ≤ w.heap.size) (hn : n ≤ 100000) :
    Calls Tryz.prog 139 #[.slice A n c, .int .u64 key] w fun e w' => ∃ A' c', e = .returned (.tuple #[.slice A' (wo l key).length c', .bool (decide (key ∈ l.map Prod.fst))]) ∧
      w'.ownsRow w.heap.size 239 2 (.slice A' (wo l key).length c') (wo l key).length (flat enc2 (wo l key)) ∧ Below w.heap.size w w' := by
  obtain ⟨i0, hi, hz0, hz1, hz2⟩ := info_parts info_timer
  have HR := Lib.hid h
  have HLEN := Lib.hid h.len
  clear h
  go_enter Tryz.func139, Tryz.ntmps139
  go_wp2_with fail
  go_loopw [6, 7, 12] (fun v b i wr => ∃ (k q c' : Nat) (A' : Option Addr), k ≤ n ∧ i = .int .i64 k ∧ b = .bool (decide (key ∈ (l.take k).map Prod.fst)) ∧ v = .slice A' q c' ∧ q ≤ k ∧ q = (wo (l.take k) key).length ∧
      wr.ownsRow w.heap.size 239 2 (.slice A' q c') q (flat enc2 (wo (l.take k) key)) ∧ Below w.heap.size w wr) (fun _ _ i _ => n - (intOf i).toNat)
  case atStart => exact ⟨0, 0, 0, none, Nat.zero_le _, rfl, rfl, rfl, Nat.zero_le _, rfl, World.ownsRow_nil _ _ _ _, Below.refl _ _⟩
  case round =>
    obtain ⟨k, q, c', A', hk, rfl, rfl, rfl, hqk, hql, hrow, hbr⟩ := hrel
    have HROW := Lib.hid hrow
    have HQL := Lib.hid hql
    clear hrow hql
    by_cases hlt : k < n
    · obtain ⟨b, o, a, rfl, hb, ha, hc0, hc1⟩ := Rs.two HR.out hlt
      have d0 : wr.cell? ⟨b, o + k * 2, none⟩ = some (.int .u64 a.1) := (hbr.cell (p := ⟨b, o + k * 2, none⟩) (by simp only; omega)).trans hc0
      have d1 : wr.cell? ⟨b, o + k * 2 + 1, none⟩ = some (.int .u64 a.2) := (hbr.cell (p := ⟨b, o + k * 2 + 1, none⟩) (by simp only; omega)).trans hc1
      have HAA := Lib.hid ha
      have hbs := hbr.size
      obtain ⟨x, y⟩ := a
      simp only at d0 d1
      clear hc0 hc1 ha
      by_cases hx : x = key
      · have e1 : (x == key) = true := by simpa using hx
        have ek := key_snoc (key := key) HAA.out
        have ew := wo_snoc_hit (key := key) HAA.out hx
        have EK := Lib.hid ek
        have EW := Lib.hid ew
        have HX := Lib.hid hx
        have HB2 := Lib.hid (hbr.alloc hbs (.cells #[.int .u64 x, .int .u64 y] 239))
        clear ek ew hx hbr
        go_wp2_with fail
        go_roundw
        case rel =>
          refine ⟨k + 1, q, c', A', by omega, by go_num, ?_, rfl, by omega, by rw [EW.out]; exact HQL.out, by rw [EW.out]; exact HROW.out.alloc _, HB2.out⟩
          rw [EK.out]
          simp [HX.out]
        case measure => simp [intOf]; omega
      · have e1 : (x == key) = false := by simpa using hx
        have ek := key_snoc (key := key) HAA.out
        have ew := wo_snoc_miss (key := key) HAA.out hx
        have EK := Lib.hid ek
        have EW := Lib.hid ew
        have HX := Lib.hid hx
        have hb2 := hbr.alloc hbs (.cells #[.int .u64 x, .int .u64 y] 239)
        have HB2 := Lib.hid (hb2.alloc (by simp; omega) (.cells #[.int .u64 x, .int .u64 y] 239))
        have hrs : Tr ((wr.alloc (.cells #[.int .u64 x, .int .u64 y] 239)).alloc (.cells #[.int .u64 x, .int .u64 y] 239)) (wr.heap.size + 1 + 1) (some ⟨wr.heap.size + 1, 0, none⟩) 1 1 [(x, y)] := by
          have := rs_one enc2_len (wr.alloc (.cells #[.int .u64 x, .int .u64 y] 239)) (x, y) 239 (cs := #[.int .u64 x, .int .u64 y]) rfl
          simpa using this
        have HRS := Lib.hid hrs
        have hmp : flat enc2 (wo (l.take k) key) ++ flat enc2 [(x, y)] = flat enc2 (wo (l.take (k + 1)) key) := by rw [EW.out, flat_append]
        have HMP := Lib.hid hmp
        have HROW2 := Lib.hid ((HROW.out.alloc (.cells #[.int .u64 x, .int .u64 y] 239)).alloc (.cells #[.int .u64 x, .int .u64 y] 239))
        clear ek ew hx hbr hb2 hrs hmp
        go_wp2_with (
          at_builtin
          refine append_rs enc2_len rfl _ _ 60 rfl w.heap.size 239 i0 _ 16 Tryz.underlying60 hi hz0 hz1 hz2 rfl (by decide) _ q _ rfl HROW2.out _ _ 1 1 [(x, y)] rfl HRS.out enc2_one (q + 1) rfl _ HMP.out (by unfold maxLen; omega) (by omega) (by simp; omega) ?_
          intro A3 c3 w3 hrow3 hg3 hat3
          have HROW3 := Lib.hid hrow3
          have HB3 := Lib.hid (HB2.out.grown hg3 (by simp; omega) (fun j hj => (HROW2.out.lt j hj).1))
          clear hrow3 hg3 hat3)
        go_roundw
        case rel =>
          refine ⟨k + 1, q + 1, c3, A3, by omega, by go_num, ?_, rfl, by omega, by rw [EW.out, List.length_append, ← HQL.out]; rfl, HROW3.out, HB3.out⟩
          rw [EK.out]
          simp [HX.out]
        case measure => simp [intOf]; omega
    · obtain rfl : k = n := by omega
      have ht : l.take k = l := List.take_of_length_le (by have := HLEN.out; omega)
      have hrow := HROW.out
      have hql := HQL.out
      rw [ht] at hrow hql ⊢
      subst hql
      have HROW2 := Lib.hid hrow
      clear hrow HROW HQL ht
      go_wp2_with fail
      go_ret2
      exact ⟨A', c', rfl, HROW2.out, hbr⟩
def Fm (A : Option Addr) (c : Nat) : Prop := (A = none ∧ c = 0) ∨ ∃ b o, A = some ⟨b, o, none⟩
theorem own_fm {w : World} {base : Nat} {e : TypeId} {size n : Nat} {A : Option Addr} {c : Nat} {xs : List Value} (h : w.ownsRow base e size (.slice A n c) n xs) : Fm A c := by
  rcases h.2 with ⟨h1, _⟩ | ⟨g, cap, cur, h1, _⟩
  · injection h1 with h1 _ h2; exact .inl ⟨h1, h2⟩
  · injection h1 with h1 _ h2; exact .inr ⟨g, 0, h1⟩
theorem bf_parts (x y key t : Int) : bf (x, y) (key, t) = (decide (y < t) || (decide (y = t) && decide (x < key))) := rfl
set_option maxRecDepth 100000 in
set_option maxHeartbeats 4000000 in
theorem tarm_room (A : Option Addr) (n c B : Nat) (l : List (Int × Int)) (key at_ : Int) (w : World) (h : Tr w B A n c l) (hB : B ≤ w.heap.size) (hn : n ≤ 1024) (tms : Tms l) (ha : 0 ≤ at_ ∧ at_ ≤ 18446744073709551615) (hf : ¬ 1024 ≤ (wo l key).length) :
    Calls Tryz.prog 116 #[.slice A n c, .int .u64 key, .int .u64 at_] w fun e w' => ∃ A1 c1, e = .returned (.tuple #[.slice A1 ((wo l key).length + 1) c1, .int .i64 0]) ∧
      w'.ownsRow w.heap.size 239 2 (.slice A1 ((wo l key).length + 1) c1) ((wo l key).length + 1) (flat enc2 (ins (key, cut at_) (wo l key))) ∧ Below w.heap.size w w' := by
  obtain ⟨i0, hi, hz0, hz1, hz2⟩ := info_parts info_timer
  have HR := Lib.hid h
  have HT := Lib.hid tms
  have HLEN := Lib.hid h.len
  clear h tms
  have tms2 : Tms (wo l key) := HT.out.filter _
  obtain ⟨R, hR⟩ : ∃ R, wo l key = R := ⟨_, rfl⟩
  rw [hR] at tms2 hf ⊢
  have hd : decide ((1024 : Int) ≤ (R.length : Int)) = false := decide_eq_false (by omega)
  have hd' : decide (1024 ≤ R.length) = false := decide_eq_false (by omega)
  have HT2 := Lib.hid tms2
  have HRR := Lib.hid hR
  have hlen : R.length ≤ 1024 := by omega
  clear tms2 hR hf
  go_enter Tryz.func116, Tryz.ntmps116
  go_wp2_with fail
  refine (twithout_any A n c B l key _ HR.out hB (by omega)).mono ?_
  rw [HRR.out]
  rintro e w1 ⟨A1, c1, rfl, hrow1, hb1⟩
  have htr : Tr w1 w1.heap.size A1 R.length c1 R := Rs.own_rs enc2_len rfl hrow1
  have hfm := own_fm hrow1
  have HTR0 := Lib.hid htr
  have HB1 := Lib.hid hb1
  clear hrow1 hb1 htr HR HT HLEN
  go_wp2_with fail
  refine (radd_any at_ 0 _ ha.1 ha.2 (by omega) (by omega)).mono ?_
  rintro e w2 ⟨rfl, rfl⟩
  rw [cut_add]
  have hco := cut_ok ha.1
  go_wp2_with fail
  obtain ⟨T, hT⟩ : ∃ T, w1.heap.size = T := ⟨_, rfl⟩
  rw [hT]
  have hx0 : (w1.alloc (.cells #[.int .u64 key, .int .u64 (cut at_)] 239)).cell? ⟨T, 0, none⟩ = some (.int .u64 key) := by rw [← hT]; go_simp
  have hx1 : (w1.alloc (.cells #[.int .u64 key, .int .u64 (cut at_)] 239)).cell? ⟨T, 1, none⟩ = some (.int .u64 (cut at_)) := by rw [← hT]; go_simp
  have HX0 := Lib.hid hx0
  have HX1 := Lib.hid hx1
  have HB2 := Lib.hid (HB1.out.alloc HB1.out.size (.cells #[.int .u64 key, .int .u64 (cut at_)] 239))
  have HTR2 := Lib.hid ((HTR0.out.alloc (Nat.le_refl _) (.cells #[.int .u64 key, .int .u64 (cut at_)] 239)).more (B' := (w1.alloc (.cells #[.int .u64 key, .int .u64 (cut at_)] 239)).heap.size) (by simp))
  clear hT hx0 hx1 HTR0 HB1
  change Code.wp _ _ _ _ (w1.alloc (.cells #[.int .u64 key, .int .u64 (cut at_)] 239))
  generalize w1.alloc (.cells #[.int .u64 key, .int .u64 (cut at_)] 239) = w3 at *
  go_loopw [11] (fun i wr => ∃ k : Nat, k ≤ R.length ∧ i = .int .i64 k ∧ (∀ j x, j < k → R[j]? = some x → bf x (key, cut at_) = true) ∧ Tr wr wr.heap.size A1 R.length c1 R ∧ wr.cell? ⟨T, 0, none⟩ = some (.int .u64 key) ∧ wr.cell? ⟨T, 1, none⟩ = some (.int .u64 (cut at_)) ∧ Below w.heap.size w wr) (fun i _ => R.length - (intOf i).toNat)
  case atStart => exact ⟨0, Nat.zero_le _, rfl, fun j x h => absurd h (by omega), HTR2.out, HX0.out, HX1.out, HB2.out⟩
  case round =>
    clear HTR2 HX0 HX1 HB2
    obtain ⟨k, hkR, rfl, hall, htr, x0, x1, hbr⟩ := hrel
    have HTR := Lib.hid htr
    have HALL := Lib.hid hall
    have hcap := htr.cap
    have htop := htr.top
    clear htr hall
    have f0 : ∀ q : After wr, q.1.cell? ⟨T, 0, none⟩ = some (.int .u64 key) := fun q => q.cell x0
    have f1 : ∀ q : After wr, q.1.cell? ⟨T, 1, none⟩ = some (.int .u64 (cut at_)) := fun q => q.cell x1
    by_cases hlt : k < R.length
    · obtain ⟨b, o, a, rfl, hb, haa, hc0, hc1⟩ := Rs.two HTR.out hlt
      have HAA := Lib.hid haa
      obtain ⟨x, y⟩ := a
      simp only at hc0 hc1
      have g0 : ∀ q : After wr, q.1.cell? ⟨b, o + k * 2, none⟩ = some (.int .u64 x) := fun q => q.cell hc0
      have g1 : ∀ q : After wr, q.1.cell? ⟨b, o + k * 2 + 1, none⟩ = some (.int .u64 y) := fun q => q.cell hc1
      clear haa
      by_cases hbf : bf (x, y) (key, cut at_) = true
      · have hround : ∀ W3, Below wr.heap.size wr W3 → ∃ q : Nat, q ≤ R.length ∧ (Value.int .i64 ((k : Int) + 1)) = .int .i64 q ∧ (∀ j z, j < q → R[j]? = some z → bf z (key, cut at_) = true) ∧ Tr W3 W3.heap.size (some ⟨b, o, none⟩) R.length c1 R ∧ W3.cell? ⟨T, 0, none⟩ = some (.int .u64 key) ∧ W3.cell? ⟨T, 1, none⟩ = some (.int .u64 (cut at_)) ∧ Below w.heap.size w W3 := by
          intro W3 h3
          refine ⟨k + 1, by omega, by go_num, fun j z hj hz => ?_, HTR.out.later h3, (h3.cell (p := ⟨T, 0, none⟩) (Lw.lt_heap x0)).trans x0, (h3.cell (p := ⟨T, 1, none⟩) (Lw.lt_heap x1)).trans x1, hbr.trans (h3.mono hbr.size)⟩
          rcases Nat.lt_or_ge j k with h | h
          · exact HALL.out j z h hz
          · obtain rfl : j = k := by omega
            have := HAA.out.symm.trans hz
            injection this with this
            subst this
            exact hbf
        have HRND := Lib.hid hround
        clear hround hbr HTR HALL HAA hcap htop
        by_cases hyt : y < cut at_
        · have d1 : decide (y < cut at_) = true := decide_eq_true hyt
          clear hbf hyt
          go_wp2_with fail
          refine region_after (by kernel_rfl) (by kernel_rfl) ?_
          repeat (go_big_quiet_step (fail))
          refine wpQuiet_nil ?_
          rintro W3 ⟨⟨_, hb3⟩, rfl⟩
          go_wp2_with fail
          go_roundw
          case rel => exact HRND.out W3 hb3
          case measure => simp [intOf]; omega
        · have d1 : decide (y < cut at_) = false := decide_eq_false hyt
          rw [bf_parts, d1, Bool.false_or, Bool.and_eq_true] at hbf
          have hye : y = cut at_ := of_decide_eq_true hbf.1
          have d2 : (y == cut at_) = true := by simpa using hye
          have d3 : decide (x < key) = true := hbf.2
          clear hbf hyt hye
          go_wp2_with fail
          refine region_after (by kernel_rfl) (by kernel_rfl) ?_
          repeat (go_big_quiet_step (fail))
          refine wpQuiet_nil ?_
          rintro W3 ⟨⟨_, hb3⟩, rfl⟩
          go_wp2_with fail
          go_roundw
          case rel => exact HRND.out W3 hb3
          case measure => simp [intOf]; omega
      · have hins : ins (key, cut at_) R = R.take k ++ (key, cut at_) :: R.drop k := HT2.out.ins_at HALL.out (fun z hz => by have := HAA.out.symm.trans hz; injection this with this; subst this; simpa using hbf)
        have HINS := Lib.hid hins
        have hkc : k < c1 := by omega
        have hck : ¬ c1 = k := by omega
        have d1 : decide (y < cut at_) = false := by
          cases hq : decide (y < cut at_) with
          | false => rfl
          | true => exact absurd (by rw [bf_parts, hq]; rfl) hbf
        have hor : (y == cut at_) = false ∨ ((y == cut at_) = true ∧ decide (x < key) = false) := by
          cases hq : (y == cut at_) with
          | false => exact .inl rfl
          | true =>
            refine .inr ⟨rfl, ?_⟩
            cases hq2 : decide (x < key) with
            | false => rfl
            | true =>
              have hye : y = cut at_ := by simpa using hq
              exact absurd (by rw [bf_parts, hq2]; simp [hye]) hbf
        clear hins hbf HALL
        rcases hor with d2 | ⟨d2, d3⟩
        · go_wp2_with fail
          refine region_after (by kernel_rfl) (by kernel_rfl) ?_
          repeat (go_big_quiet_step (fail))
          refine wpQuiet_nil ?_
          rintro W3 ⟨⟨_, hb3⟩, rfl⟩
          have HTR4 := Lib.hid (HTR.out.later hb3)
          have x4 : W3.cell? ⟨T, 0, none⟩ = some (.int .u64 key) := (hb3.cell (p := ⟨T, 0, none⟩) (Lw.lt_heap x0)).trans x0
          have x5 : W3.cell? ⟨T, 1, none⟩ = some (.int .u64 (cut at_)) := (hb3.cell (p := ⟨T, 1, none⟩) (Lw.lt_heap x1)).trans x1
          have hb4 : Below w.heap.size w W3 := hbr.trans (hb3.mono hbr.size)
          clear hc0 hc1 f0 f1 g0 g1 x0 x1 hb3 hbr HTR HAA
          have hbs := hb4.size
          have hfr : Tr W3 W3.heap.size (some ⟨b, o, none⟩) k c1 (R.take k) := HTR4.out.front (by omega)
          have hbk : Tr W3 W3.heap.size (some ⟨b, o + k * 2, none⟩) (R.length - k) (c1 - k) (R.drop k) := HTR4.out.back (by omega) rfl (fun _ => rfl)
          obtain ⟨bs, hbe⟩ : ∃ bs, W3.heap.size = bs := ⟨_, rfl⟩
          rw [hbe] at hfr hbk hbs
          have hble : bs ≤ W3.heap.size := by omega
          have hbge : W3.heap.size ≤ bs := by omega
          have HFR := Lib.hid hfr
          have HBK := Lib.hid hbk
          have HBR := Lib.hid hb4
          have hmp1 : flat enc2 (R.take k) ++ flat enc2 [(key, cut at_)] = flat enc2 (R.take k ++ [(key, cut at_)]) := (flat_append _ _).symm
          have hmp2 : flat enc2 (R.take k ++ [(key, cut at_)]) ++ flat enc2 (R.drop k) = flat enc2 (ins (key, cut at_) R) := by (rw [HINS.out, ← flat_append]) <;> (congr 1 <;> simp)
          have HMP1 := Lib.hid hmp1
          have HMP2 := Lib.hid hmp2
          clear hfr hbk hbe hb4 HTR4 hmp1 hmp2
          go_wp2_with (first
            | (at_builtin
               refine append_rs enc2_len rfl (.tmp 62) (.tmp 65) 60 rfl bs 239 i0 _ 16 Tryz.underlying60 hi hz0 hz1 hz2 rfl (by decide) (.slice none 0 0) 0 [] rfl (World.ownsRow_nil _ _ _ _) _ (some ⟨b, o, none⟩) k c1 (R.take k) rfl HFR.out enc2_one k (Nat.zero_add _) (flat enc2 (R.take k)) rfl (by unfold maxLen; omega) (by omega) hble ?_
               intro A3 c3 w3 hrow3 hg3 hat3
               have z0 : w3.cell? ⟨T, 0, none⟩ = some (.int .u64 key) := hg3.cell x4 (by simp [Value.ownBlock])
               have z1 : w3.cell? ⟨T, 1, none⟩ = some (.int .u64 (cut at_)) := hg3.cell x5 (by simp [Value.ownBlock])
               have HROW3 := Lib.hid hrow3
               have HBK3 := Lib.hid (HBK.out.grown hg3 hble (fun g hg => by cases hg))
               have HB3 := Lib.hid (HBR.out.grown hg3 HBR.out.size (fun j hj => by cases hj))
               have hs3 := hg3.size
               have HRS := Lib.hid (rs_one enc2_len w3 (key, cut at_) 239 (cs := #[.int .u64 key, .int .u64 (cut at_)]) rfl)
               clear hrow3 hg3 hat3)
            | (at_builtin
               refine append_rs enc2_len rfl (.tmp 67) (.tmp 69) 60 rfl bs 239 i0 _ 16 Tryz.underlying60 hi hz0 hz1 hz2 rfl (by decide) _ k _ rfl (HROW3.out.alloc _) _ _ 1 1 [(key, cut at_)] rfl HRS.out enc2_one (k + 1) rfl _ HMP1.out (by unfold maxLen; omega) (by omega) (by simp; omega) ?_
               intro A4 c4 w4 hrow4 hg4 hat4
               have HROW4 := Lib.hid hrow4
               have HBK4 := Lib.hid ((HBK3.out.alloc (by omega) _).grown hg4 (by simp; omega) (fun g hg => (HROW3.out.lt g hg).1))
               have HB4 := Lib.hid ((HB3.out.alloc HB3.out.size _).grown hg4 (by have := HB3.out.size; simp; omega) (fun j hj => by have := (HROW3.out.lt j hj).1; omega))
               have hs4 := hg4.size
               clear hrow4 hg4 hat4)
            | (at_builtin
               refine append_rs enc2_len rfl (.tmp 71) (.tmp 74) 60 rfl bs 239 i0 _ 16 Tryz.underlying60 hi hz0 hz1 hz2 rfl (by decide) _ (k + 1) _ rfl HROW4.out _ (some ⟨b, o + k * 2, none⟩) ((R.length - k)) ((c1 - k)) (R.drop k) rfl HBK4.out enc2_one (R.length + 1) (by omega) _ HMP2.out (by unfold maxLen; omega) (by omega) (by simp at hs4; omega) ?_
               intro A5 c5 w5 hrow5 hg5 hat5
               have HROW5 := Lib.hid hrow5
               have HB5 := Lib.hid (HB4.out.grown hg5 HB4.out.size (fun j hj => by have := (HROW4.out.lt j hj).1; omega))
               clear hrow5 hg5 hat5))
          go_ret2
          exact ⟨A5, c5, rfl, own_mono HROW5.out (by omega), HB5.out⟩
        · go_wp2_with fail
          refine region_after (by kernel_rfl) (by kernel_rfl) ?_
          repeat (go_big_quiet_step (fail))
          refine wpQuiet_nil ?_
          rintro W3 ⟨⟨_, hb3⟩, rfl⟩
          have HTR4 := Lib.hid (HTR.out.later hb3)
          have x4 : W3.cell? ⟨T, 0, none⟩ = some (.int .u64 key) := (hb3.cell (p := ⟨T, 0, none⟩) (Lw.lt_heap x0)).trans x0
          have x5 : W3.cell? ⟨T, 1, none⟩ = some (.int .u64 (cut at_)) := (hb3.cell (p := ⟨T, 1, none⟩) (Lw.lt_heap x1)).trans x1
          have hb4 : Below w.heap.size w W3 := hbr.trans (hb3.mono hbr.size)
          clear hc0 hc1 f0 f1 g0 g1 x0 x1 hb3 hbr HTR HAA
          have hbs := hb4.size
          have hfr : Tr W3 W3.heap.size (some ⟨b, o, none⟩) k c1 (R.take k) := HTR4.out.front (by omega)
          have hbk : Tr W3 W3.heap.size (some ⟨b, o + k * 2, none⟩) (R.length - k) (c1 - k) (R.drop k) := HTR4.out.back (by omega) rfl (fun _ => rfl)
          obtain ⟨bs, hbe⟩ : ∃ bs, W3.heap.size = bs := ⟨_, rfl⟩
          rw [hbe] at hfr hbk hbs
          have hble : bs ≤ W3.heap.size := by omega
          have hbge : W3.heap.size ≤ bs := by omega
          have HFR := Lib.hid hfr
          have HBK := Lib.hid hbk
          have HBR := Lib.hid hb4
          have hmp1 : flat enc2 (R.take k) ++ flat enc2 [(key, cut at_)] = flat enc2 (R.take k ++ [(key, cut at_)]) := (flat_append _ _).symm
          have hmp2 : flat enc2 (R.take k ++ [(key, cut at_)]) ++ flat enc2 (R.drop k) = flat enc2 (ins (key, cut at_) R) := by (rw [HINS.out, ← flat_append]) <;> (congr 1 <;> simp)
          have HMP1 := Lib.hid hmp1
          have HMP2 := Lib.hid hmp2
          clear hfr hbk hbe hb4 HTR4 hmp1 hmp2
          go_wp2_with (first
            | (at_builtin
               refine append_rs enc2_len rfl (.tmp 62) (.tmp 65) 60 rfl bs 239 i0 _ 16 Tryz.underlying60 hi hz0 hz1 hz2 rfl (by decide) (.slice none 0 0) 0 [] rfl (World.ownsRow_nil _ _ _ _) _ (some ⟨b, o, none⟩) k c1 (R.take k) rfl HFR.out enc2_one k (Nat.zero_add _) (flat enc2 (R.take k)) rfl (by unfold maxLen; omega) (by omega) hble ?_
               intro A3 c3 w3 hrow3 hg3 hat3
               have z0 : w3.cell? ⟨T, 0, none⟩ = some (.int .u64 key) := hg3.cell x4 (by simp [Value.ownBlock])
               have z1 : w3.cell? ⟨T, 1, none⟩ = some (.int .u64 (cut at_)) := hg3.cell x5 (by simp [Value.ownBlock])
               have HROW3 := Lib.hid hrow3
               have HBK3 := Lib.hid (HBK.out.grown hg3 hble (fun g hg => by cases hg))
               have HB3 := Lib.hid (HBR.out.grown hg3 HBR.out.size (fun j hj => by cases hj))
               have hs3 := hg3.size
               have HRS := Lib.hid (rs_one enc2_len w3 (key, cut at_) 239 (cs := #[.int .u64 key, .int .u64 (cut at_)]) rfl)
               clear hrow3 hg3 hat3)
            | (at_builtin
               refine append_rs enc2_len rfl (.tmp 67) (.tmp 69) 60 rfl bs 239 i0 _ 16 Tryz.underlying60 hi hz0 hz1 hz2 rfl (by decide) _ k _ rfl (HROW3.out.alloc _) _ _ 1 1 [(key, cut at_)] rfl HRS.out enc2_one (k + 1) rfl _ HMP1.out (by unfold maxLen; omega) (by omega) (by simp; omega) ?_
               intro A4 c4 w4 hrow4 hg4 hat4
               have HROW4 := Lib.hid hrow4
               have HBK4 := Lib.hid ((HBK3.out.alloc (by omega) _).grown hg4 (by simp; omega) (fun g hg => (HROW3.out.lt g hg).1))
               have HB4 := Lib.hid ((HB3.out.alloc HB3.out.size _).grown hg4 (by have := HB3.out.size; simp; omega) (fun j hj => by have := (HROW3.out.lt j hj).1; omega))
               have hs4 := hg4.size
               clear hrow4 hg4 hat4)
            | (at_builtin
               refine append_rs enc2_len rfl (.tmp 71) (.tmp 74) 60 rfl bs 239 i0 _ 16 Tryz.underlying60 hi hz0 hz1 hz2 rfl (by decide) _ (k + 1) _ rfl HROW4.out _ (some ⟨b, o + k * 2, none⟩) ((R.length - k)) ((c1 - k)) (R.drop k) rfl HBK4.out enc2_one (R.length + 1) (by omega) _ HMP2.out (by unfold maxLen; omega) (by omega) (by simp at hs4; omega) ?_
               intro A5 c5 w5 hrow5 hg5 hat5
               have HROW5 := Lib.hid hrow5
               have HB5 := Lib.hid (HB4.out.grown hg5 HB4.out.size (fun j hj => by have := (HROW4.out.lt j hj).1; omega))
               clear hrow5 hg5 hat5))
          go_ret2
          exact ⟨A5, c5, rfl, own_mono HROW5.out (by omega), HB5.out⟩
    · obtain rfl : k = R.length := by omega
      have hins : ins (key, cut at_) R = R.take R.length ++ (key, cut at_) :: R.drop R.length := HT2.out.ins_at HALL.out (fun z hz => by have := (List.getElem?_eq_some_iff.1 hz).1; omega)
      have HINS := Lib.hid hins
      clear hins HALL
      rcases hfm with ⟨rfl, rfl⟩ | ⟨b, o, rfl⟩
      · obtain rfl : R = [] := List.eq_nil_of_length_eq_zero (by omega)
        go_wp2_with fail
        refine region_after (by kernel_rfl) (by kernel_rfl) ?_
        repeat (go_big_quiet_step (fail))
        refine wpQuiet_nil ?_
        rintro W3 ⟨⟨_, hb3⟩, rfl⟩
        have HTR4 := Lib.hid (HTR.out.later hb3)
        have x4 : W3.cell? ⟨T, 0, none⟩ = some (.int .u64 key) := (hb3.cell (p := ⟨T, 0, none⟩) (Lw.lt_heap x0)).trans x0
        have x5 : W3.cell? ⟨T, 1, none⟩ = some (.int .u64 (cut at_)) := (hb3.cell (p := ⟨T, 1, none⟩) (Lw.lt_heap x1)).trans x1
        have hb4 : Below w.heap.size w W3 := hbr.trans (hb3.mono hbr.size)
        clear f0 f1 x0 x1 hb3 hbr HTR
        have hbs := hb4.size
        have hfr : Tr W3 W3.heap.size none 0 0 ([].take 0) := HTR4.out.front (by omega)
        have hbk : Tr W3 W3.heap.size none 0 0 ([].drop 0) := Rs.nil_
        obtain ⟨bs, hbe⟩ : ∃ bs, W3.heap.size = bs := ⟨_, rfl⟩
        rw [hbe] at hfr hbk hbs
        have hble : bs ≤ W3.heap.size := by omega
        have hbge : W3.heap.size ≤ bs := by omega
        have HFR := Lib.hid hfr
        have HBK := Lib.hid hbk
        have HBR := Lib.hid hb4
        have hmp1 : flat enc2 ([].take 0) ++ flat enc2 [(key, cut at_)] = flat enc2 ([].take 0 ++ [(key, cut at_)]) := (flat_append _ _).symm
        have hmp2 : flat enc2 ([].take 0 ++ [(key, cut at_)]) ++ flat enc2 ([].drop 0) = flat enc2 (ins (key, cut at_) []) := by (rw [HINS.out, ← flat_append]) <;> (congr 1 <;> simp)
        have HMP1 := Lib.hid hmp1
        have HMP2 := Lib.hid hmp2
        clear hfr hbk hbe hb4 HTR4 hmp1 hmp2
        go_wp2_with (first
          | (at_builtin
             refine append_rs enc2_len rfl (.tmp 62) (.tmp 65) 60 rfl bs 239 i0 _ 16 Tryz.underlying60 hi hz0 hz1 hz2 rfl (by decide) (.slice none 0 0) 0 [] rfl (World.ownsRow_nil _ _ _ _) _ none 0 0 ([].take 0) rfl HFR.out enc2_one 0 (Nat.zero_add _) (flat enc2 ([].take 0)) rfl (by unfold maxLen; omega) (by omega) hble ?_
             intro A3 c3 w3 hrow3 hg3 hat3
             have z0 : w3.cell? ⟨T, 0, none⟩ = some (.int .u64 key) := hg3.cell x4 (by simp [Value.ownBlock])
             have z1 : w3.cell? ⟨T, 1, none⟩ = some (.int .u64 (cut at_)) := hg3.cell x5 (by simp [Value.ownBlock])
             have HROW3 := Lib.hid hrow3
             have HBK3 := Lib.hid (HBK.out.grown hg3 hble (fun g hg => by cases hg))
             have HB3 := Lib.hid (HBR.out.grown hg3 HBR.out.size (fun j hj => by cases hj))
             have hs3 := hg3.size
             have HRS := Lib.hid (rs_one enc2_len w3 (key, cut at_) 239 (cs := #[.int .u64 key, .int .u64 (cut at_)]) rfl)
             clear hrow3 hg3 hat3)
          | (at_builtin
             refine append_rs enc2_len rfl (.tmp 67) (.tmp 69) 60 rfl bs 239 i0 _ 16 Tryz.underlying60 hi hz0 hz1 hz2 rfl (by decide) _ 0 _ rfl (HROW3.out.alloc _) _ _ 1 1 [(key, cut at_)] rfl HRS.out enc2_one (0 + 1) rfl _ HMP1.out (by unfold maxLen; omega) (by omega) (by simp; omega) ?_
             intro A4 c4 w4 hrow4 hg4 hat4
             have HROW4 := Lib.hid hrow4
             have HBK4 := Lib.hid ((HBK3.out.alloc (by omega) _).grown hg4 (by simp; omega) (fun g hg => (HROW3.out.lt g hg).1))
             have HB4 := Lib.hid ((HB3.out.alloc HB3.out.size _).grown hg4 (by have := HB3.out.size; simp; omega) (fun j hj => by have := (HROW3.out.lt j hj).1; omega))
             have hs4 := hg4.size
             clear hrow4 hg4 hat4)
          | (at_builtin
             refine append_rs enc2_len rfl (.tmp 71) (.tmp 74) 60 rfl bs 239 i0 _ 16 Tryz.underlying60 hi hz0 hz1 hz2 rfl (by decide) _ (0 + 1) _ rfl HROW4.out _ none (0) (0) ([].drop 0) rfl HBK4.out enc2_one (0 + 1) (by omega) _ HMP2.out (by unfold maxLen; omega) (by omega) (by simp at hs4; omega) ?_
             intro A5 c5 w5 hrow5 hg5 hat5
             have HROW5 := Lib.hid hrow5
             have HB5 := Lib.hid (HB4.out.grown hg5 HB4.out.size (fun j hj => by have := (HROW4.out.lt j hj).1; omega))
             clear hrow5 hg5 hat5))
        go_ret2
        exact ⟨A5, c5, rfl, own_mono HROW5.out (by omega), HB5.out⟩
      · by_cases hck : c1 = R.length
        · subst hck
          go_wp2_with fail
          refine region_after (by kernel_rfl) (by kernel_rfl) ?_
          repeat (go_big_quiet_step (fail))
          refine wpQuiet_nil ?_
          rintro W3 ⟨⟨_, hb3⟩, rfl⟩
          have HTR4 := Lib.hid (HTR.out.later hb3)
          have x4 : W3.cell? ⟨T, 0, none⟩ = some (.int .u64 key) := (hb3.cell (p := ⟨T, 0, none⟩) (Lw.lt_heap x0)).trans x0
          have x5 : W3.cell? ⟨T, 1, none⟩ = some (.int .u64 (cut at_)) := (hb3.cell (p := ⟨T, 1, none⟩) (Lw.lt_heap x1)).trans x1
          have hb4 : Below w.heap.size w W3 := hbr.trans (hb3.mono hbr.size)
          clear f0 f1 x0 x1 hb3 hbr HTR
          have hbs := hb4.size
          have hfr : Tr W3 W3.heap.size (some ⟨b, o, none⟩) R.length R.length (R.take R.length) := HTR4.out.front (by omega)
          have hbk : Tr W3 W3.heap.size (some ⟨b, o, none⟩) 0 0 (R.drop R.length) := by have := HTR4.out.back (i := R.length) (A' := some ⟨b, o, none⟩) (Nat.le_refl _) rfl (by omega); simpa using this
          obtain ⟨bs, hbe⟩ : ∃ bs, W3.heap.size = bs := ⟨_, rfl⟩
          rw [hbe] at hfr hbk hbs
          have hble : bs ≤ W3.heap.size := by omega
          have hbge : W3.heap.size ≤ bs := by omega
          have HFR := Lib.hid hfr
          have HBK := Lib.hid hbk
          have HBR := Lib.hid hb4
          have hmp1 : flat enc2 (R.take R.length) ++ flat enc2 [(key, cut at_)] = flat enc2 (R.take R.length ++ [(key, cut at_)]) := (flat_append _ _).symm
          have hmp2 : flat enc2 (R.take R.length ++ [(key, cut at_)]) ++ flat enc2 (R.drop R.length) = flat enc2 (ins (key, cut at_) R) := by (rw [HINS.out, ← flat_append]) <;> (congr 1 <;> simp)
          have HMP1 := Lib.hid hmp1
          have HMP2 := Lib.hid hmp2
          clear hfr hbk hbe hb4 HTR4 hmp1 hmp2
          go_wp2_with (first
            | (at_builtin
               refine append_rs enc2_len rfl (.tmp 62) (.tmp 65) 60 rfl bs 239 i0 _ 16 Tryz.underlying60 hi hz0 hz1 hz2 rfl (by decide) (.slice none 0 0) 0 [] rfl (World.ownsRow_nil _ _ _ _) _ (some ⟨b, o, none⟩) R.length R.length (R.take R.length) rfl HFR.out enc2_one R.length (Nat.zero_add _) (flat enc2 (R.take R.length)) rfl (by unfold maxLen; omega) (by omega) hble ?_
               intro A3 c3 w3 hrow3 hg3 hat3
               have z0 : w3.cell? ⟨T, 0, none⟩ = some (.int .u64 key) := hg3.cell x4 (by simp [Value.ownBlock])
               have z1 : w3.cell? ⟨T, 1, none⟩ = some (.int .u64 (cut at_)) := hg3.cell x5 (by simp [Value.ownBlock])
               have HROW3 := Lib.hid hrow3
               have HBK3 := Lib.hid (HBK.out.grown hg3 hble (fun g hg => by cases hg))
               have HB3 := Lib.hid (HBR.out.grown hg3 HBR.out.size (fun j hj => by cases hj))
               have hs3 := hg3.size
               have HRS := Lib.hid (rs_one enc2_len w3 (key, cut at_) 239 (cs := #[.int .u64 key, .int .u64 (cut at_)]) rfl)
               clear hrow3 hg3 hat3)
            | (at_builtin
               refine append_rs enc2_len rfl (.tmp 67) (.tmp 69) 60 rfl bs 239 i0 _ 16 Tryz.underlying60 hi hz0 hz1 hz2 rfl (by decide) _ R.length _ rfl (HROW3.out.alloc _) _ _ 1 1 [(key, cut at_)] rfl HRS.out enc2_one (R.length + 1) rfl _ HMP1.out (by unfold maxLen; omega) (by omega) (by simp; omega) ?_
               intro A4 c4 w4 hrow4 hg4 hat4
               have HROW4 := Lib.hid hrow4
               have HBK4 := Lib.hid ((HBK3.out.alloc (by omega) _).grown hg4 (by simp; omega) (fun g hg => (HROW3.out.lt g hg).1))
               have HB4 := Lib.hid ((HB3.out.alloc HB3.out.size _).grown hg4 (by have := HB3.out.size; simp; omega) (fun j hj => by have := (HROW3.out.lt j hj).1; omega))
               have hs4 := hg4.size
               clear hrow4 hg4 hat4)
            | (at_builtin
               refine append_rs enc2_len rfl (.tmp 71) (.tmp 74) 60 rfl bs 239 i0 _ 16 Tryz.underlying60 hi hz0 hz1 hz2 rfl (by decide) _ (R.length + 1) _ rfl HROW4.out _ (some ⟨b, o, none⟩) (0) (0) (R.drop R.length) rfl HBK4.out enc2_one (R.length + 1) (by omega) _ HMP2.out (by unfold maxLen; omega) (by omega) (by simp at hs4; omega) ?_
               intro A5 c5 w5 hrow5 hg5 hat5
               have HROW5 := Lib.hid hrow5
               have HB5 := Lib.hid (HB4.out.grown hg5 HB4.out.size (fun j hj => by have := (HROW4.out.lt j hj).1; omega))
               clear hrow5 hg5 hat5))
          go_ret2
          exact ⟨A5, c5, rfl, own_mono HROW5.out (by omega), HB5.out⟩
        · have hkc : R.length < c1 := by omega
          go_wp2_with fail
          refine region_after (by kernel_rfl) (by kernel_rfl) ?_
          repeat (go_big_quiet_step (fail))
          refine wpQuiet_nil ?_
          rintro W3 ⟨⟨_, hb3⟩, rfl⟩
          have HTR4 := Lib.hid (HTR.out.later hb3)
          have x4 : W3.cell? ⟨T, 0, none⟩ = some (.int .u64 key) := (hb3.cell (p := ⟨T, 0, none⟩) (Lw.lt_heap x0)).trans x0
          have x5 : W3.cell? ⟨T, 1, none⟩ = some (.int .u64 (cut at_)) := (hb3.cell (p := ⟨T, 1, none⟩) (Lw.lt_heap x1)).trans x1
          have hb4 : Below w.heap.size w W3 := hbr.trans (hb3.mono hbr.size)
          clear f0 f1 x0 x1 hb3 hbr HTR
          have hbs := hb4.size
          have hfr : Tr W3 W3.heap.size (some ⟨b, o, none⟩) R.length c1 (R.take R.length) := HTR4.out.front (by omega)
          have hbk : Tr W3 W3.heap.size (some ⟨b, o + R.length * 2, none⟩) 0 (c1 - R.length) (R.drop R.length) := by have := HTR4.out.back (i := R.length) (A' := some ⟨b, o + R.length * 2, none⟩) (Nat.le_refl _) rfl (by omega); rwa [Nat.sub_self] at this
          obtain ⟨bs, hbe⟩ : ∃ bs, W3.heap.size = bs := ⟨_, rfl⟩
          rw [hbe] at hfr hbk hbs
          have hble : bs ≤ W3.heap.size := by omega
          have hbge : W3.heap.size ≤ bs := by omega
          have HFR := Lib.hid hfr
          have HBK := Lib.hid hbk
          have HBR := Lib.hid hb4
          have hmp1 : flat enc2 (R.take R.length) ++ flat enc2 [(key, cut at_)] = flat enc2 (R.take R.length ++ [(key, cut at_)]) := (flat_append _ _).symm
          have hmp2 : flat enc2 (R.take R.length ++ [(key, cut at_)]) ++ flat enc2 (R.drop R.length) = flat enc2 (ins (key, cut at_) R) := by (rw [HINS.out, ← flat_append]) <;> (congr 1 <;> simp)
          have HMP1 := Lib.hid hmp1
          have HMP2 := Lib.hid hmp2
          clear hfr hbk hbe hb4 HTR4 hmp1 hmp2
          go_wp2_with (first
            | (at_builtin
               refine append_rs enc2_len rfl (.tmp 62) (.tmp 65) 60 rfl bs 239 i0 _ 16 Tryz.underlying60 hi hz0 hz1 hz2 rfl (by decide) (.slice none 0 0) 0 [] rfl (World.ownsRow_nil _ _ _ _) _ (some ⟨b, o, none⟩) R.length c1 (R.take R.length) rfl HFR.out enc2_one R.length (Nat.zero_add _) (flat enc2 (R.take R.length)) rfl (by unfold maxLen; omega) (by omega) hble ?_
               intro A3 c3 w3 hrow3 hg3 hat3
               have z0 : w3.cell? ⟨T, 0, none⟩ = some (.int .u64 key) := hg3.cell x4 (by simp [Value.ownBlock])
               have z1 : w3.cell? ⟨T, 1, none⟩ = some (.int .u64 (cut at_)) := hg3.cell x5 (by simp [Value.ownBlock])
               have HROW3 := Lib.hid hrow3
               have HBK3 := Lib.hid (HBK.out.grown hg3 hble (fun g hg => by cases hg))
               have HB3 := Lib.hid (HBR.out.grown hg3 HBR.out.size (fun j hj => by cases hj))
               have hs3 := hg3.size
               have HRS := Lib.hid (rs_one enc2_len w3 (key, cut at_) 239 (cs := #[.int .u64 key, .int .u64 (cut at_)]) rfl)
               clear hrow3 hg3 hat3)
            | (at_builtin
               refine append_rs enc2_len rfl (.tmp 67) (.tmp 69) 60 rfl bs 239 i0 _ 16 Tryz.underlying60 hi hz0 hz1 hz2 rfl (by decide) _ R.length _ rfl (HROW3.out.alloc _) _ _ 1 1 [(key, cut at_)] rfl HRS.out enc2_one (R.length + 1) rfl _ HMP1.out (by unfold maxLen; omega) (by omega) (by simp; omega) ?_
               intro A4 c4 w4 hrow4 hg4 hat4
               have HROW4 := Lib.hid hrow4
               have HBK4 := Lib.hid ((HBK3.out.alloc (by omega) _).grown hg4 (by simp; omega) (fun g hg => (HROW3.out.lt g hg).1))
               have HB4 := Lib.hid ((HB3.out.alloc HB3.out.size _).grown hg4 (by have := HB3.out.size; simp; omega) (fun j hj => by have := (HROW3.out.lt j hj).1; omega))
               have hs4 := hg4.size
               clear hrow4 hg4 hat4)
            | (at_builtin
               refine append_rs enc2_len rfl (.tmp 71) (.tmp 74) 60 rfl bs 239 i0 _ 16 Tryz.underlying60 hi hz0 hz1 hz2 rfl (by decide) _ (R.length + 1) _ rfl HROW4.out _ (some ⟨b, o + R.length * 2, none⟩) (0) ((c1 - R.length)) (R.drop R.length) rfl HBK4.out enc2_one (R.length + 1) (by omega) _ HMP2.out (by unfold maxLen; omega) (by omega) (by simp at hs4; omega) ?_
               intro A5 c5 w5 hrow5 hg5 hat5
               have HROW5 := Lib.hid hrow5
               have HB5 := Lib.hid (HB4.out.grown hg5 HB4.out.size (fun j hj => by have := (HROW4.out.lt j hj).1; omega))
               clear hrow5 hg5 hat5))
          go_ret2
          exact ⟨A5, c5, rfl, own_mono HROW5.out (by omega), HB5.out⟩
end Go.Proofs.YthmdiaingolfnaaGreatDoor.Wl
namespace Go.Proofs.YthmdiaingolfnaaGreatDoor.Le
open Go.ChangeShapes Go.WideShapes Go.ChangeAt Go.RowKit Go.Maps Rw Hi Mt
set_option linter.unusedVariables false
def V4 (w : World) (g : Nat) (a b c d : Value) : Prop := (w.cell? ⟨g, 0, none⟩ = some a ∧ w.cell? ⟨g, 1, none⟩ = some b ∧ w.cell? ⟨g, 2, none⟩ = some c ∧ w.cell? ⟨g, 3, none⟩ = some d) ∧ w.frozen? ⟨g, 0, none⟩ = false ∧ w.frozen? ⟨g, 1, none⟩ = false ∧ w.frozen? ⟨g, 2, none⟩ = false ∧ w.frozen? ⟨g, 3, none⟩ = false
theorem V4.new (w : World) (t : TypeId) (a b c d : Value) : V4 (w.alloc (.cells #[a, b, c, d] t)) w.heap.size a b c d := by
  unfold V4
  refine ⟨⟨?_, ?_, ?_, ?_⟩, ?_, ?_, ?_, ?_⟩ <;> go_simp
theorem V4.below {w w' : World} {g B : Nat} {a b c d : Value} (h : V4 w g a b c d) (hb : Below B w w') (hg : g < B) : V4 w' g a b c d := by
  obtain ⟨⟨h0, h1, h2, h3⟩, f0, f1, f2, f3⟩ := h
  exact ⟨⟨(hb.cell (p := ⟨g, 0, none⟩) hg).trans h0, (hb.cell (p := ⟨g, 1, none⟩) hg).trans h1, (hb.cell (p := ⟨g, 2, none⟩) hg).trans h2, (hb.cell (p := ⟨g, 3, none⟩) hg).trans h3⟩,
    (hb.frozen (p := ⟨g, 0, none⟩) hg).trans f0, (hb.frozen (p := ⟨g, 1, none⟩) hg).trans f1, (hb.frozen (p := ⟨g, 2, none⟩) hg).trans f2, (hb.frozen (p := ⟨g, 3, none⟩) hg).trans f3⟩
structure Da where
  A : Option Addr
  n : Nat
  c : Nat
  A2 : Option Addr
  n2 : Nat
  c2 : Nat
  A3 : Option Addr
  n3 : Nat
  c3 : Nat
abbrev Da.val (leak : Int) (d : Da) : Value := .agg #[.int .u64 leak, .slice d.A d.n d.c, .slice d.A2 d.n2 d.c2, .slice d.A3 d.n3 d.c3]
structure DkK (K : Nat → Prop) (w : World) (d : Da) (D : List (Int × Ls)) (M : List Int) (T : List (Int × Int)) : Prop where
  l : Rl w w.heap.size d.A d.n d.c D
  m : Rd (Value.int .u64) w w.heap.size d.A2 d.n2 d.c2 M
  t : Wl.Tr w w.heap.size d.A3 d.n3 d.c3 T
  fm : Wl.Fm d.A3 d.c3
  fl : Wl.Fm d.A d.c
  kl : Kn K d.n d.A
  km : Kn K d.n2 d.A2
  kt : Kn K d.n3 d.A3
theorem DkK.later {K : Nat → Prop} {w w' : World} {d : Da} {D : List (Int × Ls)} {M : List Int} {T : List (Int × Int)} (h : DkK K w d D M T) (hb : Below w.heap.size w w') : DkK K w' d D M T := ⟨h.l.later hb, h.m.later hb, h.t.later hb, h.fm, h.fl, h.kl, h.km, h.kt⟩
def hx (D : List (Int × Ls)) (id th : Int) : Int := if holds D id th = true then fx D id else -1
theorem boxes (leak : Int) (A A2 A3 : Option Addr) (n c n2 c2 n3 c3 : Nat) (w : World) : Below w.heap.size w ((w.alloc (.cells #[.int .u64 leak, .slice A n c, .slice A2 n2 c2, .slice A3 n3 c3] 62)).alloc (.cells #[.int .u64 0, .slice none 0 0, .slice none 0 0, .slice none 0 0] 62)) ∧ V4 ((w.alloc (.cells #[.int .u64 leak, .slice A n c, .slice A2 n2 c2, .slice A3 n3 c3] 62)).alloc (.cells #[.int .u64 0, .slice none 0 0, .slice none 0 0, .slice none 0 0] 62)) w.heap.size (.int .u64 leak) (.slice A n c) (.slice A2 n2 c2) (.slice A3 n3 c3) ∧ V4 ((w.alloc (.cells #[.int .u64 leak, .slice A n c, .slice A2 n2 c2, .slice A3 n3 c3] 62)).alloc (.cells #[.int .u64 0, .slice none 0 0, .slice none 0 0, .slice none 0 0] 62)) (w.heap.size + 1) (.int .u64 0) (.slice none 0 0) (.slice none 0 0) (.slice none 0 0) ∧ ((w.alloc (.cells #[.int .u64 leak, .slice A n c, .slice A2 n2 c2, .slice A3 n3 c3] 62)).alloc (.cells #[.int .u64 0, .slice none 0 0, .slice none 0 0, .slice none 0 0] 62)).heap.size = w.heap.size + 2 := by
  have hb1 : Below w.heap.size w (w.alloc (.cells #[.int .u64 leak, .slice A n c, .slice A2 n2 c2, .slice A3 n3 c3] 62)) := (Below.refl _ _).alloc (Nat.le_refl _) _
  refine ⟨hb1.alloc (by simp) _, (V4.new w _ _ _ _ _).below ((Below.refl (w.heap.size + 1) _).alloc (by simp) _) (by omega), ?_, by simp⟩
  have := V4.new (w.alloc (.cells #[.int .u64 leak, .slice A n c, .slice A2 n2 c2, .slice A3 n3 c3] 62)) 62 (.int .u64 0) (.slice none 0 0) (.slice none 0 0) (.slice none 0 0)
  simpa using this
section
variable (leak : Int) (A A2 A3 : Option Addr) (n c n2 c2 n3 c3 : Nat) (D : List (Int × Ls)) (M : List Int) (T : List (Int × Int)) (w : World)
set_option maxRecDepth 100000 in
theorem rholds_any (id th : Int) (h : Rl w w.heap.size A n c D) (hn : n ≤ 100000) :
    Calls Tryz.prog 131 #[.agg #[.int .u64 leak, .slice A n c, .slice A2 n2 c2, .slice A3 n3 c3], .int .u64 id, .int .i64 th] w fun e w' => e = .returned (.int .i64 (hx D id th)) ∧ Below w.heap.size w w' := by
  have hb0 : Below w.heap.size w (w.alloc (.cells #[.int .u64 leak, .slice A n c, .slice A2 n2 c2, .slice A3 n3 c3] 62)) := (Below.refl _ _).alloc (Nat.le_refl _) _
  have HB0 := Lib.hid hb0
  have HF := Lib.hid (rfind_any leak A A2 A3 n c n2 c2 n3 c3 w.heap.size D (w.alloc (.cells #[.int .u64 leak, .slice A n c, .slice A2 n2 c2, .slice A3 n3 c3] 62)) id (h.below hb0) (by simp) hn)
  have HLEN := Lib.hid h.len
  rcases fx_cases D id with ⟨h1, h2⟩ | ⟨k, ⟨t, s, f⟩, hk, hne, h2, h1⟩
  · have e : hx D id th = -1 := by unfold hx holds; rw [h1]; rfl
    rw [h2] at HF
    rw [e]
    clear h hb0 h1 h2 e
    go_enter Tryz.func131, Tryz.ntmps131
    go_wp2_with fail
    refine HF.out.mono ?_
    rintro e w1 ⟨rfl, hb1⟩
    go_wp2_with fail
    go_ret
    exact ⟨rfl, HB0.out.trans (hb1.mono (by simp))⟩
  · have hkn : k < n := by have := (List.getElem?_eq_some_iff.1 hk).1; have := HLEN.out; omega
    obtain ⟨b, o, x', t', s', f', rfl, hb, ha, c0, c1, c2', c3'⟩ := four_at h hkn
    have e9 := ha.symm.trans hk
    injection e9 with e9
    injection e9 with e9 e10
    injection e10 with e10 e11 e12
    subst e9 e10 e11 e12
    rw [h2] at HF
    have e : hx D x' th = if (t' == th) = true then (k : Int) else -1 := by
      unfold hx holds; rw [h1, h2]; simp
    rw [e]
    have HC := Lib.hid c1
    clear h hb0 h1 h2 e c0 c1 c2' c3' ha hk hne
    by_cases ht : t' = th
    · have e1 : (t' != th) = false := by simpa using ht
      have e2 : (t' == th) = true := by simpa using ht
      rw [if_pos e2]
      clear ht e2
      go_enter Tryz.func131, Tryz.ntmps131
      go_wp2_with fail
      refine HF.out.mono ?_
      rintro e w1 ⟨rfl, hb1⟩
      have B1 := Lib.hid (HB0.out.trans (hb1.mono (by simp)))
      have d1 := (B1.out.cell (p := ⟨b, o + k * 4 + 1, none⟩) hb).trans HC.out
      have v1 : w1.cell? ⟨w.heap.size, 1, none⟩ = some (.slice (some ⟨b, o, none⟩) n c) := (hb1.cell (p := ⟨w.heap.size, 1, none⟩) (by simp)).trans (by go_simp)
      clear hb1
      go_wp2_with fail
      go_ret
      exact ⟨rfl, B1.out⟩
    · have e1 : (t' != th) = true := by simpa using ht
      have e2 : ¬ (t' == th) = true := by simpa using ht
      rw [if_neg e2]
      clear ht e2
      go_enter Tryz.func131, Tryz.ntmps131
      go_wp2_with fail
      refine HF.out.mono ?_
      rintro e w1 ⟨rfl, hb1⟩
      have B1 := Lib.hid (HB0.out.trans (hb1.mono (by simp)))
      have d1 := (B1.out.cell (p := ⟨b, o + k * 4 + 1, none⟩) hb).trans HC.out
      have v1 : w1.cell? ⟨w.heap.size, 1, none⟩ = some (.slice (some ⟨b, o, none⟩) n c) := (hb1.cell (p := ⟨w.heap.size, 1, none⟩) (by simp)).trans (by go_simp)
      clear hb1
      go_wp2_with fail
      go_ret
      exact ⟨rfl, B1.out⟩
set_option maxRecDepth 100000 in
set_option maxHeartbeats 4000000 in
theorem rforget_any {K : Nat → Prop} (id : Int) (h : DkK K w ⟨A, n, c, A2, n2, c2, A3, n3, c3⟩ D M T) (hKK : ∀ g, w.heap.size ≤ g → K g) (hn : n2 ≤ 100000) :
    Calls Tryz.prog 89 #[.agg #[.int .u64 leak, .slice A n c, .slice A2 n2 c2, .slice A3 n3 c3], .int .u64 id] w fun e w' => ∃ A2' c2', e = .returned (.agg #[.int .u64 leak, .slice A n c, .slice A2' (M.filter (· != id)).length c2', .slice A3 n3 c3]) ∧ DkK K w' ⟨A, n, c, A2', (M.filter (· != id)).length, c2', A3, n3, c3⟩ D (M.filter (· != id)) T ∧
      w'.ownsRow w.heap.size 22 1 (.slice A2' (M.filter (· != id)).length c2') (M.filter (· != id)).length ((M.filter (· != id)).map (Value.int .u64)) ∧ Below w.heap.size w w' := by
  obtain ⟨i0, hi, hz0, hz1, hz2⟩ := info_parts info_u64'
  obtain ⟨hb1, hvf, hvr, hsz⟩ := boxes leak A A2 A3 n c n2 c2 n3 c3 w
  have HD := Lib.hid h
  have HKK := Lib.hid hKK
  clear hKK
  have HR := Lib.hid h.m
  have HLEN := Lib.hid h.m.len
  have HB1 := Lib.hid hb1
  have HVF := Lib.hid hvf
  have HVR := Lib.hid hvr
  have HSZ := Lib.hid hsz
  clear h hb1 hvf hvr hsz
  go_enter Tryz.func89, Tryz.ntmps89
  go_wp2_with fail
  generalize ((w.alloc (.cells #[.int .u64 leak, .slice A n c, .slice A2 n2 c2, .slice A3 n3 c3] 62)).alloc (.cells #[.int .u64 0, .slice none 0 0, .slice none 0 0, .slice none 0 0] 62)) = W1 at *
  go_loopw [5, 7, 11] (fun v x9 i wr => ∃ (k q c' : Nat) (A' : Option Addr), k ≤ n2 ∧ i = .int .i64 k ∧ v = .slice A' q c' ∧ q ≤ k ∧ Hid (q = ((M.take k).filter (· != id)).length) ∧
      Hid (wr.ownsRow (w.heap.size + 2) 22 1 (.slice A' q c') q (((M.take k).filter (· != id)).map (Value.int .u64))) ∧ Hid (Below (w.heap.size + 2) W1 wr) ∧ w.heap.size + 2 ≤ wr.heap.size) (fun _ _ i _ => n2 - (intOf i).toNat)
  case atStart => exact ⟨0, 0, 0, none, Nat.zero_le _, rfl, rfl, Nat.zero_le _, rfl, World.ownsRow_nil _ _ _ _, Below.refl _ _, by rw [HSZ.out]; exact Nat.le_refl _⟩
  case round =>
    obtain ⟨k, q, c', A', hk, rfl, rfl, hqk, HQL, HROW, HBR, hsz⟩ := hrel
    have HBW := Lib.hid (HB1.out.trans (HBR.out.mono (by omega)))
    by_cases hlt : k < n2
    · obtain ⟨b, o, y, rfl, hb, hy, hcy⟩ := HR.out.get hlt
      have d0 := (HBW.out.cell (p := ⟨b, o + k, none⟩) hb).trans hcy
      have HAA : Hid (M.take (k + 1) = M.take k ++ [y]) := Lib.hid (by
        obtain ⟨hl, e⟩ := List.getElem?_eq_some_iff.1 hy
        rw [List.take_succ_eq_append_getElem hl, e])
      clear hcy hy
      by_cases hx : y = id
      · have e1 : (y != id) = false := by simpa using hx
        have EW : Hid ((M.take (k + 1)).filter (· != id) = (M.take k).filter (· != id)) := Lib.hid (by rw [HAA.out, List.filter_append]; simp [hx])
        clear hx
        go_wp2_with fail
        go_roundw
        case rel => exact ⟨k + 1, q, c', A', by omega, by go_num, rfl, by omega, Lib.hid (by rw [EW.out]; exact HQL.out), Lib.hid (by rw [EW.out]; exact HROW.out), HBR, hsz⟩
        case measure => simp [intOf]; omega
      · have e1 : (y != id) = true := by simpa using hx
        have EW : Hid ((M.take (k + 1)).filter (· != id) = (M.take k).filter (· != id) ++ [y]) := Lib.hid (by rw [HAA.out, List.filter_append]; simp [hx])
        have HRD := Lib.hid (rd_one (enc := Value.int .u64) wr y 22)
        have HROW2 := Lib.hid (HROW.out.alloc (.cells #[.int .u64 y] 22))
        have HB3 := Lib.hid (HBR.out.alloc (by omega) (.cells #[.int .u64 y] 22))
        have HMP : Hid (((M.take k).filter (· != id)).map (Value.int .u64) ++ [y].map (Value.int .u64) = ((M.take (k + 1)).filter (· != id)).map (Value.int .u64)) := Lib.hid (by rw [EW.out]; simp)
        clear hx
        go_wp2_with (
          at_builtin
          refine append_rd _ rfl _ _ 54 rfl (w.heap.size + 2) 22 i0 (.int .u64 0) 8 Tryz.underlying54 hi hz0 hz1 hz2 rfl _ q _ rfl HROW2.out _ _ 1 1 [y] rfl HRD.out (fun _ => rfl) (q + 1) rfl _ HMP.out (by unfold maxLen; omega) (by omega) (by simp; omega) ?_
          intro A4 c4 w4 hrow4 hg4 hat4
          have HROW4 := Lib.hid hrow4
          have HB4 := Lib.hid (HB3.out.grown hg4 (by simp; omega) (fun j hj => (HROW2.out.lt j hj).1))
          have hs4 := hg4.size
          simp at hs4
          clear hrow4 hg4 hat4)
        go_roundw
        case rel => exact ⟨k + 1, q + 1, c4, A4, by omega, by go_num, rfl, by omega, Lib.hid (by rw [EW.out, List.length_append, ← HQL.out]; rfl), HROW4, HB4, by omega⟩
        case measure => simp [intOf]; omega
    · have ht : M.take k = M := List.take_of_length_le (by have := HLEN.out; omega)
      have hrow := HROW.out
      have hql := HQL.out
      rw [ht] at hrow hql
      subst hql
      have HROW2 := Lib.hid hrow
      obtain ⟨⟨f0, f1, f2, f3⟩, g0, g1, g2, g3⟩ := HVF.out.below HBR.out (by omega)
      obtain ⟨⟨r0, r1, r2, r3⟩, z0, z1, z2, z3⟩ := HVR.out.below HBR.out (by omega)
      clear hrow HROW HQL ht HVF HVR HBR
      go_wp2_with fail
      have hfin : Below w.heap.size w (((((wr.setCell ⟨w.heap.size, 2, none⟩ (.slice A' (M.filter (· != id)).length c')).setCell ⟨w.heap.size + 1, 0, none⟩ (.int .u64 leak)).setCell ⟨w.heap.size + 1, 1, none⟩ (.slice A n c)).setCell ⟨w.heap.size + 1, 2, none⟩ ((.slice A' (M.filter (· != id)).length c'))).setCell ⟨w.heap.size + 1, 3, none⟩ (.slice A3 n3 c3)) := by
        repeat' (first | exact HBW.out | apply Below.setCell | apply below_drewN | apply Below.drew | apply Below.alloc)
        all_goals (first | (simp; done) | (simp; omega))
      have hset : (((((wr.setCell ⟨w.heap.size, 2, none⟩ (.slice A' (M.filter (· != id)).length c')).setCell ⟨w.heap.size + 1, 0, none⟩ (.int .u64 leak)).setCell ⟨w.heap.size + 1, 1, none⟩ (.slice A n c)).setCell ⟨w.heap.size + 1, 2, none⟩ ((.slice A' (M.filter (· != id)).length c'))).setCell ⟨w.heap.size + 1, 3, none⟩ (.slice A3 n3 c3)).ownsRow (w.heap.size + 2) 22 1 (.slice A' (M.filter (· != id)).length c') (M.filter (· != id)).length ((M.filter (· != id)).map (Value.int .u64)) := by
        refine Hi.own_same HROW2.out (fun g' hg' => ?_)
        have hg := (HROW2.out.lt g' hg').1
        rw [heap_setCell_other _ _ g' _ (fun e => by have e : g' = w.heap.size + 1 := e; omega), heap_setCell_other _ _ g' _ (fun e => by have e : g' = w.heap.size + 1 := e; omega), heap_setCell_other _ _ g' _ (fun e => by have e : g' = w.heap.size + 1 := e; omega), heap_setCell_other _ _ g' _ (fun e => by have e : g' = w.heap.size + 1 := e; omega), heap_setCell_other _ _ g' _ (fun e => by have e : g' = w.heap.size := e; omega)]
      refine bodyPost_ret (v := .agg #[.int .u64 leak, .slice A n c, .slice A' (M.filter (· != id)).length c', .slice A3 n3 c3]) (by simp [results, Tryz.results89, go_sem, r0, r1, r2, r3]) rfl ⟨A', c', rfl, ⟨(HD.out.later hfin).l, Rd.own_rd hset, (HD.out.later hfin).t, HD.out.fm, HD.out.fl, HD.out.kl, Kn.own hset (fun g hg => HKK.out g (by omega)), HD.out.kt⟩, own_mono hset (by omega), hfin⟩
end
end Go.Proofs.YthmdiaingolfnaaGreatDoor.Le
