/- The document's bag (layer 15): what only looks. -/
import Derived.Test.YtlpjlphofjghhaaGreatDoorBagE
import Derived.Test.YtlpjlphofjghhaaGreatDoorBase5
import Derived.Test.YtlpjlphofjghhaaGreatDoorWordRef
import Derived.Test.YtlpjlphofjghhaaGreatDoorSnapRef
namespace Go.Proofs.YtlpjlphofjghhaaGreatDoor.Ba
open Go.ChangeShapes Go.WideShapes Go.ChangeAt Go.RowKit Go.Maps Rw Hi Mt
set_option linter.unusedVariables false

/-- An entry as the document has it. -/
def enc5 (a : Int × Ex) : List Value := [.int .u64 a.1, .int .u64 a.2.word, .int .u64 a.2.born, .int .u64 a.2.since, .int .u64 a.2.proved]
theorem enc5_len (a : Int × Ex) : (enc5 a).length = 5 := rfl
theorem enc5_one (y : Int × Ex) : ∀ u ∈ enc5 y, u.oneCell' = true := by intro u hu; simp [enc5] at hu; rcases hu with rfl | rfl | rfl | rfl | rfl <;> rfl
theorem info_entry : (Tryz.prog.info? 124).map (fun i => (i.zero, i.size, i.bytes)) = some (some (.agg #[.int .u64 0, .int .u64 0, .int .u64 0, .int .u64 0, .int .u64 0]), 5, 40) := by kernel_rfl
abbrev Rb (w : World) (B : Nat) (A : Option Addr) (n c : Nat) (l : List (Int × Ex)) : Prop := Rs enc5 5 w B A n c l
theorem five_at {w : World} {B : Nat} {A : Option Addr} {n c : Nat} {l : List (Int × Ex)} (h : Rb w B A n c l) {k : Nat} (hk : k < n) :
    ∃ b o x wd bo si pr, A = some ⟨b, o, none⟩ ∧ b < B ∧ l[k]? = some (x, ⟨wd, bo, si, pr⟩) ∧ w.cell? ⟨b, o + k * 5, none⟩ = some (.int .u64 x) ∧ w.cell? ⟨b, o + k * 5 + 1, none⟩ = some (.int .u64 wd) ∧ w.cell? ⟨b, o + k * 5 + 2, none⟩ = some (.int .u64 bo) ∧ w.cell? ⟨b, o + k * 5 + 3, none⟩ = some (.int .u64 si) ∧ w.cell? ⟨b, o + k * 5 + 4, none⟩ = some (.int .u64 pr) := by
  obtain ⟨b, o, ⟨x, wd, bo, si, pr⟩, hA, hb, hx, hc⟩ := h.get hk
  exact ⟨b, o, x, wd, bo, si, pr, hA, hb, hx, hc 0 _ (by omega) rfl, hc 1 _ (by omega) rfl, hc 2 _ (by omega) rfl, hc 3 _ (by omega) rfl, hc 4 _ (by omega) rfl⟩
section
variable {β : Type}
/-- Where an id stands. -/
def fx (D : List (Int × β)) (id : Int) : Int := match D.findIdx? (fun a => a.1 == id) with
  | some i => (i : Int)
  | none => -1
theorem fx_hit {D : List (Int × β)} {id : Int} {k : Nat} {y : β} (h : ∀ a ∈ D.take k, a.1 ≠ id) (hk : D[k]? = some (id, y)) : fx D id = k := by
  have : D.findIdx? (fun a => a.1 == id) = some k := by
    obtain ⟨hl, e⟩ := List.getElem?_eq_some_iff.1 hk
    rw [List.findIdx?_eq_some_iff_getElem]
    refine ⟨hl, by rw [e]; simp, fun j hj => ?_⟩
    have := h D[j] (List.mem_take_iff_getElem.2 ⟨j, by omega, rfl⟩)
    simpa using this
  unfold fx; rw [this]
theorem fx_miss {D : List (Int × β)} {id : Int} (h : ∀ a ∈ D, a.1 ≠ id) : fx D id = -1 := by
  have : D.findIdx? (fun a => a.1 == id) = none := by
    rw [List.findIdx?_eq_none_iff]
    intro a ha
    simpa using h a ha
  unfold fx; rw [this]
theorem take_ne {D : List (Int × β)} {id : Int} {k : Nat} {a : Int × β} (h : ∀ a ∈ D.take k, a.1 ≠ id) (hk : D[k]? = some a) (hne : a.1 ≠ id) : ∀ a ∈ D.take (k + 1), a.1 ≠ id := by
  obtain ⟨hl, rfl⟩ := List.getElem?_eq_some_iff.1 hk
  intro b hb
  rw [List.take_succ_eq_append_getElem hl] at hb
  rcases List.mem_append.1 hb with hb | hb
  · exact h b hb
  · rw [List.mem_singleton.1 hb]; exact hne
theorem fx_cases (D : List (Int × β)) (id : Int) : (fnd D id = none ∧ fx D id = -1) ∨ ∃ (k : Nat) (y : β), D[k]? = some (id, y) ∧ (∀ a ∈ D.take k, a.1 ≠ id) ∧ fx D id = k ∧ fnd D id = some y := by
  by_cases h : ∀ a ∈ D, a.1 ≠ id
  · refine .inl ⟨?_, fx_miss h⟩
    refine fnd_none fun hm => ?_
    obtain ⟨a, ha, e⟩ := List.mem_map.1 hm
    exact h a ha e
  · cases hf : D.findIdx? (fun a => a.1 == id) with
    | none =>
      rw [List.findIdx?_eq_none_iff] at hf
      exact absurd (fun a ha => by simpa using hf a ha) h
    | some k =>
      rw [List.findIdx?_eq_some_iff_getElem] at hf
      obtain ⟨hl, h1, h2⟩ := hf
      refine .inr ⟨k, D[k].2, ?_, fun a ha => ?_, ?_, ?_⟩
      · rw [List.getElem?_eq_getElem hl]
        have : D[k].1 = id := by simpa using h1
        rw [← this]
      · obtain ⟨j, hj, rfl⟩ := List.mem_take_iff_getElem.1 ha
        have := h2 j (by omega)
        simpa using this
      · unfold fx
        rw [List.findIdx?_eq_some_iff_getElem.2 ⟨hl, h1, h2⟩]
      · unfold fnd
        have hp : D.find? (fun a => a.1 == id) = some D[k] := List.find?_eq_some_iff_getElem.2 ⟨h1, k, hl, rfl, fun j hj => by simpa using h2 j hj⟩
        rw [hp]; rfl
theorem up_set {D : List (Int × β)} {id : Int} {k : Nat} {y : β} (hn : Nd D) (hk : D[k]? = some (id, y)) (f : β → β) : D.set k (id, f y) = up D id f := by
  obtain ⟨hl, e⟩ := List.getElem?_eq_some_iff.1 hk
  show D.set k (id, f y) = D.map (fun q => if q.1 = id then (q.1, f q.2) else q)
  apply List.ext_getElem (by simp)
  intro i h1 h2
  rw [List.getElem_set, List.getElem_map]
  by_cases hik : k = i
  · subst hik; rw [if_pos rfl, e, if_pos rfl]
  · rw [if_neg hik]
    have hiD : i < D.length := by simpa using h2
    have hi : (D[i]'hiD).1 ≠ id := fun e2 => by
      unfold Nd at hn
      have hp := List.pairwise_iff_getElem.1 (List.nodup_iff_pairwise_ne.1 hn)
      have ek : (D.map Prod.fst)[k]'(by simpa using hl) = id := by rw [List.getElem_map, e]
      have ei : (D.map Prod.fst)[i]'(by simpa using hiD) = id := by rw [List.getElem_map, e2]
      rcases Nat.lt_or_gt_of_ne hik with h | h
      · exact hp k i _ _ h (ek.trans ei.symm)
      · exact hp i k _ _ h (ei.trans ek.symm)
    rw [if_neg hi]
end
section
variable (A A2 : Option Addr) (n c n2 c2 B : Nat) (D : List (Int × Ex)) (w : World)
set_option maxRecDepth 100000 in
set_option maxHeartbeats 2000000 in
theorem rfind_any (id : Int) (h : Rb w B A n c D) (hB : B ≤ w.heap.size) (hn : n ≤ 100000) :
    Calls Tryz.prog 50 #[.agg #[.slice A n c, .slice A2 n2 c2], .int .u64 id] w fun e w' => e = .returned (.int .i64 (fx D id)) ∧ Below w.heap.size w w' := by
  have HR := Lib.hid h
  have HLEN := Lib.hid h.len
  have b0 := Lib.hid ((Below.refl w.heap.size w).alloc (Nat.le_refl _) (.cells #[.slice A n c, .slice A2 n2 c2] 29))
  clear h
  go_enter Tryz.func50, Tryz.ntmps50
  go_wp2_with fail
  go_loopw [5, 6, 10] (fun s5 s6 i wr => ∃ k : Nat, k ≤ n ∧ i = .int .i64 k ∧ Hid (∀ a ∈ D.take k, a.1 ≠ id) ∧ Below w.heap.size w wr) (fun _ _ i _ => n - (intOf i).toNat)
  case atStart => exact ⟨0, Nat.zero_le _, rfl, Lib.hid (fun a ha => by simp at ha), b0.out⟩
  case round =>
    obtain ⟨k, hk, rfl, hno, hbr⟩ := hrel
    by_cases hlt : k < n
    · obtain ⟨b, o, x, wd, bo, si, pr, rfl, hb, ha, c0, c1, c2', c3, c4⟩ := five_at HR.out hlt
      have d0 := (hbr.cell (p := ⟨b, o + k * 5, none⟩) (by simp only; omega)).trans c0
      have d1 := (hbr.cell (p := ⟨b, o + k * 5 + 1, none⟩) (by simp only; omega)).trans c1
      have d2 := (hbr.cell (p := ⟨b, o + k * 5 + 2, none⟩) (by simp only; omega)).trans c2'
      have d3 := (hbr.cell (p := ⟨b, o + k * 5 + 3, none⟩) (by simp only; omega)).trans c3
      have d4 := (hbr.cell (p := ⟨b, o + k * 5 + 4, none⟩) (by simp only; omega)).trans c4
      have HAA := Lib.hid ha
      have hbs := hbr.size
      have HB2 := Lib.hid (hbr.alloc hbs (.cells #[.int .u64 x, .int .u64 wd, .int .u64 bo, .int .u64 si, .int .u64 pr] 124))
      clear c0 c1 c2' c3 c4 ha hbr
      by_cases hx : x = id
      · subst hx
        have HF := Lib.hid (fx_hit hno.out HAA.out)
        go_wp2_with fail
        go_ret
        exact ⟨by rw [HF.out]; rfl, HB2.out⟩
      · have e1 : (x == id) = false := by simpa using hx
        have HN2 := Lib.hid (take_ne hno.out HAA.out hx)
        clear hx
        go_wp2_with fail
        go_roundw
        case rel => exact ⟨k + 1, by omega, by go_num, HN2, HB2.out⟩
        case measure => simp [intOf]; omega
    · have HF : Hid (fx D id = -1) := Lib.hid (fx_miss (by
        have h9 := hno.out
        rw [List.take_of_length_le (by have := HLEN.out; omega)] at h9
        exact h9))
      go_wp2_with fail
      go_ret
      exact ⟨by rw [HF.out]; rfl, hbr⟩
theorem cnt_take {D : List (Int × Ex)} {k : Nat} {a : Int × Ex} (st : Int) (h : D[k]? = some a) : cnt (D.take (k + 1)) st = cnt (D.take k) st + (if a.2.word % 4 = st then 1 else 0) := by
  obtain ⟨hl, e⟩ := List.getElem?_eq_some_iff.1 h
  unfold cnt
  rw [List.take_succ_eq_append_getElem hl, List.filter_append, List.length_append, e]
  congr 1
  by_cases hs : a.2.word % 4 = st
  · rw [if_pos hs, List.filter_cons_of_pos (by simpa using hs)]; rfl
  · rw [if_neg hs, List.filter_cons_of_neg (by simpa using hs)]; rfl
set_option maxRecDepth 100000 in
set_option maxHeartbeats 2000000 in
theorem rcount_any (st : Int) (h : Rb w B A n c D) (hu : ∀ q ∈ D, 0 ≤ q.2.word) (hB : B ≤ w.heap.size) (hn : n ≤ 100000) :
    Calls Tryz.prog 59 #[.agg #[.slice A n c, .slice A2 n2 c2], .int .i64 st] w fun e w' => e = .returned (.int .i64 (cnt D st)) ∧ Below w.heap.size w w' := by
  have HR := Lib.hid h
  have HU := Lib.hid hu
  have HLEN := Lib.hid h.len
  have b0 := Lib.hid ((Below.refl w.heap.size w).alloc (Nat.le_refl _) (.cells #[.slice A n c, .slice A2 n2 c2] 29))
  clear h hu
  go_enter Tryz.func59, Tryz.ntmps59
  go_wp2_with fail
  go_loopw [5, 7, 11] (fun s5 s7 i wr => ∃ k m : Nat, k ≤ n ∧ m ≤ k ∧ i = .int .i64 k ∧ s5 = .int .i64 m ∧ Hid (cnt (D.take k) st = m) ∧ Below w.heap.size w wr) (fun _ _ i _ => n - (intOf i).toNat)
  case atStart => exact ⟨0, 0, Nat.zero_le _, Nat.le_refl _, rfl, rfl, Lib.hid rfl, b0.out⟩
  case round =>
    obtain ⟨k, m, hk, hm, rfl, rfl, hc, hbr⟩ := hrel
    by_cases hlt : k < n
    · obtain ⟨b, o, x, wd, bo, si, pr, rfl, hb, ha, c0, c1, c2', c3, c4⟩ := five_at HR.out hlt
      have d0 := (hbr.cell (p := ⟨b, o + k * 5, none⟩) (by simp only; omega)).trans c0
      have d1 := (hbr.cell (p := ⟨b, o + k * 5 + 1, none⟩) (by simp only; omega)).trans c1
      have d2 := (hbr.cell (p := ⟨b, o + k * 5 + 2, none⟩) (by simp only; omega)).trans c2'
      have d3 := (hbr.cell (p := ⟨b, o + k * 5 + 3, none⟩) (by simp only; omega)).trans c3
      have d4 := (hbr.cell (p := ⟨b, o + k * 5 + 4, none⟩) (by simp only; omega)).trans c4
      have hw0 : 0 ≤ wd := HU.out _ (List.mem_of_getElem? ha)
      have HCT := Lib.hid (cnt_take st ha)
      have hbs := hbr.size
      have HB2 := Lib.hid (hbr.alloc hbs (.cells #[.int .u64 x, .int .u64 wd, .int .u64 bo, .int .u64 si, .int .u64 pr] 124))
      have htm : wd.tmod 4 = wd % 4 := Int.tmod_eq_emod_of_nonneg hw0
      have hr4 : 0 ≤ wd % 4 ∧ wd % 4 < 4 := by omega
      have hwr : IntKind.i64.wrap (wd % 4) = wd % 4 := by rw [IntKind.wrap_i64]; omega
      have hwr' : IntKind.i64.wrap (wd.tmod 4) = wd % 4 := by rw [htm]; exact hwr
      clear c0 c1 c2' c3 c4 ha hbr
      by_cases hx : wd % 4 = st
      · have e1 : (wd % 4 == st) = true := by simpa using hx
        have e2 : (wd.tmod 4 == st) = true := by rw [htm]; exact e1
        have HE : Hid (cnt (D.take (k + 1)) st = (m + 1 : Nat)) := Lib.hid (by rw [HCT.out, if_pos hx, hc.out])
        clear hx htm hr4 HCT
        go_wp2_with fail
        go_roundw
        case rel => exact ⟨k + 1, m + 1, by omega, by omega, by go_num, by go_num, HE, HB2.out⟩
        case measure => simp [intOf]; omega
      · have e1 : (wd % 4 == st) = false := by simpa using hx
        have e2 : (wd.tmod 4 == st) = false := by rw [htm]; exact e1
        have HE : Hid (cnt (D.take (k + 1)) st = m) := Lib.hid (by rw [HCT.out, if_neg hx, hc.out]; rfl)
        clear hx htm hr4 HCT
        go_wp2_with fail
        go_roundw
        case rel => exact ⟨k + 1, m, by omega, by omega, by go_num, rfl, HE, HB2.out⟩
        case measure => simp [intOf]; omega
    · have HF : Hid (cnt D st = m) := Lib.hid (by
        have h9 := hc.out
        rw [List.take_of_length_le (by have := HLEN.out; omega)] at h9
        exact h9)
      go_wp2_with fail
      go_ret
      exact ⟨by rw [HF.out]; rfl, hbr⟩
end
end Go.Proofs.YtlpjlphofjghhaaGreatDoor.Ba
