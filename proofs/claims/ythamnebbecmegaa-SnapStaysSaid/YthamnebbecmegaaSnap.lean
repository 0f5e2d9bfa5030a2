/- Contracts of the functions of layer 3 (snap). -/
import Derived.Test.YthamnebbecmegaaSlices
import Derived.Test.YthamnebbecmegaaMapSet
import Derived.StillTailTactics
namespace Go.Proofs.Ythamnebbecmegaa.Sn
open Go.ChangeShapes Go.WideShapes Go.ChangeAt Go.RowKit Rw Sl
set_option linter.unusedVariables false

/-- The value of a Snap of these numbers, below block B. -/
structure Snap (w : World) (B : Nat) (v : Value) (xs : List Int) : Prop where
  rd : ∃ A n c, v = .agg #[.slice A n c] ∧ Rd (Value.int .u64) w B A n c xs
  nd : xs.Nodup
  ok : U64s xs
theorem Snap.later {w w' : World} {v : Value} {xs : List Int} (h : Snap w w.heap.size v xs) (hb : Below w.heap.size w w') : Snap w' w'.heap.size v xs := by
  obtain ⟨⟨A, n, c, e, r⟩, h1, h2⟩ := h
  exact ⟨⟨A, n, c, e, r.later hb⟩, h1, h2⟩
theorem Snap.below {w w' : World} {B : Nat} {v : Value} {xs : List Int} (h : Snap w B v xs) (hb : Below B w w') : Snap w' B v xs := by
  obtain ⟨⟨A, n, c, e, r⟩, h1, h2⟩ := h
  exact ⟨⟨A, n, c, e, r.below hb⟩, h1, h2⟩
theorem Snap.more {w : World} {B B' : Nat} {v : Value} {xs : List Int} (h : Snap w B v xs) (hb : B ≤ B') : Snap w B' v xs := by
  obtain ⟨⟨A, n, c, e, r⟩, h1, h2⟩ := h
  exact ⟨⟨A, n, c, e, r.more hb⟩, h1, h2⟩

theorem Snap.setOther {w : World} {B : Nat} {v : Value} {xs : List Int} (h : Snap w B v xs) {p : Addr} {x : Value} (hp : w.cell? p = some x) (hne : ∀ y, Value.int .u64 y ≠ x) (u : Value) : Snap (w.setCell p u) B v xs := by
  obtain ⟨⟨A, n, c, e, r⟩, h1, h2⟩ := h
  exact ⟨⟨A, n, c, e, r.setOther hp hne u⟩, h1, h2⟩
theorem Snap.form {w : World} {B : Nat} {v : Value} {xs : List Int} (h : Snap w B v xs) : ∃ A n c, v = .agg #[.slice A n c] := by
  obtain ⟨⟨A, n, c, e, r⟩, -, -⟩ := h
  exact ⟨A, n, c, e⟩

theorem wf_u64 {x : Int} (h : 0 ≤ x ∧ x ≤ 18446744073709551615) : (Lit.int .u64 x).wf = true := WalkArith.wf_u64 (by omega)

theorem len_any (v : Value) (xs : List Int) (B : Nat) (w : World) (h : Snap w B v xs) :
    Calls Try.prog 21 #[v] w fun e w' => e = .returned (.int .i64 xs.length) ∧ Below w.heap.size w w' := by
  obtain ⟨⟨A, n, c, rfl, r⟩, -, -⟩ := h
  obtain rfl := r.len
  clear r
  go_enter Try.func21, Try.ntmps21
  go_wp2
  go_ret
  exact ⟨rfl, (Below.refl _ _).alloc (Nat.le_refl _) _⟩

theorem idx_any (v : Value) (xs : List Int) (x : Int) (w : World) (h : Snap w w.heap.size v xs) :
    Calls Try.prog 17 #[v, .int .u64 x] w fun e w' => e = .returned (.int .i64 (sIdx xs x)) ∧ Below w.heap.size w w' := by
  obtain ⟨⟨A, n, c, rfl, r⟩, -, -⟩ := h
  have R := Lib.hid r
  clear r
  go_enter Try.func17, Try.ntmps17
  go_wp2_with fail
  refine (index_any A n c xs x w.heap.size _ (R.out.alloc (Nat.le_refl _) _)).mono ?_
  rintro e w' ⟨rfl, rfl⟩
  go_wp2_with fail
  go_ret
  exact ⟨rfl, (Below.refl _ _).alloc (Nat.le_refl _) _⟩

theorem all_any (v : Value) (xs : List Int) (w : World) (h : Snap w w.heap.size v xs) (hl : xs.length * 8 ≤ 140737488355328) :
    Calls Try.prog 14 #[v] w fun e w' => ∃ A' c', e = .returned (.slice A' xs.length c') ∧ w'.ownsRow w.heap.size 31 1 (.slice A' xs.length c') xs.length (xs.map (Value.int .u64)) ∧ Below w.heap.size w w' := by
  obtain ⟨⟨A, n, c, rfl, r⟩, -, -⟩ := h
  obtain rfl := r.len
  have R := Lib.hid r
  clear r
  go_enter Try.func14, Try.ntmps14
  go_wp2_with fail
  refine (clone_any A _ c xs w.heap.size _ (R.out.alloc (Nat.le_refl _) _) (by simp) hl).mono ?_
  rintro e w' ⟨u, uc, rfl, hown, hb⟩
  go_wp2_with fail
  go_ret
  exact ⟨u, uc, rfl, own_mono hown (by simp), ((Below.refl _ _).alloc (Nat.le_refl _) _).trans (hb.mono (by simp))⟩

set_option maxRecDepth 100000 in
set_option maxHeartbeats 1000000 in
theorem with_any (v : Value) (xs : List Int) (x : Int) (w : World) (h : Snap w w.heap.size v xs) (hl : xs.length * 8 + 8 ≤ 140737488355328) (hx : 0 ≤ x ∧ x ≤ 18446744073709551615) :
    Calls Try.prog 15 #[v, .int .u64 x] w fun e w' => ∃ u, e = .returned u ∧ Snap w' w'.heap.size u (sWith xs x) ∧ Below w.heap.size w w' := by
  have h' := h
  obtain ⟨⟨A, n, c, rfl, r⟩, hnd, hok⟩ := h
  obtain rfl := r.len
  have R := Lib.hid r
  have HS := Lib.hid h'
  have HD := Lib.hid hnd
  have HO := Lib.hid hok
  clear r h' hnd hok
  obtain ⟨i0, hi, hz0, hz1, hz2⟩ := info_parts info_u64
  by_cases hm : x ∈ xs
  · have hneg : 0 ≤ sIdx xs x := by have := sIdx_neg xs x; have := mt this.1 (by simpa using hm); omega
    have e1 : sWith xs x = xs := by simp [sWith, hm]
    rw [e1]
    have HM := Lib.hid hm
    clear hm e1
    go_enter Try.func15, Try.ntmps15
    go_wp2_with fail
    refine (idx_any _ xs x _ (HS.out.later (((Below.refl _ _).alloc (Nat.le_refl _) _).alloc (by simp) _))).mono ?_
    rintro e w' ⟨rfl, hb⟩
    have c0 : w'.cell? ⟨w.heap.size, 0, none⟩ = some (.slice A xs.length c) := (hb.cell (p := ⟨w.heap.size, 0, none⟩) (by simp; omega)).trans (by go_simp)
    have c1 : w'.cell? ⟨w.heap.size + 1, 0, none⟩ = some (.slice none 0 0) := (hb.cell (p := ⟨w.heap.size + 1, 0, none⟩) (by simp)).trans (by go_simp)
    have f1 : w'.frozen? ⟨w.heap.size + 1, 0, none⟩ = false := (hb.frozen (p := ⟨w.heap.size + 1, 0, none⟩) (by simp)).trans (by go_simp)
    go_wp2_with fail
    have hbw : Below w.heap.size w (w'.setCell ⟨w.heap.size + 1, 0, none⟩ (.slice A xs.length c)) := ((((Below.refl _ _).alloc (Nat.le_refl _) _).alloc (by simp) _).trans (hb.mono (by simp; omega))).setCell (p := ⟨w.heap.size + 1, 0, none⟩) (by simp) _
    exact bodyPost_ret (v := .agg #[.slice A xs.length c]) (by simp [results, Try.results15, go_sem, c1]) rfl ⟨_, rfl, HS.out.later hbw, hbw⟩
  · have hneg : sIdx xs x < 0 := (sIdx_neg xs x).2 hm
    have e1 : sWith xs x = xs ++ [x] := by simp [sWith, hm]
    have hnd2 := nodup_sWith HD.out x
    have hok2 := HO.out.with_ hx.1 hx.2
    rw [e1] at hnd2 hok2 ⊢
    have HD2 := Lib.hid hnd2
    have HO2 := Lib.hid hok2
    clear hm e1 hnd2 hok2
    go_enter Try.func15, Try.ntmps15
    go_wp2_with fail
    refine (idx_any _ xs x _ (HS.out.later (((Below.refl _ _).alloc (Nat.le_refl _) _).alloc (by simp) _))).mono ?_
    rintro e w' ⟨rfl, hb⟩
    have c0 : w'.cell? ⟨w.heap.size, 0, none⟩ = some (.slice A xs.length c) := (hb.cell (p := ⟨w.heap.size, 0, none⟩) (by simp; omega)).trans (by go_simp)
    have c1 : w'.cell? ⟨w.heap.size + 1, 0, none⟩ = some (.slice none 0 0) := (hb.cell (p := ⟨w.heap.size + 1, 0, none⟩) (by simp)).trans (by go_simp)
    have f1 : w'.frozen? ⟨w.heap.size + 1, 0, none⟩ = false := (hb.frozen (p := ⟨w.heap.size + 1, 0, none⟩) (by simp)).trans (by go_simp)
    have hb1 : Below w.heap.size w w' := (((Below.refl _ _).alloc (Nat.le_refl _) _).alloc (by simp) _).trans (hb.mono (by simp; omega))
    have hs1 : w.heap.size + 2 ≤ w'.heap.size := by have := hb.size; simpa using this
    clear hb
    go_wp2_with fail
    refine (all_any _ xs _ (HS.out.later hb1) (by omega)).mono ?_
    rintro e w2 ⟨u, uc, rfl, hown, hb2⟩
    have c2 : w2.cell? ⟨w.heap.size + 1, 0, none⟩ = some (.slice none 0 0) := (hb2.cell (p := ⟨w.heap.size + 1, 0, none⟩) (by show w.heap.size + 1 < _; omega)).trans c1
    have f2 : w2.frozen? ⟨w.heap.size + 1, 0, none⟩ = false := (hb2.frozen (p := ⟨w.heap.size + 1, 0, none⟩) (by show w.heap.size + 1 < _; omega)).trans f1
    have hs2 := hb2.size
    clear c0 c1 f1
    have hlt3 : ∀ g, (Value.slice u xs.length uc).ownBlock = some g → w'.heap.size ≤ g := fun g hg => (hown.lt g hg).1
    have hne3 : some (w.heap.size + 1) ≠ (Value.slice u xs.length uc).ownBlock := fun e => by have := hlt3 _ e.symm; omega
    have H3 := Lib.hid hlt3
    have HN3 := Lib.hid hne3
    clear hlt3 hne3
    go_wp2_with (at_builtin; refine append_rd _ rfl _ _ 22 rfl w'.heap.size 31 i0 (.int .u64 0) 8 Try.underlying22 hi hz0 hz1 hz2 rfl _ xs.length _ rfl (hown.alloc _) _ _ 1 1 [x] rfl (rd_one (enc := Value.int .u64) w2 x _) one_u64 (xs.length + 1) rfl ((xs ++ [x]).map (Value.int .u64)) List.map_append.symm (by unfold maxLen; omega) (by omega) (by simp; omega) ?_; intro v3 vc3 w3 hown3 hg3 hat3; have c3 := hg3.cell (alloc_cell c2 _) HN3.out; have f3 := grown_frozen hg3 (alloc_frozen f2 (by show w.heap.size + 1 < _; omega) _) (by show w.heap.size + 1 < _; simp; omega) HN3.out)
    have hb3 : Below w.heap.size w w3 := ((hb1.trans (hb2.mono (by omega))).alloc (by omega) _).grown hg3 (by simp; omega) (fun k hk => by have := H3.out k hk; omega)
    go_wp2_with fail
    have hown4 := ownsRow_setCell_below hown3 (a := ⟨w.heap.size + 1, 0, none⟩) (by show w.heap.size + 1 < _; omega) (.slice v3 (xs.length + 1) vc3)
    exact bodyPost_ret (v := .agg #[.slice v3 (xs.length + 1) vc3]) (by simp [results, Try.results15, go_sem, c3]) rfl ⟨_, rfl, ⟨⟨_, _, _, rfl, Rd.own_rd hown4⟩, HD2.out, HO2.out⟩, hb3.setCell (p := ⟨w.heap.size + 1, 0, none⟩) (by simp) _⟩

set_option maxRecDepth 100000 in
set_option maxHeartbeats 1000000 in
theorem without_any (v : Value) (xs : List Int) (x : Int) (w : World) (h : Snap w w.heap.size v xs) (hl : xs.length * 8 ≤ 140737488355328) :
    Calls Try.prog 16 #[v, .int .u64 x] w fun e w' => ∃ u, e = .returned u ∧ Snap w' w'.heap.size u (sWithout xs x) ∧ Below w.heap.size w w' := by
  have h' := h
  obtain ⟨⟨A, n, c, rfl, r⟩, hnd, hok⟩ := h
  obtain rfl := r.len
  have hcap := r.cap
  have htop := r.top
  have R := Lib.hid r
  have HS := Lib.hid h'
  have HD := Lib.hid hnd
  have HO := Lib.hid hok
  clear r h' hnd hok
  by_cases hm : x ∈ xs
  · obtain ⟨k, hk, hkl, hkx⟩ := sIdx_get hm
    obtain ⟨b, o, y, rfl, hb, -, -⟩ := R.out.get hkl
    have HE := Lib.hid (sWithout_cut HD.out hkx)
    clear hm hkx
    have HK := Lib.hid hk
    clear hk
    have hbw : b < w.heap.size := hb
    go_enter Try.func16, Try.ntmps16
    go_wp2_with fail
    refine (idx_any _ xs x _ (HS.out.later (((Below.refl _ _).alloc (Nat.le_refl _) _).alloc (by simp) _))).mono ?_
    rintro e w' ⟨rfl, hb⟩
    rw [HK.out]
    have c0 : w'.cell? ⟨w.heap.size, 0, none⟩ = some (.slice (some ⟨b, o, none⟩) xs.length c) := (hb.cell (p := ⟨w.heap.size, 0, none⟩) (by simp; omega)).trans (by go_simp)
    have c1 : w'.cell? ⟨w.heap.size + 1, 0, none⟩ = some (.slice none 0 0) := (hb.cell (p := ⟨w.heap.size + 1, 0, none⟩) (by simp)).trans (by go_simp)
    have f1 : w'.frozen? ⟨w.heap.size + 1, 0, none⟩ = false := (hb.frozen (p := ⟨w.heap.size + 1, 0, none⟩) (by simp)).trans (by go_simp)
    have hb1 : Below w.heap.size w w' := (((Below.refl _ _).alloc (Nat.le_refl _) _).alloc (by simp) _).trans (hb.mono (by simp; omega))
    have hs1 : w.heap.size + 2 ≤ w'.heap.size := by have := hb.size; simpa using this
    clear hb
    go_wp2_with fail
    have hkc : k ≤ c := by omega
    have hk1 : k + 1 ≤ xs.length := by omega
    have hw1 : IntKind.i64.wrap ((k : Int) + 1) = (k : Int) + 1 := IntWalk.i64_in _ (by omega)
    have hw2 : 0 ≤ (k : Int) + 1 := by omega
    have hw3 : ((k : Int) + 1).toNat = k + 1 := by omega
    have hw4 : (k : Int) + 1 ≤ (xs.length : Int) := by omega
    go_still_tail 9, (by kernel_rfl)
    change wpList _ _ _ _ _ w'.drew
    have hb2 : Below w.heap.size w w'.drew := hb1.drew
    have d1 : w'.drew.cell? ⟨w.heap.size + 1, 0, none⟩ = some (.slice none 0 0) := c1
    have g1 : w'.drew.frozen? ⟨w.heap.size + 1, 0, none⟩ = false := f1
    have hs2 : w.heap.size + 2 ≤ w'.drew.heap.size := hs1
    clear c0 c1 f1 hb1 hs1 hw1 hw2 hw3 hw4
    generalize w'.drew = w2 at *
    obtain ⟨A2, hA2, hA3⟩ : ∃ A2, (if c = k + 1 then some (⟨b, o, none⟩ : Addr) else some ⟨b, o + (k + 1), none⟩) = A2 ∧ (k + 1 < xs.length → A2 = some ⟨b, o + (k + 1), none⟩) := ⟨_, rfl, fun h => by rw [if_neg (by omega)]⟩
    rw [hA2]
    have HA3 := Lib.hid hA3
    clear hA2 hA3
    go_wp2_with fail
    refine (concat_two _ _ A2 k c (xs.length - (k + 1)) (c - (k + 1)) w.heap.size w.heap.size (xs.take k) (xs.drop (k + 1)) _ (by go_simp) (by go_simp) (((R.out.below hb2).front (by omega)).alloc (by omega) _) (((R.out.below hb2).back (by omega) rfl HA3.out).alloc (by omega) _) (by simp; omega) (by simp; omega) (by simp) (by omega)).mono ?_
    rintro e w3 ⟨v3, vc3, rfl, hown3, hb3⟩
    have hs3 := hb3.size
    simp at hs3
    have c3 : w3.cell? ⟨w.heap.size + 1, 0, none⟩ = some (.slice none 0 0) := (hb3.cell (p := ⟨w.heap.size + 1, 0, none⟩) (by simp; omega)).trans (alloc_cell d1 _)
    have f3 : w3.frozen? ⟨w.heap.size + 1, 0, none⟩ = false := (hb3.frozen (p := ⟨w.heap.size + 1, 0, none⟩) (by simp; omega)).trans (alloc_frozen g1 (by show w.heap.size + 1 < _; omega) _)
    rw [HE.out] at hown3
    go_wp2_with fail
    have hown4 := ownsRow_setCell_below hown3 (a := ⟨w.heap.size + 1, 0, none⟩) (by show w.heap.size + 1 < _; simp; omega) (.slice v3 (k + (xs.length - (k + 1))) vc3)
    exact bodyPost_ret (v := .agg #[.slice v3 (k + (xs.length - (k + 1))) vc3]) (by simp [results, Try.results16, go_sem, c3]) rfl ⟨_, rfl, ⟨⟨_, _, _, rfl, Rd.own_rd hown4⟩, nodup_sWithout HD.out x, HO.out.without x⟩,
      ((hb2.alloc (by omega) _).trans (hb3.mono (by simp; omega))).setCell (p := ⟨w.heap.size + 1, 0, none⟩) (by simp) _⟩
  · have hneg : sIdx xs x < 0 := (sIdx_neg xs x).2 hm
    have e1 : sWithout xs x = xs := sWithout_none hm
    rw [e1]
    clear hm e1
    go_enter Try.func16, Try.ntmps16
    go_wp2_with fail
    refine (idx_any _ xs x _ (HS.out.later (((Below.refl _ _).alloc (Nat.le_refl _) _).alloc (by simp) _))).mono ?_
    rintro e w' ⟨rfl, hb⟩
    have c0 : w'.cell? ⟨w.heap.size, 0, none⟩ = some (.slice A xs.length c) := (hb.cell (p := ⟨w.heap.size, 0, none⟩) (by simp; omega)).trans (by go_simp)
    have c1 : w'.cell? ⟨w.heap.size + 1, 0, none⟩ = some (.slice none 0 0) := (hb.cell (p := ⟨w.heap.size + 1, 0, none⟩) (by simp)).trans (by go_simp)
    have f1 : w'.frozen? ⟨w.heap.size + 1, 0, none⟩ = false := (hb.frozen (p := ⟨w.heap.size + 1, 0, none⟩) (by simp)).trans (by go_simp)
    go_wp2_with fail
    have hbw : Below w.heap.size w (w'.setCell ⟨w.heap.size + 1, 0, none⟩ (.slice A xs.length c)) := ((((Below.refl _ _).alloc (Nat.le_refl _) _).alloc (by simp) _).trans (hb.mono (by simp; omega))).setCell (p := ⟨w.heap.size + 1, 0, none⟩) (by simp) _
    exact bodyPost_ret (v := .agg #[.slice A xs.length c]) (by simp [results, Try.results16, go_sem, c1]) rfl ⟨_, rfl, HS.out.later hbw, hbw⟩

theorem zero_bool (w : World) : (zeroValue 4).run Try.prog w = .ok (.bool false) w := by kernel_rfl
theorem row_ne {w : World} {base : Nat} {e : TypeId} {v : Value} {n : Nat} {xs : List Value} (h : w.ownsRow base e 1 v n xs) {g : Nat} (hg : g < base) : some g ≠ v.ownBlock := fun e => by
  have := (h.lt g e.symm).1; omega

set_option maxRecDepth 100000 in
set_option maxHeartbeats 2000000 in
theorem of_any (A : Option Addr) (n c : Nat) (xs : List Int) (w : World) (h : Rd (Value.int .u64) w w.heap.size A n c xs) (hok : U64s xs) (hl : n * 8 + 8 ≤ 140737488355328) :
    Calls Try.prog 13 #[.slice A n c] w fun e w' => ∃ u, e = .returned u ∧ Snap w' w'.heap.size u (sOf xs) ∧ Below w.heap.size w w' := by
  have hmm := @run_makeMap Try.prog
  obtain ⟨i0, hi, hz0, hz1, hz2⟩ := info_parts info_u64
  have hn := h.len
  have R := Lib.hid h
  have HO := Lib.hid hok
  have HN := Lib.hid hn
  clear h hok hn
  go_enter Try.func13, Try.ntmps13
  go_wp2
  go_loopw [3, 10] (fun v i wr => ∃ (k c' : Nat) (A' : Option Addr) (acc : List Int), k ≤ n ∧ i = .int .i64 k ∧ v = .slice A' acc.length c' ∧ Hid (acc = sOf (xs.take k)) ∧ acc.length ≤ k ∧
      wr.ownsRow (w.heap.size + 2) 31 1 (.slice A' acc.length c') acc.length (acc.map (Value.int .u64)) ∧ wr.ownsMap Try.prog 31 (plainElem Try.prog 4) (w.heap.size + 1) k (Mp.setD .u64 acc) ∧
      wr.cell? ⟨w.heap.size, 0, none⟩ = some (.slice none 0 0) ∧ wr.frozen? ⟨w.heap.size, 0, none⟩ = false ∧ Below w.heap.size w wr ∧ w.heap.size + 2 ≤ wr.heap.size) (fun _ i _ => n - (intOf i).toNat)
  case atStart =>
    refine ⟨0, 0, none, [], Nat.zero_le _, rfl, rfl, rfl, Nat.zero_le _, World.ownsRow_nil _ _ _ _, ?_, by go_simp, by go_simp, ((Below.refl _ _).alloc (Nat.le_refl _) _).alloc (by simp) _, by simp⟩
    have := World.ownsMap_made (H := Unit) (w.alloc (.cells #[.slice none 0 0] 26)) Try.prog 31 (plainElem Try.prog 4)
    simpa [Mp.setD_nil] using this
  case round =>
    obtain ⟨k, c', A', acc, hk, rfl, rfl, hacc, hal, hrow, hmap, hc0, hf0, hbel, hsz⟩ := hrel
    by_cases hlt : k < n
    · obtain ⟨b, o, x, rfl, hb, hx, hcell⟩ := R.out.get hlt
      have hcx : wr.cell? ⟨b, o + k, none⟩ = some (.int .u64 x) := (hbel.cell (p := ⟨b, o + k, none⟩) hb).trans hcell
      have hwf := wf_u64 (HO.out.get hx)
      have HX := Lib.hid hx
      clear hx hcell
      by_cases hm : x ∈ acc
      · have e1 : sOf (xs.take (k + 1)) = acc := by rw [sOf_take HX.out, ← hacc.out, sWith, if_pos hm]
        have E1 := Lib.hid e1
        clear e1
        go_wp2_with (at_lookup; refine Mp.lookup_set _ rfl _ _ 64 rfl 31 4 .u64 Try.underlying31 Try.underlying64 Try.underlying4 (zero_bool _) (w.heap.size + 1) k acc rfl hmap x rfl hwf ?_)
        go_roundw
        case rel => exact ⟨k + 1, c', A', acc, by omega, by go_num, rfl, E1.out.symm, by omega, hrow, hmap.mono (by omega), hc0, hf0, hbel, hsz⟩
        case measure => simp [intOf]; omega
      · have e1 : sOf (xs.take (k + 1)) = acc ++ [x] := by rw [sOf_take HX.out, ← hacc.out, sWith, if_neg hm]
        have E1 := Lib.hid e1
        clear e1
        go_wp2_with (first
          | (at_lookup; refine Mp.lookup_set _ rfl _ _ 64 rfl 31 4 .u64 Try.underlying31 Try.underlying64 Try.underlying4 (zero_bool _) (w.heap.size + 1) k acc rfl hmap x rfl hwf ?_)
          | (at_mapUpdate; refine Mp.update_set _ rfl _ _ _ 64 rfl 31 4 .u64 Try.underlying31 Try.underlying64 Try.underlying4 (w.heap.size + 1) k acc rfl hmap (by unfold maxLen; omega) x rfl rfl hwf ?_; intro w1 hmap1 hg1)
          | (at_builtin; refine append_rd _ rfl _ _ 22 rfl (w.heap.size + 2) 31 i0 (.int .u64 0) 8 Try.underlying22 hi hz0 hz1 hz2 rfl _ acc.length _ rfl ((hrow.kept hg1 (Or.inr (row_ne hrow (Nat.lt_succ_self _)).symm)).alloc _) _ _ 1 1 [x] rfl (rd_one (enc := Value.int .u64) w1 x _) one_u64 (acc.length + 1) rfl ((acc ++ [x]).map (Value.int .u64)) List.map_append.symm (by unfold maxLen; omega) (by omega) (by have := hg1.size; simp; omega) ?_; intro v3 vc3 w3 hrow3 hg3 hat3))
        have s1 := hg1.size
        have s3 := hg3.size
        simp at s3
        have hrow1 := hrow.kept hg1 (Or.inr (row_ne hrow (Nat.lt_succ_self _)).symm)
        have hne0 : some w.heap.size ≠ (Value.slice A' acc.length c').ownBlock := row_ne hrow (by omega)
        have hc1 := hg1.cell hc0 (by simp)
        have hf1 := grown_frozen hg1 hf0 (by show w.heap.size < _; omega) (by simp)
        go_roundw
        case rel =>
          refine ⟨k + 1, vc3, v3, acc ++ [x], by omega, by go_num, by simp, E1.out.symm, by simp; omega, by simpa using hrow3, ?_, ?_, ?_, ?_, by omega⟩
          · exact (hmap1.alloc _).kept hg3 (row_ne hrow (by omega))
          · exact hg3.cell (alloc_cell hc1 _) hne0
          · exact grown_frozen hg3 (alloc_frozen hf1 (by show w.heap.size < _; omega) _) (by show w.heap.size < _; simp; omega) hne0
          · exact ((hbel.grown hg1 (by omega) (fun j hj => by cases hj; omega)).alloc (by omega) _).grown hg3 (by simp; omega) (fun j hj => by have := (hrow.lt j hj).1; omega)
        case measure => simp [intOf]; omega
    · have e1 : acc = sOf xs := by rw [hacc.out, List.take_of_length_le (by have := HN.out; omega)]
      clear hacc
      have E1 := Lib.hid e1
      clear e1
      go_wp2
      have hrow4 := ownsRow_setCell_below hrow (a := ⟨w.heap.size, 0, none⟩) (by show w.heap.size < _; omega) (.slice A' acc.length c')
      exact bodyPost_ret (v := .agg #[.slice A' acc.length c']) (by simp [results, Try.results13, go_sem, hc0]) rfl ⟨_, rfl, ⟨⟨_, _, _, rfl, by rw [← E1.out]; exact Rd.own_rd hrow4⟩, nodup_sOf xs, HO.out.of⟩, hbel.setCell (p := ⟨w.heap.size, 0, none⟩) (Nat.le_refl _) _⟩
end Go.Proofs.Ythamnebbecmegaa.Sn
