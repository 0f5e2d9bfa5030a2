/- Contracts of layer 11 (slots): who parks, is handed something, and takes it. -/
import Derived.Test.YtbedboekfkobjaaGreatDoorSlotsC
import Derived.Test.YtbedboekfkobjaaGreatDoorBase1
namespace Go.Proofs.YtbedboekfkobjaaGreatDoor.St
open Go.ChangeShapes Go.WideShapes Go.ChangeAt Go.RowKit Rw Hi
set_option linter.unusedVariables false

/-- What Of tells. -/
def ofV (l : List Sx) (t : Int) : Value := match l.find? (hit t) with
  | some x => .tuple #[.agg #[.int .i64 x.1, .int .u64 x.2.1, .int .u64 x.2.2], .bool true]
  | none => .tuple #[.agg #[.int .i64 0, .int .u64 0, .int .u64 0], .bool false]
set_option maxRecDepth 100000 in
set_option maxHeartbeats 1000000 in
theorem of_miss (w : World) (B p : Nat) (r : Option Nat) (l : List Sx) (t : Int) (h : Ss w B p r l) (hi : l.findIdx? (hit t) = none) :
    Calls Tryz.prog 18 #[.pointer (some ⟨p, 0, none⟩), .int .i64 t] w fun e w' => e = .returned (.tuple #[.agg #[.int .i64 0, .int .u64 0, .int .u64 0], .bool false]) ∧ Below w.heap.size w w' := by
  have HS := Lib.hid h
  have HZ := Lib.hid (ixZ_none hi)
  clear h hi
  go_enter Tryz.func18, Tryz.ntmps18
  go_wp2_with fail
  refine (place_any _ B p r l t (HS.out.later ((Below.refl _ _).alloc (Nat.le_refl _) _))).mono ?_
  rw [HZ.out]
  rintro e w1 ⟨rfl, hb⟩
  have z0 : w1.cell? ⟨w.heap.size, 0, none⟩ = some (.int .i64 0) := (hb.cell (p := ⟨w.heap.size, 0, none⟩) (by simp)).trans (by go_simp)
  have z1 : w1.cell? ⟨w.heap.size, 1, none⟩ = some (.int .u64 0) := (hb.cell (p := ⟨w.heap.size, 1, none⟩) (by simp)).trans (by go_simp)
  have z2 : w1.cell? ⟨w.heap.size, 2, none⟩ = some (.int .u64 0) := (hb.cell (p := ⟨w.heap.size, 2, none⟩) (by simp)).trans (by go_simp)
  have q0 : w1.frozen? ⟨w.heap.size, 0, none⟩ = false := (hb.frozen (p := ⟨w.heap.size, 0, none⟩) (by simp)).trans (by go_simp)
  have q1 : w1.frozen? ⟨w.heap.size, 1, none⟩ = false := (hb.frozen (p := ⟨w.heap.size, 1, none⟩) (by simp)).trans (by go_simp)
  have q2 : w1.frozen? ⟨w.heap.size, 2, none⟩ = false := (hb.frozen (p := ⟨w.heap.size, 2, none⟩) (by simp)).trans (by go_simp)
  have HB := Lib.hid (((Below.refl w.heap.size w).alloc (Nat.le_refl _) (.cells #[.int .i64 0, .int .u64 0, .int .u64 0] 43)).trans (hb.mono (by simp)))
  clear hb
  go_wp2_with fail
  exact bodyPost_ret (v := .tuple #[.agg #[.int .i64 0, .int .u64 0, .int .u64 0], .bool false]) (by simp [results, Tryz.results18, go_sem, z0, z1, z2]) rfl ⟨rfl, ((HB.out.setCell (Nat.le_refl _) _).setCell (Nat.le_refl _) _).setCell (Nat.le_refl _) _⟩
set_option maxRecDepth 100000 in
set_option maxHeartbeats 1000000 in
theorem of_hit (w : World) (B p : Nat) (r : Option Nat) (l : List Sx) (t : Int) (k : Nat) (x : Sx) (h : Ss w B p r l) (hi : l.findIdx? (hit t) = some k) (hx : l[k]? = some x) :
    Calls Tryz.prog 18 #[.pointer (some ⟨p, 0, none⟩), .int .i64 t] w fun e w' => e = .returned (.tuple #[.agg #[.int .i64 x.1, .int .u64 x.2.1, .int .u64 x.2.2], .bool true]) ∧ Below w.heap.size w w' := by
  obtain ⟨A, c, h1, hr⟩ := h.rs
  obtain ⟨x', hx', _, hkn⟩ := ix_hit hi
  have hlt := h.lt
  obtain ⟨b, o, y, rfl, hb0, hy, c0, c1, c2⟩ := three_at hr hkn
  obtain rfl : x = y := by rw [hx] at hy; injection hy
  obtain ⟨x0, x1, x2⟩ := x
  simp only at c0 c1 c2 ⊢
  have HS := Lib.hid h
  have HZ := Lib.hid (ixZ_some hi)
  clear h hi hr hx hy hx'
  generalize hn : l.length = n at *
  clear hn
  go_enter Tryz.func18, Tryz.ntmps18
  go_wp2_with fail
  refine (place_any _ B p r l t (HS.out.later ((Below.refl _ _).alloc (Nat.le_refl _) _))).mono ?_
  rw [HZ.out]
  rintro e w1 ⟨rfl, hb⟩
  have z0 : w1.cell? ⟨w.heap.size, 0, none⟩ = some (.int .i64 0) := (hb.cell (p := ⟨w.heap.size, 0, none⟩) (by simp)).trans (by go_simp)
  have z1 : w1.cell? ⟨w.heap.size, 1, none⟩ = some (.int .u64 0) := (hb.cell (p := ⟨w.heap.size, 1, none⟩) (by simp)).trans (by go_simp)
  have z2 : w1.cell? ⟨w.heap.size, 2, none⟩ = some (.int .u64 0) := (hb.cell (p := ⟨w.heap.size, 2, none⟩) (by simp)).trans (by go_simp)
  have q0 : w1.frozen? ⟨w.heap.size, 0, none⟩ = false := (hb.frozen (p := ⟨w.heap.size, 0, none⟩) (by simp)).trans (by go_simp)
  have q1 : w1.frozen? ⟨w.heap.size, 1, none⟩ = false := (hb.frozen (p := ⟨w.heap.size, 1, none⟩) (by simp)).trans (by go_simp)
  have q2 : w1.frozen? ⟨w.heap.size, 2, none⟩ = false := (hb.frozen (p := ⟨w.heap.size, 2, none⟩) (by simp)).trans (by go_simp)
  have hb1 : Below w.heap.size w w1 := ((Below.refl w.heap.size w).alloc (Nat.le_refl _) (.cells #[.int .i64 0, .int .u64 0, .int .u64 0] 43)).trans (hb.mono (by simp))
  have e0 := (hb1.cell (p := ⟨p, 0, none⟩) hlt).trans h1
  have d0 := (hb1.cell (p := ⟨b, o + k * 3, none⟩) hb0).trans c0
  have d1 := (hb1.cell (p := ⟨b, o + k * 3 + 1, none⟩) hb0).trans c1
  have d2 := (hb1.cell (p := ⟨b, o + k * 3 + 2, none⟩) hb0).trans c2
  have HB := Lib.hid hb1
  clear hb hb1
  go_wp2_with fail
  exact bodyPost_ret (v := .tuple #[.agg #[.int .i64 x0, .int .u64 x1, .int .u64 x2], .bool true]) (by simp [results, Tryz.results18, go_sem, z0, z1, z2]) rfl ⟨rfl, ((HB.out.setCell (Nat.le_refl _) _).setCell (Nat.le_refl _) _).setCell (Nat.le_refl _) _⟩

theorem park_hit_any (w : World) (B p : Nat) (r : Option Nat) (l : List Sx) (t d : Int) (k : Nat) (h : Ss w B p r l) (hi : l.findIdx? (hit t) = some k) :
    Calls Tryz.prog 13 #[.pointer (some ⟨p, 0, none⟩), .int .i64 t, .int .u64 d] w fun e w' => e = .returned (.int .i64 10) ∧ Below w.heap.size w w' := by
  have HS := Lib.hid h
  have HZ := Lib.hid (ixZ_some hi)
  clear h hi
  go_enter Tryz.func13, Tryz.ntmps13
  go_wp2_with fail
  refine (place_any _ B p r l t HS.out).mono ?_
  rw [HZ.out]
  rintro e w1 ⟨rfl, hb⟩
  go_wp2_with fail
  go_ret
  exact ⟨rfl, hb⟩
set_option maxRecDepth 100000 in
set_option maxHeartbeats 1000000 in
theorem park_miss_any (w : World) (B p : Nat) (r : Option Nat) (l : List Sx) (t d : Int) (h : Ss w B p r l) (hi : l.findIdx? (hit t) = none) (hreach : l.length ≤ 1000) :
    Calls Tryz.prog 13 #[.pointer (some ⟨p, 0, none⟩), .int .i64 t, .int .u64 d] w fun e w' => e = .returned (.int .i64 0) ∧ ∃ r', Ss w' B p r' (l ++ [(t, d, 0)]) ∧ Fr (some p) r w w' ∧ (∀ g, r' = some g → r = some g ∨ w.heap.size ≤ g) := by
  obtain ⟨i0, hi0, hz0, hz1, hz2⟩ := info_parts info_slot
  obtain ⟨A, c, h1, ho, hA⟩ := h.row
  have hl := h.lt
  have hlo := h.lo
  have f0 := h.free0
  have HS := Lib.hid h
  have HZ := Lib.hid (ixZ_none hi)
  have HO := Lib.hid ho
  have HA := Lib.hid hA
  clear h hi ho hA
  generalize hn : l.length = n at *
  have HN := Lib.hid hn
  clear hn
  go_enter Tryz.func13, Tryz.ntmps13
  go_wp2_with fail
  refine (place_any _ B p r l t HS.out).mono ?_
  rw [HZ.out]
  rintro e w1 ⟨rfl, hb⟩
  have e0 := (hb.cell (p := ⟨p, 0, none⟩) hl).trans h1
  have hsz := hb.size
  have HB := Lib.hid hb
  clear hb
  go_wp2_with (
    at_builtin
    refine append_rs enc3_len rfl _ _ 50 rfl B 43 i0 _ 24 Tryz.underlying50 hi0 hz0 hz1 hz2 rfl (by omega) (.slice A n c) n (flat enc3 l) rfl ((own_same HO.out (fun g hg => HB.out.block g (HO.out.lt g hg).2)).alloc _) (w1.heap.size + 1) _ 1 1 [(t, d, 0)] rfl (rs_one enc3_len w1 (t, d, 0) _ rfl) enc3_one (n + 1) rfl (flat enc3 (l ++ [(t, d, 0)])) (flat_append l _).symm ?_ ?_ ?_ ?_
    · unfold maxLen; omega
    · omega
    · simp; omega
    intro A' c' w2 ho2 hg2 hat2
    have HO2 := Lib.hid ho2
    have hgw : w.grownBy w2 r := by rw [HA.out] at hg2; exact ⟨hg2.os.trans HB.out.os, hg2.tape.trans HB.out.tape, hg2.output.trans HB.out.output, Nat.le_trans hsz (Nat.le_trans (by simp) hg2.size), fun q hq hne => (hg2.block q (by simp; omega) hne).trans ((RowKit.Below.heap_alloc w1 _ q (by omega)).trans (HB.out.block q hq))⟩
    have HG := Lib.hid hgw
    have hap : (Value.slice A' (n + 1) c').ownBlock = r ∨ ∃ g, (Value.slice A' (n + 1) c').ownBlock = some g ∧ w.heap.size ≤ g := by
      rcases hat2 with e | e
      · exact .inl (e.trans HA.out)
      · exact .inr ⟨_, e, by simp; omega⟩
    have HAP := Lib.hid hap
    have hne : some p ≠ r := fun e => HS.out.ne e.symm
    have u0 : w2.cell? ⟨p, 0, none⟩ = some (.slice A n c) := hgw.cell h1 hne
    have uf : w2.frozen? ⟨p, 0, none⟩ = false := grown_frozen hgw f0 hl hne
    clear ho2 hg2 hat2 hgw hap hne)
  obtain ⟨r', q1, q2, q3⟩ := HS.out.put (l' := l ++ [(t, d, 0)]) (by simp [HN.out]) HG.out HO2.out HAP.out
  have Q := Lib.hid (show _ ∧ _ ∧ _ from ⟨q1, q2, q3⟩)
  clear q1 q2 q3
  go_wp2_with fail
  go_ret
  exact ⟨rfl, r', Q.out⟩

theorem fill_zero_any (w : World) (p : Nat) :
    Calls Tryz.prog 12 #[.pointer (some ⟨p, 0, none⟩), .int .u64 0] w fun e w' => e = .returned (.tuple #[.int .i64 0, .bool false]) ∧ w = w' := by
  go_enter Tryz.func12, Tryz.ntmps12
  go_wp2_with fail
  go_ret2
  exact ⟨rfl, rfl⟩
theorem fill_miss_any (w : World) (B p : Nat) (r : Option Nat) (l : List Sx) (i : Int) (h : Ss w B p r l) (hf : l.findIdx? free = none) (hi : i ≠ 0) :
    Calls Tryz.prog 12 #[.pointer (some ⟨p, 0, none⟩), .int .u64 i] w fun e w' => e = .returned (.tuple #[.int .i64 0, .bool false]) ∧ Below w.heap.size w w' := by
  have hi' : (i == 0) = false := by simpa using hi
  obtain ⟨A, c, h1, hr⟩ := h.rs
  have HR := Lib.hid hr
  have HZ := Lib.hid (ixZ_none hf)
  clear h hf hr hi
  generalize hn : l.length = n at *
  clear hn
  go_enter Tryz.func12, Tryz.ntmps12
  go_wp2_with fail
  refine (index_free A n c _ l _ HR.out (Nat.le_refl _)).mono ?_
  rw [HZ.out]
  rintro e w1 ⟨rfl, hb⟩
  go_wp2_with fail
  go_ret2
  exact ⟨rfl, hb⟩
set_option maxRecDepth 100000 in
set_option maxHeartbeats 1000000 in
theorem fill_hit_any (w : World) (B p : Nat) (r : Option Nat) (l : List Sx) (i : Int) (k : Nat) (x : Sx) (h : Ss w B p r l) (hf : l.findIdx? free = some k) (hx : l[k]? = some x) (hi : i ≠ 0) :
    Calls Tryz.prog 12 #[.pointer (some ⟨p, 0, none⟩), .int .u64 i] w fun e w' => e = .returned (.tuple #[.int .i64 x.1, .bool true]) ∧ Ss w' B p r (fillAt l k x i) ∧ Fr (some p) r w w' := by
  have hi' : (i == 0) = false := by simpa using hi
  obtain ⟨A, c, h1, ho, hA⟩ := h.row
  obtain ⟨x', hx', _, hkn⟩ := ix_hit hf
  have hrs := Rs.own_rs enc3_len rfl ho
  obtain ⟨b, o, y, hA2, hb0, hy, c0, c1, c2⟩ := three_at hrs hkn
  obtain rfl : x = y := by rw [hx] at hy; injection hy
  have ho0 : o = 0 := by
    rcases ho.2 with ⟨h', _⟩ | ⟨g, cap, cur, h', _⟩
    · injection h' with _ h2 _; omega
    · injection h' with h2 _ _; rw [hA2] at h2; injection h2 with h2; injection h2
  subst hA2 ho0
  simp only [Nat.zero_add] at c0 c1 c2
  have hl := h.lt
  have hcap := hrs.cap
  have htop := hrs.top
  have hfz : w.frozen? ⟨b, k * 3 + 2, none⟩ = false := ho.frozenAt _
  have HS := Lib.hid h
  have HX := Lib.hid hx
  have HZ := Lib.hid (ixZ_some hf)
  have HR := Lib.hid hrs
  have hpb : b ≠ p := fun e => h.ne (by rw [← hA, e]; rfl)
  have H1 := Lib.hid h1
  clear h hf hx hi hx' hy ho hA hrs
  obtain ⟨x0, x1, x2⟩ := x
  simp only at c0 c1 c2 ⊢
  generalize hn : l.length = n at *
  have HN := Lib.hid hn
  clear hn
  go_enter Tryz.func12, Tryz.ntmps12
  go_wp2_with fail
  refine (index_free _ n c _ l _ HR.out (Nat.le_refl _)).mono ?_
  rw [HZ.out]
  rintro e w1 ⟨rfl, hb⟩
  have e0 := (hb.cell (p := ⟨p, 0, none⟩) hl).trans h1
  have d0 := (hb.cell (p := ⟨b, k * 3, none⟩) hb0).trans c0
  have d2 := (hb.cell (p := ⟨b, k * 3 + 2, none⟩) hb0).trans c2
  have f2 := (hb.frozen (p := ⟨b, k * 3 + 2, none⟩) hb0).trans hfz
  obtain ⟨s1, s2, s3⟩ := HS.out.fill hb HX.out i (g := b) (c := c) (by rw [HN.out]; exact H1.out)
  have S1 := Lib.hid s1
  have S2 := Lib.hid s2
  have g0 : (w1.setCell ⟨b, k * 3 + 2, none⟩ (.int .u64 i)).cell? ⟨p, 0, none⟩ = some (.slice (some ⟨b, 0, none⟩) n c) := (World.cell?_setCell_other _ _ _ _ (fun e => by injection e with e; exact hpb e)).trans e0
  have g1 : (w1.setCell ⟨b, k * 3 + 2, none⟩ (.int .u64 i)).cell? ⟨b, k * 3, none⟩ = some (.int .i64 x0) := (World.cell?_setCell_other _ _ _ _ (fun e => by injection e with _ e; omega)).trans d0
  clear hb s1 s2 s3
  go_wp2_with fail
  go_ret2
  exact ⟨rfl, S1.out, S2.out⟩

theorem take_miss_any (w : World) (B p : Nat) (r : Option Nat) (l : List Sx) (t : Int) (h : Ss w B p r l) (hi : l.findIdx? (hit t) = none) :
    Calls Tryz.prog 15 #[.pointer (some ⟨p, 0, none⟩), .int .i64 t] w fun e w' => e = .returned (.tuple #[.int .u64 0, .bool false]) ∧ Below w.heap.size w w' := by
  have HS := Lib.hid h
  have HZ := Lib.hid (ixZ_none hi)
  clear h hi
  go_enter Tryz.func15, Tryz.ntmps15
  go_wp2_with fail
  refine (place_any _ B p r l t HS.out).mono ?_
  rw [HZ.out]
  rintro e w1 ⟨rfl, hb⟩
  go_wp2_with fail
  go_ret2
  exact ⟨rfl, hb⟩
set_option maxRecDepth 100000 in
set_option maxHeartbeats 1000000 in
theorem take_hit_any (w : World) (B p : Nat) (r : Option Nat) (l : List Sx) (t : Int) (k : Nat) (x : Sx) (h : Ss w B p r l) (hi : l.findIdx? (hit t) = some k) (hx : l[k]? = some x) :
    Calls Tryz.prog 15 #[.pointer (some ⟨p, 0, none⟩), .int .i64 t] w fun e w' => e = .returned (.tuple #[.int .u64 x.2.2, .bool true]) ∧ Ss w' B p r (l.eraseIdx k) ∧ Fr (some p) r w w' := by
  obtain ⟨A, c, h1, ho, hA⟩ := h.row
  obtain ⟨x', hx', _, hkn⟩ := ix_hit hi
  have hrs := Rs.own_rs enc3_len rfl ho
  obtain ⟨b, o, y, hA2, hb0, hy, c0, c1, c2⟩ := three_at hrs hkn
  obtain rfl : x = y := by rw [hx] at hy; injection hy
  have ho0 : o = 0 := by
    rcases ho.2 with ⟨h', _⟩ | ⟨g, cap, cur, h', _⟩
    · injection h' with _ h2 _; omega
    · injection h' with h2 _ _; rw [hA2] at h2; injection h2 with h2; injection h2
  subst hA2 ho0
  simp only [Nat.zero_add] at c0 c1 c2
  have hl := h.lt
  have f0 := h.free0
  have hcap := hrs.cap
  have htop := hrs.top
  have hlen := erase_len hkn
  have HS := Lib.hid h
  have HZ := Lib.hid (ixZ_some hi)
  have HO := Lib.hid ho
  have HA := Lib.hid hA
  clear h hi hx hx' hy ho hA hrs
  obtain ⟨x0, x1, x2⟩ := x
  simp only at c0 c1 c2 ⊢
  generalize hn : l.length = n at *
  have HN := Lib.hid hn
  have HLEN := Lib.hid hlen
  clear hn hlen
  go_enter Tryz.func15, Tryz.ntmps15
  go_wp2_with fail
  refine (place_any _ B p r l t HS.out).mono ?_
  rw [HZ.out]
  rintro e w1 ⟨rfl, hb⟩
  have e0 := (hb.cell (p := ⟨p, 0, none⟩) hl).trans h1
  have d0 := (hb.cell (p := ⟨b, k * 3, none⟩) hb0).trans c0
  have d1 := (hb.cell (p := ⟨b, k * 3 + 1, none⟩) hb0).trans c1
  have d2 := (hb.cell (p := ⟨b, k * 3 + 2, none⟩) hb0).trans c2
  have HB := Lib.hid hb
  clear hb
  go_wp2_with fail
  have hdel := delete_j (some ⟨b, 0, none⟩) n c B k (k + 1) (by omega) (by omega) l w1 (own_same HO.out (fun g hg => HB.out.block g (HO.out.lt g hg).2)) HN.out hkn
  rw [show ((k + 1 : Nat) : Int) = (k : Int) + 1 by omega] at hdel
  refine hdel.mono ?_
  rintro e w2 ⟨rfl, ho2, hg2⟩
  rw [HA.out] at hg2
  have hgw : w.grownBy w2 r := ⟨hg2.os.trans HB.out.os, hg2.tape.trans HB.out.tape, hg2.output.trans HB.out.output, Nat.le_trans HB.out.size hg2.size, fun q hq hne => (hg2.block q (Nat.lt_of_lt_of_le hq HB.out.size) hne).trans (HB.out.block q hq)⟩
  have hne : some p ≠ r := fun e => HS.out.ne e.symm
  have u0 : w2.cell? ⟨p, 0, none⟩ = some (.slice (some ⟨b, 0, none⟩) n c) := hgw.cell h1 hne
  have uf : w2.frozen? ⟨p, 0, none⟩ = false := grown_frozen hgw f0 hl hne
  obtain ⟨r', q1, q2, q3⟩ := HS.out.put (l' := l.eraseIdx k) (n' := n - 1) (by have := HLEN.out; omega) hgw ho2 (.inl HA.out)
  have hrr : r' = r := by
    obtain ⟨A2, c3, v1, v2, v3⟩ := q1.row
    rw [World.cell?_setCell_same _ _ _ u0] at v1
    injection v1 with v1
    rw [← v3, ← v1]
    exact HA.out
  subst hrr
  have Q := Lib.hid (show _ ∧ _ from ⟨q1, q2⟩)
  clear q1 q2 q3 hdel ho2 hg2 hgw hne
  go_wp2_with fail
  go_ret2
  exact ⟨rfl, Q.out⟩
end Go.Proofs.YtbedboekfkobjaaGreatDoor.St
