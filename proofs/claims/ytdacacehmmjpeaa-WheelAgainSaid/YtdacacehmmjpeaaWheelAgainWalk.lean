/- The walk of hackneylaw05.WheelAgain. -/
import Derived.Test.YtdacacehmmjpeaaAwake5
namespace Go.Proofs.Ytdacacehmmjpeaa.Wl
open Go.ChangeShapes Go.WideShapes Go.ChangeAt Go.RowKit Go.Maps Rw Sl Sn Ck
set_option linter.unusedVariables false

theorem Wh.other {w w' : World} {p m m' : Nat} {l : List (Int × Int)} (h : Wh w p m l) (hg : w.grownBy w' (some m')) (h1 : p ≠ m') (h2 : m ≠ m') : Wh w' p m l := h.kept hg (by simpa using h1) (by simpa using h2)
theorem due_due {l : List (Int × Int)} (h : Tms l) {x y : Int} (hxy : x ≤ y) : due l x ++ due (left l x) y = due l y := by
  refine eq_of_mem (r := fun a b => bf a b = true) bf_irrefl (fun h k => bf_trans h k) ?_ ((h.filter _).srt) (fun a => ?_)
  · rw [List.pairwise_append]
    refine ⟨(h.filter _).srt, ((h.filter _).filter _).srt, fun a ha b hb => ?_⟩
    have h1 := (mem_due.1 ha).2
    have h2 := (mem_left.1 (mem_due.1 hb).1).2
    rw [bf_iff]
    left; omega
  · rw [List.mem_append, mem_due, mem_due, mem_left, mem_due]
    constructor
    · rintro (⟨h1, h2⟩ | ⟨⟨h1, h2⟩, h3⟩)
      · exact ⟨h1, by omega⟩
      · exact ⟨h1, h3⟩
    · rintro ⟨h1, h2⟩
      by_cases h3 : a.2 ≤ x
      · exact .inl ⟨h1, h3⟩
      · exact .inr ⟨⟨h1, by omega⟩, h2⟩
theorem contains_any (A : Option Addr) (n c : Nat) (xs : List Int) (x : Int) (B : Nat) (w : World) (h : Rd (Value.int .u64) w B A n c xs) :
    Calls Try.prog 33 #[.slice A n c, .int .u64 x] w fun e w' => e = .returned (.bool (decide (x ∈ xs))) ∧ w = w' := by
  have HR := Lib.hid h
  clear h
  by_cases hx : x ∈ xs
  · have e1 : (0 : Int) ≤ sIdx xs x := by have := sIdx_neg xs x; simp [hx] at this; exact this
    rw [decide_eq_true hx]
    generalize hs : sIdx xs x = s at *
    have HS := Lib.hid hs
    clear hs hx
    go_enter Try.func33, Try.ntmps33
    go_wp2_with fail
    refine (index_any A n c xs x B _ HR.out).mono ?_
    rintro e w' ⟨rfl, rfl⟩
    rw [HS.out]
    go_wp2_with fail
    go_ret
    exact ⟨rfl, rfl⟩
  · have e1 : sIdx xs x = -1 := sIdx_miss xs x hx
    rw [decide_eq_false hx]
    have HS := Lib.hid e1
    clear e1 hx
    go_enter Try.func33, Try.ntmps33
    go_wp2_with fail
    refine (index_any A n c xs x B _ HR.out).mono ?_
    rintro e w' ⟨rfl, rfl⟩
    rw [HS.out]
    go_wp2_with fail
    go_ret
    exact ⟨rfl, rfl⟩
theorem own_of_eq {w : World} {base : Nat} {A : Option Addr} {c n n' : Nat} {xs xs' : List Int} (h : w.ownsRow base 31 1 (.slice A n c) n (xs.map (Value.int .u64))) (hn : n = n') (hx : xs = xs') : w.ownsRow base 31 1 (.slice A n' c) n' (xs'.map (Value.int .u64)) := by subst hn hx; exact h
theorem equal_true (A A' : Option Addr) (n c m c' : Nat) (ys zs : List Int) (B B' : Nat) (w : World) (h : Rd (Value.int .u64) w B A n c ys) (h' : Rd (Value.int .u64) w B' A' m c' zs) (he : ys = zs) :
    Calls Try.prog 18 #[.slice A n c, .slice A' m c'] w fun e w' => e = .returned (.bool true) ∧ Below w.heap.size w w' :=
  (equal_any A A' n c m c' ys zs B B' w h h').mono fun e w' ⟨h1, q, h2⟩ => ⟨by rw [h1, decide_eq_true he], h2 ▸ below_drewN (Below.refl _ _) q⟩
theorem due_len (l : List (Int × Int)) (x : Int) : (due l x).length ≤ l.length := List.length_filter_le _ _
theorem left_len (l : List (Int × Int)) (x : Int) : (left l x).length ≤ l.length := List.length_filter_le _ _


set_option maxRecDepth 100000 in
set_option maxHeartbeats 8000000 in
theorem again_le (ab ao n c : Nat) (A : Option Addr) (K T O : Nat → Int) (key a b : Int) (w : World) (hn : n ≤ 60) (hnc : n ≤ c) (hA : 0 < n → A = some ⟨ab, ao, none⟩) (hab : 0 < n → ab < w.heap.size)
    (hc : ∀ j, j < n → w.cell? ⟨ab, ao + j * 3, none⟩ = some (.int .u8 (O j)) ∧ w.cell? ⟨ab, ao + j * 3 + 1, none⟩ = some (.int .u64 (K j)) ∧ w.cell? ⟨ab, ao + j * 3 + 2, none⟩ = some (.int .u64 (T j)))
    (hK : ∀ j, j < n → (0 ≤ K j ∧ K j ≤ 18446744073709551615) ∧ (0 ≤ T j ∧ T j ≤ 18446744073709551615))
    (hk : 0 ≤ key ∧ key ≤ 18446744073709551615) (ha0 : 0 ≤ a) (ha : a ≤ 1152921504606846976) (hb0 : 0 ≤ b) (hb : b ≤ 1152921504606846976) (hab' : a ≤ b) :
    Calls Try.prog 7 #[.slice A n c, .int .u64 key, .int .u64 a, .int .u64 b] w fun e w' => e = .returned (.bool true) ∧ Below w.heap.size w w' := by
  obtain ⟨i0, hi, hz0, hz1, hz2⟩ := info_parts info_u64
  have t0 : decide ((60 : Int) < (n : Int)) = false := decide_eq_false (by omega)
  have t0' : decide (60 < n) = false := decide_eq_false (by omega)
  have t1 : decide ((1152921504606846976 : Int) < a) = false := decide_eq_false (by omega)
  have t2 : decide ((1152921504606846976 : Int) < b) = false := decide_eq_false (by omega)
  have hmn : min a b = a := Int.min_eq_left hab'
  have hmx : max a b = b := Int.max_eq_right hab'
  have HAB2 := Lib.hid hab'
  clear hab'
  have HA := Lib.hid hA
  have HAB := Lib.hid hab
  have HC := Lib.hid hc
  have HKK := Lib.hid hK
  have HKEY := Lib.hid hk
  clear hA hab hc hK hk
  go_enter Try.func7, Try.ntmps7
  go_wp2_with fail
  refine (awake5_any _).mono ?_
  rintro e w1 ⟨rfl, b1⟩
  go_wp2_with fail
  refine (Wl.new_any _).mono ?_
  rintro e w2 ⟨rfl, hw2, hb2, hs2⟩
  obtain ⟨p, hp⟩ : ∃ p, w1.heap.size + 1 = p := ⟨_, rfl⟩
  obtain ⟨m, hm⟩ : ∃ m, w1.heap.size = m := ⟨_, rfl⟩
  rw [hp] at hw2 ⊢
  have hm' : w.heap.size ≤ m := by have := b1.size; omega
  have hw2' : Wh w2 p m [] := by rw [← hm]; exact hw2
  have b2 := b1.trans (hb2.mono b1.size)
  clear hw2 hp hm hs2 b1 hb2
  have HW2 := Lib.hid hw2'
  clear hw2'
  go_wp2_with fail
  go_loopw [34] (fun i wr => ∃ (k : Nat) (L : List (Int × Int)), k ≤ n ∧ i = .int .i64 k ∧ Wh wr p m L ∧ L.length ≤ k ∧ Below w.heap.size w wr) (fun i _ => n - (intOf i).toNat)
  case atStart => exact ⟨0, [], Nat.zero_le _, rfl, HW2.out, by simp, b2⟩
  case round =>
    clear HW2 b2
    obtain ⟨k, L, hk, rfl, hw, hL, hbr⟩ := hrel
    have HW := Lib.hid hw
    clear hw
    by_cases hlt : k < n
    · obtain ⟨d0, d1, d2⟩ := HC.out k hlt
      have hab := HAB.out (by omega)
      obtain rfl := HA.out (by omega)
      rw [← hbr.cell (p := ⟨ab, _, none⟩) hab] at d0 d1 d2
      have hKT := HKK.out k hlt
      generalize K k = x at *
      generalize T k = t at *
      generalize O k = o at *
      have HKT := Lib.hid hKT
      clear hKT
      go_wp2_with fail
      refine (arm_any _ p m L x t (HW.out.later ((Below.refl _ _).alloc (Nat.le_refl _) _)) HKT.out.1 HKT.out.2 (by omega)).mono ?_
      rintro e w3 ⟨rfl, hw3, hg3⟩
      have HW3 := Lib.hid hw3
      have b3 : Below w.heap.size w w3 := (hbr.alloc hbr.size _).grown hg3 (by have := hbr.size; simp; omega) (fun j hj => by cases hj; exact hm')
      clear hw3 hg3
      go_wp2_with fail
      go_roundw
      case rel => exact ⟨k + 1, _, by omega, by go_num, HW3.out, by have := arm_len1 L x t; omega, b3⟩
      case measure => simp [intOf]; omega
    · have hL60 : L.length ≤ 60 := by omega
      have hk' : k = n := by omega
      subst hk'
      clear hL hlt hk
      have hsz0 := hbr.size
      have hlt0 := HW.out.lt
      go_wp2_with fail
      refine (clone_any _ p m L HW.out).mono ?_
      rintro e w3 ⟨rfl, hw3, hb3, hs3⟩
      obtain ⟨p1, hp1⟩ : ∃ p1, wr.heap.size + 1 = p1 := ⟨_, rfl⟩
      obtain ⟨m1, hm1⟩ : ∃ m1, wr.heap.size = m1 := ⟨_, rfl⟩
      rw [hp1] at hw3 ⊢
      have HW3 : Hid (Wh w3 p1 m1 L) := by rw [← hm1]; exact hw3
      have HWa : Hid (Wh w3 p m L) := HW.out.later hb3
      have I1 : Hid (p < m1 ∧ m < m1 ∧ m1 < p1 ∧ p1 < w3.heap.size ∧ w.heap.size ≤ m1) := by refine ⟨?_, ?_, ?_, ?_, ?_⟩ <;> omega
      have b3 := hbr.trans (hb3.mono hbr.size)
      clear hw3 hb3 hs3 hp1 hm1 HW hbr hsz0 hlt0
      go_wp2_with fail
      refine (clone_any _ p m L HWa.out).mono ?_
      rintro e w4 ⟨rfl, hw4, hb4, hs4⟩
      obtain ⟨p2, hp2⟩ : ∃ p2, w3.heap.size + 1 = p2 := ⟨_, rfl⟩
      obtain ⟨m2, hm2⟩ : ∃ m2, w3.heap.size = m2 := ⟨_, rfl⟩
      rw [hp2] at hw4 ⊢
      have HW4 : Hid (Wh w4 p2 m2 L) := by rw [← hm2]; exact hw4
      have HWb : Hid (Wh w4 p m L) := HWa.out.later hb4
      have HW3b : Hid (Wh w4 p1 m1 L) := HW3.out.later hb4
      have I2 : Hid (p1 < m2 ∧ m2 < p2 ∧ p2 < w4.heap.size ∧ w.heap.size ≤ m2) := by have := I1.out; refine ⟨?_, ?_, ?_, ?_⟩ <;> omega
      have b4 := b3.trans (hb4.mono b3.size)
      clear hw4 hb4 hs4 hp2 hm2 HWa HW3 b3
      go_wp2_with fail
      refine (due_any _ p1 m1 L a HW3b.out (by omega) (by omega)).mono ?_
      rintro e w5 ⟨A5, c5, rfl, hrow5, hw5, hg5⟩
      have HW5 := Lib.hid hw5
      have HW4b : Hid (Wh w5 p2 m2 L) := HW4.out.other hg5 (by have := I1.out; have := I2.out; omega) (by have := I1.out; have := I2.out; omega)
      have HWc : Hid (Wh w5 p m L) := HWb.out.other hg5 (by have := I1.out; omega) (by have := I1.out; omega)
      have HROW5 := Lib.hid hrow5
      have b5 := b4.grown hg5 b4.size (fun j hj => by cases hj; have := I1.out; omega)
      have s5 := Lib.hid hg5.size
      have S4 : Hid (w4.heap.size ≤ w4.heap.size) := Nat.le_refl _
      have J5 : Hid (p1 < w4.heap.size ∧ m1 < w4.heap.size) := by have := I1.out; have := I2.out; exact ⟨by omega, by omega⟩
      clear hw5 hrow5 hg5 HW4 HWb HW3b b4
      have l5 := left_len L a
      go_wp2_with fail
      refine (due_any _ p1 m1 (left L a) b HW5.out (by omega) (by omega)).mono ?_
      rintro e w6 ⟨A6, c6, rfl, hrow6, hw6, hg6⟩
      have HW4c : Hid (Wh w6 p2 m2 L) := HW4b.out.other hg6 (by have := I1.out; have := I2.out; omega) (by have := I1.out; have := I2.out; omega)
      have HWd : Hid (Wh w6 p m L) := HWc.out.other hg6 (by have := I1.out; omega) (by have := I1.out; omega)
      have hrow5' := HROW5.out.kept hg6 (Or.inr (fun e => by have := (HROW5.out.lt m1 e).1; have := J5.out; omega))
      have HROW5' := Lib.hid hrow5'
      have HROW6 := Lib.hid hrow6
      have b6 := b5.grown hg6 b5.size (fun j hj => by cases hj; have := I1.out; omega)
      have s6 := Lib.hid (Nat.le_trans s5.out hg6.size)
      have d5 := due_len L a
      have d6 := due_len (left L a) b
      clear hw6 hrow6 hg6 HW4b HWc HW5 b5 hrow5' HROW5
      have hcat : ((due L a).map Prod.fst).map (Value.int .u64) ++ ((due (left L a) b).map Prod.fst).map (Value.int .u64) = ((due L b).map Prod.fst).map (Value.int .u64) := by
        rw [← List.map_append, ← List.map_append, due_due HWd.out.tms HAB2.out]
      have hcl : (due L a).length + (due (left L a) b).length = (due L b).length := by rw [← List.length_append, due_due HWd.out.tms HAB2.out]
      have HCAT := Lib.hid hcat
      have HCL := Lib.hid hcl
      clear hcat hcl
      go_wp2_with (at_builtin; refine append_rd _ rfl _ _ 22 rfl w4.heap.size 31 i0 (.int .u64 0) 8 Try.underlying22 hi hz0 hz1 hz2 rfl _ _ _ rfl HROW5'.out w6.heap.size A6 (due (left L a) b).length c6 ((due (left L a) b).map Prod.fst) rfl (Rd.own_rd HROW6.out) one_u64 (due L b).length HCL.out _ HCAT.out (by unfold maxLen; omega) (by omega) s6.out ?_; intro A7 c7 w7 hrow7 hg7 hat7)
      have hblk : ∀ j, (Value.slice A5 (due L a).length c5).ownBlock = some j → w4.heap.size ≤ j := fun j hj => (HROW5'.out.lt j hj).1
      have HW4d : Hid (Wh w7 p2 m2 L) := HW4c.out.kept hg7 (fun e => by have := hblk _ e.symm; have := I2.out; omega) (fun e => by have := hblk _ e.symm; have := I2.out; omega)
      have HWe : Hid (Wh w7 p m L) := HWd.out.kept hg7 (fun e => by have := hblk _ e.symm; have := I2.out; have := I1.out; omega) (fun e => by have := hblk _ e.symm; have := I2.out; have := I1.out; omega)
      have b7 := b6.grown hg7 b6.size (fun j hj => by have := hblk j hj; have := I2.out; omega)
      have s7 := Lib.hid (Nat.le_trans s6.out hg7.size)
      have HROW7 := Lib.hid hrow7
      clear hrow7 hg7 hat7 hblk HW4c HWd b6 HROW5' HROW6 HCAT HCL s5 s6
      go_wp2_with fail
      refine (due_any _ p2 m2 L b HW4d.out (by omega) (by omega)).mono ?_
      rintro e w8 ⟨A8, c8, rfl, hrow8, hw8, hg8⟩
      have HWf : Hid (Wh w8 p m L) := HWe.out.other hg8 (by have := I1.out; have := I2.out; omega) (by have := I1.out; have := I2.out; omega)
      have hrow7' := HROW7.out.kept hg8 (Or.inr (fun e => by have := (HROW7.out.lt m2 e).1; have := I2.out; omega))
      have HROW7' := Lib.hid hrow7'
      have HROW8 := Lib.hid hrow8
      have b8 := b7.grown hg8 b7.size (fun j hj => by cases hj; have := I2.out; omega)
      clear hw8 hrow8 hg8 HWe b7 hrow7' HROW7 HW4d
      go_wp2_with fail
      refine (equal_true _ _ _ _ _ _ ((due L b).map Prod.fst) ((due L b).map Prod.fst) _ _ _ (Rd.own_rd HROW7'.out) (Rd.own_rd HROW8.out) rfl).mono ?_
      rintro e w9 ⟨rfl, hb9⟩
      have HWg : Hid (Wh w9 p m L) := HWf.out.later hb9
      have b9 := b8.trans (hb9.mono b8.size)
      clear hb9 HWf b8 HROW7' HROW8
      have f1 : full L key = false := by have := wo_len L key; simp [full]; omega
      have l1 := arm_len1 L key a
      have f2 : full (arm L key a) key = false := by have := wo_len (arm L key a) key; simp [full]; omega
      have l2 := arm_len1 (arm L key a) key b
      have m2' : (key, b) ∈ arm (arm L key a) key b := by
        unfold arm at f2 ⊢
        rw [f1] at f2 ⊢
        rw [show (if false = true then L else ins (key, cut a) (wo L key)) = ins (key, cut a) (wo L key) from rfl] at f2 ⊢
        rw [f2]
        have : cut b = b := by unfold cut; rw [if_pos hb]
        exact mem_put.2 (.inl (by rw [this]))
      have F1 := Lib.hid f1
      have F2 := Lib.hid f2
      have M2 := Lib.hid m2'
      clear f1 f2 m2'
      go_wp2_with fail
      refine (arm_any _ p m L key a HWg.out HKEY.out (by omega) (by omega)).mono ?_
      rintro e w10 ⟨rfl, hw10, hg10⟩
      have HW10 := Lib.hid hw10
      have b10 := b9.grown hg10 b9.size (fun j hj => by cases hj; exact hm')
      clear hw10 hg10 b9 HWg
      go_wp2_with fail
      refine (arm_any _ p m _ key b HW10.out HKEY.out (by omega) (by omega)).mono ?_
      rintro e w11 ⟨rfl, hw11, hg11⟩
      have b11 := b10.grown hg11 b10.size (fun j hj => by cases hj; exact hm')
      generalize arm (arm L key a) key b = L2 at *
      have HW11 := Lib.hid hw11
      have e11 : tick L2 key = b := tick_hit hw11.tms M2.out
      have k11 : key ∈ L2.map Prod.fst := Tms.mem_key.2 ⟨b, M2.out⟩
      have E11 := Lib.hid e11
      have K11 := Lib.hid k11
      clear hw11 hg11 b10 HW10 e11 k11 F1 F2
      go_wp2_with fail
      refine (Wl.at_any _ p m _ key HW11.out HKEY.out).mono ?_
      rintro e w12 ⟨rfl, rfl⟩
      rw [E11.out, decide_eq_true K11.out]
      go_wp2_with fail
      refine (clone_any _ p m L2 HW11.out).mono ?_
      rintro e w12 ⟨rfl, hw12, hb12, hs12⟩
      obtain ⟨p3, hp3⟩ : ∃ p3, w11.heap.size + 1 = p3 := ⟨_, rfl⟩
      obtain ⟨m3, hm3⟩ : ∃ m3, w11.heap.size = m3 := ⟨_, rfl⟩
      rw [hp3] at hw12 ⊢
      have HW12 : Hid (Wh w12 p3 m3 L2) := by rw [← hm3]; exact hw12
      have HWh : Hid (Wh w12 p m L2) := HW11.out.later hb12
      have I3 : Hid (p < m3 ∧ m < m3 ∧ w.heap.size ≤ m3) := by have := HW11.out.lt; have := b11.size; refine ⟨?_, ?_, ?_⟩ <;> omega
      have b12 := b11.trans (hb12.mono b11.size)
      clear hw12 hb12 hs12 hp3 hm3 HW11 b11
      go_wp2_with fail
      refine (disarm_any _ p3 m3 _ key HW12.out HKEY.out).mono ?_
      rintro e w13 ⟨rfl, hw13, hg13⟩
      rw [decide_eq_true K11.out]
      have HW13 := Lib.hid hw13
      have HWi : Hid (Wh w13 p m L2) := HWh.out.other hg13 (by have := I3.out; omega) (by have := I3.out; omega)
      have b13 := b12.grown hg13 b12.size (fun j hj => by cases hj; have := I3.out; omega)
      clear hw13 hg13 b12 HW12 HWh
      have bb : (b == b) = true := by simp
      go_wp2_with fail
      refine (disarm_any _ p3 m3 _ key HW13.out HKEY.out).mono ?_
      rintro e w14 ⟨rfl, hw14, hg14⟩
      rw [decide_eq_false wo_key]
      have HW14 := Lib.hid hw14
      have HWj : Hid (Wh w14 p m L2) := HWi.out.other hg14 (by have := I3.out; omega) (by have := I3.out; omega)
      have b14 := b13.grown hg14 b13.size (fun j hj => by cases hj; have := I3.out; omega)
      have l3 := wo_len L2 key
      have l4 := wo_len (wo L2 key) key
      clear hw14 hg14 b13 HW13 HWi
      go_wp2_with fail
      refine (due_any _ p3 m3 _ 1152921504606846976 HW14.out (by omega) (by omega)).mono ?_
      rintro e w15 ⟨A15, c15, rfl, hrow15, hw15, hg15⟩
      have HWk : Hid (Wh w15 p m L2) := HWj.out.other hg15 (by have := I3.out; omega) (by have := I3.out; omega)
      have b15 := b14.grown hg15 b14.size (fun j hj => by cases hj; have := I3.out; omega)
      have HROW15 := Lib.hid hrow15
      clear hw15 hrow15 hg15 b14 HW14 HWj
      go_wp2_with fail
      refine (contains_any _ _ _ _ key _ _ (Rd.own_rd HROW15.out)).mono ?_
      rintro e w16 ⟨rfl, rfl⟩
      have n15 : key ∉ (due (wo (wo L2 key) key) 1152921504606846976).map Prod.fst := by
        intro h
        obtain ⟨t, ht⟩ := Tms.mem_key.1 h
        exact (mem_wo.1 (mem_due.1 ht).1).2 rfl
      rw [decide_eq_false n15]
      clear n15 HROW15
      go_wp2_with fail
      refine (due_any _ p m L2 b HWk.out (by omega) (by omega)).mono ?_
      rintro e w17 ⟨A17, c17, rfl, hrow17, hw17, hg17⟩
      have HW17 := Lib.hid hw17
      have b17 := b15.grown hg17 b15.size (fun j hj => by cases hj; exact hm')
      have HROW17 := Lib.hid hrow17
      have n18 : key ∉ (due (left L2 b) 1152921504606846976).map Prod.fst := by
        intro h
        obtain ⟨t, ht⟩ := Tms.mem_key.1 h
        have h1 := mem_left.1 (mem_due.1 ht).1
        have := HWk.out.tms.uniq h1.1 M2.out
        omega
      have N18 := Lib.hid n18
      clear hw17 hrow17 hg17 b15 HWk n18
      go_wp2_with fail
      refine (contains_any _ _ _ _ key _ _ (Rd.own_rd HROW17.out)).mono ?_
      rintro e w18 ⟨rfl, rfl⟩
      rw [decide_eq_true (Tms.mem_key.2 ⟨b, mem_due.2 ⟨M2.out, Int.le_refl _⟩⟩)]
      have l5 := left_len L2 b
      clear HROW17
      go_wp2_with fail
      refine (due_any _ p m _ 1152921504606846976 HW17.out (by omega) (by omega)).mono ?_
      rintro e w19 ⟨A19, c19, rfl, hrow19, hw19, hg19⟩
      have b19 := b17.grown hg19 b17.size (fun j hj => by cases hj; exact hm')
      have HROW19 := Lib.hid hrow19
      clear hw19 hrow19 hg19 b17 HW17
      go_wp2_with fail
      refine (contains_any _ _ _ _ key _ _ (Rd.own_rd HROW19.out)).mono ?_
      rintro e w20 ⟨rfl, rfl⟩
      rw [decide_eq_false N18.out]
      go_wp2_with fail
      go_ret
      exact ⟨rfl, b19⟩

set_option maxRecDepth 100000 in
set_option maxHeartbeats 8000000 in
theorem again_gt (ab ao n c : Nat) (A : Option Addr) (K T O : Nat → Int) (key a b : Int) (w : World) (hn : n ≤ 60) (hnc : n ≤ c) (hA : 0 < n → A = some ⟨ab, ao, none⟩) (hab : 0 < n → ab < w.heap.size)
    (hc : ∀ j, j < n → w.cell? ⟨ab, ao + j * 3, none⟩ = some (.int .u8 (O j)) ∧ w.cell? ⟨ab, ao + j * 3 + 1, none⟩ = some (.int .u64 (K j)) ∧ w.cell? ⟨ab, ao + j * 3 + 2, none⟩ = some (.int .u64 (T j)))
    (hK : ∀ j, j < n → (0 ≤ K j ∧ K j ≤ 18446744073709551615) ∧ (0 ≤ T j ∧ T j ≤ 18446744073709551615))
    (hk : 0 ≤ key ∧ key ≤ 18446744073709551615) (ha0 : 0 ≤ a) (ha : a ≤ 1152921504606846976) (hb0 : 0 ≤ b) (hb : b ≤ 1152921504606846976) (hab1 : b < a) :
    Calls Try.prog 7 #[.slice A n c, .int .u64 key, .int .u64 a, .int .u64 b] w fun e w' => e = .returned (.bool true) ∧ Below w.heap.size w w' := by
  obtain ⟨i0, hi, hz0, hz1, hz2⟩ := info_parts info_u64
  have t0 : decide ((60 : Int) < (n : Int)) = false := decide_eq_false (by omega)
  have t0' : decide (60 < n) = false := decide_eq_false (by omega)
  have t1 : decide ((1152921504606846976 : Int) < a) = false := decide_eq_false (by omega)
  have t2 : decide ((1152921504606846976 : Int) < b) = false := decide_eq_false (by omega)
  have hab' : b ≤ a := by omega
  clear hab1
  have hmn : min a b = b := Int.min_eq_right hab'
  have hmx : max a b = a := Int.max_eq_left hab'
  have HAB2 := Lib.hid hab'
  clear hab'
  have HA := Lib.hid hA
  have HAB := Lib.hid hab
  have HC := Lib.hid hc
  have HKK := Lib.hid hK
  have HKEY := Lib.hid hk
  clear hA hab hc hK hk
  go_enter Try.func7, Try.ntmps7
  go_wp2_with fail
  refine (awake5_any _).mono ?_
  rintro e w1 ⟨rfl, b1⟩
  go_wp2_with fail
  refine (Wl.new_any _).mono ?_
  rintro e w2 ⟨rfl, hw2, hb2, hs2⟩
  obtain ⟨p, hp⟩ : ∃ p, w1.heap.size + 1 = p := ⟨_, rfl⟩
  obtain ⟨m, hm⟩ : ∃ m, w1.heap.size = m := ⟨_, rfl⟩
  rw [hp] at hw2 ⊢
  have hm' : w.heap.size ≤ m := by have := b1.size; omega
  have hw2' : Wh w2 p m [] := by rw [← hm]; exact hw2
  have b2 := b1.trans (hb2.mono b1.size)
  clear hw2 hp hm hs2 b1 hb2
  have HW2 := Lib.hid hw2'
  clear hw2'
  go_wp2_with fail
  go_loopw [34] (fun i wr => ∃ (k : Nat) (L : List (Int × Int)), k ≤ n ∧ i = .int .i64 k ∧ Wh wr p m L ∧ L.length ≤ k ∧ Below w.heap.size w wr) (fun i _ => n - (intOf i).toNat)
  case atStart => exact ⟨0, [], Nat.zero_le _, rfl, HW2.out, by simp, b2⟩
  case round =>
    clear HW2 b2
    obtain ⟨k, L, hk, rfl, hw, hL, hbr⟩ := hrel
    have HW := Lib.hid hw
    clear hw
    by_cases hlt : k < n
    · obtain ⟨d0, d1, d2⟩ := HC.out k hlt
      have hab := HAB.out (by omega)
      obtain rfl := HA.out (by omega)
      rw [← hbr.cell (p := ⟨ab, _, none⟩) hab] at d0 d1 d2
      have hKT := HKK.out k hlt
      generalize K k = x at *
      generalize T k = t at *
      generalize O k = o at *
      have HKT := Lib.hid hKT
      clear hKT
      go_wp2_with fail
      refine (arm_any _ p m L x t (HW.out.later ((Below.refl _ _).alloc (Nat.le_refl _) _)) HKT.out.1 HKT.out.2 (by omega)).mono ?_
      rintro e w3 ⟨rfl, hw3, hg3⟩
      have HW3 := Lib.hid hw3
      have b3 : Below w.heap.size w w3 := (hbr.alloc hbr.size _).grown hg3 (by have := hbr.size; simp; omega) (fun j hj => by cases hj; exact hm')
      clear hw3 hg3
      go_wp2_with fail
      go_roundw
      case rel => exact ⟨k + 1, _, by omega, by go_num, HW3.out, by have := arm_len1 L x t; omega, b3⟩
      case measure => simp [intOf]; omega
    · have hL60 : L.length ≤ 60 := by omega
      have hk' : k = n := by omega
      subst hk'
      clear hL hlt hk
      have hsz0 := hbr.size
      have hlt0 := HW.out.lt
      go_wp2_with fail
      refine (clone_any _ p m L HW.out).mono ?_
      rintro e w3 ⟨rfl, hw3, hb3, hs3⟩
      obtain ⟨p1, hp1⟩ : ∃ p1, wr.heap.size + 1 = p1 := ⟨_, rfl⟩
      obtain ⟨m1, hm1⟩ : ∃ m1, wr.heap.size = m1 := ⟨_, rfl⟩
      rw [hp1] at hw3 ⊢
      have HW3 : Hid (Wh w3 p1 m1 L) := by rw [← hm1]; exact hw3
      have HWa : Hid (Wh w3 p m L) := HW.out.later hb3
      have I1 : Hid (p < m1 ∧ m < m1 ∧ m1 < p1 ∧ p1 < w3.heap.size ∧ w.heap.size ≤ m1) := by refine ⟨?_, ?_, ?_, ?_, ?_⟩ <;> omega
      have b3 := hbr.trans (hb3.mono hbr.size)
      clear hw3 hb3 hs3 hp1 hm1 HW hbr hsz0 hlt0
      go_wp2_with fail
      refine (clone_any _ p m L HWa.out).mono ?_
      rintro e w4 ⟨rfl, hw4, hb4, hs4⟩
      obtain ⟨p2, hp2⟩ : ∃ p2, w3.heap.size + 1 = p2 := ⟨_, rfl⟩
      obtain ⟨m2, hm2⟩ : ∃ m2, w3.heap.size = m2 := ⟨_, rfl⟩
      rw [hp2] at hw4 ⊢
      have HW4 : Hid (Wh w4 p2 m2 L) := by rw [← hm2]; exact hw4
      have HWb : Hid (Wh w4 p m L) := HWa.out.later hb4
      have HW3b : Hid (Wh w4 p1 m1 L) := HW3.out.later hb4
      have I2 : Hid (p1 < m2 ∧ m2 < p2 ∧ p2 < w4.heap.size ∧ w.heap.size ≤ m2) := by have := I1.out; refine ⟨?_, ?_, ?_, ?_⟩ <;> omega
      have b4 := b3.trans (hb4.mono b3.size)
      clear hw4 hb4 hs4 hp2 hm2 HWa HW3 b3
      go_wp2_with fail
      refine (due_any _ p1 m1 L b HW3b.out (by omega) (by omega)).mono ?_
      rintro e w5 ⟨A5, c5, rfl, hrow5, hw5, hg5⟩
      have HW5 := Lib.hid hw5
      have HW4b : Hid (Wh w5 p2 m2 L) := HW4.out.other hg5 (by have := I1.out; have := I2.out; omega) (by have := I1.out; have := I2.out; omega)
      have HWc : Hid (Wh w5 p m L) := HWb.out.other hg5 (by have := I1.out; omega) (by have := I1.out; omega)
      have HROW5 := Lib.hid hrow5
      have b5 := b4.grown hg5 b4.size (fun j hj => by cases hj; have := I1.out; omega)
      have s5 := Lib.hid hg5.size
      have S4 : Hid (w4.heap.size ≤ w4.heap.size) := Nat.le_refl _
      have J5 : Hid (p1 < w4.heap.size ∧ m1 < w4.heap.size) := by have := I1.out; have := I2.out; exact ⟨by omega, by omega⟩
      clear hw5 hrow5 hg5 HW4 HWb HW3b b4
      have l5 := left_len L b
      go_wp2_with fail
      refine (due_any _ p1 m1 (left L b) a HW5.out (by omega) (by omega)).mono ?_
      rintro e w6 ⟨A6, c6, rfl, hrow6, hw6, hg6⟩
      have HW4c : Hid (Wh w6 p2 m2 L) := HW4b.out.other hg6 (by have := I1.out; have := I2.out; omega) (by have := I1.out; have := I2.out; omega)
      have HWd : Hid (Wh w6 p m L) := HWc.out.other hg6 (by have := I1.out; omega) (by have := I1.out; omega)
      have hrow5' := HROW5.out.kept hg6 (Or.inr (fun e => by have := (HROW5.out.lt m1 e).1; have := J5.out; omega))
      have HROW5' := Lib.hid hrow5'
      have HROW6 := Lib.hid hrow6
      have b6 := b5.grown hg6 b5.size (fun j hj => by cases hj; have := I1.out; omega)
      have s6 := Lib.hid (Nat.le_trans s5.out hg6.size)
      have d5 := due_len L b
      have d6 := due_len (left L b) a
      clear hw6 hrow6 hg6 HW4b HWc HW5 b5 hrow5' HROW5
      have hcat : ((due L b).map Prod.fst).map (Value.int .u64) ++ ((due (left L b) a).map Prod.fst).map (Value.int .u64) = ((due L a).map Prod.fst).map (Value.int .u64) := by
        rw [← List.map_append, ← List.map_append, due_due HWd.out.tms HAB2.out]
      have hcl : (due L b).length + (due (left L b) a).length = (due L a).length := by rw [← List.length_append, due_due HWd.out.tms HAB2.out]
      have HCAT := Lib.hid hcat
      have HCL := Lib.hid hcl
      clear hcat hcl
      go_wp2_with (at_builtin; refine append_rd _ rfl _ _ 22 rfl w4.heap.size 31 i0 (.int .u64 0) 8 Try.underlying22 hi hz0 hz1 hz2 rfl _ _ _ rfl HROW5'.out w6.heap.size A6 (due (left L b) a).length c6 ((due (left L b) a).map Prod.fst) rfl (Rd.own_rd HROW6.out) one_u64 (due L a).length HCL.out _ HCAT.out (by unfold maxLen; omega) (by omega) s6.out ?_; intro A7 c7 w7 hrow7 hg7 hat7)
      have hblk : ∀ j, (Value.slice A5 (due L b).length c5).ownBlock = some j → w4.heap.size ≤ j := fun j hj => (HROW5'.out.lt j hj).1
      have HW4d : Hid (Wh w7 p2 m2 L) := HW4c.out.kept hg7 (fun e => by have := hblk _ e.symm; have := I2.out; omega) (fun e => by have := hblk _ e.symm; have := I2.out; omega)
      have HWe : Hid (Wh w7 p m L) := HWd.out.kept hg7 (fun e => by have := hblk _ e.symm; have := I2.out; have := I1.out; omega) (fun e => by have := hblk _ e.symm; have := I2.out; have := I1.out; omega)
      have b7 := b6.grown hg7 b6.size (fun j hj => by have := hblk j hj; have := I2.out; omega)
      have s7 := Lib.hid (Nat.le_trans s6.out hg7.size)
      have HROW7 := Lib.hid hrow7
      clear hrow7 hg7 hat7 hblk HW4c HWd b6 HROW5' HROW6 HCAT HCL s5 s6
      go_wp2_with fail
      refine (due_any _ p2 m2 L a HW4d.out (by omega) (by omega)).mono ?_
      rintro e w8 ⟨A8, c8, rfl, hrow8, hw8, hg8⟩
      have HWf : Hid (Wh w8 p m L) := HWe.out.other hg8 (by have := I1.out; have := I2.out; omega) (by have := I1.out; have := I2.out; omega)
      have hrow7' := HROW7.out.kept hg8 (Or.inr (fun e => by have := (HROW7.out.lt m2 e).1; have := I2.out; omega))
      have HROW7' := Lib.hid hrow7'
      have HROW8 := Lib.hid hrow8
      have b8 := b7.grown hg8 b7.size (fun j hj => by cases hj; have := I2.out; omega)
      clear hw8 hrow8 hg8 HWe b7 hrow7' HROW7 HW4d
      go_wp2_with fail
      refine (equal_true _ _ _ _ _ _ ((due L a).map Prod.fst) ((due L a).map Prod.fst) _ _ _ (Rd.own_rd HROW7'.out) (Rd.own_rd HROW8.out) rfl).mono ?_
      rintro e w9 ⟨rfl, hb9⟩
      have HWg : Hid (Wh w9 p m L) := HWf.out.later hb9
      have b9 := b8.trans (hb9.mono b8.size)
      clear hb9 HWf b8 HROW7' HROW8
      have f1 : full L key = false := by have := wo_len L key; simp [full]; omega
      have l1 := arm_len1 L key a
      have f2 : full (arm L key a) key = false := by have := wo_len (arm L key a) key; simp [full]; omega
      have l2 := arm_len1 (arm L key a) key b
      have m2' : (key, b) ∈ arm (arm L key a) key b := by
        unfold arm at f2 ⊢
        rw [f1] at f2 ⊢
        rw [show (if false = true then L else ins (key, cut a) (wo L key)) = ins (key, cut a) (wo L key) from rfl] at f2 ⊢
        rw [f2]
        have : cut b = b := by unfold cut; rw [if_pos hb]
        exact mem_put.2 (.inl (by rw [this]))
      have F1 := Lib.hid f1
      have F2 := Lib.hid f2
      have M2 := Lib.hid m2'
      clear f1 f2 m2'
      go_wp2_with fail
      refine (arm_any _ p m L key a HWg.out HKEY.out (by omega) (by omega)).mono ?_
      rintro e w10 ⟨rfl, hw10, hg10⟩
      have HW10 := Lib.hid hw10
      have b10 := b9.grown hg10 b9.size (fun j hj => by cases hj; exact hm')
      clear hw10 hg10 b9 HWg
      go_wp2_with fail
      refine (arm_any _ p m _ key b HW10.out HKEY.out (by omega) (by omega)).mono ?_
      rintro e w11 ⟨rfl, hw11, hg11⟩
      have b11 := b10.grown hg11 b10.size (fun j hj => by cases hj; exact hm')
      generalize arm (arm L key a) key b = L2 at *
      have HW11 := Lib.hid hw11
      have e11 : tick L2 key = b := tick_hit hw11.tms M2.out
      have k11 : key ∈ L2.map Prod.fst := Tms.mem_key.2 ⟨b, M2.out⟩
      have E11 := Lib.hid e11
      have K11 := Lib.hid k11
      clear hw11 hg11 b10 HW10 e11 k11 F1 F2
      go_wp2_with fail
      refine (Wl.at_any _ p m _ key HW11.out HKEY.out).mono ?_
      rintro e w12 ⟨rfl, rfl⟩
      rw [E11.out, decide_eq_true K11.out]
      go_wp2_with fail
      refine (clone_any _ p m L2 HW11.out).mono ?_
      rintro e w12 ⟨rfl, hw12, hb12, hs12⟩
      obtain ⟨p3, hp3⟩ : ∃ p3, w11.heap.size + 1 = p3 := ⟨_, rfl⟩
      obtain ⟨m3, hm3⟩ : ∃ m3, w11.heap.size = m3 := ⟨_, rfl⟩
      rw [hp3] at hw12 ⊢
      have HW12 : Hid (Wh w12 p3 m3 L2) := by rw [← hm3]; exact hw12
      have HWh : Hid (Wh w12 p m L2) := HW11.out.later hb12
      have I3 : Hid (p < m3 ∧ m < m3 ∧ w.heap.size ≤ m3) := by have := HW11.out.lt; have := b11.size; refine ⟨?_, ?_, ?_⟩ <;> omega
      have b12 := b11.trans (hb12.mono b11.size)
      clear hw12 hb12 hs12 hp3 hm3 HW11 b11
      go_wp2_with fail
      refine (disarm_any _ p3 m3 _ key HW12.out HKEY.out).mono ?_
      rintro e w13 ⟨rfl, hw13, hg13⟩
      rw [decide_eq_true K11.out]
      have HW13 := Lib.hid hw13
      have HWi : Hid (Wh w13 p m L2) := HWh.out.other hg13 (by have := I3.out; omega) (by have := I3.out; omega)
      have b13 := b12.grown hg13 b12.size (fun j hj => by cases hj; have := I3.out; omega)
      clear hw13 hg13 b12 HW12 HWh
      have bb : (b == b) = true := by simp
      go_wp2_with fail
      refine (disarm_any _ p3 m3 _ key HW13.out HKEY.out).mono ?_
      rintro e w14 ⟨rfl, hw14, hg14⟩
      rw [decide_eq_false wo_key]
      have HW14 := Lib.hid hw14
      have HWj : Hid (Wh w14 p m L2) := HWi.out.other hg14 (by have := I3.out; omega) (by have := I3.out; omega)
      have b14 := b13.grown hg14 b13.size (fun j hj => by cases hj; have := I3.out; omega)
      have l3 := wo_len L2 key
      have l4 := wo_len (wo L2 key) key
      clear hw14 hg14 b13 HW13 HWi
      go_wp2_with fail
      refine (due_any _ p3 m3 _ 1152921504606846976 HW14.out (by omega) (by omega)).mono ?_
      rintro e w15 ⟨A15, c15, rfl, hrow15, hw15, hg15⟩
      have HWk : Hid (Wh w15 p m L2) := HWj.out.other hg15 (by have := I3.out; omega) (by have := I3.out; omega)
      have b15 := b14.grown hg15 b14.size (fun j hj => by cases hj; have := I3.out; omega)
      have HROW15 := Lib.hid hrow15
      clear hw15 hrow15 hg15 b14 HW14 HWj
      go_wp2_with fail
      refine (contains_any _ _ _ _ key _ _ (Rd.own_rd HROW15.out)).mono ?_
      rintro e w16 ⟨rfl, rfl⟩
      have n15 : key ∉ (due (wo (wo L2 key) key) 1152921504606846976).map Prod.fst := by
        intro h
        obtain ⟨t, ht⟩ := Tms.mem_key.1 h
        exact (mem_wo.1 (mem_due.1 ht).1).2 rfl
      rw [decide_eq_false n15]
      clear n15 HROW15
      go_wp2_with fail
      refine (due_any _ p m L2 b HWk.out (by omega) (by omega)).mono ?_
      rintro e w17 ⟨A17, c17, rfl, hrow17, hw17, hg17⟩
      have HW17 := Lib.hid hw17
      have b17 := b15.grown hg17 b15.size (fun j hj => by cases hj; exact hm')
      have HROW17 := Lib.hid hrow17
      have n18 : key ∉ (due (left L2 b) 1152921504606846976).map Prod.fst := by
        intro h
        obtain ⟨t, ht⟩ := Tms.mem_key.1 h
        have h1 := mem_left.1 (mem_due.1 ht).1
        have := HWk.out.tms.uniq h1.1 M2.out
        omega
      have N18 := Lib.hid n18
      clear hw17 hrow17 hg17 b15 HWk n18
      go_wp2_with fail
      refine (contains_any _ _ _ _ key _ _ (Rd.own_rd HROW17.out)).mono ?_
      rintro e w18 ⟨rfl, rfl⟩
      rw [decide_eq_true (Tms.mem_key.2 ⟨b, mem_due.2 ⟨M2.out, Int.le_refl _⟩⟩)]
      have l5 := left_len L2 b
      clear HROW17
      go_wp2_with fail
      refine (due_any _ p m _ 1152921504606846976 HW17.out (by omega) (by omega)).mono ?_
      rintro e w19 ⟨A19, c19, rfl, hrow19, hw19, hg19⟩
      have b19 := b17.grown hg19 b17.size (fun j hj => by cases hj; exact hm')
      have HROW19 := Lib.hid hrow19
      clear hw19 hrow19 hg19 b17 HW17
      go_wp2_with fail
      refine (contains_any _ _ _ _ key _ _ (Rd.own_rd HROW19.out)).mono ?_
      rintro e w20 ⟨rfl, rfl⟩
      rw [decide_eq_false N18.out]
      go_wp2_with fail
      go_ret
      exact ⟨rfl, b19⟩

set_option maxRecDepth 100000 in
theorem again_long (A : Option Addr) (n c : Nat) (key a b : Int) (w : World) (hn : n ≤ 9223372036854775807) (h : 60 < n ∨ 1152921504606846976 < a ∨ 1152921504606846976 < b) :
    Calls Try.prog 7 #[.slice A n c, .int .u64 key, .int .u64 a, .int .u64 b] w fun e w' => e = .returned (.bool true) ∧ Below w.heap.size w w' := by
  by_cases h1 : 60 < n
  · clear h
    go_enter Try.func7, Try.ntmps7
    go_wp2_with fail
    refine (awake5_any _).mono ?_
    rintro e w1 ⟨rfl, b1⟩
    go_wp2_with fail
    go_ret
    exact ⟨rfl, b1⟩
  · have h1' : n ≤ 60 := by omega
    by_cases h2 : 1152921504606846976 < a
    · clear h h1
      go_enter Try.func7, Try.ntmps7
      go_wp2_with fail
      refine (awake5_any _).mono ?_
      rintro e w1 ⟨rfl, b1⟩
      go_wp2_with fail
      go_ret
      exact ⟨rfl, b1⟩
    · have h2' : a ≤ 1152921504606846976 := by omega
      have h3 : 1152921504606846976 < b := by omega
      clear h h1 h2
      go_enter Try.func7, Try.ntmps7
      go_wp2_with fail
      refine (awake5_any _).mono ?_
      rintro e w1 ⟨rfl, b1⟩
      go_wp2_with fail
      go_ret
      exact ⟨rfl, b1⟩
end Go.Proofs.Ytdacacehmmjpeaa.Wl
