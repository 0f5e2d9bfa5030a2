/- A part of the claim: the texts FltB. -/
import Derived.Test.YthmdiaingolfnaaGreatDoorZFlt
namespace Go.Proofs.YthmdiaingolfnaaGreatDoor.Ff
open Go.ChangeShapes Go.WideShapes Go.ChangeAt Go.RowKit Rw Go.Shelf Go.Sort
set_option linter.unusedVariables false
theorem and63 (s : Int) : bits .and .i64 s 63 = s % 64 := by
  show IntKind.i64.wrap ((BitVec.ofInt 64 s &&& BitVec.ofInt 64 63).toNat : Int) = _
  have h3 : (BitVec.ofInt 64 63).toNat = 2 ^ 6 - 1 := by decide
  rw [BitVec.toNat_and, h3, Nat.and_two_pow_sub_one_eq_mod, BitVec.toNat_ofInt, IntKind.wrap_i64]
  omega
theorem and1 (s : Int) : bits .and .i64 s 1 = s % 2 := by
  show IntKind.i64.wrap ((BitVec.ofInt 64 s &&& BitVec.ofInt 64 1).toNat : Int) = _
  have h3 : (BitVec.ofInt 64 1).toNat = 2 ^ 1 - 1 := by decide
  rw [BitVec.toNat_and, h3, Nat.and_two_pow_sub_one_eq_mod, BitVec.toNat_ofInt, IntKind.wrap_i64]
  omega
theorem pre_world (w : World) (T : TypeId) (a b c : Value) (W2 : World) (h : W2 = (((w.alloc (.cells #[.int .u64 0, .int .u64 0, .int .i64 0] T)).setCell ⟨w.heap.size, 0, none⟩ a).setCell ⟨w.heap.size, 1, none⟩ b).setCell ⟨w.heap.size, 2, none⟩ c) :
    W2.cell? ⟨w.heap.size, 0, none⟩ = some a ∧ W2.cell? ⟨w.heap.size, 1, none⟩ = some b ∧ W2.cell? ⟨w.heap.size, 2, none⟩ = some c ∧ Below w.heap.size w W2 := by
  subst h
  refine ⟨by go_simp, by go_simp, by go_simp, ?_⟩
  exact (((Below.refl _ w).alloc (Nat.le_refl _) _).setCell (Nat.le_refl _) _ |>.setCell (Nat.le_refl _) _).setCell (Nat.le_refl _) _
def tl (hi lo : Nat → Nat) (m : Nat) (e : Int) (mn mx : Nat) (odd p : Int) : Int × Int :=
  let i := (p + 348).toNat
  let q := (-(e + p * 108853 / 32768 + 3)) % 64
  let dmin := cei (nud (usc mn (hi i) (lo i) q) odd)
  let dmax := flo (nud (usc mx (hi i) (lo i) q) (-odd))
  if dmin ≤ dmax / 10 * 10 then (dmax / 10, -(p - 1))
  else if dmin < dmax then (rou (usc m (hi i) (lo i) q), -p) else (dmin, -p)
set_option maxRecDepth 100000 in
theorem shortA (hi lo : Nat → Nat) (m : Nat) (e : Int) (w : World) (hP : Pw hi lo w) (hm : m < 18446744073709551616) (he : -1085 ≤ e) (he' : e ≤ 960) (h1 : ((m : Int) == 9223372036854775808) = true) (h2 : decide (-1085 < e) = true)
    (p odd : Int) (mn mx : Nat) (hp : -(((e + 11) * 631305 - 261663) / 2097152) = p) (hmn : IntKind.u64.wrap (m - 512) = (mn : Int)) (hmx : IntKind.u64.wrap (m + 1024) = (mx : Int)) (hod : bits .and .i64 (m / 2048) 1 = odd) (hmnl : mn < 18446744073709551616) (hmxl : mx < 18446744073709551616) :
    Calls Tryz.prog 233 #[.int .u64 m, .int .i64 e] w fun e' w' => e' = .returned (.tuple #[.int .u64 (tl hi lo m e mn mx odd p).1, .int .i64 (tl hi lo m e mn mx odd p).2]) ∧ Below w.heap.size w w' := by
  go_enter Tryz.func233, Tryz.ntmps233
  go_wp2_with fail
  refine (skewed_any (e + 11) _ (by omega) (by omega)).mono ?_
  rintro e' w' ⟨rfl, rfl⟩
  go_wp2_with fail
  have hp1 : -330 ≤ p ∧ p ≤ 330 := by omega
  obtain ⟨i, hi1⟩ : ∃ i : Nat, (p + 348).toNat = i := ⟨_, rfl⟩
  have hpi : p - -348 = (i : Int) := by omega
  have hi2 : i < 696 := by omega
  have hodd : 0 ≤ odd ∧ odd ≤ 1 := by rw [and1] at hod; omega
  have HP := Lib.hid hp
  have HOD := Lib.hid hod
  have HI := Lib.hid hi1
  have HPI := Lib.hid hpi
  have HMN := Lib.hid hmn
  have HMX := Lib.hid hmx
  clear hp hod hi1 hpi hmn hmx
  obtain ⟨hh, hl, hgl, ht0, ht1⟩ := hP i hi2
  refine (log2_any p _ (by omega) (by omega)).mono ?_
  rintro e' w1 ⟨rfl, rfl⟩
  have hP1 : Pw hi lo (w'.alloc (Obj.cells #[Value.int IntKind.u64 0, Value.int IntKind.u64 0, Value.int IntKind.i64 0] 329)) := hP.below ((Below.refl _ _).alloc (Nat.le_refl _) _)
  go_wp2_with fail
  refine (prescale_any hi lo _ e p _ _ hP1 (by omega) (by simp) i HPI.out hi2 (by omega) (by omega) (.int .u64 0) (.int .u64 0) (.int .i64 0) (by go_simp) (by go_simp) (by go_simp) (by go_simp) (by go_simp) (by go_simp)).mono ?_
  rintro e' w1 ⟨rfl, hw1⟩
  obtain ⟨c0, c1, c2, HB⟩ := pre_world w' _ _ _ _ _ hw1
  clear hw1 hP1 ht0 ht1 hgl
  obtain ⟨q, hq⟩ : ∃ q, (-(e + p * 108853 / 32768 + 3)) % 64 = q := ⟨_, rfl⟩
  have hq0 : 0 ≤ q ∧ q ≤ 63 := by omega
  have HQ := Lib.hid hq
  clear hq
  have cu : ∀ (x : Nat) (k : Nat), x < 18446744073709551616 → Calls Tryz.prog 241 #[.int .u64 x, .pointer (some ⟨w'.heap.size, 0, none⟩)] (w1.drewN k) fun e w'' => e = .returned (.int .u64 (usc x (hi i) (lo i) q)) ∧ ∃ n, w'' = w1.drewN n := fun x k hx =>
    (uscale_any x (hi i) (lo i) _ w'.heap.size (w1.drewN k) hx hh hl c0 c1 c2 q ((and63 _).trans HQ.out) hq0.1 hq0.2).mono fun e w'' ⟨he, n, hn⟩ => ⟨he, k + n, by rw [hn, World.drewN_drewN]⟩
  obtain ⟨dmn, hdmn⟩ : ∃ x, cei (nud (usc mn (hi i) (lo i) q) odd) = x := ⟨_, rfl⟩
  obtain ⟨dmx, hdmx⟩ : ∃ x, flo (nud (usc mx (hi i) (lo i) q) (-odd)) = x := ⟨_, rfl⟩
  have rmn := cei_in (nud (usc mn (hi i) (lo i) q) odd)
  have rmx := flo_in (nud (usc mx (hi i) (lo i) q) (-odd))
  rw [hdmn] at rmn
  rw [hdmx] at rmx
  have hB1 : ∀ n, Below w'.heap.size w' (w1.drewN n) := fun n => below_drewN HB n
  have HT := Lib.hid (show tl hi lo m e mn mx odd p = (if dmn ≤ dmx / 10 * 10 then (dmx / 10, -(p - 1)) else if dmn < dmx then (rou (usc m (hi i) (lo i) q), -p) else (dmn, -p)) by unfold tl; simp only [HI.out, HQ.out, hdmn, hdmx])
  have HDN := Lib.hid hdmn
  have HDX := Lib.hid hdmx
  clear hdmn hdmx
  go_wp2_with fail
  refine (cu mn 0 hmnl).mono ?_
  rintro e' w2 ⟨rfl, n2, rfl⟩
  go_wp2_with fail
  refine (nudge_any _ _ _).mono ?_
  rintro e' w2 ⟨rfl, rfl⟩
  go_wp2_with fail
  refine (ceil_any _ _).mono ?_
  rintro e' w2 ⟨rfl, rfl⟩
  rw [HDN.out]
  go_wp2_with fail
  refine (cu mx _ hmxl).mono ?_
  rintro e' w2 ⟨rfl, n3, rfl⟩
  go_wp2_with fail
  refine (nudge_any _ _ _).mono ?_
  rintro e' w2 ⟨rfl, rfl⟩
  go_wp2_with fail
  refine (floor_any _ _).mono ?_
  rintro e' w2 ⟨rfl, rfl⟩
  rw [HDX.out]
  by_cases g1 : dmn ≤ dmx / 10 * 10
  · have g1' : decide (dmn ≤ dmx / 10 * 10) = true := decide_eq_true g1
    have G := Lib.hid g1
    clear g1
    go_wp2_with fail
    exact bodyPost_ret (v := .tuple #[.int .u64 (dmx / 10), .int .i64 (-(p - 1))]) (by simp [results, Tryz.results233, go_sem]) rfl ⟨by rw [HT.out, if_pos G.out], hB1 _⟩
  · have g1' : decide (dmn ≤ dmx / 10 * 10) = false := decide_eq_false g1
    have G := Lib.hid g1
    clear g1
    by_cases g2 : dmn < dmx
    · have g2' : decide (dmn < dmx) = true := decide_eq_true g2
      go_wp2_with fail
      refine (cu m _ hm).mono ?_
      rintro e' w2 ⟨rfl, n4, rfl⟩
      go_wp2_with fail
      refine (round_any _ _).mono ?_
      rintro e' w2 ⟨rfl, rfl⟩
      go_wp2_with fail
      exact bodyPost_ret (v := .tuple #[.int .u64 (rou (usc m (hi i) (lo i) q)), .int .i64 (-p)]) (by simp [results, Tryz.results233, go_sem]) rfl ⟨by rw [HT.out, if_neg (Int.not_le.2 G.out), if_pos (of_decide_eq_true g2')], hB1 _⟩
    · have g2' : decide (dmn < dmx) = false := decide_eq_false g2
      go_wp2_with fail
      exact bodyPost_ret (v := .tuple #[.int .u64 dmn, .int .i64 (-p)]) (by simp [results, Tryz.results233, go_sem]) rfl ⟨by rw [HT.out, if_neg (Int.not_le.2 G.out), if_neg (of_decide_eq_false g2')], hB1 _⟩
end Go.Proofs.YthmdiaingolfnaaGreatDoor.Ff
