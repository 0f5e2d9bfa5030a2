/- strconv.FormatFloat in general: its text hangs on the float alone. -/
import Derived.Test.YtnclbnbjmgbonaaGreatDoorFltH
import Derived.Test.YtnclbnbjmgbonaaGreatDoorFltI
import Derived.Laws.MakeOwn
namespace Go.Proofs.YtnclbnbjmgbonaaGreatDoor.Ff
open Go.ChangeShapes Go.WideShapes Go.ChangeAt Go.RowKit Go.Deep Rw Go.Shelf Go.Sort
set_option linter.unusedVariables false

theorem sbits_any (w : World) (x : Nat) : (callFunc 294 #[.float .f64 x]).run Tryz.prog w = .ok (.value (.int .u64 x)) w := by
  rw [run_callFunc_extern Tryz.func294 (by kernel_rfl) (by kernel_rfl) (by kernel_rfl) (e := Extern.MathFloatBits.float64bits) (by kernel_rfl)]
  rfl
theorem and2047 (s : Nat) (hs : s < 4096) : bits .and .i64 (s : Int) 2047 = ((s % 2048 : Nat) : Int) := by
  show IntKind.i64.wrap ((BitVec.ofInt 64 (s : Int) &&& BitVec.ofInt 64 2047).toNat : Int) = _
  have h3 : (BitVec.ofInt 64 2047).toNat = 2 ^ 11 - 1 := by decide
  rw [BitVec.toNat_and, h3, Nat.and_two_pow_sub_one_eq_mod, BitVec.toNat_ofInt, IntKind.wrap_i64]
  omega
theorem and52 (x : Nat) (hx : x < 18446744073709551616) : bits .and .u64 (x : Int) 4503599627370495 = ((x % 4503599627370496 : Nat) : Int) := by
  show IntKind.u64.wrap ((BitVec.ofInt 64 (x : Int) &&& BitVec.ofInt 64 4503599627370495).toNat : Int) = _
  have h3 : (BitVec.ofInt 64 4503599627370495).toNat = 2 ^ 52 - 1 := by decide
  rw [BitVec.toNat_and, h3, Nat.and_two_pow_sub_one_eq_mod, BitVec.toNat_ofInt, IntKind.wrap_u64]
  omega
theorem or52 (F : Nat) (hF : F < 4503599627370496) : bits .or .u64 (F : Int) 4503599627370496 = ((F + 4503599627370496 : Nat) : Int) := by
  show IntKind.u64.wrap ((BitVec.ofInt 64 (F : Int) ||| BitVec.ofInt 64 4503599627370496).toNat : Int) = _
  have h3 : (BitVec.ofInt 64 4503599627370496).toNat = 2 ^ 52 := by decide
  have h4 : (BitVec.ofInt 64 (F : Int)).toNat = F := by rw [BitVec.toNat_ofInt]; omega
  have h5 : F ||| 2 ^ 52 = 2 ^ 52 + F := by
    have h6 := Nat.two_pow_add_eq_or_of_lt (i := 52) (b := F) (show F < 2 ^ 52 from hF) 1
    rw [Nat.or_comm]
    rw [Nat.mul_one] at h6
    exact h6.symm
  rw [BitVec.toNat_or, h3, h4, h5, IntKind.wrap_u64]
  omega
/-- The text, by where the point stands. -/
def fG (neg : Bool) (ds : List Int) (nd : Nat) (dp : Int) : List Int := if dp < -3 ∨ 7 ≤ dp then fE neg ds nd dp else if dp ≤ 0 then fN neg ds nd (-dp).toNat else fP neg ds nd dp.toNat
theorem efg_any (base hb : Nat) (ds : List Int) (w0 w : World) (A : Option Addr) (c : Nat) (neg : Bool) (nd : Nat) (dp : Int) (h : Ap base hb ds w0 [] A 0 c w) (hnd : nd ≤ ds.length) (hn20 : nd ≤ 20) (hlo : -450 ≤ dp) (hhi : dp ≤ 450) :
    Calls Tryz.prog 297 #[.slice A 0 c, .bool neg, .slice (some ⟨hb, 0, none⟩) 32 32, .int .i64 dp, .int .i64 nd, .int .i64 nd, .int .u8 103, .bool true] w fun e w' => ∃ A' n' c', e = .returned (.slice A' n' c') ∧ Ap base hb ds w0 (fG neg ds nd dp) A' n' c' w' := by
  by_cases h1 : dp < -3 ∨ 7 ≤ dp
  · have e : fG neg ds nd dp = fE neg ds nd dp := by unfold fG; rw [if_pos h1]
    rw [e]
    exact efg_fe base hb ds w0 w A c neg nd dp h hnd hn20 h1 hlo hhi
  · by_cases h2 : dp ≤ 0
    · have e : fG neg ds nd dp = fN neg ds nd (-dp).toNat := by unfold fG; rw [if_neg h1, if_pos h2]
      rw [e]
      have := efg_fn base hb ds w0 w A c neg nd (-dp).toNat h hnd hn20 (by omega)
      rw [show -(((-dp).toNat : Nat) : Int) = dp by omega] at this
      exact this
    · have e : fG neg ds nd dp = fP neg ds nd dp.toNat := by unfold fG; rw [if_neg h1, if_neg h2]
      rw [e]
      have := efg_fp base hb ds w0 w A c neg nd dp.toNat h hnd hn20 (by omega) (by omega)
      rw [show ((dp.toNat : Nat) : Int) = dp by omega] at this
      exact this
/-- Bytes. -/
def By (l : List Int) : Prop := ∀ y ∈ l, 0 ≤ y ∧ y ≤ 255
theorem By.app {l m : List Int} (h : By l) (h' : By m) : By (l ++ m) := fun y hy => (List.mem_append.1 hy).elim (h y) (h' y)
theorem By.one {x : Int} (h : 0 ≤ x ∧ x ≤ 255) : By [x] := fun y hy => by rw [List.mem_singleton.1 hy]; exact h
theorem By.cons {x : Int} {l : List Int} (h : 0 ≤ x ∧ x ≤ 255) (h' : By l) : By (x :: l) := fun y hy => by
  rcases List.mem_cons.1 hy with rfl | hy
  · exact h
  · exact h' y hy
theorem By.rep (n : Nat) : By (List.replicate n 48) := fun y hy => by rw [List.eq_of_mem_replicate hy]; decide
theorem By.take {l : List Int} (h : By l) (n : Nat) : By (l.take n) := fun y hy => h y (List.mem_of_mem_take hy)
theorem By.drop {l : List Int} (h : By l) (n : Nat) : By (l.drop n) := fun y hy => h y (List.mem_of_mem_drop hy)
theorem By.nil : By [] := fun y hy => by cases hy
theorem sg_by (neg : Bool) : By (sg neg) := by unfold sg; split; exact By.one (by decide); exact By.nil
theorem fG_by (neg : Bool) {ds : List Int} (h : By ds) (nd : Nat) (dp : Int) (hlo : -450 ≤ dp) (hhi : dp ≤ 450) : By (fG neg ds nd dp) := by
  unfold fG
  split
  · have hX : (ex nd dp).natAbs ≤ 460 := by unfold ex; split <;> omega
    unfold fE
    refine ((((sg_by neg).app (By.one ?_)).app ?_).app (By.one (by decide))).app (By.one ?_) |>.app ?_
    · unfold fd
      split
      · decide
      · rw [List.getD_eq_getElem?_getD]
        cases hd : ds[0]? with
        | none => decide
        | some y => exact h y (List.mem_of_getElem? hd)
    · split
      · exact By.cons (by decide) ((h.take _).drop _)
      · exact By.nil
    · unfold es; split <;> decide
    · generalize (ex nd dp).natAbs = k at *
      unfold en
      split
      · exact By.cons (by decide) (By.one (by omega))
      · split
        · exact By.cons (by omega) (By.one (by omega))
        · exact By.cons (by omega) (By.cons (by omega) (By.one (by omega)))
  · split
    · unfold fN
      refine ((sg_by neg).app (By.one (by decide))).app ?_
      split
      · exact By.cons (by decide) ((By.rep _).app (h.take _))
      · exact By.nil
    · unfold fP
      refine ((sg_by neg).app ((h.take _).app (By.rep _))).app ?_
      split
      · exact By.cons (by decide) ((h.take _).drop _)
      · exact By.nil
theorem fG_pos (neg : Bool) {ds : List Int} (nd : Nat) (dp : Int) (hnd : nd ≤ ds.length) : 0 < (fG neg ds nd dp).length := by
  unfold fG
  split
  · unfold fE; simp; omega
  · split
    · unfold fN; simp; omega
    · unfold fP; simp; omega

/-- ftoa64 of a float: the text l, whatever the world. -/
def Fto (x : Nat) (l : List Int) : Prop := ∀ (base : Nat) (w0 w : World) (A : Option Addr) (c : Nat), w.ownsRow base 5 1 (.slice A 0 c) 0 [] → Below base w0 w → base ≤ w.heap.size → 7 < base → Ft w →
    Calls Tryz.prog 285 #[.slice A 0 c, .float .f64 x, .int .u8 103, .int .i64 (-1)] w fun e w' => ∃ A' n' c' hb ds, e = .returned (.slice A' n' c') ∧ Ap base hb ds w0 l A' n' c' w'

set_option maxHeartbeats 8000000 in
set_option maxRecDepth 100000 in
theorem fto_norm (x E F : Nat) (neg : Bool) (hx : x < 18446744073709551616) (hE : x / 4503599627370496 % 2048 = E) (hF : x % 4503599627370496 = F) (hneg : ((x : Int) / 9223372036854775808 != 0) = neg) (hE1 : 1 ≤ E) (hE2 : E < 2047) : ∃ l, By l ∧ 0 < l.length ∧ Fto x l := by
  have e1 : bits .and .i64 ((x : Int) / 4503599627370496) 2047 = (E : Int) := by
    have := and2047 (x / 4503599627370496) (by omega)
    rw [hE] at this
    rw [← this]; congr 1
  have f1 : bits .and .u64 (x : Int) 4503599627370495 = (F : Int) := by rw [and52 x hx, hF]
  have hF52 : F < 4503599627370496 := by omega
  have hE11 : E < 2048 := by omega
  clear hE hF
  obtain ⟨M, hM⟩ : ∃ M, F + 4503599627370496 = M := ⟨_, rfl⟩
  have f2 : bits .or .u64 (F : Int) 4503599627370496 = (M : Int) := by rw [or52 F hF52, hM]
  obtain ⟨X, hX⟩ : ∃ X : Int, (E : Int) + -1023 = X := ⟨_, rfl⟩
  have q1 : ((E : Int) == 2047) = false := by rw [beq_eq_false_iff_ne]; omega
  have q1' : (E == 2047) = false := by rw [beq_eq_false_iff_ne]; omega
  have q2 : ((E : Int) == 0) = false := by rw [beq_eq_false_iff_ne]; omega
  have q2' : (E == 0) = false := by rw [beq_eq_false_iff_ne]; omega
  have q3 : ((M : Int) == 0) = false := by rw [beq_eq_false_iff_ne]; omega
  have q3' : (M == 0) = false := by rw [beq_eq_false_iff_ne]; omega
  have hM1 : 1 ≤ M := by omega
  have hM53 : M < 9007199254740992 := by omega
  have hXb : -1022 ≤ X ∧ X ≤ 1023 := by omega
  obtain ⟨hXlo, hXhi⟩ := hXb
  clear hM
  obtain ⟨b, hb⟩ : ∃ b, Lib.bitLen M = b := ⟨_, rfl⟩
  have hb53 : b ≤ 53 := by rw [← hb]; exact Lib.bitLen_le M 53 (by omega) hM53
  have hb1 : 1 ≤ b := by rw [← hb, Lib.bitLen_half M (by omega) (by omega)]; omega
  obtain ⟨s, hs⟩ : ∃ s, 64 - b = s := ⟨_, rfl⟩
  have hsb : (64 : Int) - (b : Int) = (s : Int) := by omega
  have hs11 : 11 ≤ s ∧ s ≤ 63 := by omega
  obtain ⟨m, hm⟩ : ∃ m : Nat, IntKind.u64.wrap ((M : Int) * 2 ^ s) = (m : Int) := ⟨_, (Int.toNat_of_nonneg (wrap_in _).1).symm⟩
  have hm64 : m < 18446744073709551616 := by have := wrap_in ((M : Int) * 2 ^ s); omega
  obtain ⟨e, he⟩ : ∃ e : Int, X - (s : Int) - 52 = e := ⟨_, rfl⟩
  obtain ⟨d, p, hd, hp1, hp2, hS⟩ := short_any m e hm64 (by omega) (by omega)
  obtain ⟨dp, hdp⟩ : ∃ dp : Int, (dN d : Int) + p = dp := ⟨_, rfl⟩
  obtain ⟨nd, hnd⟩ : ∃ nd, trl (dL d) (dN d) = nd := ⟨_, rfl⟩
  have hN20 := dN_le d hd
  have hNL : nd ≤ dN d := by rw [← hnd]; exact trl_le _ _
  have hn20 : nd ≤ 20 := by omega
  have hdb : -450 ≤ dp ∧ dp ≤ 450 := by omega
  have HBL := Lib.hid hb
  have HS := Lib.hid hS
  have HDP := Lib.hid hdp
  have HNN := Lib.hid hnd
  have HNL := Lib.hid hNL
  obtain ⟨hs11, hs63⟩ := hs11
  obtain ⟨hdlo, hdhi⟩ := hdb
  refine ⟨fG neg ((dL d).map (fun x => (x.toNat : Int))) nd dp, fG_by neg (fun y hy => by
    obtain ⟨z, _, rfl⟩ := List.mem_map.1 hy
    have := UInt8.toNat_lt z
    omega) nd dp hdlo hdhi, fG_pos neg nd dp (by rw [List.length_map, dL_len]; exact HNL.out), ?_⟩
  clear hb hS hdp hnd hNL hs hN20
  intro base w0 w A c hrow hb0 hbs hgb hT
  have sb := fun w => sbits_any w x
  have HT := Lib.hid hT
  have HR := Lib.hid hrow
  have HB := Lib.hid hb0
  have hlt := hrow.lt
  clear hT hrow hb0
  go_enter Tryz.func285, Tryz.ntmps285
  go_wp2_with fail
  go_quiet (fail)
  go_wp2_with fail
  refine (Any.bits_Len64 (P := Tryz.prog) (ρ := ffRen) { ffDigits with } (M : Int) _ (by omega) (by omega)).mono ?_
  rintro e w1 ⟨rfl, rfl⟩
  rw [show Lib.bitLen ((M : Int)).toNat = b from HBL.out]
  go_wp2_with fail
  generalize hW1' : (w.drewN nq).alloc (.cells zeros32 364) = W1
  have hW1 := hW1'.symm
  clear hW1'
  have hb1 : Below w.heap.size w W1 := by rw [hW1]; exact (Rw.below_drewN (RowKit.Below.refl _ _) nq).alloc (by simp) _
  have hz : ∀ j, j < 32 → W1.cell? ⟨w.heap.size, j, none⟩ = some (.int .u8 0) ∧ W1.frozen? ⟨w.heap.size, j, none⟩ = false := fun j hj => by
    rw [hW1]
    refine ⟨?_, ?_⟩
    · have : w.heap.size = (w.drewN nq).heap.size := rfl
      rw [this, World.cell?_alloc_new]; exact zeros32_at j hj
    · have : w.heap.size = (w.drewN nq).heap.size := rfl
      rw [this]; exact World.frozen?_alloc_new _ _ _ _
  have hs1 : W1.heap.size = w.heap.size + 1 := by rw [hW1]; simp
  have HB1 := Lib.hid hb1
  have HZ := Lib.hid hz
  clear hb1 hz hW1
  refine (HS.out _ (HT.out.pow.below HB1.out)).mono ?_
  rintro e W2 ⟨rfl, hb2⟩
  have hs2 := hb2.size
  have hz2 : ∀ j, j < 32 → W2.cell? ⟨w.heap.size, j, none⟩ = some (.int .u8 0) ∧ W2.frozen? ⟨w.heap.size, j, none⟩ = false := fun j hj => by
    obtain ⟨a, b⟩ := HZ.out j hj
    exact ⟨(hb2.cell (p := ⟨w.heap.size, j, none⟩) (by show w.heap.size < _; omega)).trans a, (hb2.frozen (p := ⟨w.heap.size, j, none⟩) (by show w.heap.size < _; omega)).trans b⟩
  have HZ2 := Lib.hid hz2
  have HB2 := Lib.hid (HB1.out.trans (hb2.mono (by omega)))
  clear hz2 hb2 HZ
  go_wp2_with fail
  refine reg_start 11 (fun _ => Hid True) (by kernel_rfl) (by kernel_rfl) ?_
  intro hT0
  have HH := Lib.hid hT0
  clear hT0
  refine reg_pure 0 HH.out rfl (by kernel_rfl) (fun _ _ _ _ h => h) (fun _ => Lib.hid trivial) rfl ?_
  apply Exists.intro
  refine ⟨fun w' => by (go_simp; exact rfl), ?_⟩
  refine reg_pure 1 HH.out rfl (by kernel_rfl) (fun _ _ _ _ h => h) (fun _ => Lib.hid trivial) rfl ?_
  apply Exists.intro
  refine ⟨fun w' => by (go_simp; exact rfl), ?_⟩
  refine reg_pure 2 HH.out rfl (by kernel_rfl) (fun _ _ _ _ h => h) (fun _ => Lib.hid trivial) rfl ?_
  apply Exists.intro
  refine ⟨fun w' => by (go_simp; exact rfl), ?_⟩
  refine reg_pure 3 HH.out rfl (by kernel_rfl) (fun _ _ _ _ h => h) (fun _ => Lib.hid trivial) rfl ?_
  apply Exists.intro
  refine ⟨fun w' => by (go_simp; exact rfl), ?_⟩
  refine reg_only 4 rfl (by kernel_rfl) rfl ?_
  unfold Oper.wp
  go_simp
  refine (num_any d hd W2.drew (show Tx.Tab W2.drew from HT.out.tab.below HB2.out.drew)).mono ?_
  rintro e W3 ⟨rfl, rfl⟩
  refine ⟨Lib.hid trivial, ?_⟩
  refine reg_only 5 rfl (by kernel_rfl) rfl ?_
  unfold Oper.wp
  go_simp
  refine (digits_any w.heap.size d p W2.drew HZ2.out hd ⟨hp1, hp2⟩).mono ?_
  rw [HDP.out, HNN.out]
  rintro e W4 ⟨rfl, hdig, hg4⟩
  have HD4 := Lib.hid hdig
  have HG4 := Lib.hid hg4
  clear hdig hg4 HZ2
  refine ⟨Lib.hid trivial, ?_⟩
  refine reg_pure 6 HH.out rfl (by kernel_rfl) (fun _ _ _ _ h => h) (fun _ => Lib.hid trivial) rfl ?_
  apply Exists.intro
  refine ⟨fun w' => by (go_simp; exact rfl), ?_⟩
  refine reg_pure 7 HH.out rfl (by kernel_rfl) (fun _ _ _ _ h => h) (fun _ => Lib.hid trivial) rfl ?_
  apply Exists.intro
  refine ⟨fun w' => by (go_simp; exact rfl), ?_⟩
  refine reg_pure 8 HH.out rfl (by kernel_rfl) (fun _ _ _ _ h => h) (fun _ => Lib.hid trivial) rfl ?_
  apply Exists.intro
  refine ⟨fun w' => by (go_simp; exact rfl), ?_⟩
  refine reg_pure 9 HH.out rfl (by kernel_rfl) (fun _ _ _ _ h => h) (fun _ => Lib.hid trivial) rfl ?_
  apply Exists.intro
  refine ⟨fun w' => by (go_simp; exact rfl), ?_⟩
  refine reg_pure 10 HH.out rfl (by kernel_rfl) (fun _ _ _ _ h => h) (fun _ => Lib.hid trivial) rfl ?_
  apply Exists.intro
  refine ⟨fun w' => by (go_simp; exact rfl), ?_⟩
  refine reg_done (by kernel_rfl) ?_
  have hs4 := HG4.out.size
  simp at hs4
  have hap : Ap base w.heap.size ((dL d).map (fun x => (x.toNat : Int))) w0 [] A 0 c W4 := by
    have hrow4 : W4.ownsRow base 5 1 (.slice A 0 c) 0 [] := by
      have h2 : W2.ownsRow base 5 1 (.slice A 0 c) 0 [] := Hi.own_same HR.out (fun g hg => HB2.out.block g (HR.out.lt g hg).2)
      have h3 : W2.drew.ownsRow base 5 1 (.slice A 0 c) 0 [] := h2
      refine h3.kept HG4.out (Or.inr ?_)
      intro e
      have := (HR.out.lt _ e).2
      omega
    refine ⟨hrow4, ?_, by omega, ?_, ?_, by omega, by omega⟩
    · intro e
      have := (HR.out.lt _ e).2
      omega
    · intro j x hx
      rw [List.getElem?_map] at hx
      obtain ⟨y, hy, rfl⟩ := Option.map_eq_some_iff.1 hx
      exact HD4.out j y hy
    · exact (HB.out.trans (HB2.out.mono hbs)).trans ((show Below base W2 W2.drew from ((RowKit.Below.refl _ _).drew)).grown HG4.out (by show base ≤ W2.heap.size; omega) (fun g hg => by injection hg with hg; omega))
  have HAP := Lib.hid hap
  clear hap
  go_wp2_with fail
  refine (efg_any base w.heap.size _ w0 W4 A c neg nd dp HAP.out (by rw [List.length_map, dL_len]; exact HNL.out) hn20 (by omega) (by omega)).mono ?_
  rintro e w5 ⟨A5, n5, c5, rfl, hap5⟩
  go_wp2_with fail
  go_ret
  exact ⟨A5, n5, c5, _, _, rfl, hap5⟩

set_option maxHeartbeats 8000000 in
set_option maxRecDepth 100000 in
theorem fto_sub (x E F : Nat) (neg : Bool) (hx : x < 18446744073709551616) (hE : x / 4503599627370496 % 2048 = E) (hF : x % 4503599627370496 = F) (hneg : ((x : Int) / 9223372036854775808 != 0) = neg) (hE0 : E = 0) (hF1 : 1 ≤ F) : ∃ l, By l ∧ 0 < l.length ∧ Fto x l := by
  have e1 : bits .and .i64 ((x : Int) / 4503599627370496) 2047 = (E : Int) := by
    have := and2047 (x / 4503599627370496) (by omega)
    rw [hE] at this
    rw [← this]; congr 1
  have f1 : bits .and .u64 (x : Int) 4503599627370495 = (F : Int) := by rw [and52 x hx, hF]
  have hF52 : F < 4503599627370496 := by omega
  have hE11 : E < 2048 := by omega
  clear hE hF
  obtain ⟨M, hM⟩ : ∃ M, F = M := ⟨_, rfl⟩
  subst hM
  subst hE0
  have q3 : ((F : Int) == 0) = false := by rw [beq_eq_false_iff_ne]; omega
  have q3' : (F == 0) = false := by rw [beq_eq_false_iff_ne]; omega
  have hM53 : F < 9007199254740992 := by omega
  obtain ⟨b, hb⟩ : ∃ b, Lib.bitLen F = b := ⟨_, rfl⟩
  have hb53 : b ≤ 53 := by rw [← hb]; exact Lib.bitLen_le F 53 (by omega) hM53
  have hb1 : 1 ≤ b := by rw [← hb, Lib.bitLen_half F (by omega) (by omega)]; omega
  obtain ⟨s, hs⟩ : ∃ s, 64 - b = s := ⟨_, rfl⟩
  have hsb : (64 : Int) - (b : Int) = (s : Int) := by omega
  have hs11 : 11 ≤ s ∧ s ≤ 63 := by omega
  obtain ⟨m, hm⟩ : ∃ m : Nat, IntKind.u64.wrap ((F : Int) * 2 ^ s) = (m : Int) := ⟨_, (Int.toNat_of_nonneg (wrap_in _).1).symm⟩
  have hm64 : m < 18446744073709551616 := by have := wrap_in ((F : Int) * 2 ^ s); omega
  obtain ⟨e, he⟩ : ∃ e : Int, -1022 - (s : Int) - 52 = e := ⟨_, rfl⟩
  obtain ⟨d, p, hd, hp1, hp2, hS⟩ := short_any m e hm64 (by omega) (by omega)
  obtain ⟨dp, hdp⟩ : ∃ dp : Int, (dN d : Int) + p = dp := ⟨_, rfl⟩
  obtain ⟨nd, hnd⟩ : ∃ nd, trl (dL d) (dN d) = nd := ⟨_, rfl⟩
  have hN20 := dN_le d hd
  have hNL : nd ≤ dN d := by rw [← hnd]; exact trl_le _ _
  have hn20 : nd ≤ 20 := by omega
  have hdb : -450 ≤ dp ∧ dp ≤ 450 := by omega
  have HBL := Lib.hid hb
  have HS := Lib.hid hS
  have HDP := Lib.hid hdp
  have HNN := Lib.hid hnd
  have HNL := Lib.hid hNL
  obtain ⟨hs11, hs63⟩ := hs11
  obtain ⟨hdlo, hdhi⟩ := hdb
  refine ⟨fG neg ((dL d).map (fun x => (x.toNat : Int))) nd dp, fG_by neg (fun y hy => by
    obtain ⟨z, _, rfl⟩ := List.mem_map.1 hy
    have := UInt8.toNat_lt z
    omega) nd dp hdlo hdhi, fG_pos neg nd dp (by rw [List.length_map, dL_len]; exact HNL.out), ?_⟩
  clear hb hS hdp hnd hNL hs hN20
  intro base w0 w A c hrow hb0 hbs hgb hT
  have sb := fun w => sbits_any w x
  have HT := Lib.hid hT
  have HR := Lib.hid hrow
  have HB := Lib.hid hb0
  have hlt := hrow.lt
  clear hT hrow hb0
  go_enter Tryz.func285, Tryz.ntmps285
  go_wp2_with fail
  go_quiet (fail)
  go_wp2_with fail
  refine (Any.bits_Len64 (P := Tryz.prog) (ρ := ffRen) { ffDigits with } (F : Int) _ (by omega) (by omega)).mono ?_
  rintro e w1 ⟨rfl, rfl⟩
  rw [show Lib.bitLen ((F : Int)).toNat = b from HBL.out]
  go_wp2_with fail
  generalize hW1' : (w.drewN nq).alloc (.cells zeros32 364) = W1
  have hW1 := hW1'.symm
  clear hW1'
  have hb1 : Below w.heap.size w W1 := by rw [hW1]; exact (Rw.below_drewN (RowKit.Below.refl _ _) nq).alloc (by simp) _
  have hz : ∀ j, j < 32 → W1.cell? ⟨w.heap.size, j, none⟩ = some (.int .u8 0) ∧ W1.frozen? ⟨w.heap.size, j, none⟩ = false := fun j hj => by
    rw [hW1]
    refine ⟨?_, ?_⟩
    · have : w.heap.size = (w.drewN nq).heap.size := rfl
      rw [this, World.cell?_alloc_new]; exact zeros32_at j hj
    · have : w.heap.size = (w.drewN nq).heap.size := rfl
      rw [this]; exact World.frozen?_alloc_new _ _ _ _
  have hs1 : W1.heap.size = w.heap.size + 1 := by rw [hW1]; simp
  have HB1 := Lib.hid hb1
  have HZ := Lib.hid hz
  clear hb1 hz hW1
  refine (HS.out _ (HT.out.pow.below HB1.out)).mono ?_
  rintro e W2 ⟨rfl, hb2⟩
  have hs2 := hb2.size
  have hz2 : ∀ j, j < 32 → W2.cell? ⟨w.heap.size, j, none⟩ = some (.int .u8 0) ∧ W2.frozen? ⟨w.heap.size, j, none⟩ = false := fun j hj => by
    obtain ⟨a, b⟩ := HZ.out j hj
    exact ⟨(hb2.cell (p := ⟨w.heap.size, j, none⟩) (by show w.heap.size < _; omega)).trans a, (hb2.frozen (p := ⟨w.heap.size, j, none⟩) (by show w.heap.size < _; omega)).trans b⟩
  have HZ2 := Lib.hid hz2
  have HB2 := Lib.hid (HB1.out.trans (hb2.mono (by omega)))
  clear hz2 hb2 HZ
  go_wp2_with fail
  refine reg_start 11 (fun _ => Hid True) (by kernel_rfl) (by kernel_rfl) ?_
  intro hT0
  have HH := Lib.hid hT0
  clear hT0
  refine reg_pure 0 HH.out rfl (by kernel_rfl) (fun _ _ _ _ h => h) (fun _ => Lib.hid trivial) rfl ?_
  apply Exists.intro
  refine ⟨fun w' => by (go_simp; exact rfl), ?_⟩
  refine reg_pure 1 HH.out rfl (by kernel_rfl) (fun _ _ _ _ h => h) (fun _ => Lib.hid trivial) rfl ?_
  apply Exists.intro
  refine ⟨fun w' => by (go_simp; exact rfl), ?_⟩
  refine reg_pure 2 HH.out rfl (by kernel_rfl) (fun _ _ _ _ h => h) (fun _ => Lib.hid trivial) rfl ?_
  apply Exists.intro
  refine ⟨fun w' => by (go_simp; exact rfl), ?_⟩
  refine reg_pure 3 HH.out rfl (by kernel_rfl) (fun _ _ _ _ h => h) (fun _ => Lib.hid trivial) rfl ?_
  apply Exists.intro
  refine ⟨fun w' => by (go_simp; exact rfl), ?_⟩
  refine reg_only 4 rfl (by kernel_rfl) rfl ?_
  unfold Oper.wp
  go_simp
  refine (num_any d hd W2.drew (show Tx.Tab W2.drew from HT.out.tab.below HB2.out.drew)).mono ?_
  rintro e W3 ⟨rfl, rfl⟩
  refine ⟨Lib.hid trivial, ?_⟩
  refine reg_only 5 rfl (by kernel_rfl) rfl ?_
  unfold Oper.wp
  go_simp
  refine (digits_any w.heap.size d p W2.drew HZ2.out hd ⟨hp1, hp2⟩).mono ?_
  rw [HDP.out, HNN.out]
  rintro e W4 ⟨rfl, hdig, hg4⟩
  have HD4 := Lib.hid hdig
  have HG4 := Lib.hid hg4
  clear hdig hg4 HZ2
  refine ⟨Lib.hid trivial, ?_⟩
  refine reg_pure 6 HH.out rfl (by kernel_rfl) (fun _ _ _ _ h => h) (fun _ => Lib.hid trivial) rfl ?_
  apply Exists.intro
  refine ⟨fun w' => by (go_simp; exact rfl), ?_⟩
  refine reg_pure 7 HH.out rfl (by kernel_rfl) (fun _ _ _ _ h => h) (fun _ => Lib.hid trivial) rfl ?_
  apply Exists.intro
  refine ⟨fun w' => by (go_simp; exact rfl), ?_⟩
  refine reg_pure 8 HH.out rfl (by kernel_rfl) (fun _ _ _ _ h => h) (fun _ => Lib.hid trivial) rfl ?_
  apply Exists.intro
  refine ⟨fun w' => by (go_simp; exact rfl), ?_⟩
  refine reg_pure 9 HH.out rfl (by kernel_rfl) (fun _ _ _ _ h => h) (fun _ => Lib.hid trivial) rfl ?_
  apply Exists.intro
  refine ⟨fun w' => by (go_simp; exact rfl), ?_⟩
  refine reg_pure 10 HH.out rfl (by kernel_rfl) (fun _ _ _ _ h => h) (fun _ => Lib.hid trivial) rfl ?_
  apply Exists.intro
  refine ⟨fun w' => by (go_simp; exact rfl), ?_⟩
  refine reg_done (by kernel_rfl) ?_
  have hs4 := HG4.out.size
  simp at hs4
  have hap : Ap base w.heap.size ((dL d).map (fun x => (x.toNat : Int))) w0 [] A 0 c W4 := by
    have hrow4 : W4.ownsRow base 5 1 (.slice A 0 c) 0 [] := by
      have h2 : W2.ownsRow base 5 1 (.slice A 0 c) 0 [] := Hi.own_same HR.out (fun g hg => HB2.out.block g (HR.out.lt g hg).2)
      have h3 : W2.drew.ownsRow base 5 1 (.slice A 0 c) 0 [] := h2
      refine h3.kept HG4.out (Or.inr ?_)
      intro e
      have := (HR.out.lt _ e).2
      omega
    refine ⟨hrow4, ?_, by omega, ?_, ?_, by omega, by omega⟩
    · intro e
      have := (HR.out.lt _ e).2
      omega
    · intro j x hx
      rw [List.getElem?_map] at hx
      obtain ⟨y, hy, rfl⟩ := Option.map_eq_some_iff.1 hx
      exact HD4.out j y hy
    · exact (HB.out.trans (HB2.out.mono hbs)).trans ((show Below base W2 W2.drew from ((RowKit.Below.refl _ _).drew)).grown HG4.out (by show base ≤ W2.heap.size; omega) (fun g hg => by injection hg with hg; omega))
  have HAP := Lib.hid hap
  clear hap
  go_wp2_with fail
  refine (efg_any base w.heap.size _ w0 W4 A c neg nd dp HAP.out (by rw [List.length_map, dL_len]; exact HNL.out) hn20 (by omega) (by omega)).mono ?_
  rintro e w5 ⟨A5, n5, c5, rfl, hap5⟩
  go_wp2_with fail
  go_ret
  exact ⟨A5, n5, c5, _, _, rfl, hap5⟩

set_option maxHeartbeats 8000000 in
set_option maxRecDepth 100000 in
theorem fto_zero (x E F : Nat) (neg : Bool) (hx : x < 18446744073709551616) (hE : x / 4503599627370496 % 2048 = E) (hF : x % 4503599627370496 = F) (hneg : ((x : Int) / 9223372036854775808 != 0) = neg) (hE0 : E = 0) (hF0 : F = 0) : ∃ l, By l ∧ 0 < l.length ∧ Fto x l := by
  have e1 : bits .and .i64 ((x : Int) / 4503599627370496) 2047 = (E : Int) := by
    have := and2047 (x / 4503599627370496) (by omega)
    rw [hE] at this
    rw [← this]; congr 1
  have f1 : bits .and .u64 (x : Int) 4503599627370495 = (F : Int) := by rw [and52 x hx, hF]
  have hF52 : F < 4503599627370496 := by omega
  have hE11 : E < 2048 := by omega
  clear hE hF
  subst hE0
  subst hF0
  refine ⟨f0 neg, (sg_by neg).app (By.one (by decide)), by unfold f0; simp, ?_⟩
  intro base w0 w A c hrow hb0 hbs hgb hT
  have sb := fun w => sbits_any w x
  have HT := Lib.hid hT
  have HR := Lib.hid hrow
  have HB := Lib.hid hb0
  have hlt := hrow.lt
  clear hT hrow hb0
  go_enter Tryz.func285, Tryz.ntmps285
  go_wp2_with fail
  go_quiet (fail)
  have hap : Ap base 7 [] w0 [] A 0 c (w.drewN nq) :=
    ⟨HR.out, fun e => by have := (HR.out.lt _ e).1; omega, by show _ < w.heap.size; omega, fun j y hy => by simp at hy, Rw.below_drewN HB.out nq, hbs, by omega⟩
  have HAP := Lib.hid hap
  clear hap
  go_wp2_with fail
  refine (efg_zero base _ [] w0 _ A c neg HAP.out).mono ?_
  rintro e w5 ⟨A5, n5, c5, rfl, hap5⟩
  go_wp2_with fail
  go_ret
  exact ⟨A5, n5, c5, _, _, rfl, hap5⟩

theorem fto_any (x : Nat) (hx : x < 18446744073709551616) (hf : x / 4503599627370496 % 2048 ≠ 2047) : ∃ l, By l ∧ 0 < l.length ∧ Fto x l := by
  by_cases h0 : x / 4503599627370496 % 2048 = 0
  · by_cases h1 : x % 4503599627370496 = 0
    · exact fto_zero x _ _ _ hx h0 h1 rfl rfl rfl
    · exact fto_sub x _ _ _ hx h0 rfl rfl rfl (by omega)
  · exact fto_norm x _ _ _ hx rfl rfl rfl (by omega) (by omega)

set_option maxRecDepth 100000 in
theorem iformat_any (x : Nat) (l : List Int) (hl : By l) (hlp : 0 < l.length) (hfto : Fto x l) : ∃ s : ByteArray, ∀ w, Ft w →
    Calls Tryz.prog 269 #[.float .f64 x, .int .u8 103, .int .i64 (-1), .int .i64 64] w fun e w' => e = .returned (.string s) ∧ Below w.heap.size w w' := by
  obtain ⟨bs, hbs⟩ : ∃ bs : List UInt8, l = bs.map (fun b => (b.toNat : Int)) := ⟨l.map (fun y => UInt8.ofNat y.toNat), by
    rw [List.map_map]
    refine ((List.map_congr_left fun y hy => ?_).trans (List.map_id l)).symm
    have := hl y hy
    show ((UInt8.ofNat y.toNat).toNat : Int) = y
    rw [UInt8.toNat_ofNat']
    omega⟩
  refine ⟨⟨bs.toArray⟩, fun w hT => ?_⟩
  have m1 : max (3 : Int) 24 = 24 := by decide
  obtain ⟨i0, hi, hz0, hz1, hz2⟩ := info_parts info_u8
  obtain ⟨w1, hmk, hrow, hg1⟩ := run_make_own (P := Tryz.prog) w w.heap.size 324 5 i0 (.int .u8 0) 1 Tryz.underlying324 hi hz0 hz1 .i64 .i64 24 (by rw [hz2]; omega) (by unfold maxLen; omega) (Nat.le_refl _)
  have hmk' : (Instr.makeSlice 324 (.int .i64 0) (.int .i64 24)).run Tryz.prog w = .ok (.slice (some ⟨w.heap.size, 0, none⟩) 0 24) w1 := hmk
  clear hmk
  have hb1 : Below w.heap.size w w1 := (RowKit.Below.refl _ w).grown hg1 (Nat.le_refl _) (fun g hg => by cases hg)
  have hgl : 7 < w.heap.size := (hT.pow 0 (by omega)).2.2.1
  have HT := Lib.hid (hT.below hb1)
  have HR := Lib.hid hrow
  have HB := Lib.hid hb1
  have HFT := Lib.hid hfto
  have HBS := Lib.hid hbs
  have hs1 := hb1.size
  clear hT hrow hg1 hb1 hl hfto hbs
  go_enter Tryz.func269, Tryz.ntmps269
  go_wp2_with fail
  refine (HFT.out w.heap.size w w1 _ 24 HR.out HB.out (by omega) hgl HT.out).mono ?_
  rintro e w2 ⟨A2, n2, c2, hb, ds, rfl, hap⟩
  have hln := hap.len
  have hbl : bs.length = n2 := by rw [HBS.out, List.length_map] at hln; exact hln
  subst hbl
  have hcv : (convert 324 9 (.slice A2 bs.length c2)).run Tryz.prog w2 = .ok (.string ⟨bs.toArray⟩) w2 := by
    have hpos : 0 < bs.length := by rw [HBS.out, List.length_map] at hlp; exact hlp
    obtain ⟨b, o, hA, hbl, hcell⟩ := (Rd.own_rd hap.own).at_ hpos
    subst hA
    exact run_convert_bytes_back (P := Tryz.prog) w2 324 9 5 ⟨b, o, none⟩ c2 bs Tryz.underlying324 Tryz.underlying5 Tryz.underlying9 (fun j hj => by
        rw [Lib.add_plain]
        refine hcell j _ ?_
        rw [HBS.out, List.getElem?_map, List.getElem?_eq_getElem hj]
        rfl)
  have HA := Lib.hid hap.bel
  clear hap hln
  go_wp2_with fail
  go_ret
  exact ⟨rfl, HA.out⟩
theorem format_any (x : Nat) (hx : x < 18446744073709551616) (hf : x / 4503599627370496 % 2048 ≠ 2047) : ∃ s : ByteArray, ∀ w, Ft w →
    Calls Tryz.prog 246 #[.float .f64 x, .int .u8 103, .int .i64 (-1), .int .i64 64] w fun e w' => e = .returned (.string s) ∧ Below w.heap.size w w' := by
  obtain ⟨l, hl, hp, hF⟩ := fto_any x hx hf
  obtain ⟨s, hs⟩ := iformat_any x l hl hp hF
  refine ⟨s, fun w hT => ?_⟩
  have HS := Lib.hid hs
  clear hs
  go_enter Tryz.func246, Tryz.ntmps246
  go_wp2_with fail
  refine (HS.out _ hT).mono ?_
  rintro e w' ⟨rfl, hb⟩
  go_wp2_with fail
  go_ret
  exact ⟨rfl, hb⟩
end Go.Proofs.YtnclbnbjmgbonaaGreatDoor.Ff
