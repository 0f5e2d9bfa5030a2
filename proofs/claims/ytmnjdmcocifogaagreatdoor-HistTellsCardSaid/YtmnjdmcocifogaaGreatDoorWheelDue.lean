/- The contract of a wheel's Due. -/
import Derived.Test.YtmnjdmcocifogaaGreatDoorWheelCmp
import Derived.Test.YtmnjdmcocifogaaGreatDoorWheelNext
import Derived.Test.YtmnjdmcocifogaaGreatDoorSortOwn
namespace Go.Proofs.YtmnjdmcocifogaaGreatDoor.Wl
open Go.ChangeShapes Go.WideShapes Go.ChangeAt Go.RowKit Go.Maps Rw Sl Sn Ck Go.Sort
set_option linter.unusedVariables false

/-- Numbers of 64 bits. -/
abbrev U : Type := {x : Int // 0 ≤ x ∧ x ≤ 18446744073709551615}
instance : Inhabited U := ⟨⟨0, by omega⟩⟩
def encU (u : U) : Value := .int .u64 u.1
theorem encU_one : OneCell encU := fun _ => rfl
def cfU (l : List (Int × Int)) (x y : U) : Int := cf l x.1 y.1
theorem cf_neg {l : List (Int × Int)} (x y : Int) : cf l x y < 0 ↔ bf (x, Wl.tick l x) (y, Wl.tick l y) = true := by
  rw [bf_iff]
  unfold cf orI cmpI
  show _ ↔ Wl.tick l x < Wl.tick l y ∨ (Wl.tick l x = Wl.tick l y ∧ x < y)
  generalize Wl.tick l x = a
  generalize Wl.tick l y = b
  by_cases h1 : a < b
  · simp [h1]
  · by_cases h2 : b < a
    · simp [h1, h2]; omega
    · simp [h1, h2]
      by_cases h3 : x < y
      · simp [h3]; omega
      · by_cases h4 : y < x <;> simp [h3, h4]
theorem ltU {l : List (Int × Int)} (x y : U) : ltOf (cfU l) x y = bf (x.1, Wl.tick l x.1) (y.1, Wl.tick l y.1) := by
  have := cf_neg (l := l) x.1 y.1
  unfold ltOf cfU
  cases h : bf (x.1, Wl.tick l x.1) (y.1, Wl.tick l y.1)
  · simp only [decide_eq_false_iff_not]; rw [this, h]; simp
  · simp only [decide_eq_true_eq]; rw [this, h]
theorem swoU (l : List (Int × Int)) : SWO (ltOf (cfU l)) where
  irrefl x := by rw [ltU]; have := bf_irrefl (x.1, Wl.tick l x.1); simpa using this
  trans x y z h1 h2 := by rw [ltU] at *; exact bf_trans h1 h2
  ntrans x y z h1 h2 := by
    rw [ltU] at *
    have h1' : ¬ bf (x.1, Wl.tick l x.1) (y.1, Wl.tick l y.1) = true := by rw [h1]; simp
    have h2' : ¬ bf (y.1, Wl.tick l y.1) (z.1, Wl.tick l z.1) = true := by rw [h2]; simp
    have : ¬ bf (x.1, Wl.tick l x.1) (z.1, Wl.tick l z.1) = true := by rw [bf_iff] at *; omega
    simpa using this
/-- What rises by that order, without a key twice, rises strictly. -/
theorem rises {l : List (Int × Int)} {acc : List U} (h : acc.Pairwise (fun x y => ltOf (cfU l) y x = false)) (hn : (acc.map Subtype.val).Nodup) :
    (acc.map Subtype.val).Pairwise (fun a b => bf (a, Wl.tick l a) (b, Wl.tick l b) = true) := by
  rw [List.pairwise_map]
  have hn' := List.pairwise_map.1 hn
  refine (h.and hn').imp ?_
  rintro x y ⟨h1, h2⟩
  rw [ltU] at h1
  refine bf_total (fun e => h2 ?_) (by rw [h1]; simp)
  injection e with e1 _
  exact e1.symm

/-- Without the timers of some keys. -/
def rem (l : List (Int × Int)) (ks : List Int) : List (Int × Int) := l.filter (fun a => !ks.contains a.1)
theorem rem_nil (l : List (Int × Int)) : rem l [] = l := by simp [rem]
theorem rem_snoc (l : List (Int × Int)) (ks : List Int) (k : Int) : wo (rem l ks) k = rem l (ks ++ [k]) := by
  unfold wo rem
  rw [List.filter_filter]
  congr 1
  funext a
  by_cases h : a.1 = k <;> simp [h]
theorem rem_due {l : List (Int × Int)} (h : Tms l) (now : Int) : rem l ((due l now).map Prod.fst) = left l now := by
  unfold rem left
  refine List.filter_congr (fun a ha => ?_)
  congr 1
  rw [List.contains_eq_mem]
  congr 1
  rw [eq_iff_iff, Tms.mem_key]
  constructor
  · rintro ⟨t, ht⟩
    obtain ⟨h1, h2⟩ := mem_due.1 ht
    have := h.uniq (k := a.1) (t := a.2) ha h1
    omega
  · intro h1
    exact ⟨a.2, mem_due.2 ⟨ha, h1⟩⟩
theorem Tms.rem {l : List (Int × Int)} (h : Tms l) (ks : List Int) : Tms (rem l ks) := h.filter _
theorem rem_len (l : List (Int × Int)) (ks : List Int) : (rem l ks).length ≤ l.length := List.length_filter_le _ _

theorem cut_le {t now : Int} (h : t ≤ 1152921504606846976) : t ≤ cut now ↔ t ≤ now := by unfold cut; split <;> omega

theorem due_nil (w : World) (now : Int) :
    Calls Tryz.prog 124 #[.pointer none, .int .u64 now] w fun e w' => e = .returned (.slice none 0 0) ∧ Below w.heap.size w w' := by
  go_enter Tryz.func124, Tryz.ntmps124
  go_wp2
  go_ret
  exact ⟨rfl, (Below.refl _ _).alloc (Nat.le_refl _) _⟩

theorem sort_due (w : World) (q p m n : Nat) (D : DataW Unit) (l : List (Int × Int)) (base : Nat) (A : Option Addr) (c : Nat) (acc : List U) (hrow : w.ownsRow base 23 1 (.slice A acc.length c) acc.length (acc.map encU))
    (hq : w.cell? ⟨q, 0, none⟩ = some (.pointer (some ⟨p, 0, none⟩))) (hp : w.cell? ⟨p, 0, none⟩ = some (.map (some m))) (ho : w.ownsMap Tryz.prog 23 (plainElem Tryz.prog 23) m n D) (ht : Tel D l) (tms : Tms l) (hsz : acc.length ≤ 1024)
    (bq : q < base) (bp : p < base) (bm : m < base) :
    Calls Tryz.prog 130 #[.slice A acc.length c, .func (.func 131) #[] #[.pointer (some ⟨q, 0, none⟩)]] w fun e' w' => e' = .returned (.tuple #[]) ∧ ∃ acc' : List U, acc'.Perm acc ∧ acc'.Pairwise (fun x y => ltOf (cfU l) y x = false) ∧
      w'.ownsRow base 23 1 (.slice A acc.length c) acc.length (acc'.map encU) ∧ w.grownBy w' (Value.slice A acc.length c).ownBlock := by
  by_cases h0 : acc = []
  · subst h0
    refine (sort0_any A c _ w).mono ?_
    rintro e w' ⟨rfl, rfl⟩
    exact ⟨rfl, [], List.Perm.refl _, List.Pairwise.nil, hrow, World.grownBy.refl _ _⟩
  · have hpos : 0 < acc.length := List.length_pos_iff.2 h0
    have eg : ∀ args w, (callFunc 131 args).run Tryz.prog w = .ok (.enter 131 args) w := enters_of Tryz.func131 (by kernel_rfl) rfl
    have hne : ∀ g, g < base → some g ≠ (Value.slice A acc.length c).ownBlock := fun g hg => row_ne hrow hg
    exact Sf.sort_own Sf.suLays encU encU_one (cfU l) (swoU l) 131 #[.pointer (some ⟨q, 0, none⟩)] eg w base 23 A c acc hrow hpos (by omega)
      (fun W' hg x y => clo_any W' q p m n D l x.1 y.1 x.2 y.2 (hg.cell hq (hne _ bq)) (hg.cell hp (hne _ bp)) (ho.kept hg (hne _ bm)) ht tms)

set_option maxRecDepth 100000 in
set_option maxHeartbeats 8000000 in
theorem due_any (w : World) (p m : Nat) (l : List (Int × Int)) (now : Int) (h : Wh w p m l) (hnow : 0 ≤ now ∧ now ≤ 18446744073709551615) (hl : l.length ≤ 1024) :
    Calls Tryz.prog 124 #[.pointer (some ⟨p, 0, none⟩), .int .u64 now] w fun e w' => ∃ A c, e = .returned (.slice A (due l now).length c) ∧
      w'.ownsRow w.heap.size 23 1 (.slice A (due l now).length c) (due l now).length (((due l now).map Prod.fst).map (Value.int .u64)) ∧ Wh w' p m (left l now) ∧ w.grownBy w' (some m) := by
  have H := Lib.hid h
  obtain ⟨i0, hi, hz0, hz1, hz2⟩ := info_parts info_u64
  have hpl := h.lt.1
  have hml := h.lt.2
  have hpm := h.ne
  obtain ⟨hc, ⟨D, ho, ht⟩, tms⟩ := h
  have HT := Lib.hid ht
  have HM := Lib.hid tms
  have HNW := Lib.hid hnow
  have HPM := Lib.hid hpm
  clear ht tms hnow hpm
  go_enter Tryz.func124, Tryz.ntmps124
  go_wp2_with fail
  refine (Ck.at_any _ _ HNW.out.1 HNW.out.2).mono ?_
  rintro e w' ⟨rfl, rfl⟩
  rw [cut_add]
  have hcp : (((w.alloc (.cells #[.pointer (some ⟨p, 0, none⟩)] 173)).alloc (bx (cut now))).alloc (.cells #[.int .u64 (cut now)] 181)).cell? ⟨p, 0, none⟩ = some (.map (some m)) := alloc_cell (alloc_cell (alloc_cell hc _) _) _
  go_wp2_with (at_range; refine wpList_range_own _ rfl _ 177 rfl 23 23 law Tryz.underlying177 _ m l.length D rfl (((ho.alloc _).alloc _).alloc _) ?_; intro w0 hrg0 hg0 hs0)
  have e3 : (((w.alloc (.cells #[.pointer (some ⟨p, 0, none⟩)] 173)).alloc (bx (cut now))).alloc (.cells #[.int .u64 (cut now)] 181)).heap.size = w.heap.size + 3 := by simp
  rw [e3] at hrg0 hs0
  go_frame
  simp only [e3]
  have k0 : w0.cell? ⟨w.heap.size, 0, none⟩ = some (.pointer (some ⟨p, 0, none⟩)) := hg0.cell (by go_simp) (by simp)
  have k1 : w0.cell? ⟨p, 0, none⟩ = some (.map (some m)) := hg0.cell hcp (by simp)
  have k2 : w0.cell? ⟨w.heap.size + 2, 0, none⟩ = some (.int .u64 (cut now)) := hg0.cell (by go_simp) (by simp)
  have k3 : w.grownBy w0 none := ⟨hg0.os, hg0.tape, hg0.output, by omega, fun k hk _ => (hg0.block k (by rw [e3]; omega) (by simp)).trans ((Below.heap_alloc _ _ _ (by simp; omega)).trans ((Below.heap_alloc _ _ _ (by simp; omega)).trans (Below.heap_alloc _ _ _ hk)))⟩
  clear hg0 hcp e3
  go_loopw [6] (fun v wr => ∃ (lf : Lit → Bool) (cnt : Nat) (A : Option Addr) (c : Nat) (acc : List U), v = .slice A acc.length c ∧ wr.ranges Tryz.prog 23 (plainElem Tryz.prog 23) m (w.heap.size + 3) l.length D lf cnt ∧
      wr.ownsRow (w.heap.size + 4) 23 1 (.slice A acc.length c) acc.length (acc.map encU) ∧ wr.cell? ⟨w.heap.size, 0, none⟩ = some (.pointer (some ⟨p, 0, none⟩)) ∧ wr.cell? ⟨p, 0, none⟩ = some (.map (some m)) ∧ wr.cell? ⟨w.heap.size + 2, 0, none⟩ = some (.int .u64 (cut now)) ∧
      w.grownBy wr none ∧ w.heap.size + 4 ≤ wr.heap.size ∧ acc.length + cnt ≤ l.length ∧ Hid ((acc.map Subtype.val).Nodup ∧ ∀ k, k ∈ acc.map Subtype.val ↔ ∃ t, (k, t) ∈ l ∧ t ≤ now ∧ lf (.int .u64 k) = false))
    (fun _ wr => wr.rangeLeft m (w.heap.size + 3))
  case atStart =>
    refine ⟨_, _, none, 0, [], rfl, hrg0, World.ownsRow_nil _ _ _ _, k0, k1, k2, k3, by omega, by rw [HT.out.size]; simp, ⟨by simp, fun k => ⟨fun h => (by cases h), ?_⟩⟩⟩
    rintro ⟨t, h1, -, h3⟩
    rw [HT.out.has, decide_eq_true (Tms.mem_key.2 ⟨t, h1⟩)] at h3
    cases h3
  case round =>
    clear k0 k1 k2 k3 hrg0 hs0
    obtain ⟨lf, cnt, A, c, acc, rfl, hrg, hrow, k0, k1, k2, k3, k4, k5, hacc⟩ := hrel
    go_wp2_with (at_next; refine wpList_next_ranges_ii _ rfl _ rfl 23 23 .u64 .u64 law Tryz.underlying23 Tryz.underlying23 m (w.heap.size + 3) l.length _ _ _ rfl hrg ?_ ?_)
    · intro _ hl0
      have hown := Lib.hid hrg.owns
      have hac : Hid ((acc.map Subtype.val).Nodup ∧ ∀ k, k ∈ acc.map Subtype.val ↔ ∃ t, (k, t) ∈ l ∧ t ≤ now) := by
        refine ⟨hacc.out.1, fun k => ?_⟩
        rw [hacc.out.2]
        exact ⟨fun ⟨t, h1, h2, _⟩ => ⟨t, h1, h2⟩, fun ⟨t, h1, h2⟩ => ⟨t, h1, h2, hl0 _⟩⟩
      clear hacc hrg hl0
      go_wp2_with fail
      refine (sort_due wr w.heap.size p m l.length D l (w.heap.size + 4) A c acc hrow k0 k1 hown.out HT.out HM.out (by omega) (by omega) (by omega) (by omega)).mono ?_
      rintro e w2 ⟨rfl, acc2, hperm, hrise, hrow2, hg2⟩
      have hlen2 : acc2.length = acc.length := hperm.length_eq
      have hks : Hid (acc2.map Subtype.val = (due l now).map Prod.fst) := by
        have hp2 := hperm.map Subtype.val
        refine HM.out.due_keys (tk := Wl.tick l) (fun k t h => tick_hit HM.out h) (rises hrise (hp2.nodup_iff.2 hac.out.1)) (fun k => ?_)
        rw [hp2.mem_iff, hac.out.2]
      have hne : ∀ g, g < w.heap.size + 4 → some g ≠ (Value.slice A acc.length c).ownBlock := fun g hg => row_ne hrow hg
      have j0 : w2.cell? ⟨w.heap.size, 0, none⟩ = some (.pointer (some ⟨p, 0, none⟩)) := hg2.cell k0 (hne _ (by show w.heap.size < _; omega))
      have j1 : w2.cell? ⟨p, 0, none⟩ = some (.map (some m)) := hg2.cell k1 (hne _ (by show p < _; omega))
      have j3 : w.grownBy w2 none := k3.andThen hg2 (fun j hj => Or.inl (by have := (hrow.lt j hj).1; omega))
      have jm : Mw w2 m l := ⟨D, hown.out.kept hg2 (hne _ (by omega)), HT.out⟩
      have j4 : w.heap.size + 4 ≤ w2.heap.size := Nat.le_trans k4 hg2.size
      have HJ3 := Lib.hid j3
      have HJM := Lib.hid jm
      have HR2 := Lib.hid hrow2
      have HL2 := Lib.hid hlen2
      clear hown hac hperm hrise hg2 k0 k1 k2 k3 hrow hne j3 jm hrow2 hlen2
      go_wp2_with fail
      go_loopw [37] (fun i wr => ∃ k : Nat, i = .int .i64 k ∧ k ≤ acc.length ∧ Mw wr m (rem l ((acc2.map Subtype.val).take k)) ∧ wr.ownsRow (w.heap.size + 4) 23 1 (.slice A acc.length c) acc.length (acc2.map encU) ∧ wr.cell? ⟨w.heap.size, 0, none⟩ = some (.pointer (some ⟨p, 0, none⟩)) ∧ wr.cell? ⟨p, 0, none⟩ = some (.map (some m)) ∧ w.grownBy wr (some m)) (fun i _ => acc.length - (intOf i).toNat)
      case atStart => exact ⟨0, rfl, Nat.zero_le _, by rw [List.take_zero, rem_nil]; exact HJM.out, HR2.out, j0, j1, HJ3.out.but _⟩
      case round =>
        clear j0 j1 HJ3 HJM HR2
        obtain ⟨k, rfl, hk, hmw, hrow, i0c, i1c, hgw⟩ := hrel
        by_cases hlt : k < acc.length
        · obtain ⟨b, o, x, rfl, hb, hx, hcell⟩ := (Rd.own_rd hrow).get hlt
          obtain ⟨x, hx64⟩ := x
          change wr.cell? ⟨b, o + k, none⟩ = some (.int .u64 x) at hcell
          obtain ⟨D2, ho2, ht2⟩ := hmw
          have HT2 := Lib.hid ht2
          have hxv : (acc2.map Subtype.val)[k]? = some x := by rw [List.getElem?_map, hx]; rfl
          have HX := Lib.hid hxv
          have HX64 := Lib.hid hx64
          clear ht2 hx hxv hx64
          go_wp2_with (at_delete; refine wpList_delete_own _ rfl _ _ 177 23 rfl 23 law Tryz.underlying177 _ m _ D2 rfl ho2 _ _ rfl (key64 HX64.out) ?_; intro w3 ho3 ht3)
          have hg3 := ht3.grown
          have hne : (Value.slice (some ⟨b, o, none⟩) acc.length c).ownBlock ≠ some m := fun e => by have := (hrow.lt m e).1; omega
          go_roundw
          case rel =>
            refine ⟨k + 1, by go_num, by omega, ?_, hrow.kept hg3 (Or.inr hne), hg3.cell i0c (by simp; omega), hg3.cell i1c (fun e => HPM.out (by injection e)), hgw.andThen hg3 (fun j hj => .inr hj)⟩
            have e1 : (acc2.map Subtype.val).take (k + 1) = (acc2.map Subtype.val).take k ++ [x] := Sn.take_snoc HX.out
            rw [e1, ← rem_snoc]
            exact Mw.mk ho3 (HT2.out.del (HM.out.rem _) (ho2.tidy law) x)
          case measure => simp [intOf]; omega
        · have hk' : k = acc.length := by omega
          subst hk'
          have hn : acc.length = (due l now).length := by
            have := congrArg List.length hks.out
            simp at this
            rw [← this]; exact HL2.out.symm
          have e1 : (acc2.map Subtype.val).take acc.length = (due l now).map Prod.fst := by rw [List.take_of_length_le (by simp [HL2.out]), hks.out]
          rw [e1, rem_due HM.out] at hmw
          have HMW := Lib.hid hmw
          have HN := Lib.hid hn
          have HROW := Lib.hid hrow
          clear hmw hn e1 hrow
          go_wp2_with fail
          go_ret
          refine ⟨A, c, by rw [← HN.out]; rfl, ?_, H.out.turned hgw HMW.out (HM.out.filter _), hgw⟩
          have h1 := own_mono HROW.out (base' := w.heap.size) (by omega)
          rw [← HN.out, ← hks.out, List.map_map]
          exact h1
    · intro y t w1 cnt1 hwx hwc hlx hat hrg1 hlt hg1 hs1 hen
      have hm := HT.out.of_at HM.out hat
      have hy := (HM.out.ok _ hm).1
      have hy2 := (HM.out.ok _ hm).2.1
      have ht60 := (HM.out.ok _ hm).2.2.2
      have q0 : w1.cell? ⟨w.heap.size, 0, none⟩ = some (.pointer (some ⟨p, 0, none⟩)) := hg1.cell k0 (by simp)
      have q1 : w1.cell? ⟨p, 0, none⟩ = some (.map (some m)) := hg1.cell k1 (by simp; omega)
      have q2 : w1.cell? ⟨w.heap.size + 2, 0, none⟩ = some (.int .u64 (cut now)) := hg1.cell k2 (by simp)
      have q3 : w.grownBy w1 none := k3.andThen hg1 (fun j hj => by cases hj; exact Or.inl (by omega))
      have hrow1 := hrow.kept hg1 (Or.inr (row_ne hrow (by omega)).symm)
      have HMM := Lib.hid hm
      have q4 : w.heap.size + 4 ≤ w1.heap.size := by omega
      clear k0 k1 k2 k3 hm hat hg1 hs1
      by_cases hdue : t ≤ now
      · have hd : decide (t ≤ cut now) = true := by rw [decide_eq_true_eq, cut_le ht60]; exact hdue
        have HD := Lib.hid hdue
        clear hdue
        have hne : ∀ g, g < w.heap.size + 4 → some g ≠ (Value.slice A acc.length c).ownBlock := fun g hg => row_ne hrow hg
        have HNE := Lib.hid hne
        clear hne
        have hrd : Rd encU ((w1.alloc (bx (cut now))).alloc (.cells #[.int .u64 y] 23)) ((w1.alloc (bx (cut now))).heap.size + 1) (some ⟨(w1.alloc (bx (cut now))).heap.size, 0, none⟩) 1 1 [(⟨y, hy, hy2⟩ : U)] := rd_one (enc := encU) (w1.alloc (bx (cut now))) (⟨y, hy, hy2⟩ : U) 23
        rw [show (w1.alloc (bx (cut now))).heap.size = w1.heap.size + 1 by simp] at hrd
        have HRD := Lib.hid hrd
        have hmp : acc.map encU ++ [(⟨y, hy, hy2⟩ : U)].map encU = (acc ++ [(⟨y, hy, hy2⟩ : U)]).map encU := List.map_append.symm
        have HMP := Lib.hid hmp
        clear hrd hmp
        go_wp2_with fail
        refine (Ck.reached_any _ _ _).mono ?_
        rintro e w2 ⟨rfl, rfl⟩
        rw [hd]
        go_wp2_with (at_builtin; (refine append_rd _ rfl _ _ 74 rfl (w.heap.size + 4) 23 i0 (.int .u64 0) 8 Tryz.underlying74 hi hz0 hz1 hz2 rfl _ acc.length _ rfl ((hrow1.alloc _).alloc _) _ _ 1 1 [(⟨y, hy, hy2⟩ : U)] rfl HRD.out encU_one (acc.length + 1) rfl _ HMP.out (by unfold maxLen; omega) (by omega) (by simp; omega) ?_); intro A3 c3 w3 hrow3 hg3 hat3)
        have s3 := hg3.size
        simp at s3
        go_roundw
        case rel =>
          refine ⟨_, cnt1, A3, c3, acc ++ [⟨y, hy, hy2⟩], by simp, ((hrg1.alloc _).alloc _).kept hg3 (HNE.out _ (by omega)) (HNE.out _ (by omega)), by simpa using hrow3, hg3.cell (alloc_cell (alloc_cell q0 _) _) (HNE.out _ (by show w.heap.size < _; omega)),
            hg3.cell (alloc_cell (alloc_cell q1 _) _) (HNE.out _ (by show p < _; omega)), hg3.cell (alloc_cell (alloc_cell q2 _) _) (HNE.out _ (by show w.heap.size + 2 < _; omega)), ?_, by omega, by simp; omega, ?_, fun k => ?_⟩
          · refine ((q3.andThen (World.grownBy_alloc w1 _ none) (by simp)).andThen (World.grownBy_alloc _ _ none) (by simp)).andThen hg3 (fun j hj => Or.inl ?_)
            have := (hrow.lt j hj).1
            omega
          · rw [List.map_append, List.nodup_append]
            refine ⟨hacc.out.1, by simp, fun a ha b hb => ?_⟩
            simp at hb
            subst hb
            rintro rfl
            obtain ⟨t', h1, -, h3⟩ := (hacc.out.2 _).1 ha
            rw [hlx] at h3
            cases h3
          · rw [List.map_append, List.mem_append, hacc.out.2]
            constructor
            · rintro (⟨t', h1, h2, h3⟩ | h)
              · exact ⟨t', h1, h2, left_struck.2 (.inl h3)⟩
              · simp at h
                subst h
                exact ⟨t, HMM.out, HD.out, left_struck.2 (.inr rfl)⟩
            · rintro ⟨t', h1, h2, h3⟩
              rcases left_struck.1 h3 with h3 | rfl
              · exact .inl ⟨t', h1, h2, h3⟩
              · exact .inr (by simp)
        case measure => rw [(((hrg1.alloc _).alloc _).kept hg3 (HNE.out _ (by omega)) (HNE.out _ (by omega))).left_eq, hrg.left_eq]; exact hlt
      · have hd : decide (t ≤ cut now) = false := by rw [decide_eq_false_iff_not, cut_le ht60]; exact hdue
        have HD := Lib.hid hdue
        clear hdue
        go_wp2_with fail
        refine (Ck.reached_any _ _ _).mono ?_
        rintro e w2 ⟨rfl, rfl⟩
        rw [hd]
        go_wp2_with fail
        go_roundw
        case rel =>
          refine ⟨_, cnt1, A, c, acc, rfl, hrg1.alloc _, hrow1.alloc _, alloc_cell q0 _, alloc_cell q1 _, alloc_cell q2 _, q3.andThen (World.grownBy_alloc w1 _ none) (by simp), by simp; omega, by omega, hacc.out.1, fun k => ?_⟩
          rw [hacc.out.2]
          constructor
          · rintro ⟨t', h1, h2, h3⟩
            exact ⟨t', h1, h2, left_struck.2 (.inl h3)⟩
          · rintro ⟨t', h1, h2, h3⟩
            rcases left_struck.1 h3 with h3 | rfl
            · exact ⟨t', h1, h2, h3⟩
            · have := HM.out.uniq HMM.out h1
              have := HD.out
              omega
        case measure => rw [(hrg1.alloc _).left_eq, hrg.left_eq]; exact hlt
end Go.Proofs.YtmnjdmcocifogaaGreatDoor.Wl
