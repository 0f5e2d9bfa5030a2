/- Contracts of layer 11 (slots): what each call does. -/
import Derived.Test.YtbedboekfkobjaaGreatDoorSlots
import Derived.Test.YtbedboekfkobjaaGreatDoorRowPut
import Derived.Shelf.RegionOpenPlain
import Derived.Lib.SlicesDelete
namespace Go.Proofs.YtbedboekfkobjaaGreatDoor.St
open Go.ChangeShapes Go.WideShapes Go.ChangeAt Go.RowKit Rw Hi
set_option linter.unusedVariables false

theorem zero_slot (w : World) : (zeroValue 43).run Tryz.prog w = .ok (.agg #[.int .i64 0, .int .u64 0, .int .u64 0]) w := by kernel_rfl
/-- Delete of one. -/
theorem delete_list (l : List Sx) (k n : Nat) (hl : l.length = n) (hk : k < n) (zs : List Value) (hz : zs.length = 3) :
    (setsL (setsL (flat enc3 l) (k * 3) (flat enc3 (l.drop (k + 1)))) ((n - 1) * 3) zs).take ((n - 1) * 3) = flat enc3 (l.eraseIdx k) := by
  have e1 : (flat enc3 l).length = n * 3 := by rw [flat_len enc3_len, hl]
  have e2 : (flat enc3 (l.drop (k + 1))).length = (n - (k + 1)) * 3 := by rw [flat_len enc3_len, List.length_drop, hl]
  rw [setsL_eq zs _ _ (by rw [setsL_len, e1]; omega), setsL_eq (flat enc3 (l.drop (k + 1))) _ _ (by rw [e1, e2]; omega)]
  have q1 : ((flat enc3 l).take (k * 3)).length = k * 3 := by rw [List.length_take, e1]; omega
  have q2 : ((flat enc3 l).take (k * 3) ++ flat enc3 (l.drop (k + 1))).length = (n - 1) * 3 := by rw [List.length_append, q1, e2]; omega
  rw [List.append_assoc (List.take ((n - 1) * 3) _), List.take_append_of_le_length (by rw [List.length_take, List.length_append, q2]; omega), List.take_take, Nat.min_self]
  rw [List.take_append_of_le_length (by rw [q2]; omega), List.take_of_length_le (by rw [q2]; omega)]
  rw [flat_take enc3_len, ← flat_append, List.eraseIdx_eq_take_drop_succ]

set_option maxHeartbeats 4000000 in
set_option maxRecDepth 100000 in
theorem delete_j (A : Option Addr) (n c base k j : Nat) (hj1 : k < j) (hj2 : j < k + 2) (l : List Sx) (w : World) (h : w.ownsRow base 43 3 (.slice A n c) n (flat enc3 l)) (hl : l.length = n) (hk : k < n) :
    Calls Tryz.prog 44 #[.slice A n c, .int .i64 k, .int .i64 j] w fun e w' => e = .returned (.slice A (n - 1) c) ∧ w'.ownsRow base 43 3 (.slice A (n - 1) c) (n - 1) (flat enc3 (l.eraseIdx k)) ∧ w.grownBy w' (Value.slice A n c).ownBlock := by
  have hj3 : j = k + 1 := by omega
  have mixed : Tryz.prog.follows .mixedOrders = true := by kernel_rfl
  obtain ⟨i0, hi, hz0, hz1, hz2⟩ := info_parts info_slot
  have hrs := Rs.own_rs enc3_len hl h
  obtain ⟨g, rfl⟩ : ∃ g, A = some ⟨g, 0, none⟩ := by
    rcases h.2 with ⟨h', _⟩ | ⟨g, cap, cur, h', _⟩
    · injection h' with _ h2 _; omega
    · injection h' with h1 _ _; exact ⟨g, h1⟩
  have hnc := hrs.cap
  have hcm := hrs.top
  have hgl := (h.lt g rfl).2
  obtain ⟨news, hnews⟩ : ∃ news, news = flat enc3 (l.drop (k + 1)) := ⟨_, rfl⟩
  have hlen : news.length = (n - (k + 1)) * 3 := by rw [hnews, flat_len enc3_len, List.length_drop, hl]
  have hcells : ∀ j, j < n * 3 → (w.cell? ⟨g, j, none⟩).isSome = true := by
    intro j hj
    rw [h.cellAt j hj, List.getElem?_eq_getElem (by rw [h.1]; exact hj)]
    rfl
  obtain ⟨ad, hA, hsrc⟩ : ∃ ad : Addr, (if c = j then (some (⟨g, 0, none⟩ : Addr)) else some ⟨g, j * 3, none⟩) = some ad ∧ Hid (∀ t u, news[t]? = some u → w.drew.cell? (ad.add t) = some u) := by
    by_cases hc : c = j
    · refine ⟨⟨g, 0, none⟩, by simp [hc], fun t u hu => ?_⟩
      have h0 : news.length = 0 := by rw [hlen]; omega
      rw [List.length_eq_zero_iff.1 h0] at hu
      simp at hu
    · refine ⟨⟨g, j * 3, none⟩, by simp [hc], fun t u hu => ?_⟩
      have ht := (List.getElem?_eq_some_iff.1 hu).1
      rw [hlen] at ht
      rw [Addr.add_lit, World.cell?_drew, hj3, h.cellAt _ (by omega), ← hu, hnews, ← flat_drop enc3_len, List.getElem?_drop]
  have s1 : Hid (news.length = (n - j) * 3) := by rw [hj3]; exact hlen
  have s2 : Hid (∀ u ∈ news, u.oneCell' = true) := by
    intro u hu
    rw [hnews] at hu
    obtain ⟨x, _, hx⟩ := List.mem_flatMap.1 hu
    exact enc3_one x u hx
  have s3 : Hid (∀ t, t < news.length → (w.drew.cell? ⟨g, 0 + k * 3 + t, none⟩).isSome = true ∧ w.drew.frozen? ⟨g, 0 + k * 3 + t, none⟩ = false) := by
    intro t ht
    rw [hlen] at ht
    exact ⟨hcells _ (by omega), h.frozenAt _⟩
  obtain ⟨W1, hW1⟩ : ∃ W1, W1 = w.drew.setCells g (0 + k * 3) news := ⟨_, rfl⟩
  obtain ⟨ho1, hg1⟩ := own_sets (w := w.drew) news (0 + k * 3) h.drew
  rw [← hW1] at ho1 hg1
  obtain ⟨zs, hzl, hcl⟩ := run_clear_any (P := Tryz.prog) W1 50 43 0 _ 3 Tryz.underlying50 zero_slot (by intro u hu; simp [Value.cells] at hu; rcases hu with rfl | rfl | rfl <;> rfl) rfl g ((n - 1) * 3) 1 (c - (n - 1)) (by omega)
    (fun j hj => by rw [ho1.cellAt _ (by omega), List.getElem?_eq_getElem (by rw [ho1.1]; omega)]; rfl) (fun j hj => ho1.frozenAt _)
  obtain ⟨ho2, hg2⟩ := own_sets (w := W1) zs ((n - 1) * 3) ho1
  have hfin := own_front ho2 (show n - 1 ≤ n by omega)
  rw [Nat.zero_add, hnews, delete_list l k n hl hk zs (by rw [hzl])] at hfin
  have hgw : w.grownBy (W1.setCells g ((n - 1) * 3) zs) (some g) := ⟨hg2.os.trans hg1.os, hg2.tape.trans hg1.tape, hg2.output.trans hg1.output, Nat.le_trans hg1.size hg2.size, fun q hq hne => (hg2.block q (Nat.lt_of_lt_of_le hq hg1.size) hne).trans (hg1.block q hq hne)⟩
  have HF := Lib.hid hfin
  have HG := Lib.hid hgw
  have hcl2 : (Builtin.clear_ #[50] 0 #[.slice (some ⟨g, (n - 1) * 3, none⟩) (n - (n - 1)) (c - (n - 1))]).run Tryz.prog W1 = .ok (.tuple #[]) (W1.setCells g ((n - 1) * 3) zs) := by rw [show n - (n - 1) = 1 by omega]; exact hcl
  have hW : Hid (W1 = w.drew.setCells g (0 + k * 3) news) := hW1
  have hkc : k ≤ c := by omega
  have hk1c : j ≤ c := by omega
  have hjn : j ≤ n := by omega
  have hkn : k + (n - j) = n - 1 := by omega
  clear h hrs hcells hnews hlen hW1 ho1 hg1 hcl ho2 hg2 hfin hgw hl hzl hj3
  go_enter Tryz.func44, Tryz.ntmps44
  go_wp2_with fail
  go_region_law_o (refine step_append_room rfl (.tmp 22) (.tmp 25) 50 rfl 43 i0 3 Tryz.underlying50 hi hz1 g 0 k c (by simp [Act.eval, Act.put]) ad (n - j) (c - j) news (by simp [Act.eval, Act.put]) s1.out hsrc.out s2.out (by omega) s3.out ?_; rw [← hW.out])
  go_wp2_with fail
  go_ret
  exact ⟨rfl, HF.out, HG.out⟩
end Go.Proofs.YtbedboekfkobjaaGreatDoor.St
