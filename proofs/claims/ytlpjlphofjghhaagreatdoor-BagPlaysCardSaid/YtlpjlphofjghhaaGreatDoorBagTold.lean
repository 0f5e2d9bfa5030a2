/- What a bag and the document's tell (layer 15). -/
import Derived.Test.YtlpjlphofjghhaaGreatDoorBagRefE
import Derived.Test.YtlpjlphofjghhaaGreatDoorIterU
import Derived.Test.YtlpjlphofjghhaaGreatDoorBase1
namespace Go.Proofs.YtlpjlphofjghhaaGreatDoor.Ba
open Go.ChangeShapes Go.WideShapes Go.ChangeAt Go.RowKit Go.Maps Rw Hi Mt
set_option linter.unusedVariables false

theorem info_u64t : (Tryz.prog.info? 30).map (fun i => (i.zero, i.size, i.bytes)) = some (some (.int .u64 0), 1, 8) := by kernel_rfl
/-- Five cells of a block. -/
def F5 (w : World) (g : Nat) (x wd bo si pr : Int) : Prop := w.cell? ⟨g, 0, none⟩ = some (.int .u64 x) ∧ w.cell? ⟨g, 1, none⟩ = some (.int .u64 wd) ∧ w.cell? ⟨g, 2, none⟩ = some (.int .u64 bo) ∧ w.cell? ⟨g, 3, none⟩ = some (.int .u64 si) ∧ w.cell? ⟨g, 4, none⟩ = some (.int .u64 pr)
theorem F5.same {w w' : World} {g : Nat} {x wd bo si pr : Int} (h : F5 w g x wd bo si pr) (hk : w'.heap[g]? = w.heap[g]?) : F5 w' g x wd bo si pr := by
  obtain ⟨h0, h1, h2, h3, h4⟩ := h
  exact ⟨(World.cell?_of_block (a := ⟨g, 0, none⟩) hk).trans h0, (World.cell?_of_block (a := ⟨g, 1, none⟩) hk).trans h1, (World.cell?_of_block (a := ⟨g, 2, none⟩) hk).trans h2, (World.cell?_of_block (a := ⟨g, 3, none⟩) hk).trans h3, (World.cell?_of_block (a := ⟨g, 4, none⟩) hk).trans h4⟩
theorem F5.new (w : World) (t : TypeId) (x wd bo si pr : Int) : F5 (w.alloc (.cells #[.int .u64 x, .int .u64 wd, .int .u64 bo, .int .u64 si, .int .u64 pr] t)) w.heap.size x wd bo si pr := by
  refine ⟨?_, ?_, ?_, ?_, ?_⟩ <;> go_simp
theorem F5.lt {w : World} {g : Nat} {x wd bo si pr : Int} (h : F5 w g x wd bo si pr) : g < w.heap.size := Lw.lt_heap h.1
theorem same15_any (A A' : Option Addr) (n c c' : Nat) (xs : List Int) (B B' : Nat) (w : World) (h : Rd (Value.int .u64) w B A n c xs) (h' : Rd (Value.int .u64) w B' A' n c' xs) :
    Calls Tryz.prog 60 #[.slice A n c, .slice A' n c'] w fun e w' => e = .returned (.bool true) ∧ Below w.heap.size w w' :=
  (Sl.equal_any A A' n c n c' xs xs B B' w h h').mono fun e w' ⟨h1, q, h2⟩ => ⟨by rw [h1, decide_eq_true rfl], h2 ▸ Rw.below_drewN (Below.refl _ _) q⟩
theorem ris_nd {β : Type} {D : List (Int × β)} (h : Ris D) : Nd D := h.nd
section
variable {C R K : Nat → Prop} (A A2 : Option Addr) (n c n2 c2 p a : Nat) (D : List (Int × Ex)) (S : List Int) (w : World)
set_option maxRecDepth 100000 in
set_option maxHeartbeats 2000000 in
theorem told15_any (h : Bx C R w p a D S) (hd : Dq K w ⟨A, n, c, A2, n2, c2⟩ D S) (hn : n ≤ 200) (hn2 : n2 ≤ 1000) :
    Calls Tryz.prog 20 #[ptr p, .agg #[.slice A n c, .slice A2 n2 c2]] w fun e w' => e = .returned (.bool true) ∧ Below w.heap.size w w' := by
  obtain ⟨i0, hi, hz0, hz1, hz2⟩ := info_parts info_u64t
  have HB := Lib.hid h
  have HD := Lib.hid hd
  have HND : Hid (Nd D) := Lib.hid h.ri.nd
  have HUI := Lib.hid h.ui
  have HDL : Hid (D.length = n) := Lib.hid hd.l.len
  have HSL : Hid (S.length = n2) := Lib.hid hd.s.len
  have B0 : Hid (Below w.heap.size w (w.alloc (.cells #[.slice A n c, .slice A2 n2 c2] 29))) := Lib.hid ((Below.refl _ _).alloc (Nat.le_refl _) _)
  have V0 : Hid (Vb (w.alloc (.cells #[.slice A n c, .slice A2 n2 c2] 29)) w.heap.size (.slice A n c) (.slice A2 n2 c2)) := Lib.hid ⟨⟨by go_simp, by go_simp⟩, by go_simp, by go_simp⟩
  have HS0 : Hid ((w.alloc (.cells #[.slice A n c, .slice A2 n2 c2] 29)).heap.size = w.heap.size + 1) := Lib.hid (by simp)
  clear h hd
  go_enter Tryz.func20, Tryz.ntmps20
  go_upto_region 1 with (fail)
  generalize (w.alloc (.cells #[.slice A n c, .slice A2 n2 c2] 29)) = W0 at *
  obtain ⟨⟨f0, f1⟩, g0, g1⟩ := V0.out
  have hs0 : w.heap.size + 1 ≤ W0.heap.size := by have := HS0.out; omega
  clear HS0
  go_wp2_with fail
  go_loopw [5, 16] (fun v i wr => ∃ (k c' : Nat) (A' : Option Addr), k ≤ n ∧ i = .int .i64 k ∧ v = .slice A' k c' ∧
      Hid (wr.ownsRow (w.heap.size + 1) 30 1 (.slice A' k c') k ((D.take k).map (fun q => .int .u64 q.1))) ∧ Hid (Below (w.heap.size + 1) W0 wr) ∧ w.heap.size + 1 ≤ wr.heap.size) (fun _ i _ => n - (intOf i).toNat)
  case atStart => exact ⟨0, 0, none, Nat.zero_le _, rfl, rfl, World.ownsRow_nil _ _ _ _, Below.refl _ _, hs0⟩
  case round =>
    obtain ⟨k, c', A', hk, rfl, rfl, HROW, HBR, hsz⟩ := hrel
    have HBW := Lib.hid (B0.out.trans (HBR.out.mono (by omega)))
    by_cases hlt : k < n
    · obtain ⟨b, o, x, wd, bo, si, pr, rfl, hb, ha, c0, c1, c2', c3', c4'⟩ := five_at HD.out.l hlt
      have d0 := (HBW.out.cell (p := ⟨b, o + k * 5, none⟩) (by simp only; omega)).trans c0
      have d1 := (HBW.out.cell (p := ⟨b, o + k * 5 + 1, none⟩) (by simp only; omega)).trans c1
      have d2 := (HBW.out.cell (p := ⟨b, o + k * 5 + 2, none⟩) (by simp only; omega)).trans c2'
      have d3 := (HBW.out.cell (p := ⟨b, o + k * 5 + 3, none⟩) (by simp only; omega)).trans c3'
      have d4 := (HBW.out.cell (p := ⟨b, o + k * 5 + 4, none⟩) (by simp only; omega)).trans c4'
      have hkc : k < c := by have := HD.out.l.cap; have : n ≤ c := this; omega
      have HAA : Hid (D.take (k + 1) = D.take k ++ [(x, ⟨wd, bo, si, pr⟩)]) := Lib.hid (by
        obtain ⟨hl, e⟩ := List.getElem?_eq_some_iff.1 ha
        rw [List.take_succ_eq_append_getElem hl, e])
      have HFN : Hid (fnd D x = some ⟨wd, bo, si, pr⟩) := Lib.hid (fnd_mem HND.out (List.mem_of_getElem? ha))
      have HUX : Hid (U64 x) := Lib.hid (HUI.out _ (List.mem_of_getElem? ha)).1
      clear c0 c1 c2' c3' c4' ha
      go_upto_region 5 with (fail)
      have X5 := Lib.hid (F5.new wr 124 x wd bo si pr)
      have HROW5 := Lib.hid (HROW.out.alloc (.cells #[.int .u64 x, .int .u64 wd, .int .u64 bo, .int .u64 si, .int .u64 pr] 124))
      have B5 := Lib.hid (HBR.out.alloc hsz (.cells #[.int .u64 x, .int .u64 wd, .int .u64 bo, .int .u64 si, .int .u64 pr] 124))
      have HNB : Hid (∀ g, (Value.slice A' k c').ownBlock = some g → g < wr.heap.size) := Lib.hid (fun g e => (HROW.out.lt g e).2)
      have hs5 : (wr.alloc (.cells #[.int .u64 x, .int .u64 wd, .int .u64 bo, .int .u64 si, .int .u64 pr] 124)).heap.size = wr.heap.size + 1 := by simp
      clear d0 d1 d2 d3 d4 HROW HBR
      generalize (wr.alloc (.cells #[.int .u64 x, .int .u64 wd, .int .u64 bo, .int .u64 si, .int .u64 pr] 124)) = W5 at *
      generalize wr.heap.size = r at *
      have hs5' : r + 1 ≤ W5.heap.size := by omega
      clear hs5
      obtain ⟨x0, x1, x2, x3, x4⟩ := X5.out
      have HRD := Lib.hid (rd_one (enc := Value.int .u64) W5 x 30)
      have HROW2 := Lib.hid (HROW5.out.alloc (.cells #[.int .u64 x] 30))
      have B5a := Lib.hid (B5.out.alloc (by omega) (.cells #[.int .u64 x] 30))
      have HMP : Hid ((D.take k).map (fun q => Value.int .u64 q.1) ++ [x].map (Value.int .u64) = (D.take (k + 1)).map (fun q => Value.int .u64 q.1)) := Lib.hid (by rw [HAA.out]; simp)
      clear HROW5 B5
      go_wp2_with (
        at_builtin
        go_loud (refine append_rd _ rfl _ _ 27 rfl (w.heap.size + 1) 30 i0 (.int .u64 0) 8 Tryz.underlying27 hi hz0 hz1 hz2 rfl (.slice A' k c') k ((D.take k).map (fun q => Value.int .u64 q.1)) rfl HROW2.out _ _ 1 1 [x] rfl HRD.out (fun _ => rfl) (k + 1) rfl _ HMP.out (by unfold maxLen; omega) (by omega) (by simp; omega) ?_)
        go_loud (intro A6 c6 w6 hrow6 hg6 hat6)
        go_loud (have HROW6 := Lib.hid hrow6)
        go_loud (have B6 := Lib.hid (B5a.out.grown hg6 (by simp; omega) (fun j hj => (HROW2.out.lt j hj).1)))
        go_loud (have X6 : Hid (F5 w6 r x wd bo si pr) := Lib.hid (X5.out.same ((hg6.block r (by simp; omega) (fun e => by have := HNB.out r e.symm; omega)).trans (Below.heap_alloc _ _ r X5.out.lt))))
        go_loud (have hs6 : r + 1 ≤ w6.heap.size := by have := hg6.size; simp at this; omega)
        clear hrow6 hg6 hat6 x0 x1 x2 x3 x4
        obtain ⟨x0, x1, x2, x3, x4⟩ := X6.out)
      clear X5 HROW2 B5a HRD HNB HMP hs5'
      have HB6 := Lib.hid (B0.out.trans (B6.out.mono (by omega)))
      have hE := entry_any w6 p a D S x (HB.out.later HB6.out) HUX.out
      have hbe : bE D x = .agg #[.int .u64 x, .int .u64 wd, .int .u64 bo, .int .u64 si, .int .u64 pr] := by unfold bE; rw [HFN.out]
      have his : (fnd D x).isSome = true := by rw [HFN.out]; rfl
      have hbw : bW D x = wd := by unfold bW; rw [HFN.out]; rfl
      rw [hbe, his] at hE
      have HIS := Lib.hid his
      have HBWX := Lib.hid hbw
      have HE := Lib.hid hE
      clear hE hbe his hbw
      go_wp2_with fail
      refine HE.out.mono ?_
      rintro e w7 ⟨rfl, hb7⟩
      have B7 := Lib.hid (B6.out.trans (hb7.mono (by omega)))
      have HB7 := Lib.hid (HB6.out.trans (hb7.mono (by omega)))
      have HROW7 := Lib.hid (Hi.own_same HROW6.out (fun g' hg' => hb7.block g' (HROW6.out.lt g' hg').2))
      have X7 := Lib.hid (X6.out.same (hb7.block r (by omega)))
      have hs7 : r + 1 ≤ w7.heap.size := by have := hb7.size; omega
      clear hb7 x0 x1 x2 x3 x4 HE HROW6 X6 B6 HB6
      go_upto_region 7 with (fail)
      have Y8 := Lib.hid (F5.new w7 49 x wd bo si pr)
      have X8 := Lib.hid (X7.out.same (Below.heap_alloc w7 (.cells #[.int .u64 x, .int .u64 wd, .int .u64 bo, .int .u64 si, .int .u64 pr] 49) r X7.out.lt))
      have HROW8 := Lib.hid (HROW7.out.alloc (.cells #[.int .u64 x, .int .u64 wd, .int .u64 bo, .int .u64 si, .int .u64 pr] 49))
      have B8 := Lib.hid (B7.out.alloc (by omega) (.cells #[.int .u64 x, .int .u64 wd, .int .u64 bo, .int .u64 si, .int .u64 pr] 49))
      have hs8 : (w7.alloc (.cells #[.int .u64 x, .int .u64 wd, .int .u64 bo, .int .u64 si, .int .u64 pr] 49)).heap.size = w7.heap.size + 1 := by simp
      clear B7 HB7 HROW7 X7
      generalize (w7.alloc (.cells #[.int .u64 x, .int .u64 wd, .int .u64 bo, .int .u64 si, .int .u64 pr] 49)) = W8 at *
      generalize w7.heap.size = y at *
      have hs8' : w.heap.size + 1 ≤ W8.heap.size := by omega
      clear hs8 hs7
      have HB8 := Lib.hid (B0.out.trans (B8.out.mono (by omega)))
      have hL := load_any W8 p a D S x (HB.out.later HB8.out) HUX.out
      rw [HBWX.out, HIS.out] at hL
      have HL := Lib.hid hL
      obtain ⟨x0, x1, x2, x3, x4⟩ := X8.out
      obtain ⟨y0, y1, y2, y3, y4⟩ := Y8.out
      clear hL
      go_wp2_with fail
      refine HL.out.mono ?_
      rintro e w9 ⟨rfl, rfl⟩
      have q1 : (wd != wd) = false := by simp
      clear HL HIS HBWX X8 Y8 HB8
      go_wp2_with fail
      go_roundw
      case rel => exact ⟨k + 1, c6, A6, by omega, by go_num, rfl, HROW8, B8, hs8'⟩
      case measure => simp [intOf]; omega
    · obtain rfl : k = n := by omega
      have HRD : Hid (Rd (Value.int .u64) wr wr.heap.size A' k c' (D.map Prod.fst)) := Lib.hid (by
        have h1 := HROW.out
        rw [List.take_of_length_le (by have := HDL.out; omega), show D.map (fun q => Value.int .u64 q.1) = (D.map Prod.fst).map (Value.int .u64) by simp] at h1
        exact Rd.own_rd h1)
      have V9 : Hid (Vb wr w.heap.size (.slice A k c) (.slice A2 n2 c2)) := Lib.hid (V0.out.below HBR.out (by omega))
      clear HROW HBR hs0 f0 f1 g0 g1
      generalize wr = W9 at *
      have hcnt : ∀ s : Int, (cnt D s != cnt D s) = false := fun s => by simp
      have HU0 : Hid (∀ q ∈ D, 0 ≤ q.2.word) := Lib.hid (fun q hq => (HUI.out q hq).2.1.1)
      go_wp2_with fail
      go_loopw [67] (fun i wr => ∃ s : Nat, s ≤ 4 ∧ i = .int .i64 s ∧ Hid (Below W9.heap.size W9 wr)) (fun i _ => 4 - (intOf i).toNat)
      case atStart => exact ⟨0, by omega, rfl, Below.refl _ _⟩
      case round =>
        obtain ⟨s, hs4, rfl, HBS⟩ := hrel
        have hszs := HBS.out.size
        have HBX : ∀ x : After wr, Below w.heap.size w x.1 := fun x => HBW.out.trans ((HBS.out.mono (by omega)).trans (x.2.mono (by omega)))
        by_cases hlt2 : s < 4
        · have q2 : decide ((s : Int) < 4) = true := decide_eq_true (by omega)
          have q3 := hcnt s
          have HC1 : ∀ x : After wr, Bx C R x.1 p a D S := fun x => HB.out.later (HBX x)
          have HC2 : ∀ x : After wr, Rb x.1 w.heap.size A k c D := fun x => HD.out.l.below (HBX x)
          have HC3 : ∀ x : After wr, w.heap.size ≤ x.1.heap.size := fun x => (HBX x).size
          have V10 := V9.out.below HBS.out (by omega)
          have hc0 : ∀ x : After wr, x.1.cell? ⟨w.heap.size, 0, none⟩ = some (.slice A k c) := fun x => x.cell V10.1.1
          have hc1 : ∀ x : After wr, x.1.cell? ⟨w.heap.size, 1, none⟩ = some (.slice A2 n2 c2) := fun x => x.cell V10.1.2
          have hdl : D.length ≤ 1000 := by have := HDL.out; omega
          have HLT := Lib.hid hlt2
          clear hlt2 hcnt
          go_upto_region 14 with (fail)
          refine region_after (by kernel_rfl) (by kernel_rfl) ?_
          repeat (go_big_quiet_step (first
            | (go_at_call 42; exact After.call (count_any _ p a D S (HC1 _) s hdl))
            | (go_at_call 59; exact After.call (rcount_any A A2 k c n2 c2 w.heap.size D _ s (HC2 _) HU0.out (HC3 _) (by omega)))))
          refine wpQuiet_nil ?_
          rintro W2 ⟨⟨_, hb2⟩, rfl⟩
          have HBS2 := Lib.hid (HBS.out.trans (hb2.mono hszs))
          clear hb2 HC1 HC2 HC3 hc0 hc1 V10 HBX HBS
          go_wp2_with fail
          go_roundw
          case rel => exact ⟨s + 1, by have := HLT.out; omega, by go_num, HBS2⟩
          case measure => (simp [intOf]; have := HLT.out; omega)
        · -- LAST
          have HBW10 : Hid (Below w.heap.size w wr) := Lib.hid (HBW.out.trans (HBS.out.mono (by omega)))
          have HBW9 := Lib.hid (HB.out.later HBW10.out)
          have HRDW := Lib.hid (HRD.out.below HBS.out |>.more hszs)
          have HVW := Lib.hid (V9.out.below HBS.out (by omega))
          have HSW := Lib.hid (HD.out.later HBW10.out).s
          have HGW : Hid (w.heap.size < wr.heap.size) := Lib.hid (by omega)
          have HNS := Lib.hid HB.out.nd
          have HUS := Lib.hid HB.out.us
          obtain rfl : s = 4 := by omega
          clear HBX hcnt HBS
          go_upto_region 17 with (fail)
          refine reg_start 13 (fun w' => Below wr.heap.size wr w') (by kernel_rfl) (by kernel_rfl) ?_
          intro hTT
          have HTT := Lib.hid hTT
          clear hTT
          have HS := Lib.hid ((Below.refl wr.heap.size wr).drew)
          refine reg_load 0 HTT.out rfl (by kernel_rfl) (by decide) (fun _ _ _ _ h => h) HS.out rfl ?_
          apply Exists.intro
          refine ⟨fun w' hw => by (go_simp; exact rfl), ?_⟩
          refine reg_load 2 HTT.out rfl (by kernel_rfl) (by decide) (fun _ _ _ _ h => h) HS.out rfl ?_
          apply Exists.intro
          refine ⟨fun w' hw => by (go_simp; exact rfl), ?_⟩
          refine reg_only 1 rfl (by kernel_rfl) rfl ?_
          unfold Oper.wp
          go_simp
          refine (Iu.ids_any _ p a D S (HBW9.out.later HS.out) (by have := HDL.out; omega)).mono ?_
          rintro e w10 ⟨A10, c10, rfl, hr10, hb10⟩
          rw [HDL.out] at hr10 ⊢
          have HS' := Lib.hid (HS.out.trans (hb10.mono HS.out.size))
          have R10 := Lib.hid hr10
          clear hb10 hr10
          clear HS
          have HS := HS'
          clear HS'
          refine ⟨HS.out, ?_⟩
          refine reg_only 3 rfl (by kernel_rfl) rfl ?_
          unfold Oper.wp
          go_simp
          refine (same15_any A10 A' k c10 c' _ _ _ _ R10.out (HRDW.out.below HS.out)).mono ?_
          rintro e w11 ⟨rfl, hb11⟩
          have HS' := Lib.hid (HS.out.trans (hb11.mono HS.out.size))
          clear hb11 R10
          clear HS
          have HS := HS'
          clear HS'
          refine ⟨HS.out, ?_⟩
          refine reg_load 4 HTT.out rfl (by kernel_rfl) (by decide) (fun _ _ _ _ h => h) HS.out rfl ?_
          apply Exists.intro
          refine ⟨fun w' hw => by (go_simp; exact rfl), ?_⟩
          refine reg_load 5 HTT.out rfl (by kernel_rfl) (by decide) (fun _ _ _ _ h => h) HS.out (wanted_yes (g := 4) (p := true) (d := 82) rfl (by kernel_rfl) (at_eq ((Nat.lt_of_lt_of_eq (m := 90) (by decide) rfl)))) ?_
          apply Exists.intro
          refine ⟨fun w' hw => by (go_simp; exact rfl), ?_⟩
          refine reg_load 8 HTT.out rfl (by kernel_rfl) (by decide) (fun _ _ _ _ h => h) HS.out (wanted_yes (g := 4) (p := true) (d := 82) rfl (by kernel_rfl) (at_ne (by decide) (at_eq ((Nat.lt_of_lt_of_eq (m := 90) (by decide) rfl))))) ?_
          apply Exists.intro
          refine ⟨fun w' hw => by (go_simp; exact rfl), ?_⟩
          refine reg_load 9 HTT.out rfl (by kernel_rfl) (by decide) (fun _ _ _ _ h => h) HS.out (wanted_yes (g := 4) (p := true) (d := 82) rfl (by kernel_rfl) (at_ne (by decide) (at_ne (by decide) (at_eq ((Nat.lt_of_lt_of_eq (m := 90) (by decide) rfl)))))) ?_
          apply Exists.intro
          refine ⟨fun w' hw => by (have k1 := (hw.cell (p := ⟨w.heap.size, 1, none⟩) HGW.out).trans HVW.out.1.2; go_simp; exact rfl), ?_⟩
          refine reg_only 6 rfl (by kernel_rfl) (wanted_yes (g := 4) (p := true) (d := 82) rfl (by kernel_rfl) (at_ne (by decide) (at_ne (by decide) (at_ne (by decide) (at_eq ((Nat.lt_of_lt_of_eq (m := 90) (by decide) rfl))))))) ?_
          unfold Oper.wp
          go_simp
          refine (blist_any _ p a D S (HBW9.out.later HS.out)).mono ?_
          rintro e w12 ⟨A12, n12, c12, rfl, hr12, hb12⟩
          have HS' := Lib.hid (HS.out.trans (hb12.mono HS.out.size))
          have R12 := Lib.hid (hr12.later hb12)
          clear hb12 hr12
          clear HS
          have HS := HS'
          clear HS'
          refine ⟨HS.out, ?_⟩
          refine reg_only 7 rfl (by kernel_rfl) (wanted_yes (g := 4) (p := true) (d := 82) rfl (by kernel_rfl) (rfl)) ?_
          unfold Oper.wp
          go_simp
          refine (Sn.all_any (.agg #[.slice A12 n12 c12]) S _ ⟨⟨A12, n12, c12, rfl, R12.out⟩, HNS.out, HUS.out⟩ (by have := HSL.out; omega)).mono ?_
          rintro e w13 ⟨A13, c13, rfl, ho13, hb13⟩
          rw [HSL.out] at ho13 ⊢
          have HS' := Lib.hid (HS.out.trans (hb13.mono HS.out.size))
          have R13 := Lib.hid (Rd.own_rd ho13)
          clear hb13 ho13 R12
          clear HS
          have HS := HS'
          clear HS'
          refine ⟨HS.out, ?_⟩
          refine reg_only 10 rfl (by kernel_rfl) (wanted_yes (g := 4) (p := true) (d := 82) rfl (by kernel_rfl) (rfl)) ?_
          unfold Oper.wp
          go_simp
          refine (same15_any A13 A2 n2 c13 c2 _ _ _ _ R13.out (HSW.out.later HS.out)).mono ?_
          rintro e w14 ⟨rfl, hb14⟩
          have HS' := Lib.hid (HS.out.trans (hb14.mono HS.out.size))
          clear hb14 R13
          clear HS
          have HS := HS'
          clear HS'
          refine ⟨HS.out, ?_⟩
          refine reg_load 11 HTT.out rfl (by kernel_rfl) (by decide) (fun _ _ _ _ h => h) HS.out rfl ?_
          apply Exists.intro
          refine ⟨fun w' hw => by (go_simp; exact rfl), ?_⟩
          refine reg_load 12 HTT.out rfl (by kernel_rfl) (by decide) (fun _ _ _ _ h => h) HS.out rfl ?_
          apply Exists.intro
          refine ⟨fun w' hw => by (go_simp; exact rfl), ?_⟩
          refine reg_done (by kernel_rfl) ?_
          have HZ := Lib.hid (HBW10.out.trans (HS.out.mono HBW10.out.size))
          clear HS
          go_wp2_with fail
          go_ret
          exact ⟨rfl, HZ.out⟩
end
end Go.Proofs.YtlpjlphofjghhaaGreatDoor.Ba
