/- The walk of hackneylaw02.CellSwaps. -/
import Derived.Test.YtgojnkkimpjemaaCell
import Derived.Test.YtgojnkkimpjemaaWordRef
import Derived.Test.YtgojnkkimpjemaaLaw
namespace Go.Proofs.Ytgojnkkimpjemaa.Wd
open Go.ChangeShapes Go.WideShapes Go.ChangeAt Go.RowKit
set_option linter.unusedVariables false

theorem rswap_any (v o t : Int) (w : World) (o0 : 0 ≤ o) (o1 : o ≤ 18446744073709551615) (t0 : -9223372036854775808 ≤ t) (t1 : t ≤ 9223372036854775807) :
    Calls Try.prog 25 #[.int .u64 v, .int .u64 o, .int .i64 t] w fun e w' => e = .returned (.tuple #[.int .u64 (wSwap v o t), .bool (wSwapOk v o t)]) ∧ w = w' := by
  cases hm : wMay (o % 4) t
  · have H := Lib.hid hm
    have e1 := Lib.hid (show wSwap v o t = v by simp [wSwap, hm])
    have e2 := Lib.hid (show wSwapOk v o t = false by simp [wSwapOk, hm])
    clear hm
    rw [e1.out, e2.out]
    by_cases hv : v = o
    · have hb : (v != o) = false := by simpa using hv
      clear hv
      go_enter Try.func25, Try.ntmps25
      go_wp2_with fail
      refine (rto_any _ _ _ o0 o1 t0 t1).mono ?_
      rintro e w' ⟨rfl, rfl⟩
      rw [H.out]
      go_wp2_with fail
      go_ret2
      exact ⟨rfl, rfl⟩
    · have hb : (v != o) = true := by simpa using hv
      clear hv
      go_enter Try.func25, Try.ntmps25
      go_wp2_with fail
      refine (rto_any _ _ _ o0 o1 t0 t1).mono ?_
      rintro e w' ⟨rfl, rfl⟩
      go_wp2_with fail
      go_ret2
      exact ⟨rfl, rfl⟩
  · have H := Lib.hid hm
    by_cases hv : v = o
    · have hb : (v != o) = false := by simpa using hv
      have e1 := Lib.hid (show wSwap v o t = wTo o t by simp [wSwap, hm, hv])
      have e2 := Lib.hid (show wSwapOk v o t = true by simp [wSwapOk, hm, hv])
      clear hm hv
      rw [e1.out, e2.out]
      go_enter Try.func25, Try.ntmps25
      go_wp2_with fail
      refine (rto_any _ _ _ o0 o1 t0 t1).mono ?_
      rintro e w' ⟨rfl, rfl⟩
      rw [H.out]
      go_wp2_with fail
      go_ret2
      exact ⟨rfl, rfl⟩
    · have hb : (v != o) = true := by simpa using hv
      have e1 := Lib.hid (show wSwap v o t = v by simp [wSwap, hv])
      have e2 := Lib.hid (show wSwapOk v o t = false by simp [wSwapOk, hv])
      clear hv hm
      rw [e1.out, e2.out]
      go_enter Try.func25, Try.ntmps25
      go_wp2_with fail
      refine (rto_any _ _ _ o0 o1 t0 t1).mono ?_
      rintro e w' ⟨rfl, rfl⟩
      go_wp2_with fail
      go_ret2
      exact ⟨rfl, rfl⟩

theorem block_lt {w : World} {a : Addr} {v : Value} (h : w.cell? a = some v) : a.block < w.heap.size := by
  unfold World.cell? at h
  cases hb : w.heap[a.block]? with
  | none => rw [hb] at h; cases h
  | some o => exact (Array.getElem?_eq_some_iff.1 hb).1

theorem two_new (wr : World) (b : Nat) (x o s : Int) (l c : Bool) (T U : TypeId) (hx : wr.cell? ⟨b, 0, none⟩ = some (.int .u64 x)) (hf : wr.frozen? ⟨b, 0, none⟩ = false) :
    ((wr.alloc (.cells #[.int .u64 o, .int .i64 s, .bool l, .bool c] T)).alloc (.cells #[.int .u64 x] U)).cell? ⟨b, 0, none⟩ = some (.int .u64 x) ∧
    ((wr.alloc (.cells #[.int .u64 o, .int .i64 s, .bool l, .bool c] T)).alloc (.cells #[.int .u64 x] U)).frozen? ⟨b, 0, none⟩ = false ∧
    ((wr.alloc (.cells #[.int .u64 o, .int .i64 s, .bool l, .bool c] T)).alloc (.cells #[.int .u64 x] U)).cell? ⟨wr.heap.size + 1, 0, none⟩ = some (.int .u64 x) ∧
    ((wr.alloc (.cells #[.int .u64 o, .int .i64 s, .bool l, .bool c] T)).alloc (.cells #[.int .u64 x] U)).frozen? ⟨wr.heap.size + 1, 0, none⟩ = false ∧
    ((wr.alloc (.cells #[.int .u64 o, .int .i64 s, .bool l, .bool c] T)).alloc (.cells #[.int .u64 x] U)).cell? ⟨wr.heap.size, 0, none⟩ = some (.int .u64 o) ∧
    ((wr.alloc (.cells #[.int .u64 o, .int .i64 s, .bool l, .bool c] T)).alloc (.cells #[.int .u64 x] U)).cell? ⟨wr.heap.size, 1, none⟩ = some (.int .i64 s) ∧
    ((wr.alloc (.cells #[.int .u64 o, .int .i64 s, .bool l, .bool c] T)).alloc (.cells #[.int .u64 x] U)).cell? ⟨wr.heap.size, 2, none⟩ = some (.bool l) ∧
    ((wr.alloc (.cells #[.int .u64 o, .int .i64 s, .bool l, .bool c] T)).alloc (.cells #[.int .u64 x] U)).frozen? ⟨wr.heap.size, 0, none⟩ = false := by
  have hbs : b < wr.heap.size := block_lt hx
  refine ⟨?_, ?_, ?_, ?_, ?_, ?_, ?_, ?_⟩ <;> go_simp

set_option maxHeartbeats 4000000 in
set_option maxRecDepth 100000 in
theorem swaps_any (first : Int) (p : Option Addr) (ab ao len cap : Nat) (O S : Nat → Int) (L C : Nat → Bool) (w : World)
    (f0 : 0 ≤ first) (f1 : first ≤ 18446744073709551615) (hlen : len ≤ 80) (hcap : len ≤ cap)
    (hp : 0 < len → p = some ⟨ab, ao, none⟩) (hab : 0 < len → ab < w.heap.size)
    (hO : ∀ i, i < len → w.cell? ⟨ab, ao + i * 4, none⟩ = some (.int .u64 (O i)) ∧ w.cell? ⟨ab, ao + i * 4 + 1, none⟩ = some (.int .i64 (S i)) ∧ w.cell? ⟨ab, ao + i * 4 + 2, none⟩ = some (.bool (L i)) ∧ w.cell? ⟨ab, ao + i * 4 + 3, none⟩ = some (.bool (C i)))
    (hB : ∀ i, i < len → 0 ≤ O i ∧ O i ≤ 18446744073709551615 ∧ -9223372036854775808 ≤ S i ∧ S i ≤ 9223372036854775807) :
    Calls Try.prog 6 #[.int .u64 first, .slice p len cap] w fun e w' => e = .returned (.bool true) ∧ Below w.heap.size w w' := by
  have HO := Lib.hid hO
  have HB := Lib.hid hB
  have HA := Lib.hid hab
  have HP := Lib.hid hp
  clear hO hB hab hp
  go_enter Try.func6, Try.ntmps6
  go_wp2_with fail
  refine (awake2_any _).mono ?_
  rintro e w' ⟨rfl, rfl⟩
  go_wp2_with fail
  refine (new_any _ _).mono ?_
  rintro e w' ⟨rfl, rfl⟩
  go_wp2_with fail
  go_loopw [5, 6, 25] (fun c d i wr => ∃ (k b : Nat) (x : Int), k ≤ len ∧ i = .int .i64 k ∧ w.heap.size ≤ b ∧ c = .pointer (some ⟨b, 0, none⟩) ∧ d = .int .u64 x ∧ 0 ≤ x ∧ x ≤ 18446744073709551615 ∧
      wr.cell? ⟨b, 0, none⟩ = some (.int .u64 x) ∧ wr.frozen? ⟨b, 0, none⟩ = false ∧ Below w.heap.size w wr) (fun _ _ i _ => len - (intOf i).toNat)
  case atStart => exact ⟨0, w.heap.size + 1, first, Nat.zero_le _, rfl, by omega, by simp, rfl, f0, f1, by go_simp, by go_simp, ((Below.refl _ _).alloc (Nat.le_refl _) _).alloc (by simp) _⟩
  case round =>
    obtain ⟨k, b, x, hk, rfl, hb, rfl, rfl, x0, x1, hx, hxf, hbel⟩ := hrel
    by_cases hlt : k < len
    · obtain ⟨c0, c1, c2, c3⟩ := HO.out k hlt
      have hab := HA.out (by omega)
      obtain rfl := HP.out (by omega)
      clear HP
      rw [← hbel.cell (p := ⟨ab, _, none⟩) hab] at c0 c1 c2 c3
      obtain ⟨o0, o1, s0, s1⟩ := HB.out k hlt
      generalize O k = o at *
      generalize S k = s at *
      generalize L k = l at *
      generalize C k = cl at *
      have hbs : b < wr.heap.size := block_lt hx
      have hws : w.heap.size ≤ wr.heap.size := hbel.size
      cases cl
      · cases l
        · go_wp2_with fail
          refine (swap_any _ x _ _ _ (by go_simp) (by go_simp) o0 o1).mono ?_
          rintro e w' ⟨rfl, rfl⟩
          go_wp2_with fail
          refine (rswap_any _ _ _ _ o0 o1 s0 s1).mono ?_
          rintro e w' ⟨rfl, rfl⟩
          go_wp2_with fail
          refine (load_any _ (wSwap x o s) _ (by go_simp)).mono ?_
          rintro e w' ⟨rfl, rfl⟩
          go_wp2_with fail
          go_roundw
          case rel => exact ⟨k + 1, b, wSwap x o s, by omega, by go_num, hb, rfl, rfl, wSwap_lo _ _ _ x0, wSwap_hi _ _ _ x1, by go_simp, by go_simp, (hbel.setCell (p := ⟨b, 0, none⟩) hb _).alloc (by simpa using hws) _⟩
          case measure => simp [intOf]; omega
        · go_wp2_with fail
          refine (swap_any _ x _ _ _ (by go_simp) (by go_simp) x0 x1).mono ?_
          rintro e w' ⟨rfl, rfl⟩
          go_wp2_with fail
          refine (rswap_any _ _ _ _ x0 x1 s0 s1).mono ?_
          rintro e w' ⟨rfl, rfl⟩
          go_wp2_with fail
          refine (load_any _ (wSwap x x s) _ (by go_simp)).mono ?_
          rintro e w' ⟨rfl, rfl⟩
          go_wp2_with fail
          go_roundw
          case rel => exact ⟨k + 1, b, wSwap x x s, by omega, by go_num, hb, rfl, rfl, wSwap_lo _ _ _ x0, wSwap_hi _ _ _ x1, by go_simp, by go_simp, (hbel.setCell (p := ⟨b, 0, none⟩) hb _).alloc (by simpa using hws) _⟩
          case measure => simp [intOf]; omega
      · go_wp2_with fail
        refine (clone_any _ x _ (by go_simp)).mono ?_
        rintro e w' ⟨rfl, rfl⟩
        obtain ⟨n, hn⟩ : ∃ n, wr.heap.size = n := ⟨_, rfl⟩
        have ht := two_new wr b x o s l true 41 65 hx hxf
        rw [hn] at hbs hws ht
        have HT := Lib.hid ht
        clear ht
        have HN := Lib.hid hn
        clear hn
        go_wp2_with fail
        rw [HN.out]
        go_loopw [33] (fun i wi => ∃ (j : Nat) (y : Int), j ≤ 4 ∧ i = .int .i64 j ∧ wi.cell? ⟨b, 0, none⟩ = some (.int .u64 y) ∧ 0 ≤ y ∧ y ≤ 18446744073709551615 ∧ wi.frozen? ⟨b, 0, none⟩ = false ∧
          wi.cell? ⟨n + 1, 0, none⟩ = some (.int .u64 x) ∧ wi.frozen? ⟨n + 1, 0, none⟩ = false ∧ wi.cell? ⟨n, 0, none⟩ = some (.int .u64 o) ∧ wi.cell? ⟨n, 1, none⟩ = some (.int .i64 s) ∧
          wi.cell? ⟨n, 2, none⟩ = some (.bool l) ∧ wi.frozen? ⟨n, 0, none⟩ = false ∧ Below w.heap.size w wi) (fun i _ => 4 - (intOf i).toNat)
        case atStart =>
          obtain ⟨z0, z1, z2, z3, z4, z5, z6, z7⟩ := HT.out
          exact ⟨0, x, Nat.zero_le _, rfl, z0, x0, x1, z1, z2, z3, z4, z5, z6, z7, (hbel.alloc (by rw [HN.out]; exact hws) _).alloc (by simp; rw [HN.out]; omega) _⟩
        case round =>
          obtain ⟨j, y, hj, rfl, hy, y0, y1, hyf, hk, hkf, n0, n1, n2, nf, hbi⟩ := hrel
          by_cases hlt4 : j < 4
          · go_wp2_with fail
            refine (load_any _ y _ hy).mono ?_
            rintro e w' ⟨rfl, rfl⟩
            go_wp2_with fail
            refine (swap_any _ y _ _ _ hy hyf y0 y1).mono ?_
            rintro e w' ⟨rfl, rfl⟩
            go_wp2_with fail
            go_roundw
            case rel => exact ⟨j + 1, wSwap y y j, by omega, by go_num, by go_simp, wSwap_lo _ _ _ y0, wSwap_hi _ _ _ y1, by go_simp, by go_simp, by go_simp, by go_simp, by go_simp, by go_simp, by go_simp, hbi.setCell (p := ⟨b, 0, none⟩) hb _⟩
            case measure => simp [intOf]; omega
          · cases l
            · go_wp2_with fail
              refine (swap_any _ x _ _ _ (by go_simp) (by go_simp) o0 o1).mono ?_
              rintro e w' ⟨rfl, rfl⟩
              go_wp2_with fail
              refine (rswap_any _ _ _ _ o0 o1 s0 s1).mono ?_
              rintro e w' ⟨rfl, rfl⟩
              go_wp2_with fail
              refine (load_any _ (wSwap x o s) _ (by go_simp)).mono ?_
              rintro e w' ⟨rfl, rfl⟩
              go_wp2_with fail
              go_roundw
              case rel => exact ⟨k + 1, n + 1, wSwap x o s, by omega, by go_num, by omega, rfl, rfl, wSwap_lo _ _ _ x0, wSwap_hi _ _ _ x1, by go_simp, by go_simp, by first | exact hbi.setCell (p := ⟨n + 1, 0, none⟩) (by show w.heap.size ≤ n + 1; omega) _ | exact (hbi.setCell (p := ⟨n, 0, none⟩) (by show w.heap.size ≤ n; omega) _).setCell (p := ⟨n + 1, 0, none⟩) (by show w.heap.size ≤ n + 1; omega) _⟩
              case measure => simp [intOf]; omega
            · go_wp2_with fail
              refine (swap_any _ x _ _ _ (by go_simp) (by go_simp) x0 x1).mono ?_
              rintro e w' ⟨rfl, rfl⟩
              go_wp2_with fail
              refine (rswap_any _ _ _ _ x0 x1 s0 s1).mono ?_
              rintro e w' ⟨rfl, rfl⟩
              go_wp2_with fail
              refine (load_any _ (wSwap x x s) _ (by go_simp)).mono ?_
              rintro e w' ⟨rfl, rfl⟩
              go_wp2_with fail
              go_roundw
              case rel => exact ⟨k + 1, n + 1, wSwap x x s, by omega, by go_num, by omega, rfl, rfl, wSwap_lo _ _ _ x0, wSwap_hi _ _ _ x1, by go_simp, by go_simp, by first | exact hbi.setCell (p := ⟨n + 1, 0, none⟩) (by show w.heap.size ≤ n + 1; omega) _ | exact (hbi.setCell (p := ⟨n, 0, none⟩) (by show w.heap.size ≤ n; omega) _).setCell (p := ⟨n + 1, 0, none⟩) (by show w.heap.size ≤ n + 1; omega) _⟩
              case measure => simp [intOf]; omega
    · go_wp2_with fail
      go_ret
      exact ⟨rfl, hbel⟩
set_option maxRecDepth 100000 in
theorem swaps_long (first : Int) (p : Option Addr) (len cap : Nat) (w : World) (hlen : 80 < len) (hm : len ≤ 9223372036854775807) :
    Calls Try.prog 6 #[.int .u64 first, .slice p len cap] w fun e w' => e = .returned (.bool true) ∧ Below w.heap.size w w' := by
  go_enter Try.func6, Try.ntmps6
  go_wp2_with fail
  refine (awake2_any _).mono ?_
  rintro e w' ⟨rfl, rfl⟩
  go_wp2_with fail
  go_ret
  exact ⟨rfl, (Below.refl _ _).alloc (Nat.le_refl _) _⟩
end Go.Proofs.Ytgojnkkimpjemaa.Wd
