/- Layer 7's law: its tries, and whether what was done is in order. -/
import Derived.Test.YthamnebbecmegaaEnsures
import Derived.Test.YthamnebbecmegaaAfter
namespace Go.Proofs.Ythamnebbecmegaa.Gd
open Go.ChangeShapes Go.WideShapes Go.ChangeAt Go.RowKit Rw
set_option linter.unusedVariables false

theorem isnan_any (x : Int) (w : World) : Calls Try.prog 106 #[.int .i64 x] w fun e w' => e = .returned (.bool false) ∧ w = w' := by
  go_enter Try.func106, Try.ntmps106
  go_wp2_with fail
  go_ret
  exact ⟨by simp, rfl⟩
theorem less_any (x y : Int) (w : World) : Calls Try.prog 82 #[.int .i64 x, .int .i64 y] w fun e w' => e = .returned (.bool (decide (x < y))) ∧ w = w' := by
  go_enter Try.func82, Try.ntmps82
  go_wp2_with fail
  refine (isnan_any x _).mono ?_
  rintro e w' ⟨rfl, rfl⟩
  go_wp2_with fail
  go_ret
  exact ⟨rfl, rfl⟩
theorem upto_at (n k : Nat) (x : Int) (h : (upto n)[k]? = some x) : x = k := by
  unfold upto at h
  rw [List.getElem?_map] at h
  obtain ⟨j, hj, rfl⟩ := Option.map_eq_some_iff.1 h
  have hk : k < n := by have := (List.getElem?_eq_some_iff.1 hj).1; simpa using this
  rw [List.getElem?_range hk] at hj
  cases hj; rfl
set_option maxRecDepth 100000 in
theorem sorted_any (A : Option Addr) (n c B : Nat) (w : World) (h : Rd (Value.int .i64) w B A n c (upto n)) (hB : B ≤ w.heap.size) (hn : n ≤ 100) :
    Calls Try.prog 47 #[.slice A n c] w fun e w' => e = .returned (.bool true) ∧ Below w.heap.size w w' := by
  have HR := Lib.hid h
  clear h
  by_cases h0 : n = 0
  · subst h0
    go_enter Try.func47, Try.ntmps47
    go_wp2_with fail
    go_loopw [3] (fun i wr => i = .int .i64 (-1) ∧ wr = w) (fun _ _ => 0)
    case atStart => exact ⟨rfl, rfl⟩
    case round =>
      obtain ⟨rfl, rfl⟩ := hrel
      go_wp2_with fail
      go_ret
      exact ⟨rfl, Below.refl _ _⟩
  · obtain ⟨m, rfl⟩ : ∃ m, n = m + 1 := ⟨n - 1, by omega⟩
    clear h0
    go_enter Try.func47, Try.ntmps47
    go_wp2_with fail
    go_loopw [3] (fun i wr => ∃ p : Nat, p ≤ m ∧ i = .int .i64 p ∧ Below w.heap.size w wr) (fun i _ => (intOf i).toNat)
    case atStart => exact ⟨m, Nat.le_refl _, by first | rfl | (congr 1; push_cast; omega), Below.refl _ _⟩
    case round =>
      obtain ⟨p, hp, rfl, hbr⟩ := hrel
      cases p with
      | zero =>
        go_wp2_with fail
        go_ret
        exact ⟨rfl, hbr⟩
      | succ r =>
        obtain ⟨b, o, x, rfl, hb, hx, hcx⟩ := HR.out.get (k := r + 1) (by omega)
        obtain ⟨b', o', y, e', hb', hy, hcy⟩ := HR.out.get (k := r) (by omega)
        cases e'
        obtain rfl := upto_at _ _ _ hx
        obtain rfl := upto_at _ _ _ hy
        have hcap := HR.out.cap
        have c0 : wr.cell? ⟨b, o + (r + 1), none⟩ = some (.int .i64 ((r + 1 : Nat) : Int)) := (hbr.cell (p := ⟨b, o + (r + 1), none⟩) (by simp only; omega)).trans hcx
        have c1 : wr.cell? ⟨b, o + r, none⟩ = some (.int .i64 (r : Int)) := (hbr.cell (p := ⟨b, o + r, none⟩) (by simp only; omega)).trans hcy
        clear hx hcx hy hcy
        have f0 : ∀ q : After wr, q.1.cell? ⟨b, o + (r + 1), none⟩ = some (.int .i64 ((r + 1 : Nat) : Int)) := fun q => q.cell c0
        have f1 : ∀ q : After wr, q.1.cell? ⟨b, o + r, none⟩ = some (.int .i64 (r : Int)) := fun q => q.cell c1
        have hd : decide (((r : Int) + 1) < (r : Int)) = false := decide_eq_false (by omega)
        go_wp2_with fail
        refine region_after (by kernel_rfl) (by kernel_rfl) ?_
        repeat (go_big_quiet_step (first
          | (go_at_call 82; exact After.same (less_any _ _ _))))
        refine wpQuiet_nil ?_
        rintro W3 ⟨⟨_, hb3⟩, rfl⟩
        have hbw := hbr.trans (hb3.mono hbr.size)
        clear f0 f1 c0 c1 hbr hb3
        go_wp2_with fail
        go_roundw
        case rel => exact ⟨r, by omega, by go_num, hbw⟩
        case measure => simp [intOf]

section
variable (Dd C : Nat → Int) (S : Nat → ByteArray)
theorem St.set {w : World} {D n : Nat} {acc : List Int} {o : Option Nat} (h : St Dd C S w D n acc o) (b : Nat) (u : Value) (hb : D + 1 + 3 * n ≤ b) (ho : some b ≠ o) : St Dd C S (w.setCell ⟨b, 0, none⟩ u) D n acc o :=
  h.grown Dd C S (grown_setCell w ⟨b, 0, none⟩ u) (fun j hj => by cases hj; exact ⟨hb, ho⟩)
theorem Fr.set {D : Nat} {o o' : Option Nat} {w w1 : World} (h : Fr D o o' w w1) (b : Nat) (u : Value) (hb : w.heap.size ≤ b) : Fr D o o' w (w1.setCell ⟨b, 0, none⟩ u) := by
  have hs := grown_setCell w1 ⟨b, 0, none⟩ u
  exact ⟨hs.os.trans h.os, hs.tape.trans h.tape, hs.output.trans h.output, Nat.le_trans h.size hs.size, fun k hk hD ho => (hs.block k (Nat.lt_of_lt_of_le hk h.size) (by intro e; injection e with e; simp only at e; omega)).trans (h.block k hk hD ho), h.own⟩
/-- Try of all that is ensured. -/
theorem tryK_any (D n : Nat) (hn : n ≤ 30) (hK : ∀ j, j < n → (0 ≤ Dd j ∧ Dd j ≤ 255) ∧ (0 ≤ C j ∧ C j ≤ 255)) (w : World) (h : St Dd C S w D n [] none) :
    Calls Try.prog 36 #[vK D n] w fun e w' => ∃ v p, e = .returned (.tuple #[v, .bool p]) ∧ (p = true ↔ ∃ j, j < n ∧ want (Dd j) (C j) ≠ 0) ∧ ∃ o', St Dd C S w' D n (upto n) o' ∧ Below D w w' := by
  have hsz := h.sz
  have hs : (tryWorld w).heap.size = w.heap.size + 2 := by simp [tryWorld]
  have hb : Below w.heap.size w (tryWorld w) := ((Below.refl w.heap.size w).alloc (Nat.le_refl _) _).alloc (by simp) _
  have hst := h.later Dd C S hb
  rw [vK_eq]
  refine (try_fn (R := fun e w' => EndK Dd C n e ∧ ∃ o', St Dd C S w' D n (upto n) o' ∧ Fr D none o' (tryWorld w) w') (first := #[]) (fun e w' hr => ⟨hr.1.once, ?_⟩) (fun w => by rw [Array.empty_append]; exact fK_enter D n w) ?_).mono ?_
  · obtain ⟨_, o', _, hf⟩ := hr
    refine ⟨(hf.cell ?_ ?_ ?_).trans ?_, (hf.cell ?_ ?_ ?_).trans ?_, (hf.frozen ?_ ?_ ?_).trans ?_, (hf.frozen ?_ ?_ ?_).trans ?_⟩
    all_goals first
      | (simp only; omega)
      | (intro e; cases e; done)
      | (simp [tryWorld]; done)
  · rw [Array.empty_append]
    refine (level_any Dd C S D n hn hK n (Nat.le_refl _) (tryWorld w) [] none hst (by simp; omega)).mono ?_
    rintro e w' ⟨h1, o', h2, h3⟩
    exact ⟨h1, o', by simpa using h2, h3⟩
  · rintro e w' ⟨e0, w0, ⟨hE, o', h2, h3⟩, ht⟩
    have ho : ∀ b, o' = some b → w.heap.size + 2 ≤ b := by
      intro b hb'
      rcases h3.own with e | ⟨b1, e, hb1⟩
      · rw [e] at hb'; cases hb'
      · rw [e] at hb'; cases hb'; omega
    have n0 : some w.heap.size ≠ o' := fun e => by have := ho _ e.symm; omega
    have n1 : some (w.heap.size + 1) ≠ o' := fun e => by have := ho _ e.symm; omega
    have hbel : ∀ w1, Fr D none o' (tryWorld w) w1 → Below D w w1 := by
      intro w1 hf
      refine (hb.mono (by omega)).trans ⟨hf.os, hf.tape, hf.output, hf.size, fun k hk => hf.block k (by omega) (by omega) (by simp)⟩
    rcases ht with ⟨e1, rfl, rfl⟩ | ⟨T, v, e1, rfl, rfl⟩
    · refine ⟨_, _, rfl, ?_, o', (h2.set Dd C S _ _ (by omega) n0).set Dd C S _ _ (by omega) n1, ((hbel _ h3).setCell (by simp only; omega) _).setCell (by simp only; omega) _⟩
      rcases hE with ⟨_, h4⟩ | ⟨⟨T, v, h4⟩, _⟩
      · constructor
        · intro h; cases h
        · rintro ⟨j, hj, h5⟩; exact absurd (h4 j hj) h5
      · rw [e1] at h4; cases h4
    · refine ⟨_, _, rfl, ?_, o', h2.set Dd C S _ _ (by omega) n0, (hbel _ h3).setCell (by simp only; omega) _⟩
      rcases hE with ⟨h4, _⟩ | ⟨_, h4⟩
      · rw [e1] at h4; cases h4
      · exact ⟨fun _ => h4, fun _ => rfl⟩
/-- Two panics, the one of what is ensured ahead. -/
def Two (e : Ending) : Prop := ∃ rest, e = .panicked ({ v := .iface 73 (.agg #[.int .i64 15]), recovered := false } :: rest) ∧ (rest = [] ∨ ∃ v, rest = [{ v := v, recovered := false }])
theorem must15_any (w : World) : Calls Try.prog 49 #[] w fun e w' => e = failed 15 ∧ w = w' := by
  go_enter Try.func49, Try.ntmps49
  go_wp2_with fail
  refine (must_fail 15 (by decide) _).mono ?_
  rintro e w' ⟨rfl, rfl⟩
  exact ⟨rfl, rfl, rfl⟩
set_option maxRecDepth 100000 in
theorem third_any (b : Nat) (d c : Int) (s : ByteArray) (hd : 0 ≤ d ∧ d ≤ 255) (hc : 0 ≤ c ∧ c ≤ 255) (w : World)
    (x0 : w.cell? ⟨b, 0, none⟩ = some (.int .u8 d)) (x1 : w.cell? ⟨b, 1, none⟩ = some (.int .u8 c)) (x2 : w.cell? ⟨b, 2, none⟩ = some (.string s)) :
    Calls Try.prog 48 #[.pointer (some ⟨b, 0, none⟩)] w fun e w' => Two e ∧ Below w.heap.size w w' := by
  have hmf := makeFunc_run
  go_enter Try.func48, Try.ntmps48
  go_wp2_with fail
  obtain ⟨w2, hw2⟩ : ∃ w2, w.alloc (.cells #[.func (.func 49) #[] #[]] 1) = w2 := ⟨_, rfl⟩
  have hb2 : Below w.heap.size w w2 := hw2 ▸ (Below.refl _ _).alloc (Nat.le_refl _) _
  have hs2 : w2.heap.size = w.heap.size + 1 := by rw [← hw2]; simp
  have hcell2 : w2.cell? ⟨w.heap.size, 0, none⟩ = some (.func (.func 49) #[] #[]) := by rw [← hw2]; clear hb2 hs2 hw2; go_simp
  refine (ensure_any (.inr ⟨_, _, _, rfl⟩) (Rf := fun e w1 => Ends d c e ∧ Below w2.heap.size w2 w1) (Rl := fun _ w1 e w' => e = failed 15 ∧ w1 = w' ∧ Below w2.heap.size w2 w1) ?_ ?_ ?_).mono ?_
  · rw [hw2]
    refine call_fn (K := 35) (first := #[.agg #[.int .u8 d, .int .u8 c, .string s]]) (cap := #[]) (fun e w' h => h.1.once.good.plain) (fun w => by simp [go_sem]) ?_
    rw [Array.append_empty]
    exact do_any d c s hd hc w2
  · rintro e w1 ⟨hE, hb⟩
    refine ⟨hE.once.good, (hb.cell (p := ⟨w.heap.size, 0, none⟩) (by simp only; omega)).trans hcell2, ?_⟩
    refine call_fn (K := 49) (first := #[]) (cap := #[]) (fun e w' h => .inr ⟨_, h.1⟩) (fun w => by simp [go_sem]) ?_
    rw [Array.append_empty]
    exact (must15_any w1).mono fun e w' ⟨h1, h2⟩ => ⟨h1, h2, hb⟩
  · exact fun e0 w0 e w' h => .inr ⟨_, h.1⟩
  · rintro e w' ⟨e0, w0, e1, ⟨hE, _⟩, ⟨rfl, rfl, hb⟩, rfl⟩
    have hbw := hb2.trans (hb.mono hb2.size)
    rcases hE.once with rfl | ⟨T, v, rfl⟩
    · exact ⟨rfl, ⟨[], rfl, .inl rfl⟩, hbw⟩
    · exact ⟨rfl, ⟨_, rfl, .inr ⟨_, rfl⟩⟩, hbw⟩
theorem try_two {K : FuncId} {first cap : Array Value} {w : World}
    (hK : ∀ w, (callFunc K (first ++ cap)).run Try.prog w = .ok (.enter K (first ++ cap)) w) (h : ∀ w1, Below w.heap.size w w1 → Calls Try.prog K (first ++ cap) w1 fun e w' => Two e ∧ Below w1.heap.size w1 w') :
    Calls Try.prog 36 #[.func (.func K) first cap] w fun e w' => e = .returned (.tuple #[.iface 73 (.agg #[.int .i64 15]), .bool true]) ∧ Below w.heap.size w w' := by
  have hs : (tryWorld w).heap.size = w.heap.size + 2 := by simp [tryWorld]
  have hbt : Below w.heap.size w (tryWorld w) := ((Below.refl w.heap.size w).alloc (Nat.le_refl _) _).alloc (by simp) _
  have hh := h (tryWorld w) hbt
  have HS := Lib.hid hs
  have HBT := Lib.hid hbt
  clear hs hbt h
  have hmf := makeFunc_run
  go_enter_defers Try.func36, Try.ntmps36
  go_wp2_with fail
  refine (call_fn (fun e w' hr => ?_) hK hh).mono ?_
  · obtain ⟨⟨rest, h1, _⟩, _⟩ := hr
    exact .inr ⟨_, h1⟩
  rintro e w0 ⟨⟨rest, rfl, hrest⟩, hb⟩
  have hs := HS.out
  have h1 : w0.cell? ⟨w.heap.size, 0, none⟩ = some .nilIface := (hb.cell (p := ⟨w.heap.size, 0, none⟩) (by simp only; omega)).trans (by simp [tryWorld])
  have h2 : w0.cell? ⟨w.heap.size + 1, 0, none⟩ = some (.bool true) := (hb.cell (p := ⟨w.heap.size + 1, 0, none⟩) (by simp only; omega)).trans (by simp [tryWorld])
  have h3 : w0.frozen? ⟨w.heap.size, 0, none⟩ = false := (hb.frozen (p := ⟨w.heap.size, 0, none⟩) (by simp only; omega)).trans (by simp [tryWorld])
  have hne : (⟨w.heap.size, 0, none⟩ : Addr) ≠ ⟨w.heap.size + 1, 0, none⟩ := fun e => by injection e with e; omega
  have a1 : (w0.setCell ⟨w.heap.size, 0, none⟩ (.iface 73 (.agg #[.int .i64 15]))).cell? ⟨w.heap.size, 0, none⟩ = some (.iface 73 (.agg #[.int .i64 15])) := World.cell?_setCell_same _ _ _ h1
  have b1 : (w0.setCell ⟨w.heap.size, 0, none⟩ (.iface 73 (.agg #[.int .i64 15]))).cell? ⟨w.heap.size + 1, 0, none⟩ = some (.bool true) := (World.cell?_setCell_other _ _ _ _ hne).trans h2
  have hbw : Below w.heap.size w (w0.setCell ⟨w.heap.size, 0, none⟩ (.iface 73 (.agg #[.int .i64 15]))) := (HBT.out.trans (hb.mono (by omega))).setCell (Nat.le_refl _) _
  refine leaves_cons (f := 78) (args := #[.pointer (some ⟨w.heap.size + 1, 0, none⟩), .pointer (some ⟨w.heap.size, 0, none⟩)]) (by simp) (by simp [go_sem]) ?_
  refine (tried_panic _ _ _ _ _ _ _ h2 h1 h3).mono ?_
  rintro e u' w'' ⟨rfl, rfl, rfl⟩
  rcases hrest with rfl | ⟨v, rfl⟩
  · refine ⟨.tuple #[.iface 73 (.agg #[.int .i64 15]), .bool true], ?_, rfl, hbw⟩
    simp [results, Try.results36, go_sem, a1, b1]
  · refine ⟨.tuple #[.iface 73 (.agg #[.int .i64 15]), .bool true], ?_, rfl, hbw⟩
    simp [results, Try.results36, go_sem, a1, b1]
end
end Go.Proofs.Ythamnebbecmegaa.Gd
