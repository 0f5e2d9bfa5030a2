/- Lists of floats: contracts at []float64 of floats, slices.Clone, Reverse (it permutes), SortFunc by ratio.Cmp, EqualFunc by Same. -/
import Derived.Test.YtdacacehmmjpeaaRatioC
import Derived.Test.YtdacacehmmjpeaaSortOwn
namespace Go.Proofs.Ytdacacehmmjpeaa.Fl
open Go.ChangeShapes Go.WideShapes Go.ChangeAt Go.RowKit Rw Ck Go.Sort
set_option linter.unusedVariables false

/-- Words of 64 bits. -/
abbrev F : Type := {n : Nat // n < 18446744073709551616}
instance : Inhabited F := ⟨⟨0, by omega⟩⟩
def encF (u : F) : Value := .float .f64 u.1
theorem encF_one : OneCell encF := fun _ => rfl
def toF (x : Int) : F := ⟨x.toNat % 18446744073709551616, Nat.mod_lt _ (by omega)⟩
theorem info_f64 : (Try.prog.info? 71).map (fun i => (i.zero, i.size, i.bytes)) = some (some (.float .f64 0), 1, 8) := by kernel_rfl
theorem row_ne' {w : World} {base : Nat} {e : TypeId} {v : Value} {n : Nat} {xs : List Value} (h : w.ownsRow base e 1 v n xs) {g : Nat} (hg : g < base) : some g ≠ v.ownBlock := fun e => by
  have := (h.lt g e.symm).1; omega

set_option maxRecDepth 100000 in
set_option maxHeartbeats 2000000 in
theorem floats_any (A : Option Addr) (n c : Nat) (xs : List Int) (w : World) (h : Rd (Value.int .u64) w w.heap.size A n c xs) (hok : Sn.U64s xs) (hn : n ≤ 60) :
    Calls Try.prog 35 #[.slice A n c] w fun e w' => ∃ A' c' acc, e = .returned (.slice A' n c') ∧ acc = xs.map toF ∧ w'.ownsRow w.heap.size 71 1 (.slice A' n c') n (acc.map encF) ∧ Below w.heap.size w w' := by
  obtain ⟨i0, hi, hz0, hz1, hz2⟩ := info_parts info_f64
  have rb := fbits_run
  have hlen := h.len
  have R := Lib.hid h
  have HO := Lib.hid hok
  have HL := Lib.hid hlen
  clear h hok hlen
  go_enter Try.func35, Try.ntmps35
  go_wp2
  go_loopw [3, 8] (fun v i wr => ∃ (k c' : Nat) (A' : Option Addr) (acc : List F), k ≤ n ∧ i = .int .i64 k ∧ v = .slice A' k c' ∧ acc.length = k ∧ Hid (acc = (xs.take k).map toF) ∧
      wr.ownsRow w.heap.size 71 1 (.slice A' k c') k (acc.map encF) ∧ Below w.heap.size w wr) (fun _ i _ => n - (intOf i).toNat)
  case atStart => exact ⟨0, 0, none, [], Nat.zero_le _, rfl, rfl, rfl, rfl, World.ownsRow_nil _ _ _ _, Below.refl _ _⟩
  case round =>
    obtain ⟨k, c', A', acc, hk, rfl, rfl, hal, hacc, hrow, hbel⟩ := hrel
    have HAL := Lib.hid hal
    clear hal
    by_cases hlt : k < n
    · obtain ⟨b, o, x, rfl, hb, hx, hcell⟩ := R.out.get hlt
      have hcx : wr.cell? ⟨b, o + k, none⟩ = some (.int .u64 x) := (hbel.cell (p := ⟨b, o + k, none⟩) hb).trans hcell
      have hx64 := HO.out.get hx
      have hxf : toF x = ⟨x.toNat, by omega⟩ := by unfold toF; congr 1; exact Nat.mod_eq_of_lt (by omega)
      have e1 : acc ++ [(⟨x.toNat, by omega⟩ : F)] = (xs.take (k + 1)).map toF := by rw [Sn.take_snoc hx, List.map_append, ← hacc.out, List.map_cons, hxf]; rfl
      have E1 := Lib.hid e1
      have hrd : Rd encF (wr.alloc (.cells #[.float .f64 x.toNat] 71)) (wr.heap.size + 1) (some ⟨wr.heap.size, 0, none⟩) 1 1 [(⟨x.toNat, by omega⟩ : F)] := rd_one (enc := encF) wr (⟨x.toNat, by omega⟩ : F) 71
      have HRD := Lib.hid hrd
      have hmp : acc.map encF ++ [(⟨x.toNat, by omega⟩ : F)].map encF = (acc ++ [(⟨x.toNat, by omega⟩ : F)]).map encF := List.map_append.symm
      have HMP := Lib.hid hmp
      have hbs := hbel.size
      clear hx hcell hxf e1 hrd hmp hacc
      go_wp2_with (at_builtin; refine append_rd _ rfl _ _ 68 rfl w.heap.size 71 i0 (.float .f64 0) 8 Try.underlying68 hi hz0 hz1 hz2 rfl _ k _ rfl (hrow.alloc _) _ _ 1 1 [(⟨x.toNat, by omega⟩ : F)] rfl HRD.out encF_one (k + 1) rfl _ HMP.out (by unfold maxLen; omega) (by omega) (by simp; omega) ?_; intro A3 c3 w3 hrow3 hg3 hat3)
      go_roundw
      case rel => exact ⟨k + 1, c3, A3, _, by omega, by go_num, rfl, by simp [HAL.out], E1.out, hrow3, (hbel.alloc hbs _).grown hg3 (by simp; omega) (fun j hj => (hrow.lt j hj).1)⟩
      case measure => simp [intOf]; omega
    · have hk' : k = n := by omega
      subst hk'
      have e1 : acc = xs.map toF := by rw [hacc.out, List.take_of_length_le (by have := HL.out; omega)]
      have E1 := Lib.hid e1
      clear e1 hacc hlt
      go_wp2
      go_ret
      exact ⟨A', c', acc, rfl, E1.out, hrow, hbel⟩

/-- Clone: the same floats in memory of its own. -/
theorem fclone_any (A : Option Addr) (n c : Nat) (acc : List F) (w : World) (h : Rd encF w w.heap.size A n c acc) (hn : n ≤ 60) :
    Calls Try.prog 36 #[.slice A n c] w fun e w' => ∃ A' c', e = .returned (.slice A' n c') ∧ w'.ownsRow w.heap.size 71 1 (.slice A' n c') n (acc.map encF) ∧ Below w.heap.size w w' := by
  obtain ⟨i0, hi, hz0, hz1, hz2⟩ := info_parts info_f64
  cases A with
  | none =>
    have h0 : n = 0 := by
      rcases Nat.eq_zero_or_pos n with h0 | h0
      · exact h0
      · obtain ⟨b, o, e, _⟩ := h.at_ h0
        cases e
    subst h0
    obtain rfl := List.eq_nil_of_length_eq_zero h.len
    clear h
    have hk := @Lib.run_eql_slice_nil Try.prog
    go_enter Try.func36, Try.ntmps36
    go_wp2
    go_ret
    exact ⟨_, _, rfl, World.ownsRow_nil _ _ _ _, Below.refl _ _⟩
  | some a =>
    have HR := Lib.hid h
    clear h
    have hk := @Lib.run_eql_slice_nil Try.prog
    go_enter Try.func36, Try.ntmps36
    go_wp2_with (at_builtin; refine append_rd _ rfl _ _ 68 rfl w.heap.size 71 i0 (.float .f64 0) 8 Try.underlying68 hi hz0 hz1 hz2 rfl _ 0 [] rfl (World.ownsRow_lit _ #[] 0 (Nat.le_refl _) (by decide) rfl) w.heap.size (some a) n c acc rfl (HR.out.alloc (Nat.le_refl _) _) encF_one n (Nat.zero_add _) (acc.map encF) rfl ?_ ?_ ?_ ?_)
    · unfold maxLen; omega
    · omega
    · simp
    · intro A' c' w' hown hg hat
      go_wp2
      go_ret
      refine ⟨A', c', rfl, hown, ((Below.refl _ _).alloc (Nat.le_refl _) _).grown hg (by simp) (fun k hk => ?_)⟩
      simp [Value.ownBlock] at hk
      omega

/-- A store into a row of the call's own. -/
theorem own_set {w : World} {base g n c i : Nat} {e : TypeId} {xs : List Value} (h : w.ownsRow base e 1 (.slice (some ⟨g, 0, none⟩) n c) n xs) (hi : i < n) (u : Value) : (w.setCell ⟨g, i, none⟩ u).ownsRow base e 1 (.slice (some ⟨g, 0, none⟩) n c) n (xs.set i u) := by
  rcases h.2 with ⟨h', _⟩ | ⟨g', cap, cur, h', hb, hg, hnc, hcm, hcs, ht⟩
  · cases h'
  · injection h' with h1 _ h3
    injection h1 with h1
    injection h1 with h1
    subst h1 h3
    refine ⟨by simp [h.1], .inr ⟨g, c, cur.setIfInBounds i u, rfl, hb, ?_, hnc, hcm, by simp [hcs], ?_⟩⟩
    · simp only [World.setCell, Array.getElem?_modify, if_true, hg, Option.map_some]
      rfl
    · rw [Array.toList_setIfInBounds, List.take_set, ht]
theorem perm_swapF {d : List F} {i j : Nat} {x y : F} (hi : d[i]? = some x) (hj : d[j]? = some y) : ((d.set i y).set j x).Perm d := by
  obtain ⟨hi', rfl⟩ := List.getElem?_eq_some_iff.1 hi
  obtain ⟨hj', rfl⟩ := List.getElem?_eq_some_iff.1 hj
  by_cases e : i = j
  · subst e
    simp
  have h := Array.swap_perm (xs := d.toArray) (i := i) (j := j) (by simpa using hi') (by simpa using hj')
  have e2 : (d.toArray.swap i j (by simpa using hi') (by simpa using hj')).toList = (d.set i d[j]).set j d[i] := by simp [Array.swap]
  have h2 := Array.perm_iff_toList_perm.1 h
  rw [e2] at h2
  simpa using h2
/-- Reverse: the row holds the same floats in some order. -/
def Pf (base : Nat) (A : Option Addr) (n c : Nat) (d : List F) (w w' : World) : Prop := ∃ d' : List F, d'.Perm d ∧ w'.ownsRow base 71 1 (.slice A n c) n (d'.map encF) ∧ w.grownBy w' (Value.slice A n c).ownBlock

set_option maxHeartbeats 2000000 in
set_option maxRecDepth 100000 in
theorem freverse_any (base : Nat) (A : Option Addr) (n c : Nat) (d : List F) (w : World) (h : w.ownsRow base 71 1 (.slice A n c) n (d.map encF)) (hn : n ≤ 60) :
    Calls Try.prog 37 #[.slice A n c] w fun e w' => e = .returned (.tuple #[]) ∧ Pf base A n c d w w' := by
  have HR := Lib.hid h
  clear h
  go_enter Try.func37, Try.ntmps37
  go_wp2
  go_loopw [2, 3] (fun si sj wr => ∃ (i : Nat) (j : Int), i ≤ n ∧ -1 ≤ j ∧ j < n ∧ si = .int .i64 i ∧ sj = .int .i64 j ∧ Hid (Pf base A n c d w wr)) (fun si sj _ => (intOf sj - intOf si).toNat)
  case atStart => exact ⟨0, (n : Int) - 1, by omega, by omega, by omega, rfl, rfl, ⟨d, List.Perm.refl _, HR.out, World.grownBy.refl _ _⟩⟩
  case round =>
    obtain ⟨i, j, hi, hj0, hj1, rfl, rfl, hpm⟩ := hrel
    by_cases hlt : (i : Int) < j
    · obtain ⟨m, rfl⟩ := Int.eq_ofNat_of_zero_le (show 0 ≤ j by omega)
      have him : i < m := by omega
      have hmn : m < n := by omega
      obtain ⟨d1, hp1, hr1, hg1⟩ := hpm.out
      obtain ⟨g, o, x, rfl, -, hx, hcx⟩ := (Rd.own_rd hr1).get (show i < n by omega)
      obtain ⟨g', o', y, e2, -, hy, hcy⟩ := (Rd.own_rd hr1).get hmn
      injection e2 with e2
      injection e2 with e2 e3
      subst e2 e3
      have ho : o = 0 := by
        rcases hr1.2 with ⟨h', _⟩ | ⟨g2, cap, cur, h', _⟩
        · cases h'
        · injection h' with h1; injection h1 with h1; injection h1 with _ h2
      subst ho
      have fz : ∀ k, wr.frozen? ⟨g, k, none⟩ = false := by
        intro k
        rcases hr1.2 with ⟨h', _⟩ | ⟨g2, cap, cur, h', _, hg, _⟩
        · cases h'
        · injection h' with h1; injection h1 with h1; injection h1 with h1 _
          subst h1
          simp [World.frozen?, hg]
      have fx := fz i
      have fy := fz m
      rw [Nat.zero_add] at hcx hcy
      obtain ⟨x, hx64⟩ := x
      obtain ⟨y, hy64⟩ := y
      change wr.cell? ⟨g, i, none⟩ = some (.float .f64 x) at hcx
      change wr.cell? ⟨g, m, none⟩ = some (.float .f64 y) at hcy
      have hdone : Pf base (some ⟨g, 0, none⟩) n c d w ((wr.drew.setCell ⟨g, i, none⟩ (.float .f64 y)).setCell ⟨g, m, none⟩ (.float .f64 x)) := by
        refine ⟨_, (perm_swapF hx hy).trans hp1, ?_, ?_⟩
        · have := own_set (own_set (w := wr.drew) hr1 (show i < n by omega) (encF ⟨y, hy64⟩)) hmn (encF ⟨x, hx64⟩)
          rw [← List.map_set, ← List.map_set] at this
          exact this
        · refine (hg1.trans ⟨rfl, rfl, rfl, by simp, fun k _ hk => ?_⟩)
          rw [Below.heap_setCell _ _ _ k (fun e => hk (by rw [e]; rfl)), Below.heap_setCell _ _ _ k (fun e => hk (by rw [e]; rfl))]
          rfl
      have HD := Lib.hid hdone
      clear hx hy hr1 hp1 hpm hg1 fz hdone
      have b0 : (0 : Int) ≤ (i : Int) := by omega
      have b1 : (i : Int) < (n : Int) := by omega
      have b2 : (0 : Int) ≤ (m : Int) := by omega
      have b3 : (m : Int) < (n : Int) := by omega
      have hne : i ≠ m := by omega
      have rs : ∀ (w : World) (a : Addr) (b : Nat), (store a (.float .f64 b)).run Try.prog w = stored Try.prog w a (.float .f64 b) .plain := fun w a b => run_store Try.prog w a _ .plain rfl
      go_wp2
      go_region
      go_wp2
      go_roundw
      case rel => exact ⟨i + 1, (m : Int) - 1, by omega, by omega, by omega, by go_num, rfl, HD.out⟩
      case measure => simp [intOf]; omega
    · go_wp2
      go_end0
      exact ⟨rfl, hpm.out⟩

/-! ### The sort by ratio.Cmp -/
def cfF (x y : F) : Int := Wl.cmpI (pl x.1 : Nat) (pl y.1 : Nat)
theorem ltF (x y : F) : ltOf cfF x y = decide (pl x.1 < pl y.1) := by
  unfold ltOf cfF Wl.cmpI
  by_cases h1 : pl x.1 < pl y.1
  · have : ((pl x.1 : Nat) : Int) < ((pl y.1 : Nat) : Int) := by omega
    simp [h1]
  · have h2 : ¬ ((pl x.1 : Nat) : Int) < ((pl y.1 : Nat) : Int) := by omega
    rw [if_neg h2]
    by_cases h3 : ((pl y.1 : Nat) : Int) < ((pl x.1 : Nat) : Int)
    · rw [if_pos h3]; simp [h1]
    · rw [if_neg h3]; simp [h1]
theorem swoF : SWO (ltOf cfF) where
  irrefl x := by rw [ltF]; simp
  trans x y z h1 h2 := by rw [ltF] at *; simp at *; omega
  ntrans x y z h1 h2 := by rw [ltF] at *; simp at *; omega
theorem fins0_any (p : Option Addr) (cap : Nat) (fv : Value) (w : World) :
    Calls Try.prog 88 #[.slice p 0 cap, .int .i64 0, .int .i64 0, fv] w fun e w' => e = .returned (.tuple #[]) ∧ w = w' := by
  go_enter Try.func88, Try.ntmps88
  go_wp2
  refine wp_loop_rounds 1 ?_
  rw [rounds_succ]
  go_wp2
  go_end0
  exact ⟨rfl, rfl⟩
theorem fpdq0_any (p : Option Addr) (cap : Nat) (lim : Int) (fv : Value) (w : World) :
    Calls Try.prog 66 #[.slice p 0 cap, .int .i64 0, .int .i64 0, .int .i64 lim, fv] w fun e w' => e = .returned (.tuple #[]) ∧ w = w' := by
  go_enter Try.func66, Try.ntmps66
  go_wp2
  refine wp_loop_rounds 1 ?_
  rw [rounds_succ]
  go_wp2_with (go_at_call 88; refine (fins0_any _ _ _ _).mono ?_; rintro e w' ⟨rfl, rfl⟩)
  (try simp only [Exit.inBlock, Exit.then])
  refine bodyPost_ret (results_none rfl _ _ _) rfl ?_
  exact ⟨rfl, rfl⟩
theorem fsort0_any (p : Option Addr) (cap : Nat) (fv : Value) (w : World) :
    Calls Try.prog 38 #[.slice p 0 cap, fv] w fun e w' => e = .returned (.tuple #[]) ∧ w = w' := by
  have hl := fun w => Wl.blen_any 0 w (by omega)
  simp only [Int.natCast_zero] at hl
  go_enter Try.func38, Try.ntmps38
  go_wp2_with (first | (go_at_call 54; refine (hl _).mono ?_; rintro e w' ⟨rfl, rfl⟩) | (go_at_call 66; refine (fpdq0_any _ _ _ _ _).mono ?_; rintro e w' ⟨rfl, rfl⟩))
  go_end0
  exact ⟨rfl, rfl⟩
theorem fsort_any (w : World) (base : Nat) (A : Option Addr) (n c : Nat) (acc : List F) (hn : acc.length = n) (hrow : w.ownsRow base 71 1 (.slice A n c) n (acc.map encF)) (hsz : n ≤ 60) :
    Calls Try.prog 38 #[.slice A n c, .func (.func 39) #[] #[]] w fun e' w' => e' = .returned (.tuple #[]) ∧ ∃ acc' : List F, acc'.Perm acc ∧ acc'.Pairwise (fun x y => pl x.1 ≤ pl y.1) ∧
      w'.ownsRow base 71 1 (.slice A n c) n (acc'.map encF) ∧ w.grownBy w' (Value.slice A n c).ownBlock := by
  subst hn
  by_cases h0 : acc = []
  · subst h0
    refine (fsort0_any A c _ w).mono ?_
    rintro e w' ⟨rfl, rfl⟩
    exact ⟨rfl, [], List.Perm.refl _, List.Pairwise.nil, hrow, World.grownBy.refl _ _⟩
  · have hpos : 0 < acc.length := List.length_pos_iff.2 h0
    have eg : ∀ args w, (callFunc 39 args).run Try.prog w = .ok (.enter 39 args) w := enters_of Try.func39 (by kernel_rfl) rfl
    refine (Sf.sort_own Sf.sfLays encF encF_one cfF swoF 39 #[] eg w base 71 A c acc hrow hpos (by omega)
      (fun W' hg x y => (fcmp_any x.1 y.1 W' x.2 y.2).mono fun e w' ⟨h1, h2⟩ => ⟨h1, 0, #[], by rw [Go.Sort.grow_empty]; exact h2.symm⟩)).mono ?_
    rintro e w' ⟨he, acc', h1, h2, h3, h4⟩
    refine ⟨he, acc', h1, h2.imp ?_, h3, h4⟩
    intro x y hxy
    rw [ltF] at hxy
    simpa using hxy

/-! ### EqualFunc by Same -/
theorem pl_sm {x y : Nat} (hx : x < 18446744073709551616) (hy : y < 18446744073709551616) (h : pl x = pl y) : sm x y = true := by
  have i1 := INF_is
  have i2 := SG_is
  unfold sm
  unfold pl at h
  have nx : isN x = true ↔ INF < rg x := by unfold isN; simp
  have ny : isN y = true ↔ INF < rg y := by unfold isN; simp
  unfold rg at nx ny
  cases hnx : isN x <;> cases hny : isN y <;> rw [hnx] at h nx <;> rw [hny] at h ny
  · simp only [Bool.false_eq_true, if_false] at h
    simp only [Bool.and_self, Bool.false_or, decide_eq_true_eq]
    by_cases a : SG ≤ x <;> by_cases b : SG ≤ y
    · rw [if_pos a, if_pos b] at h; omega
    · rw [if_pos a, if_neg b] at h; omega
    · rw [if_neg a, if_pos b] at h; omega
    · rw [if_neg a, if_neg b] at h; omega
  · exfalso
    simp only [Bool.false_eq_true, if_false, if_true, false_iff] at h nx
    by_cases a : SG ≤ x
    · rw [if_pos a] at h; omega
    · rw [if_neg a] at h nx; omega
  · exfalso
    simp only [Bool.false_eq_true, if_false, if_true, false_iff] at h ny
    by_cases a : SG ≤ y
    · rw [if_pos a] at h; omega
    · rw [if_neg a] at h ny; omega
  · simp
theorem sorted_eq : ∀ {l₁ l₂ : List Nat}, l₁.Perm l₂ → l₁.Pairwise (· ≤ ·) → l₂.Pairwise (· ≤ ·) → l₁ = l₂
  | [], l₂, p, _, _ => p.nil_eq
  | a :: l, [], p, _, _ => absurd p.length_eq (by simp)
  | a :: l, b :: l', p, h1, h2 => by
    rw [List.pairwise_cons] at h1 h2
    have e : a = b := by
      have m1 : a ∈ b :: l' := p.subset (by simp)
      have m2 : b ∈ a :: l := p.symm.subset (by simp)
      rcases List.mem_cons.1 m1 with e | m1
      · exact e
      · rcases List.mem_cons.1 m2 with e | m2
        · exact e.symm
        · have := h1.1 b m2; have := h2.1 a m1; omega
    subst e
    rw [sorted_eq (List.Perm.cons_inv p) h1.2 h2.2]
set_option maxRecDepth 100000 in
theorem efunc_any (A A' : Option Addr) (n c c' : Nat) (xs ys : List F) (B B' : Nat) (w : World) (h : Rd encF w B A n c xs) (h' : Rd encF w B' A' n c' ys) (hs : ∀ (j : Nat) (x y : F), xs[j]? = some x → ys[j]? = some y → sm x.1 y.1 = true) (hn : n ≤ 60) :
    Calls Try.prog 40 #[.slice A n c, .slice A' n c', .func (.func 41) #[] #[]] w fun e w' => e = .returned (.bool true) ∧ w = w' := by
  have HR := Lib.hid h
  have HR' := Lib.hid h'
  have HS := Lib.hid hs
  clear h h' hs
  go_enter Try.func40, Try.ntmps40
  go_wp2_with fail
  go_loop [17] (fun i => ∃ k : Nat, k ≤ n ∧ i = .int .i64 k) (fun i => n - (intOf i).toNat)
  case atStart => exact ⟨0, Nat.zero_le _, rfl⟩
  case round =>
    obtain ⟨k, hk, rfl⟩ := hrel
    by_cases hlt : k < n
    · obtain ⟨b, o, x, rfl, -, hx, hcx⟩ := HR.out.get hlt
      obtain ⟨b', o', y, rfl, -, hy, hcy⟩ := HR'.out.get hlt
      obtain ⟨x, hx64⟩ := x
      obtain ⟨y, hy64⟩ := y
      change w.cell? ⟨b, o + k, none⟩ = some (.float .f64 x) at hcx
      change w.cell? ⟨b', o' + k, none⟩ = some (.float .f64 y) at hcy
      have hsm := Lib.hid (HS.out k _ _ hx hy)
      have H1 := Lib.hid hx64
      have H2 := Lib.hid hy64
      clear hx hy
      go_wp2_with fail
      refine (same_any x y _ H1.out H2.out).mono ?_
      rintro e w' ⟨rfl, rfl⟩
      rw [hsm.out]
      go_wp2_with fail
      go_round
      case rel => exact ⟨k + 1, by omega, by go_num⟩
      case measure => simp [intOf]; omega
    · have hk' : k = n := by omega
      go_wp2_with fail
      go_ret
      exact ⟨rfl, rfl⟩
end Go.Proofs.Ytdacacehmmjpeaa.Fl
