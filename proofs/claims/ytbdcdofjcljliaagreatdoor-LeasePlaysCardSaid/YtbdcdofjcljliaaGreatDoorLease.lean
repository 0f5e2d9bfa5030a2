/- Layer 14 (lease): a book in memory; contracts of the calls that look for one lease, end it, mark it. -/
import Derived.Test.YtbdcdofjcljliaaGreatDoorMapTell
import Derived.Test.YtbdcdofjcljliaaGreatDoorBase2
import Derived.Test.YtbdcdofjcljliaaGreatDoorBase1
import Derived.WalkKit
import Derived.ProofKit
namespace Go.Proofs.YtbdcdofjcljliaaGreatDoor.Le
open Go.ChangeShapes Go.WideShapes Go.ChangeAt Go.RowKit Go.Maps Rw Hi Mt
set_option linter.unusedVariables false

/-- A lease: to whom, since when, flagged. -/
structure Ls where
  thread : Int
  since : Int
  flag : Bool
deriving DecidableEq
abbrev Z0 : Ls := ⟨0, 0, false⟩
abbrev eL : Enc Ls where
  val x := .agg #[.int .i64 x.thread, .int .u64 x.since, .bool x.flag]
  dat x := .agg [.lit (.int .i64 x.thread), .lit (.int .u64 x.since), .lit (.bool x.flag)]
  R v := match v with
    | .agg ⟨[.int .i64 t, .int .u64 s, .bool f]⟩ => some (.agg [.lit (.int .i64 t), .lit (.int .u64 s), .lit (.bool f)], [])
    | _ => none
  mk_ x := rfl
  inv v y h := by
    split at h
    · rename_i t s f
      injection h with h
      exact ⟨⟨t, s, f⟩, rfl, h.symm⟩
    · cases h
  inj x y h := by
    injection h with h
    injection h with h1 h
    injection h with h2 h
    injection h with h3 h
    injection h1 with h1; injection h1 with _ h1
    injection h2 with h2; injection h2 with _ h2
    injection h3 with h3; injection h3 with h3
    cases x; cases y; simp_all
abbrev eB : Enc Bool where
  val := .bool
  dat b := .lit (.bool b)
  R v := match v with
    | .bool b => some (.lit (.bool b), [])
    | _ => none
  mk_ x := rfl
  inv v y h := by
    split at h
    · rename_i b
      injection h with h
      exact ⟨b, rfl, h.symm⟩
    · cases h
  inj x y h := by injection h with h; injection h
abbrev ML (w : World) (a : Nat) (L : List (Int × Ls)) : Prop := Mo Tryz.prog 22 eL w a L
abbrev MB (w : World) (a : Nat) (M : List (Int × Bool)) : Prop := Mo Tryz.prog 22 eB w a M
theorem zeroL (w : World) : (zeroValue 57).run Tryz.prog w = .ok (eL.val Z0) w := by kernel_rfl
theorem zeroB (w : World) : (zeroValue 4).run Tryz.prog w = .ok (eB.val false) w := by kernel_rfl
/-- Where a book lies: its struct, its leases' map, its marks' map, its wheel and that one's map. -/
structure At where
  p : Nat
  a : Nat
  b : Nat
  q : Nat
  m : Nat
/-- A book: its Leak, leases, marks and timers. -/
structure Bk (w : World) (x : At) (leak : Int) (L : List (Int × Ls)) (M : List (Int × Bool)) (T : List (Int × Int)) : Prop where
  c0 : w.cell? ⟨x.p, 0, none⟩ = some (.int .u64 leak)
  c1 : w.cell? ⟨x.p, 1, none⟩ = some (.map (some x.a))
  c2 : w.cell? ⟨x.p, 2, none⟩ = some (.map (some x.b))
  c3 : w.cell? ⟨x.p, 3, none⟩ = some (.pointer (some ⟨x.q, 0, none⟩))
  leases : ML w x.a L
  marks : MB w x.b M
  wheel : Wl.Wh w x.q x.m T
  ab : x.a ≠ x.b
  am : x.a ≠ x.m
  bm : x.b ≠ x.m
abbrev ptr (p : Nat) : Value := .pointer (some ⟨p, 0, none⟩)
section
variable {w w' : World} {x : At} {leak : Int} {L : List (Int × Ls)} {M : List (Int × Bool)} {T : List (Int × Int)}
theorem Bk.lt (h : Bk w x leak L M T) : x.p < w.heap.size ∧ x.a < w.heap.size ∧ x.b < w.heap.size ∧ x.q < w.heap.size ∧ x.m < w.heap.size :=
  ⟨Lw.lt_heap h.c0, h.leases.lt, h.marks.lt, h.wheel.lt.1, h.wheel.lt.2⟩
theorem Bk.pa (h : Bk w x leak L M T) : x.p ≠ x.a := fun e => h.leases.no_cell 0 _ (e ▸ h.c0)
theorem Bk.pb (h : Bk w x leak L M T) : x.p ≠ x.b := fun e => h.marks.no_cell 0 _ (e ▸ h.c0)
theorem wh_no_cell {q m : Nat} (h : Wl.Wh w q m T) (o : Nat) (v : Value) : w.cell? ⟨m, o, none⟩ ≠ some v := by
  obtain ⟨D, ⟨es, clock, h1, h2⟩, h3⟩ := h.own
  intro hc
  simp [World.cell?, h1] at hc
theorem Bk.pm (h : Bk w x leak L M T) : x.p ≠ x.m := fun e => wh_no_cell h.wheel 0 _ (e ▸ h.c0)
theorem Bk.qa (h : Bk w x leak L M T) : x.q ≠ x.a := fun e => h.leases.no_cell 0 _ (e ▸ h.wheel.cell)
theorem Bk.qb (h : Bk w x leak L M T) : x.q ≠ x.b := fun e => h.marks.no_cell 0 _ (e ▸ h.wheel.cell)
/-- What leaves a book's five blocks as they were leaves the book. -/
theorem Bk.same (h : Bk w x leak L M T) (hp : w'.heap[x.p]? = w.heap[x.p]?) (ha : w'.heap[x.a]? = w.heap[x.a]?) (hb : w'.heap[x.b]? = w.heap[x.b]?) (hq : w'.heap[x.q]? = w.heap[x.q]?) (hm : w'.heap[x.m]? = w.heap[x.m]?) : Bk w' x leak L M T :=
  ⟨(World.cell?_of_block hp).trans h.c0, (World.cell?_of_block hp).trans h.c1, (World.cell?_of_block hp).trans h.c2, (World.cell?_of_block hp).trans h.c3, h.leases.block ha, h.marks.block hb, ⟨(World.cell?_of_block hq).trans h.wheel.cell, h.wheel.own.block hm, h.wheel.tms⟩, h.ab, h.am, h.bm⟩
theorem Bk.later (h : Bk w x leak L M T) (hb : Below w.heap.size w w') : Bk w' x leak L M T := by
  obtain ⟨h1, h2, h3, h4, h5⟩ := h.lt
  exact h.same (hb.block _ h1) (hb.block _ h2) (hb.block _ h3) (hb.block _ h4) (hb.block _ h5)
/-- The leases' map turned. -/
theorem Bk.turnL (h : Bk w x leak L M T) {L' : List (Int × Ls)} (hg : w.grownBy w' (some x.a)) (hL : ML w' x.a L') : Bk w' x leak L' M T := by
  obtain ⟨h1, h2, h3, h4, h5⟩ := h.lt
  have k : ∀ g, g < w.heap.size → g ≠ x.a → w'.heap[g]? = w.heap[g]? := fun g hg1 hg2 => hg.block g hg1 (fun e => hg2 (by injection e))
  have hp := k _ h1 h.pa
  have hq := k _ h4 h.qa
  exact ⟨(World.cell?_of_block hp).trans h.c0, (World.cell?_of_block hp).trans h.c1, (World.cell?_of_block hp).trans h.c2, (World.cell?_of_block hp).trans h.c3, hL, h.marks.block (k _ h3 h.ab.symm), ⟨(World.cell?_of_block hq).trans h.wheel.cell, h.wheel.own.block (k _ h5 h.am.symm), h.wheel.tms⟩, h.ab, h.am, h.bm⟩
theorem Bk.turnM (h : Bk w x leak L M T) {M' : List (Int × Bool)} (hg : w.grownBy w' (some x.b)) (hM : MB w' x.b M') : Bk w' x leak L M' T := by
  obtain ⟨h1, h2, h3, h4, h5⟩ := h.lt
  have k : ∀ g, g < w.heap.size → g ≠ x.b → w'.heap[g]? = w.heap[g]? := fun g hg1 hg2 => hg.block g hg1 (fun e => hg2 (by injection e))
  have hp := k _ h1 h.pb
  have hq := k _ h4 h.qb
  exact ⟨(World.cell?_of_block hp).trans h.c0, (World.cell?_of_block hp).trans h.c1, (World.cell?_of_block hp).trans h.c2, (World.cell?_of_block hp).trans h.c3, h.leases.block (k _ h2 h.ab), hM, ⟨(World.cell?_of_block hq).trans h.wheel.cell, h.wheel.own.block (k _ h5 h.bm.symm), h.wheel.tms⟩, h.ab, h.am, h.bm⟩
theorem Bk.turnT (h : Bk w x leak L M T) {T' : List (Int × Int)} (hg : w.grownBy w' (some x.m)) (hT : Wl.Wh w' x.q x.m T') : Bk w' x leak L M T' := by
  obtain ⟨h1, h2, h3, h4, h5⟩ := h.lt
  have k : ∀ g, g < w.heap.size → g ≠ x.m → w'.heap[g]? = w.heap[g]? := fun g hg1 hg2 => hg.block g hg1 (fun e => hg2 (by injection e))
  have hp := k _ h1 h.pm
  exact ⟨(World.cell?_of_block hp).trans h.c0, (World.cell?_of_block hp).trans h.c1, (World.cell?_of_block hp).trans h.c2, (World.cell?_of_block hp).trans h.c3, h.leases.block (k _ h2 h.am), h.marks.block (k _ h3 h.bm), hT, h.ab, h.am, h.bm⟩
theorem Bk.permL (h : Bk w x leak L M T) {L' : List (Int × Ls)} (hp : L.Perm L') : Bk w x leak L' M T := ⟨h.c0, h.c1, h.c2, h.c3, h.leases.perm hp, h.marks, h.wheel, h.ab, h.am, h.bm⟩
theorem Bk.permM (h : Bk w x leak L M T) {M' : List (Int × Bool)} (hp : M.Perm M') : Bk w x leak L M' T := ⟨h.c0, h.c1, h.c2, h.c3, h.leases, h.marks.perm hp, h.wheel, h.ab, h.am, h.bm⟩
end
/-- A number of 64 bits. -/
abbrev U64 (k : Int) : Prop := 0 ≤ k ∧ k ≤ 18446744073709551615
section
variable (w : World) {ops : Array Oper} {rest : List Oper} {o : Oper} {a : Act} {Q : Exit → Act → World → Prop}
/-- 'l, held := b.leases[id]' -/
theorem lookL (hg : o.guard = none) (m x : Operand) (hop : o.op = Op.lookup 49 m x true) (b : Nat) (L : List (Int × Ls)) (hm : a.eval m = .map (some b)) (h : ML w b L) (y : Int) (hy : U64 y) (hx : a.eval x = .int .u64 y)
    (t s : Int) (f bb : Bool) (hq : (fnd L y).getD Z0 = ⟨t, s, f⟩) (hb : (fnd L y).isSome = bb)
    (hK : wpList Tryz.prog ops Q rest (a.put o.dst (.tuple #[.agg #[.int .i64 t, .int .u64 s, .bool f], .bool bb])) w) : wpList Tryz.prog ops Q (o :: rest) a w := by
  refine look2 w hg m x 49 hop 22 57 Tryz.underlying22 Tryz.underlying49 Z0 (zeroL w) b L hm h y hy hx ?_
  rw [hq, hb]
  exact hK
/-- 'b.leases[id]' -/
theorem lookL1 (hg : o.guard = none) (m x : Operand) (hop : o.op = Op.lookup 49 m x false) (b : Nat) (L : List (Int × Ls)) (hm : a.eval m = .map (some b)) (h : ML w b L) (y : Int) (hy : U64 y) (hx : a.eval x = .int .u64 y)
    (t s : Int) (f : Bool) (hq : (fnd L y).getD Z0 = ⟨t, s, f⟩)
    (hK : wpList Tryz.prog ops Q rest (a.put o.dst (.agg #[.int .i64 t, .int .u64 s, .bool f])) w) : wpList Tryz.prog ops Q (o :: rest) a w := by
  refine look1 w hg m x 49 hop 22 57 Tryz.underlying22 Tryz.underlying49 Z0 (zeroL w) b L hm h y hy hx ?_
  rw [hq]
  exact hK
end

section
variable (w : World) (x : At) (leak : Int) (L : List (Int × Ls)) (M : List (Int × Bool)) (T : List (Int × Int)) (id : Int)
set_option maxRecDepth 100000 in
theorem of_any (h : Bk w x leak L M T) (hid : U64 id) (t s : Int) (f bb : Bool) (hq : (fnd L id).getD Z0 = ⟨t, s, f⟩) (hb : (fnd L id).isSome = bb) :
    Calls Tryz.prog 55 #[ptr x.p, .int .u64 id] w fun e w' => e = .returned (.tuple #[.agg #[.int .i64 t, .int .u64 s, .bool f], .bool bb]) ∧ Below w.heap.size w w' := by
  have c1 := h.c1
  have H := Lib.hid h
  have HI := Lib.hid hid
  have HQ := Lib.hid hq
  have HB := Lib.hid hb
  have hlp := h.lt.1
  clear h hid hq hb
  go_enter Tryz.func55, Tryz.ntmps55
  go_wp2_with (at_lookup; refine lookL _ rfl _ _ rfl x.a L rfl (H.out.leases.later ((Below.refl _ _).alloc (Nat.le_refl _) _)) id HI.out rfl t s f bb HQ.out HB.out ?_)
  refine bodyPost_ret (v := .tuple #[.agg #[.int .i64 t, .int .u64 s, .bool f], .bool bb]) ?_ rfl ⟨rfl, ?_⟩
  · simp [results, Tryz.results55, go_sem]
  · exact ((Below.refl _ _).alloc (Nat.le_refl _) _).alloc (by simp) _
set_option maxRecDepth 100000 in
theorem holder_any (h : Bk w x leak L M T) (hid : U64 id) (t s : Int) (f bb : Bool) (hq : (fnd L id).getD Z0 = ⟨t, s, f⟩) (hb : (fnd L id).isSome = bb) :
    Calls Tryz.prog 34 #[ptr x.p, .int .u64 id] w fun e w' => e = .returned (.tuple #[.int .i64 t, .bool bb]) ∧ Below w.heap.size w w' := by
  go_enter Tryz.func34, Tryz.ntmps34
  go_wp2_with fail
  refine (of_any w x leak L M T id h hid t s f bb hq hb).mono ?_
  rintro e w1 ⟨rfl, hb1⟩
  go_wp2_with fail
  go_ret2
  exact ⟨rfl, hb1.alloc hb1.size _⟩
set_option maxRecDepth 100000 in
theorem since_any (h : Bk w x leak L M T) (hid : U64 id) (t s : Int) (f bb : Bool) (hq : (fnd L id).getD Z0 = ⟨t, s, f⟩) (hb : (fnd L id).isSome = bb) :
    Calls Tryz.prog 35 #[ptr x.p, .int .u64 id] w fun e w' => e = .returned (.tuple #[.int .u64 s, .bool bb]) ∧ Below w.heap.size w w' := by
  go_enter Tryz.func35, Tryz.ntmps35
  go_wp2_with fail
  refine (of_any w x leak L M T id h hid t s f bb hq hb).mono ?_
  rintro e w1 ⟨rfl, hb1⟩
  go_wp2_with fail
  go_ret2
  exact ⟨rfl, hb1.alloc hb1.size _⟩
/-- Does a thread hold an id? -/
def holds (L : List (Int × Ls)) (id t : Int) : Bool := (fnd L id).isSome && ((fnd L id).getD Z0).thread == t
def wr (L : List (Int × Ls)) (id t : Int) : Int := if holds L id t = true then 0 else 5
set_option maxRecDepth 100000 in
theorem wrong_any (th : Int) (h : Bk w x leak L M T) (hid : U64 id) :
    Calls Tryz.prog 27 #[ptr x.p, .int .u64 id, .int .i64 th] w fun e w' => e = .returned (.int .i64 (wr L id th)) ∧ Below w.heap.size w w' := by
  obtain ⟨⟨t, s, f⟩, hq⟩ : ∃ q, (fnd L id).getD Z0 = q := ⟨_, rfl⟩
  obtain ⟨bb, hb⟩ : ∃ b, (fnd L id).isSome = b := ⟨_, rfl⟩
  unfold wr holds
  rw [hq, hb]
  have H := Lib.hid (holder_any w x leak L M T id h hid t s f bb hq hb)
  clear h hid hq hb
  cases bb
  · go_enter Tryz.func27, Tryz.ntmps27
    go_wp2_with fail
    refine H.out.mono ?_
    rintro e w1 ⟨rfl, hb1⟩
    go_wp2_with fail
    go_ret
    exact ⟨rfl, hb1⟩
  · by_cases ht : t = th
    · subst ht
      have e5 : (if (true && t == t) = true then (0 : Int) else 5) = 0 := by simp
      rw [e5]
      go_enter Tryz.func27, Tryz.ntmps27
      go_wp2_with fail
      refine H.out.mono ?_
      rintro e w1 ⟨rfl, hb1⟩
      go_wp2_with fail
      go_ret
      exact ⟨rfl, hb1⟩
    · have hne : (t != th) = true := by simpa using ht
      have e5 : (if (true && t == th) = true then (0 : Int) else 5) = 5 := by simp [ht]
      rw [e5]
      clear ht
      go_enter Tryz.func27, Tryz.ntmps27
      go_wp2_with fail
      refine H.out.mono ?_
      rintro e w1 ⟨rfl, hb1⟩
      go_wp2_with fail
      go_ret
      exact ⟨rfl, hb1⟩
theorem fr_below {a b : Option Nat} {w0 w1 : World} (hb : Below w0.heap.size w0 w1) : Fr a b w0 w1 := ⟨hb.os, hb.tape, hb.output, hb.size, fun k hk _ _ => hb.block k hk⟩
theorem fr_grown1 {a b : Option Nat} {w0 w1 : World} (h : w0.grownBy w1 a) : Fr a b w0 w1 := Fr.of_grown h (.inr (.inl rfl))
theorem fr_grown2 {a b : Option Nat} {w0 w1 : World} (h : w0.grownBy w1 b) : Fr a b w0 w1 := Fr.of_grown h (.inr (.inr rfl))
theorem Fr.tr {a b : Option Nat} {w0 w1 w2 : World} (h : Fr a b w0 w1) (h' : Fr a b w1 w2) : Fr a b w0 w2 := h.then h' (fun k e _ => .inl e.symm) (fun k e _ => .inr e.symm)
set_option maxRecDepth 100000 in
theorem end_no (th : Int) (h : Bk w x leak L M T) (hid : U64 id) (hw : holds L id th = false) :
    Calls Tryz.prog 9 #[ptr x.p, .int .u64 id, .int .i64 th] w fun e w' => e = .returned (.int .i64 5) ∧ Below w.heap.size w w' := by
  have H := Lib.hid (wrong_any w x leak L M T id th h hid)
  have e1 : wr L id th = 5 := by unfold wr; rw [hw]; rfl
  rw [e1] at H
  clear h hid hw e1
  go_enter Tryz.func9, Tryz.ntmps9
  go_wp2_with fail
  refine H.out.mono ?_
  rintro e w1 ⟨rfl, hb1⟩
  go_wp2_with fail
  go_ret
  exact ⟨rfl, hb1⟩
set_option maxRecDepth 100000 in
theorem end_ok (th : Int) (h : Bk w x leak L M T) (hid : U64 id) (hw : holds L id th = true) :
    Calls Tryz.prog 9 #[ptr x.p, .int .u64 id, .int .i64 th] w fun e w' => e = .returned (.int .i64 0) ∧ Bk w' x leak (wo L id) M (Wl.wo T id) ∧ Fr (some x.a) (some x.m) w w' := by
  have H := Lib.hid (wrong_any w x leak L M T id th h hid)
  have e1 : wr L id th = 0 := by unfold wr; rw [hw]; rfl
  rw [e1] at H
  have HK := Lib.hid h
  have HI := Lib.hid hid
  clear h hid hw e1
  go_enter Tryz.func9, Tryz.ntmps9
  go_wp2_with fail
  refine H.out.mono ?_
  rintro e w1 ⟨rfl, hb1⟩
  have k1 := HK.out.later hb1
  have c1 := k1.c1
  have HK1 := Lib.hid k1
  have HB1 := Lib.hid hb1
  clear k1 hb1 HK H
  go_wp2_with (at_delete; refine del1 _ rfl _ _ 49 22 rfl 57 Tryz.underlying22 Tryz.underlying49 x.a L rfl HK1.out.leases id HI.out rfl ?_; intro w2 hL2 hg2; have k2 := HK1.out.turnL hg2 hL2; have c3 := k2.c3; have HK2 := Lib.hid k2; have HG2 := Lib.hid hg2; clear k2 hL2 hg2)
  refine (Wl.disarm_any w2 x.q x.m T id HK2.out.wheel HI.out).mono ?_
  rintro e w3 ⟨rfl, hw3, hg3⟩
  have HK3 := Lib.hid (HK2.out.turnT hg3 hw3)
  have HG3 := Lib.hid hg3
  clear hw3 hg3
  go_wp2_with fail
  go_ret
  exact ⟨rfl, HK3.out, Fr.tr (fr_below HB1.out) (Fr.tr (fr_grown1 HG2.out) (fr_grown2 HG3.out))⟩
set_option maxRecDepth 100000 in
theorem mark_no (th : Int) (h : Bk w x leak L M T) (hid : U64 id) (hw : holds L id th = false) :
    Calls Tryz.prog 11 #[ptr x.p, .int .u64 id, .int .i64 th] w fun e w' => e = .returned (.int .i64 5) ∧ Below w.heap.size w w' := by
  have H := Lib.hid (wrong_any w x leak L M T id th h hid)
  have e1 : wr L id th = 5 := by unfold wr; rw [hw]; rfl
  rw [e1] at H
  clear h hid hw e1
  go_enter Tryz.func11, Tryz.ntmps11
  go_wp2_with fail
  refine H.out.mono ?_
  rintro e w1 ⟨rfl, hb1⟩
  go_wp2_with fail
  go_ret
  exact ⟨rfl, hb1⟩
set_option maxRecDepth 100000 in
theorem mark_ok (th : Int) (h : Bk w x leak L M T) (hid : U64 id) (hw : holds L id th = true) (hM : M.length ≤ 1000000) :
    Calls Tryz.prog 11 #[ptr x.p, .int .u64 id, .int .i64 th] w fun e w' => e = .returned (.int .i64 0) ∧ Bk w' x leak L ((id, true) :: wo M id) T ∧ Fr (some x.b) none w w' := by
  have H := Lib.hid (wrong_any w x leak L M T id th h hid)
  have e1 : wr L id th = 0 := by unfold wr; rw [hw]; rfl
  rw [e1] at H
  have HK := Lib.hid h
  have HI := Lib.hid hid
  clear h hid hw e1
  go_enter Tryz.func11, Tryz.ntmps11
  go_wp2_with fail
  refine H.out.mono ?_
  rintro e w1 ⟨rfl, hb1⟩
  have k1 := HK.out.later hb1
  have c2 := k1.c2
  have HK1 := Lib.hid k1
  have HB1 := Lib.hid hb1
  clear k1 hb1 HK H
  go_wp2_with (at_mapUpdate; refine put1 _ rfl _ _ _ 50 rfl 22 4 Tryz.underlying22 Tryz.underlying50 x.b M rfl HK1.out.marks (by omega) id HI.out rfl true rfl ?_; intro w2 hM2 hg2; have HK2 := Lib.hid (HK1.out.turnM hg2 hM2); have HG2 := Lib.hid hg2; clear hM2 hg2)
  go_ret
  exact ⟨rfl, HK2.out, Fr.tr (fr_below HB1.out) (fr_grown1 HG2.out)⟩
theorem forget_any (h : Bk w x leak L M T) (hid : U64 id) :
    Calls Tryz.prog 13 #[ptr x.p, .int .u64 id] w fun e w' => e = .returned (.tuple #[]) ∧ Bk w' x leak L (wo M id) T ∧ Fr (some x.b) none w w' := by
  have c2 := h.c2
  have HK := Lib.hid h
  have HI := Lib.hid hid
  clear h hid
  go_enter Tryz.func13, Tryz.ntmps13
  go_wp2_with (at_delete; refine del1 _ rfl _ _ 50 22 rfl 4 Tryz.underlying22 Tryz.underlying50 x.b M rfl HK.out.marks id HI.out rfl ?_; intro w2 hM2 hg2; have HK2 := Lib.hid (HK.out.turnM hg2 hM2); have HG2 := Lib.hid hg2; clear hM2 hg2)
  exact bodyPost_end (v := .tuple #[]) (by simp [results, Tryz.results13]) rfl ⟨rfl, HK2.out, fr_grown1 HG2.out⟩
theorem marked_any (h : Bk w x leak L M T) (hid : U64 id) (bb : Bool) (hb : (fnd M id).getD false = bb) :
    Calls Tryz.prog 38 #[ptr x.p, .int .u64 id] w fun e w' => e = .returned (.bool bb) ∧ w = w' := by
  have c2 := h.c2
  have hl := run_look1 (E := eB) w Tryz.underlying22 Tryz.underlying50 false (zeroB w) h.marks hid
  rw [hb] at hl
  have hl' : (Instr.lookup 50 (.map (some x.b)) (.int .u64 id) false).run Tryz.prog w = .ok (.bool bb) w := hl
  clear h hid hb hl
  go_enter Tryz.func38, Tryz.ntmps38
  go_wp2_with fail
  go_ret
  exact ⟨by simp, rfl⟩
theorem len_any (h : Bk w x leak L M T) :
    Calls Tryz.prog 43 #[ptr x.p] w fun e w' => e = .returned (.int .i64 L.length) ∧ w = w' := by
  have c1 := h.c1
  have hl : ∀ ty, (Builtin.len_ #[49] ty #[.map (some x.a)]).run Tryz.prog w = .ok (.int .i64 L.length) w := fun ty => run_len (E := eL) w Tryz.underlying49 h.leases ty
  clear h
  go_enter Tryz.func43, Tryz.ntmps43
  go_wp2_with fail
  go_ret
  exact ⟨rfl, rfl⟩
theorem timers_any (h : Bk w x leak L M T) :
    Calls Tryz.prog 42 #[ptr x.p] w fun e w' => e = .returned (.int .i64 T.length) ∧ w = w' := by
  have c3 := h.c3
  have HW := Lib.hid h.wheel
  clear h
  go_enter Tryz.func42, Tryz.ntmps42
  go_wp2_with fail
  refine (Wl.len_any w x.q x.m T HW.out).mono ?_
  rintro e w1 ⟨rfl, rfl⟩
  go_wp2_with fail
  go_ret
  exact ⟨rfl, rfl⟩
end
end Go.Proofs.YtbdcdofjcljliaaGreatDoor.Le
