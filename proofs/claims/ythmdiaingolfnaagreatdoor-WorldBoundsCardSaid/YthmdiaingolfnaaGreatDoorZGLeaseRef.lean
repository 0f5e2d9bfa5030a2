/- A part of the claim: the texts LeaseRef WheelRef LeaseRefB. -/
import Derived.Test.YthmdiaingolfnaaGreatDoorZGLease
import Derived.Test.YthmdiaingolfnaaGreatDoorZBase5
import Derived.Test.YthmdiaingolfnaaGreatDoorZBase2
import Derived.Test.YthmdiaingolfnaaGreatDoorZBase1
import Derived.Test.YthmdiaingolfnaaGreatDoorZKeep
namespace Go.Proofs.YthmdiaingolfnaaGreatDoor.Le
open Go.ChangeShapes Go.WideShapes Go.ChangeAt Go.RowKit Go.Maps Rw Hi Mt
set_option linter.unusedVariables false
def enc4 (a : Int × Ls) : List Value := [.int .u64 a.1, .int .i64 a.2.thread, .int .u64 a.2.since, .bool a.2.flag]
abbrev Rl (w : World) (B : Nat) (A : Option Addr) (n c : Nat) (l : List (Int × Ls)) : Prop := Rs enc4 4 w B A n c l
def fx (D : List (Int × Ls)) (id : Int) : Int := match D.findIdx? (fun a => a.1 == id) with
  | some i => (i : Int)
  | none => -1
section
variable (leak : Int) (A A2 A3 : Option Addr) (n c n2 c2 n3 c3 B : Nat) (D : List (Int × Ls)) (w : World)
end
end Go.Proofs.YthmdiaingolfnaaGreatDoor.Le
namespace Go.Proofs.YthmdiaingolfnaaGreatDoor.Wl
open Go.ChangeShapes Go.WideShapes Go.ChangeAt Go.RowKit Go.Maps Rw Sl Sn Ck
set_option linter.unusedVariables false
def enc2 (a : Int × Int) : List Value := [.int .u64 a.1, .int .u64 a.2]
abbrev Tr (w : World) (B : Nat) (A : Option Addr) (n c : Nat) (l : List (Int × Int)) : Prop := Rs enc2 2 w B A n c l
theorem Rs.two {w : World} {B : Nat} {A : Option Addr} {n c : Nat} {l : List (Int × Int)} (h : Tr w B A n c l) {k : Nat} (hk : k < n) :
    ∃ b o x, A = some ⟨b, o, none⟩ ∧ b < B ∧ l[k]? = some x ∧ w.cell? ⟨b, o + k * 2, none⟩ = some (.int .u64 x.1) ∧ w.cell? ⟨b, o + k * 2 + 1, none⟩ = some (.int .u64 x.2) := by
  obtain ⟨b, o, x, hA, hb, hx, hc⟩ := h.get hk
  exact ⟨b, o, x, hA, hb, hx, by simpa using hc 0 (.int .u64 x.1) (by omega) rfl, hc 1 (.int .u64 x.2) (by omega) rfl⟩
def Fm (A : Option Addr) (c : Nat) : Prop := (A = none ∧ c = 0) ∨ ∃ b o, A = some ⟨b, o, none⟩
end Go.Proofs.YthmdiaingolfnaaGreatDoor.Wl
namespace Go.Proofs.YthmdiaingolfnaaGreatDoor.Le
open Go.ChangeShapes Go.WideShapes Go.ChangeAt Go.RowKit Go.Maps Rw Hi Mt
set_option linter.unusedVariables false
def V4 (w : World) (g : Nat) (a b c d : Value) : Prop := (w.cell? ⟨g, 0, none⟩ = some a ∧ w.cell? ⟨g, 1, none⟩ = some b ∧ w.cell? ⟨g, 2, none⟩ = some c ∧ w.cell? ⟨g, 3, none⟩ = some d) ∧ w.frozen? ⟨g, 0, none⟩ = false ∧ w.frozen? ⟨g, 1, none⟩ = false ∧ w.frozen? ⟨g, 2, none⟩ = false ∧ w.frozen? ⟨g, 3, none⟩ = false
theorem V4.new (w : World) (t : TypeId) (a b c d : Value) : V4 (w.alloc (.cells #[a, b, c, d] t)) w.heap.size a b c d := by
  unfold V4
  refine ⟨⟨?_, ?_, ?_, ?_⟩, ?_, ?_, ?_, ?_⟩ <;> go_simp
theorem V4.below {w w' : World} {g B : Nat} {a b c d : Value} (h : V4 w g a b c d) (hb : Below B w w') (hg : g < B) : V4 w' g a b c d := by
  obtain ⟨⟨h0, h1, h2, h3⟩, f0, f1, f2, f3⟩ := h
  exact ⟨⟨(hb.cell (p := ⟨g, 0, none⟩) hg).trans h0, (hb.cell (p := ⟨g, 1, none⟩) hg).trans h1, (hb.cell (p := ⟨g, 2, none⟩) hg).trans h2, (hb.cell (p := ⟨g, 3, none⟩) hg).trans h3⟩,
    (hb.frozen (p := ⟨g, 0, none⟩) hg).trans f0, (hb.frozen (p := ⟨g, 1, none⟩) hg).trans f1, (hb.frozen (p := ⟨g, 2, none⟩) hg).trans f2, (hb.frozen (p := ⟨g, 3, none⟩) hg).trans f3⟩
structure Da where
  A : Option Addr
  n : Nat
  c : Nat
  A2 : Option Addr
  n2 : Nat
  c2 : Nat
  A3 : Option Addr
  n3 : Nat
  c3 : Nat
abbrev Da.val (leak : Int) (d : Da) : Value := .agg #[.int .u64 leak, .slice d.A d.n d.c, .slice d.A2 d.n2 d.c2, .slice d.A3 d.n3 d.c3]
structure DkK (K : Nat → Prop) (w : World) (d : Da) (D : List (Int × Ls)) (M : List Int) (T : List (Int × Int)) : Prop where
  l : Rl w w.heap.size d.A d.n d.c D
  m : Rd (Value.int .u64) w w.heap.size d.A2 d.n2 d.c2 M
  t : Wl.Tr w w.heap.size d.A3 d.n3 d.c3 T
  fm : Wl.Fm d.A3 d.c3
  fl : Wl.Fm d.A d.c
  kl : Kn K d.n d.A
  km : Kn K d.n2 d.A2
  kt : Kn K d.n3 d.A3
abbrev Dk (w : World) (d : Da) (D : List (Int × Ls)) (M : List Int) (T : List (Int × Int)) : Prop := DkK (fun _ => True) w d D M T
theorem Dk.of {w : World} {d : Da} {D : List (Int × Ls)} {M : List Int} {T : List (Int × Int)} (l : Rl w w.heap.size d.A d.n d.c D) (m : Rd (Value.int .u64) w w.heap.size d.A2 d.n2 d.c2 M) (t : Wl.Tr w w.heap.size d.A3 d.n3 d.c3 T) (fm : Wl.Fm d.A3 d.c3) (fl : Wl.Fm d.A d.c) : Dk w d D M T := ⟨l, m, t, fm, fl, Kn.true_, Kn.true_, Kn.true_⟩
theorem DkK.later {K : Nat → Prop} {w w' : World} {d : Da} {D : List (Int × Ls)} {M : List Int} {T : List (Int × Int)} (h : DkK K w d D M T) (hb : Below w.heap.size w w') : DkK K w' d D M T := ⟨h.l.later hb, h.m.later hb, h.t.later hb, h.fm, h.fl, h.kl, h.km, h.kt⟩
def hx (D : List (Int × Ls)) (id th : Int) : Int := if holds D id th = true then fx D id else -1
section
variable (leak : Int) (A A2 A3 : Option Addr) (n c n2 c2 n3 c3 : Nat) (D : List (Int × Ls)) (M : List Int) (T : List (Int × Int)) (w : World)
end
end Go.Proofs.YthmdiaingolfnaaGreatDoor.Le
