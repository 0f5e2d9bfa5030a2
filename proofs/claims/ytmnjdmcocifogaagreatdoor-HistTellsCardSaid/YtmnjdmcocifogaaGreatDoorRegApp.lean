/- An append of a row of the call's own inside a region that draws its order. No program is named here. -/
import Derived.Test.YtmnjdmcocifogaaGreatDoorReg
import Derived.Lib.AppendZeros
namespace Go.Proofs.YtmnjdmcocifogaaGreatDoor.Rw
open Go Go.RowKit
set_option linter.unusedVariables false

section
variable {α : Type} {enc : α → Value} {P : Program} {w : World}
theorem wp_append_rd {o : Oper} {a : Act} {next : Act → World → Prop} {Q : Exit → Act → World → Prop} (s x : Operand) (t : TypeId)
    (ho : o.op = .call { callee := .builtin .append, args := #[s, x], argTypes := #[t, t] })
    (base : Nat) (e : TypeId) (i : TypeInfo) (z : Value) (bytes : Nat) (ht : P.underlying t = some (.slice e)) (hi : P.info? e = some i) (hz : i.zero = some z)
    (hsize : i.size = 1) (hby : i.bytes = bytes) (hzs : z.cells.size = 1)
    (v : Value) (n : Nat) (xs : List Value) (hs : a.eval s = v) (hown : w.ownsRow base e 1 v n xs)
    (B : Nat) (A : Option Addr) (m c : Nat) (ys : List α) (hx : a.eval x = .slice A m c) (hr : Rd enc w B A m c ys) (h1 : ∀ y, (enc y).oneCell' = true)
    (k : Nat) (hk : n + m = k) (zs : List Value) (hzs' : xs ++ ys.map enc = zs) (h63 : n + m ≤ maxLen) (hbytes : (n + m) * bytes ≤ 140737488355328) (hbase : base ≤ w.heap.size)
    (h : ∀ A' c' w', w'.ownsRow base e 1 (.slice A' k c') k zs → w.grownBy w' v.ownBlock → ((Value.slice A' k c').ownBlock = v.ownBlock ∨ (Value.slice A' k c').ownBlock = some w.heap.size) → next (a.put o.dst (.slice A' k c')) w') : o.wp P a w next Q := by
  subst hk hzs'
  obtain ⟨v', w', hrun, h2, h3, h4⟩ := run_append_rd (P := P) w base t o.type e i z bytes ht hi hz hsize hby hzs v n xs hown B A m c ys hr h1 h63 hbytes hbase
  obtain ⟨A', c', rfl⟩ := own_slice h2
  exact Lib.wp_append_run w s x t t ho v _ hs hx _ w' hrun (h A' c' w' h2 h3 h4)
end
end Go.Proofs.YtmnjdmcocifogaaGreatDoor.Rw
