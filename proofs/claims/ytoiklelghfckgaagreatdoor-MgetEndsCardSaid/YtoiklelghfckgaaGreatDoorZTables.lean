/- A part of the claim: the texts Tables. -/
import Derived.Test.YtoiklelghfckgaaGreatDoorZTableMath
import Derived.Test.YtoiklelghfckgaaGreatDoorZMget
set_option linter.unusedVariables false
namespace Go.Proofs.YtoiklelghfckgaaGreatDoor.Wo
open Go Go.ChangeShapes Go.WideShapes Go.ChangeAt Go.RowKit Go.Deep Go.Maps Rw Hi Mt Ba
open Cn (Cf cfE)
abbrev Gon (base:Nat) (x:Wp) (g:Gv) (s:Ws) (N:List Int):Prop:=∀ (w:World) (col:Nat→Nat),Wv base col w x s→Calls Tryz.prog 124 #[.agg (Gv.cells g).toArray,ptr x.pw] w fun e w'=>e=.returned (.agg (Gv.cells (stepG ⟨g,s,N⟩).g).toArray) ∧ ∃ col',Wv base col' w' x (stepG ⟨g,s,N⟩).s∧Fw col w w'∧El w col col'
end Go.Proofs.YtoiklelghfckgaaGreatDoor.Wo
