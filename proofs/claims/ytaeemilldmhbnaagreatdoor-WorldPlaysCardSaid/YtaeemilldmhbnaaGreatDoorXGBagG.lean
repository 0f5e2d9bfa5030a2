/- A part of the claim: the texts BagOpen BagG. -/
import Derived.Test.YtaeemilldmhbnaaGreatDoorXGBag
import Derived.Test.YtaeemilldmhbnaaGreatDoorXGAw
import Derived.RangeFuncSeq
set_option linter.unusedVariables false
namespace Go.Proofs.YtaeemilldmhbnaaGreatDoor.Ba
open Go.ChangeShapes Go.WideShapes Go.ChangeAt Go.RowKit Go.Maps Rw Hi Mt
structure Ax where
 do_:Int
 id:Int
 old:Int
 now:Int
 st:Int
structure Ax.ok (a:Ax):Prop where
 d:0≤a.do_∧a.do_≤255
 i:U64 a.id
 o:U64 a.old
 n:U64 a.now
 s:-9223372036854775808≤a.st∧a.st≤9223372036854775807
end Go.Proofs.YtaeemilldmhbnaaGreatDoor.Ba
namespace Go.Proofs.YtaeemilldmhbnaaGreatDoor.Ba
open Go Go.ChangeShapes Go.WideShapes Go.ChangeAt Go.RowKit Go.Maps Rw Hi Mt
section
variable {W w w':World} {p a m q:Nat} {D D':List (Int × Ex)} {S S':List Int} {G:List (Int × Int)} {k:Nat} {y:Ax} {C R C' R' E:Nat→Prop}
end
theorem with_fact {P:Program} {f:FuncId} {args:Array Value} {W:World} {R:Ending→World→Prop} (F:World→Prop) (u:F W) (h:F W→Calls P f args W R):Calls P f args W R:=h u
section
variable (w:World) {ops:Array Oper} {rest:List Oper} {o:Oper} {a:Act} {Q:Exit→Act→World→Prop}
end
end Go.Proofs.YtaeemilldmhbnaaGreatDoor.Ba
