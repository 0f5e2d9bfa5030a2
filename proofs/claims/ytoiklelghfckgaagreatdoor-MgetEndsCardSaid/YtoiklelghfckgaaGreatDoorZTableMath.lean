/- A part of the claim: the texts TableMath. -/
import Derived.Test.YtoiklelghfckgaaGreatDoorZGMeth
import Derived.Test.YtoiklelghfckgaaGreatDoorZMgetMath
set_option linter.unusedVariables false
namespace Go.Proofs.YtoiklelghfckgaaGreatDoor.Wo
open Go Go.ChangeShapes Go.WideShapes Go.ChangeAt Go.RowKit Go.Maps Rw Hi Mt Ba
open Cn (Cf cfE)
structure Pt where
 th:Int
 id:Int
 st:ByteArray
 g:Gv
 err:Int
def Pt.cells (q:Pt):List Value:=[.int .i64 q.th,.int .u64 q.id,.string q.st,.int .i64 q.g.th,.int .i64 q.g.op,.int .u64 q.g.id,.int .u64 q.g.word,.string q.g.st,.int .i64 q.err]
abbrev Pt.val (q:Pt):Value:=.agg q.cells.toArray
abbrev Pt.to (q:Pt) (st:ByteArray):Pt:={ q with st:=st }
structure Mu where
 q:Pt
 s:Ws
 N:List Int
abbrev Mu.to (m:Mu) (st:ByteArray):Mu:={ m with q:=m.q.to st }
structure Ht where
 th:Int
 st:ByteArray
 A:Option Addr
 n:Nat
 c:Nat
 S:List Int
 place:Int
 id:Int
 word:Int
 g:Gv
 fills:Bool
def Ht.cells (q:Ht):List Value:=[.int .i64 q.th,.string q.st,.slice q.A q.n q.c,.int .i64 q.place,.int .u64 q.id,.int .u64 q.word,.int .i64 q.g.th,.int .i64 q.g.op,.int .u64 q.g.id,.int .u64 q.g.word,.string q.g.st,.bool q.fills]
abbrev Ht.val (q:Ht):Value:=.agg q.cells.toArray
abbrev Ht.to (q:Ht) (st:ByteArray):Ht:={ q with st:=st }
structure Mh where
 q:Ht
 s:Ws
 N:List Int
abbrev Mh.to (m:Mh) (st:ByteArray):Mh:={ m with q:=m.q.to st }
structure Ct where
 th:Int
 st:ByteArray
 A:Option Addr
 n:Nat
 c:Nat
 S:List Int
 place:Int
 id:Int
 word:Int
 g:Gv
 err:Int
def Ct.cells (q:Ct):List Value:=[.int .i64 q.th,.string q.st,.slice q.A q.n q.c,.int .i64 q.place,.int .u64 q.id,.int .u64 q.word,.int .i64 q.g.th,.int .i64 q.g.op,.int .u64 q.g.id,.int .u64 q.g.word,.string q.g.st,.int .i64 q.err]
abbrev Ct.val (q:Ct):Value:=.agg q.cells.toArray
abbrev Ct.to (q:Ct) (st:ByteArray):Ct:={ q with st:=st }
structure Mc where
 q:Ct
 s:Ws
 N:List Int
abbrev Mc.to (m:Mc) (st:ByteArray):Mc:={ m with q:=m.q.to st }
end Go.Proofs.YtoiklelghfckgaaGreatDoor.Wo
