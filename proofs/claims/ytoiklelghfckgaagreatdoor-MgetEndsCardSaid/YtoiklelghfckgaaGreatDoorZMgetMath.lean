/- A part of the claim: the texts MgetMath. -/
import Derived.Test.YtoiklelghfckgaaGreatDoorZGMeth
set_option linter.unusedVariables false
namespace Go.Proofs.YtoiklelghfckgaaGreatDoor.Wo
open Go Go.ChangeShapes Go.WideShapes Go.ChangeAt Go.RowKit Go.Maps Rw Hi Mt Ba
open Cn (Cf cfE)
abbrev gStart:ByteArray:=⟨#[115,116,97,114,116]⟩
abbrev gNear:ByteArray:=⟨#[110,101,97,114]⟩
abbrev gSnap:ByteArray:=⟨#[115,110,97,112]⟩
abbrev gLoad:ByteArray:=⟨#[108,111,97,100]⟩
abbrev gSwap:ByteArray:=⟨#[115,119,97,112]⟩
abbrev gGrow:ByteArray:=⟨#[103,114,111,119]⟩
abbrev gOpen:ByteArray:=⟨#[111,112,101,110]⟩
abbrev gShrink:ByteArray:=⟨#[115,104,114,105,110,107]⟩
abbrev gPublish:ByteArray:=⟨#[112,117,98,108,105,115,104]⟩
abbrev gDrop:ByteArray:=⟨#[100,114,111,112]⟩
abbrev gUnlive:ByteArray:=⟨#[117,110,108,105,118,101]⟩
abbrev gPark:ByteArray:=⟨#[112,97,114,107]⟩
abbrev gWait:ByteArray:=⟨#[119,97,105,116]⟩
abbrev gLeave:ByteArray:=⟨#[108,101,97,118,101]⟩
abbrev gExtra:ByteArray:=⟨#[101,120,116,114,97]⟩
abbrev gDone:ByteArray:=⟨#[100,111,110,101]⟩
structure Gt where
 th:Int
 dl:Int
 st:ByteArray
 id:Int
 word:Int
 near:Bool
 A:Option Addr
 n:Nat
 c:Nat
 S:List Int
 place:Int
 parked:Bool
 wish:Int
 got:Int
 g:Gv
def Gt.cells (q:Gt):List Value:=[.int .i64 q.th,.int .u64 q.dl,.string q.st,.int .u64 q.id,.int .u64 q.word,.bool q.near,.slice q.A q.n q.c,.int .i64 q.place,.bool q.parked,.int .i64 q.wish,.int .u64 q.got,.int .i64 q.g.th,.int .i64 q.g.op,.int .u64 q.g.id,.int .u64 q.g.word,.string q.g.st]
abbrev Gt.val (q:Gt):Value:=.agg q.cells.toArray
abbrev Gt.to (q:Gt) (st:ByteArray):Gt:={ q with st:=st }
structure Mg where
 q:Gt
 s:Ws
 N:List Int
abbrev Mg.to (m:Mg) (st:ByteArray):Mg:={ m with q:=m.q.to st }
def ptS (s:Ws) (th op id e:Int):Ws:={ s with ev:=s.ev ++ [⟨s.step,th,1,op,id,e⟩] }
def lookM (q:Gt) (p:Int):Gt:=
 if 0≤p∧p < q.S.length then { q with place:=p,id:=(q.S[p.toNat]?).getD 0,st:=gLoad }
 else if q.parked=true then { q with place:=p,st:=gWait } else { q with place:=p,st:=gGrow }
def nextM (q:Gt):Gt:=if q.near=true then q.to gNear else lookM q (wrap64 (q.place+1))
def endsM (m:Mg) (e:Int):Mg:={ m with q:={ m.q with wish:=e,st:=gDone },s:=ptS m.s m.q.th 0 0 e }
def upM (m:Mg) (e:Int):Mg:=if m.q.parked=true then { m with q:={ m.q with wish:=e,st:=gLeave } } else endsM m e
def hasM (m:Mg) (id:Int):Mg:={ m with q:={ m.q with got:=id,st:=gDone },s:=ptS { m.s with L:=Le.bL m.s.L id m.q.th m.s.now,T:=Le.bT m.s.leak m.s.L m.s.T id m.q.th m.s.now } m.q.th 0 id 0 }
def ownM (m:Mg):Mg:=if m.q.parked=true then (hasM m m.q.id).to gLeave else hasM m m.q.id
def startM (m:Mg):Mg:=if m.s.closed=true then endsM m 6 else m.to gNear
def nearM (m:Mg):Mg:=
 if (Lc.takeR m.s.loc m.q.th).2.2=true then { m with q:={ m.q with id:=(Lc.takeR m.s.loc m.q.th).2.1,near:=true,st:=gLoad },s:={ m.s with loc:=(Lc.takeR m.s.loc m.q.th).1 } }
 else { m with q:=m.q.to gSnap,s:={ m.s with loc:=(Lc.takeR m.s.loc m.q.th).1 } }
def snapM (m:Mg) (A:Option Addr) (n c:Nat):Mg:={ m with q:=lookM { m.q with A:=A,n:=n,c:=c,S:=m.s.S,near:=false } 0 }
def loadM (m:Mg):Mg:=if (fnd m.s.D m.q.id).isSome=true∧bW m.s.D m.q.id % 4=0 then { m with q:={ m.q with word:=bW m.s.D m.q.id,st:=gSwap } } else { m with q:=nextM m.q }
def swapM (m:Mg):Mg:=
 let s':Ws:={ m.s with D:=up m.s.D m.q.id (exS m.q.word 1 m.s.now) }
 if bK m.s.D m.q.id m.q.word 1=true then ownM { m with q:={ m.q with word:=bV m.s.D m.q.id m.q.word 1 },s:=s' } else { m with q:=nextM m.q,s:=s' }
def growM (m:Mg):Mg:=
 let s':Ws:={ m.s with live:=grwV m.s.live m.s.conf.max }
 if m.s.live < m.s.conf.max then { m with q:=m.q.to gOpen,s:=s' } else if m.q.parked=true then { m with q:=m.q.to gWait,s:=s' } else { m with q:=m.q.to gPark,s:=s' }
def openM (m:Mg):Mg:=
 let s':Ws:={ m.s with O:=(Fc.nx m.s.O).2,n:=opnN m.s.O m.s.n }
 if (Fc.nx m.s.O).1=true then { m with q:={ m.q with id:=opnI m.s.O m.s.n,word:=1,st:=gPublish },s:={ s' with D:=entD s'.D (opnI m.s.O m.s.n) 1 s'.now } } else { m with q:=m.q.to gShrink,s:=s' }
def shrinkM (m:Mg):Mg:=upM { m with s:={ m.s with live:=shrV m.s.live } } 8
def publishM (m:Mg):Mg:=
 if m.s.closed=false∧(fnd m.s.D m.q.id).isSome=true then ownM { m with s:={ m.s with S:=pubS m.s.D m.s.S m.q.id } } else m.to gDrop
def dropM (m:Mg):Mg:=
 if bK m.s.D m.q.id m.q.word 3=true then { q:=m.q.to gUnlive,s:=remS m.s m.N m.q.id m.q.word m.q.th 0,N:=m.N.filter (· != m.q.id) } else m.to gUnlive
def unliveM (m:Mg):Mg:=upM { m with s:={ m.s with live:=shrV m.s.live } } 6
def parkM (m:Mg):Mg:={ m with q:={ m.q with parked:=true,st:=gSnap },s:={ m.s with sl:=St.parkL m.s.sl m.q.th m.q.dl } }
def slotI (L:List St.Sx) (t:Int):Int:=match L.findIdx? (St.hit t) with
 | none=>0
 | some k=>((L[k]?).getD (0,0,0)).2.2
def waitM (m:Mg):Mg:=
 if slotI m.s.sl m.q.th≠0 then m.to gLeave else if m.s.closed=true then upM m 6 else if m.q.dl≤m.s.now then upM m 7
 else if m.s.live < m.s.conf.max then m.to gGrow else m
def leaveM (m:Mg):Mg:=
 let i:=(St.takeR m.s.sl m.q.th).2.1
 let m':Mg:={ m with q:={ m.q with parked:=false },s:={ m.s with sl:=(St.takeR m.s.sl m.q.th).1 } }
 if i≠0∧m.q.got≠0 then { m' with q:={ m'.q with g:=⟨m.q.th,0,i,bW m.s.D i,sOffer⟩,st:=gExtra } }
 else if i≠0 then hasM m' i else if m.q.got≠0 then m'.to gDone else endsM m' m.q.wish
def extraM (m:Mg):Mg:=
 let r:=stepG ⟨m.q.g,m.s,m.N⟩
 { q:={ m.q with g:=r.g,st:=if dnB r.g=true then gDone else m.q.st },s:=r.s,N:=r.N }
def stepM (m:Mg) (A:Option Addr) (n c:Nat):Mg:=
 if m.q.st=gStart then startM m else if m.q.st=gNear then nearM m else if m.q.st=gSnap then snapM m A n c
 else if m.q.st=gLoad then loadM m else if m.q.st=gSwap then swapM m else if m.q.st=gGrow then growM m
 else if m.q.st=gOpen then openM m else if m.q.st=gShrink then shrinkM m else if m.q.st=gPublish then publishM m
 else if m.q.st=gDrop then dropM m else if m.q.st=gUnlive then unliveM m else if m.q.st=gPark then parkM m
 else if m.q.st=gWait then waitM m else if m.q.st=gLeave then leaveM m else if m.q.st=gExtra then extraM m else m
end Go.Proofs.YtoiklelghfckgaaGreatDoor.Wo
