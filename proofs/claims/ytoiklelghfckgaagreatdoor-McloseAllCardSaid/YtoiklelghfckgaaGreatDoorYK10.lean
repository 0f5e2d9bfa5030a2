/- A part of the claim. -/
import Derived.Test.YtoiklelghfckgaaGreatDoorYK9
section
set_option linter.unusedVariables false
namespace Go.Proofs.YtoiklelghfckgaaGreatDoor.Wo
open Go Go.ChangeShapes Go.WideShapes Go.ChangeAt Go.RowKit Go.Maps Rw Hi Mt Ba
open Cn (Cf cfE)
abbrev tStart:ByteArray:=⟨#[115,116,97,114,116]⟩
abbrev tLoad:ByteArray:=⟨#[108,111,97,100]⟩
abbrev tSwap:ByteArray:=⟨#[115,119,97,112]⟩
abbrev tGive:ByteArray:=⟨#[103,105,118,101]⟩
abbrev tRefill:ByteArray:=⟨#[114,101,102,105,108,108]⟩
abbrev tOpen:ByteArray:=⟨#[111,112,101,110]⟩
abbrev tShrink:ByteArray:=⟨#[115,104,114,105,110,107]⟩
abbrev tPublish:ByteArray:=⟨#[112,117,98,108,105,115,104]⟩
abbrev tLeaks:ByteArray:=⟨#[108,101,97,107,115]⟩
abbrev tSnap:ByteArray:=⟨#[115,110,97,112]⟩
abbrev tDone:ByteArray:=⟨#[100,111,110,101]⟩
structure Pt where
 th:Int
 id:Int
 st:ByteArray
 g:Gv
 err:Int
def Pt.cells (q:Pt):List Value:=[.int .i64 q.th,.int .u64 q.id,.string q.st,.int .i64 q.g.th,.int .i64 q.g.op,.int .u64 q.g.id,.int .u64 q.g.word,.string q.g.st,.int .i64 q.err]
abbrev Pt.val (q:Pt):Value:=.agg q.cells.toArray
abbrev Pt.to (q:Pt) (st:ByteArray):Pt:={ q with st:=st }
structure Mu where
 q:Pt
 s:Ws
 N:List Int
abbrev Mu.to (m:Mu) (st:ByteArray):Mu:={ m with q:=m.q.to st }
def startU (m:Mu):Mu:=
 if Le.wr m.s.L m.q.id m.q.th=0 then { m with q:={ m.q with err:=Le.wr m.s.L m.q.id m.q.th,g:=⟨m.q.th,1,m.q.id,bW m.s.D m.q.id,sOffer⟩,st:=tGive },s:=ptS { m.s with L:=endL m.s.L m.q.id m.q.th,T:=endT m.s.L m.s.T m.q.id m.q.th } m.q.th 1 m.q.id (Le.wr m.s.L m.q.id m.q.th) }
 else { m with q:={ m.q with err:=Le.wr m.s.L m.q.id m.q.th,st:=tDone },s:=ptS { m.s with L:=endL m.s.L m.q.id m.q.th,T:=endT m.s.L m.s.T m.q.id m.q.th } m.q.th 1 m.q.id (Le.wr m.s.L m.q.id m.q.th) }
structure Ht where
 th:Int
 st:ByteArray
 A:Option Addr
 n:Nat
 c:Nat
 S:List Int
 place:Int
 id:Int
 word:Int
 g:Gv
 fills:Bool
def Ht.cells (q:Ht):List Value:=[.int .i64 q.th,.string q.st,.slice q.A q.n q.c,.int .i64 q.place,.int .u64 q.id,.int .u64 q.word,.int .i64 q.g.th,.int .i64 q.g.op,.int .u64 q.g.id,.int .u64 q.g.word,.string q.g.st,.bool q.fills]
abbrev Ht.val (q:Ht):Value:=.agg q.cells.toArray
abbrev Ht.to (q:Ht) (st:ByteArray):Ht:={ q with st:=st }
structure Mh where
 q:Ht
 s:Ws
 N:List Int
abbrev Mh.to (m:Mh) (st:ByteArray):Mh:={ m with q:=m.q.to st }
def lookH (q:Ht) (p:Int):Ht:=if atB q.S p=true then { q with place:=p,id:=atI q.S p,st:=tLoad } else { q with place:=p,st:=tRefill }
def nextH (q:Ht):Ht:=lookH q (wrap64 (q.place+1))
def shutsH (q:Ht):Ht:={ q with g:=⟨q.th,4,q.id,q.word,sClose⟩,st:=tGive }
def startH (m:Mh) (A:Option Addr) (n c:Nat):Mh:={ m with q:=lookH { m.q with A:=A,n:=n,c:=c,S:=m.s.S } 0 }
def unresW (m:Mh):Int:=if bK m.s.D m.q.id m.q.word 0=true then bV m.s.D m.q.id m.q.word 0 else m.q.word
def unresH (m:Mh):Mh:={ m with q:={ m.q with word:=unresW m,g:=⟨m.q.th,4,m.q.id,unresW m,sAgain⟩,st:=tGive },s:={ m.s with D:=up m.s.D m.q.id (exS m.q.word 0 m.s.now) } }
def giveH (m:Mh):Mh:=
 { q:=if dnB (stepG ⟨m.q.g,m.s,m.N⟩).g=true then (if m.q.fills=true then { m.q with g:=(stepG ⟨m.q.g,m.s,m.N⟩).g,st:=tRefill } else nextH { m.q with g:=(stepG ⟨m.q.g,m.s,m.N⟩).g }) else { m.q with g:=(stepG ⟨m.q.g,m.s,m.N⟩).g },s:=(stepG ⟨m.q.g,m.s,m.N⟩).s,N:=(stepG ⟨m.q.g,m.s,m.N⟩).N }
def refillH (m:Mh):Mh:=if m.s.closed=false/\m.s.live < m.s.conf.min/\m.s.live < m.s.conf.max then { m with q:={ m.q with fills:=true,st:=tOpen },s:={ m.s with live:=grwV m.s.live m.s.conf.max } } else m.to tLeaks
def openH (m:Mh):Mh:=
 if (Fc.nx m.s.O).1=true then { m with q:={ m.q with id:=opnI m.s.O m.s.n,word:=2,st:=tPublish },s:={ m.s with O:=(Fc.nx m.s.O).2,n:=opnN m.s.O m.s.n,D:=entD m.s.D (opnI m.s.O m.s.n) 2 m.s.now } }
 else { m with q:=m.q.to tShrink,s:={ m.s with O:=(Fc.nx m.s.O).2,n:=opnN m.s.O m.s.n } }
def publishH (m:Mh):Mh:=if m.s.closed=false/\(fnd m.s.D m.q.id).isSome=true then unresH { m with s:={ m.s with S:=pubS m.s.D m.s.S m.q.id } } else { m with q:=shutsH m.q }
def leaksH (m:Mh):Mh:={ m with q:=m.q.to tDone,s:=ptS { m.s with L:=Le.flgs m.s.L ((Wl.due m.s.T m.s.now).map Prod.fst),T:=Wl.left m.s.T m.s.now } m.q.th 4 0 0 }
structure Ct where
 th:Int
 st:ByteArray
 A:Option Addr
 n:Nat
 c:Nat
 S:List Int
 place:Int
 id:Int
 word:Int
 g:Gv
 err:Int
def Ct.cells (q:Ct):List Value:=[.int .i64 q.th,.string q.st,.slice q.A q.n q.c,.int .i64 q.place,.int .u64 q.id,.int .u64 q.word,.int .i64 q.g.th,.int .i64 q.g.op,.int .u64 q.g.id,.int .u64 q.g.word,.string q.g.st,.int .i64 q.err]
abbrev Ct.val (q:Ct):Value:=.agg q.cells.toArray
abbrev Ct.to (q:Ct) (st:ByteArray):Ct:={ q with st:=st }
structure Mc where
 q:Ct
 s:Ws
 N:List Int
abbrev Mc.to (m:Mc) (st:ByteArray):Mc:={ m with q:=m.q.to st }
def lookC (q:Ct) (p:Int):Ct:=if atB q.S p=true then { q with place:=p,id:=atI q.S p,st:=tLoad } else { q with place:=p,st:=tDone }
def nextC (q:Ct):Ct:=lookC q (wrap64 (q.place+1))
def recC (m:Mc) (e:Int):Mc:={ m with q:={ m.q with err:=e },s:=ptS m.s m.q.th 3 0 e }
def startC (m:Mc):Mc:=if m.s.closed=true then (recC m 6).to tDone else (recC { m with s:={ m.s with closed:=true } } 0).to tSnap
def snapC (m:Mc) (A:Option Addr) (n c:Nat):Mc:={ m with q:=lookC { m.q with A:=A,n:=n,c:=c,S:=m.s.S } 0 }
def loadC (m:Mc):Mc:=if (fnd m.s.D m.q.id).isSome=true/\bW m.s.D m.q.id % 4=0 then { m with q:={ m.q with word:=bW m.s.D m.q.id,st:=tSwap } } else { m with q:=nextC m.q }
def swapC (m:Mc):Mc:=
 if bK m.s.D m.q.id m.q.word 2=true then { m with q:={ m.q with word:=bV m.s.D m.q.id m.q.word 2,g:=⟨m.q.th,3,m.q.id,bV m.s.D m.q.id m.q.word 2,sClose⟩,st:=tGive },s:={ m.s with D:=up m.s.D m.q.id (exS m.q.word 2 m.s.now) } }
 else { m with q:=m.q.to tLoad,s:={ m.s with D:=up m.s.D m.q.id (exS m.q.word 2 m.s.now) } }
def giveC (m:Mc):Mc:=
 { q:=if dnB (stepG ⟨m.q.g,m.s,m.N⟩).g=true then nextC { m.q with g:=(stepG ⟨m.q.g,m.s,m.N⟩).g } else { m.q with g:=(stepG ⟨m.q.g,m.s,m.N⟩).g },s:=(stepG ⟨m.q.g,m.s,m.N⟩).s,N:=(stepG ⟨m.q.g,m.s,m.N⟩).N }
end Go.Proofs.YtoiklelghfckgaaGreatDoor.Wo
end
section
set_option maxRecDepth 100000
set_option maxHeartbeats 8000000
set_option linter.unusedVariables false
namespace Go.Proofs.YtoiklelghfckgaaGreatDoor.Wo
open Go Go.ChangeShapes Go.WideShapes Go.ChangeAt Go.RowKit Go.Deep Go.Maps Rw Hi Mt Ba
open Cn (Cf cfE)
abbrev Gon (base:Nat) (x:Wp) (g:Gv) (s:Ws) (N:List Int):Prop:=∀ (w:World) (col:Nat->Nat),Wv base col w x s->Calls Tryz.prog 124 #[.agg (Gv.cells g).toArray,ptr x.pw] w fun e w'=>e=.returned (.agg (Gv.cells (stepG ⟨g,s,N⟩).g).toArray) /\ ∃ col',Wv base col' w' x (stepG ⟨g,s,N⟩).s/\Fw col w w'/\El w col col'
theorem wleaks_any (w:World) {base:Nat} {u:Nat->Nat} {x:Wp} {s:Ws} (h:Wv base u w x s) (G:U64 s.now) (J:s.T.length<=1000) (I:s.L.length<=1000):Calls Tryz.prog 246 #[ptr x.bk.p,.int .u64 s.now] w fun e w'=>(∃ A c,e=.returned (.slice A (Wl.due s.T s.now).length c)) /\
  Wv base u w' x { s with L:=Le.flgs s.L ((Wl.due s.T s.now).map Prod.fst),T:=Wl.left s.T s.now } /\ Fw u w w':=by
 refine (Le.leaks_any w x.bk s.leak s.L s.M s.T s.now h.book G (by omega) (by omega)).mono ?_
 rintro e w' ⟨A,c,rfl,-,z,F⟩
 exact⟨⟨A,c,rfl⟩,h.bookT z F (.inl ⟨rfl,rfl⟩)⟩
theorem rt_pt:RowT 293 9:=⟨by kernel_rfl,by kernel_rfl,by kernel_rfl⟩
theorem boxes_pt (q:Pt) (w:World):∃ W,(w.alloc (.cells q.cells.toArray 293)).alloc (.cells #[.int .i64 0,.int .u64 0,.string ⟨#[]⟩,.int .i64 0,.int .i64 0,.int .u64 0,.int .u64 0,.string ⟨#[]⟩,.int .i64 0] 293)=W /\
  Vb W w.heap.size 9 q.cells/\W.there (w.heap.size+1) 0 9/\Below w.heap.size w W/\W.heap.size=w.heap.size+2:=boxes_b 293 q.cells [.int .i64 0,.int .u64 0,.string ⟨#[]⟩,.int .i64 0,.int .i64 0,.int .u64 0,.int .u64 0,.string ⟨#[]⟩,.int .i64 0] w rfl rfl
theorem box_pt (q:Pt) (w:World):∃ W,w.alloc (.cells q.cells.toArray 293)=W/\Vb W w.heap.size 9 q.cells/\Below w.heap.size w W/\W.heap.size=w.heap.size+1:=box_b 293 q.cells w rfl
def actD_pt:DataW Unit:=(DataW.put (DataW.put (.map [] : DataW Unit) (.string [115,116,97,114,116]) (.lit (.int .u64 ((257:Nat)+1:Int)))) (.string [103,105,118,101]) (.lit (.int .u64 ((258:Nat)+1:Int))))
theorem acts_pt (w:World):Calls Tryz.prog 247 #[] w fun e w'=>∃ m,e=.returned (.map (some m))/\(∃ n,w'.ownsMap Tryz.prog 9 fnR m n actD_pt)/\Below w.heap.size w w':=by
 have a0:=@run_makeMap Tryz.prog
 have hk:∀ s:ByteArray,s.size<=maxLen->keyOf Tryz.prog 9 (.string s)=some (.string s.data.toList):=fun s hs=>WideMaps.keyOf_string_mk Tryz.underlying9 hs
 go_enter Tryz.func247,Tryz.ntmps247
 have G:Hid (Below w.heap.size w (w.alloc (.map #[] 0))):=Lh ((Below.refl _ _).alloc (Nat.le_refl _) _)
 have Q:Hid ((w.alloc (.map #[] 0)).ownsMap Tryz.prog 9 fnR w.heap.size 0 (.map [] : DataW Unit)):=Lh (World.ownsMap_made w _ _ _)
 go_wp2_with (first
  | (refine inO (w.alloc (.map #[] 0)) rfl _ _ _ _ rfl 9 303 lawS Tryz.underlying304 w.heap.size 0 _ rfl Q.out (by decide) _ _ _ rfl rfl (hk _ (by decide)) (.lit (.int .u64 ((257:Nat)+1:Int))) [] rfl ?_; intro v1 z h; have W:=Lh z; have I:=Lh (grL G.out h (Nat.le_refl _)); clear z h)
  | (refine inO v1 rfl _ _ _ _ rfl 9 303 lawS Tryz.underlying304 w.heap.size 1 _ rfl W.out (by decide) _ _ _ rfl rfl (hk _ (by decide)) (.lit (.int .u64 ((258:Nat)+1:Int))) [] rfl ?_; intro v2 F u; have Y:=Lh F; have J:=Lh (grL I.out u (Nat.le_refl _)); clear F u))
 go_wp2_with fail
 go_ret
 exact⟨_,rfl,⟨_,Y.out⟩,J.out⟩
theorem eq_fn_pt (w:World) (h:Fn) (first cap:Array Value):(binOp .eql 303 (.func h first cap) .nilFunc).run Tryz.prog w=.ok (.bool false) w:=by kernel_rfl
theorem eq_nil_pt (w:World):(binOp .eql 303 .nilFunc .nilFunc).run Tryz.prog w=.ok (.bool true) w:=by kernel_rfl
theorem zero_fn_pt (w:World):(zeroValue 303).run Tryz.prog w=.ok .nilFunc w:=by kernel_rfl
theorem pt_act (w:World) {base:Nat} {z:Nat->Nat} {x:Wp} {s s':Ws} (q r:Pt) (h:Wv base z w x s) (f:FuncId) (a1:actD_pt.atKey (.string q.st.data.toList) (.lit (.int .u64 0))=.lit (.int .u64 ((f:Nat)+1:Int))) (a3:q.st.size<=maxLen)
  (hK:∀ w,(callFunc f #[.agg q.cells.toArray,ptr x.pw]).run Tryz.prog w=.ok (.enter f #[.agg q.cells.toArray,ptr x.pw]) w)
  (hD:∀ (W:World) (z:Nat->Nat),Wv base z W x s->Calls Tryz.prog f #[.agg q.cells.toArray,ptr x.pw] W (Mpost base z x W s' r.val)) :
  Calls Tryz.prog 226 #[q.val,ptr x.pw] w (Mpost base z x w s' r.val):=by
 obtain⟨W1,aa,Y,Q,I,J⟩:=boxes_pt q w
 obtain⟨ad,m1⟩:=Me.start h I J Y Q
 have M:=Lh m1
 have a7:=Lh a1
 have HZ:=Lh a3
 have a6:=Lh hD
 clear hD
 clear m1 Y Q I J h a1 a3
 go_enter Tryz.func226,Tryz.ntmps226
 go_upto_region 1 with (fail)
 clear aa
 go_wp2_with fail
 have M:=Lh (M.out.later (Below.refl _ _).drew)
 have u:Hid (Vb W1.drew w.heap.size 9 q.cells):=Lh M.out.vb
 refine rgS 5 (fun w'=>Vb w' w.heap.size 9 q.cells) (by kernel_rfl) (by kernel_rfl) ?_
 intro a0
 have F:=Lh a0
 clear a0
 refine rq 1 F.out u.out rfl ?_
 refine rq 2 F.out u.out rfl ?_ (hv:=fun w' hw=>by (have kz:=hw.cell 2 _ rfl; go_simp; exact rfl))
 refine rO 0 rfl (by kernel_rfl) rfl ?_
 unfold Oper.wp
 go_simp
 refine (acts_pt _).mono ?_
 rintro e w2 ⟨m,rfl,⟨n,a2⟩,b2⟩
 have M:=Lh (M.out.later b2)
 refine⟨M.out.vb,?_⟩
 clear u
 have u:=Lh M.out.vb
 obtain⟨fv,ps,ac,G⟩:=a2.lookup lawS Tryz.underlying304 (zero_fn_pt w2) (show fnR .nilFunc=some (.lit (.int .u64 0),[]) from rfl) (WideMaps.keyOf_string_mk Tryz.underlying9 HZ.out)
 rw[a7.out] at G
 obtain rfl:=fnR_inv G
 clear a2 b2 G
 refine rO 3 rfl (by kernel_rfl) rfl ?_
 unfold Oper.wp
 go_simp
 refine⟨u.out,?_⟩
 clear ac
 refine rq 4 F.out u.out rfl ?_
 refine rgD (by kernel_rfl) ?_
 clear u
 have af:=eq_fn_pt
 have ag:=eq_nil_pt
 go_wp2_with (first
  | (refine ldB rt_pt rfl _ rfl w.heap.size rfl q.cells M.out.vb ?_))
 refine (a6.out _ _ M.out.wv).mono ?_
 rintro e w3 ⟨rfl,ae,h3,z3,l3⟩
 have M:=Lh (M.out.call h3 z3 l3)
 clear h3 z3 l3
 go_wp2_with (first
  | (refine stB rt_pt rfl _ _ rfl (w.heap.size+1) rfl r.cells rfl M.out.tr rfl (by kernel_rfl) ?_; intro w9 a4 a5; have a8:=Lh a4; have a9:=Lh a5; clear a4 a5))
 refine bodyPost_ret (v:=r.val) (res_b rt_pt _ _ (w.heap.size+1) _ Tryz.results226 rfl a8.out) rfl ?_
 exact⟨rfl,M.out.ret a9.out⟩
theorem uto_any (q:Pt) (t:ByteArray) (w:World) :
  Calls Tryz.prog 268 #[q.val,.string t] w (fun e w'=>e=.returned (q.to t).val/\Below w.heap.size w w'):=by
 obtain⟨W,Y,F,z,h,u⟩:=boxes_pt q w
 have M:=Lh (Mp.start h u F z)
 clear F z h u
 go_enter Tryz.func268,Tryz.ntmps268
 go_upto_region 1 with (fail)
 clear Y
 have z2:=M.out.vb.cell 2 _ rfl
 have f2:=M.out.free 2 (by decide)
 go_upto_region 2 with (fail)
 have M:=Lh (M.out.set 2 (by decide) (.string t))
 clear z2 f2
 generalize (W.setCell ⟨w.heap.size,2,none⟩ (.string t))=w2 at *
 go_wp2_with (first
  | (refine ldB rt_pt rfl _ rfl w.heap.size rfl (Pt.cells (q.to t)) M.out.vb ?_)
  | (refine stB rt_pt rfl _ _ rfl (w.heap.size+1) rfl (Pt.cells (q.to t)) rfl M.out.tr rfl (by kernel_rfl) ?_; intro a0 G I; have J:=Lh G; have Q:=Lh I; clear G I))
 refine bodyPost_ret (v:=(q.to t).val) (res_b rt_pt _ _ (w.heap.size+1) _ Tryz.results268 rfl J.out) rfl ?_
 exact⟨rfl,M.out.ret Q.out⟩
theorem ubegin_any (th id:Int) (w:World):Calls Tryz.prog 225 #[.int .i64 th,.int .u64 id] w fun e w'=>e=.returned (Pt.val ⟨th,id,tStart,zg,0⟩)/\Below w.heap.size w w':=by
 obtain⟨Y,h,F,u,S1⟩:=box_b 293 [.int .i64 0,.int .u64 0,.string ⟨#[]⟩,.int .i64 0,.int .i64 0,.int .u64 0,.int .u64 0,.string ⟨#[]⟩,.int .i64 0] w rfl
 have h:w.alloc (.cells #[.int .i64 0,.int .u64 0,.string ⟨#[]⟩,.int .i64 0,.int .i64 0,.int .u64 0,.int .u64 0,.string ⟨#[]⟩,.int .i64 0] 293)=Y:=h
 have J:=Lh F.th
 have z:=Lh u
 clear F u
 go_enter Tryz.func225,Tryz.ntmps225
 go_upto_region 1 with (fail)
 clear h
 go_wp2_with (first
  | (refine stB rt_pt rfl _ _ rfl w.heap.size rfl (Pt.cells ⟨th,id,tStart,zg,0⟩) rfl J.out rfl (by kernel_rfl) ?_; intro w9 G I; have Q:=Lh G; have W:=Lh I; clear G I))
 exact bodyPost_ret (v:=(Pt.val ⟨th,id,tStart,zg,0⟩)) (res_b rt_pt _ _ w.heap.size _ Tryz.results225 rfl Q.out) rfl ⟨rfl,z.out.trans (W.out.below z.out.size (fun k hk=>by omega))⟩
theorem udone_any (q:Pt) (w:World):Calls Tryz.prog 228 #[q.val] w fun e w'=>e=.returned (.bool (q.st.toList == [100,111,110,101]))/\Below w.heap.size w w':=by
 obtain⟨J,G,u,h,I⟩:=box_pt q w
 have z:=u.cell 2 _ rfl
 have F:=Lh h
 clear u h
 go_enter Tryz.func228,Tryz.ntmps228
 go_upto_region 1 with (fail)
 clear G
 go_wp2_with fail
 go_ret
 exact⟨rfl,F.out⟩
theorem uerr_any (q:Pt) (w:World):Calls Tryz.prog 229 #[q.val] w fun e w'=>e=.returned (.int .i64 q.err)/\Below w.heap.size w w':=by
 obtain⟨J,G,u,h,I⟩:=box_pt q w
 have z:=u.cell 8 _ rfl
 have F:=Lh h
 clear u h
 go_enter Tryz.func229,Tryz.ntmps229
 go_upto_region 1 with (fail)
 clear G
 go_wp2_with fail
 go_ret
 exact⟨rfl,F.out⟩
theorem ustart_any (w:World) {base:Nat} {G:Nat->Nat} {x:Wp} (m:Mu) (h:Wv base G w x m.s) (hM:m.s.M=Le.mk m.N) (hid:U64 m.q.id) (ah:m.s.ev.length<=1000) :
  Calls Tryz.prog 257 #[m.q.val,ptr x.pw] w (Mpost base G x w (startU m).s (startU m).q.val):=by
 obtain⟨r,hr⟩:∃ r,startU m=r:=⟨_,rfl⟩
 have HR:=Lh hr
 rw[hr]
 clear hr
 obtain⟨F,a9⟩:∃ F,Le.wr m.s.L m.q.id m.q.th=F:=⟨_,rfl⟩
 have a3:=Lh a9
 clear a9
 obtain⟨ez,aa⟩:∃ ez,(F != 0)=ez:=⟨_,rfl⟩
 have a2:=Lh aa
 clear aa
 obtain⟨wd,ad⟩:∃ wd,bW m.s.D m.q.id=wd:=⟨_,rfl⟩
 have a7:=Lh ad
 clear ad
 obtain⟨ok,ac⟩:∃ ok,(fnd m.s.D m.q.id).isSome=ok:=⟨_,rfl⟩
 have af:=Lh ac
 clear ac
 have HE:Hid (∀ w (G:Nat->Nat),Wv base G w x m.s->Calls Tryz.prog 267 #[ptr x.bk.p,.int .u64 m.q.id,.int .i64 m.q.th] w fun e w'=>e=.returned (.int .i64 F)/\Wv base G w' x { m.s with L:=endL m.s.L m.q.id m.q.th,T:=endT m.s.L m.s.T m.q.id m.q.th } /\ Fw G w w'):=Lh (fun w G h=>by have e:=wend w h (N:=m.N) hM m.q.id m.q.th hid; rw[a3.out] at e; exact e)
 clear hM
 have ae:Hid (∀ w (G:Nat->Nat),Wv base G w x (ptS { m.s with L:=endL m.s.L m.q.id m.q.th,T:=endT m.s.L m.s.T m.q.id m.q.th } m.q.th 1 m.q.id F)->Calls Tryz.prog 13 #[ptr x.pb,.int .u64 m.q.id] w fun e w'=>e=.returned (.tuple #[.int .u64 wd,.bool ok])/\w=w'):=Lh (fun w G h=>by have e:=load_any w x.pb x.ab m.s.D m.s.S m.q.id h.bag hid; rw[a7.out,af.out] at e; exact e)
 obtain⟨W1,ag,V1,T1,B1,S1⟩:=boxes_pt m.q w
 obtain⟨aj,m1⟩:=Me.start h B1 S1 V1 T1
 have M:=Lh m1
 clear m1 h
 clear V1 T1 B1 S1
 go_enter Tryz.func257,Tryz.ntmps257
 go_upto_region 1 with (fail)
 clear ag
 go_wp2_with fail
 have M:=Lh (M.out.later (Below.refl _ _).drew)
 have u:Hid (W1.drew.cell? ⟨w.heap.size,0,none⟩=some (.int .i64 m.q.th)/\W1.drew.cell? ⟨w.heap.size,1,none⟩=some (.int .u64 m.q.id)/\W1.drew.cell? ⟨x.pw,11,none⟩=some (ptr x.bk.p)):=Lh ⟨M.out.vb.cell 0 _ rfl,M.out.vb.cell 1 _ rfl,(M.out.wv.cells.c11)⟩
 refine rgS 11 (fun w'=>w'.cell? ⟨w.heap.size,0,none⟩=some (.int .i64 m.q.th)/\w'.cell? ⟨w.heap.size,1,none⟩=some (.int .u64 m.q.id)/\w'.cell? ⟨x.pw,11,none⟩=some (ptr x.bk.p)) (by kernel_rfl) (by kernel_rfl) ?_
 intro Q
 have z:=Lh Q
 clear Q
 refine rq 0 z.out u.out rfl ?_ (hv:=fun w' hw=>by (skip; go_simp; exact rfl))
 refine rq 1 z.out u.out rfl ?_ (hv:=fun w' hw=>by (skip; go_simp; exact rfl))
 refine rq 2 z.out u.out rfl ?_ (hv:=fun w' hw=>by (skip; go_simp; exact rfl))
 go_simp
 refine rq 3 z.out u.out rfl ?_ (hv:=fun w' hw=>by (have W:=hw.1; have Y:=hw.2.1; have J:=hw.2.2; go_simp; exact rfl))
 refine rq 4 z.out u.out rfl ?_ (hv:=fun w' hw=>by (skip; go_simp; exact rfl))
 refine rq 5 z.out u.out rfl ?_ (hv:=fun w' hw=>by (have W:=hw.1; have Y:=hw.2.1; have J:=hw.2.2; go_simp; exact rfl))
 go_simp
 refine rq 6 z.out u.out rfl ?_ (hv:=fun w' hw=>by (skip; go_simp; exact rfl))
 refine rq 7 z.out u.out rfl ?_ (hv:=fun w' hw=>by (have W:=hw.1; have Y:=hw.2.1; have J:=hw.2.2; go_simp; exact rfl))
 refine rO 8 rfl (by kernel_rfl) rfl ?_
 unfold Oper.wp
 go_simp
 refine (HE.out _ _ M.out.wv).mono ?_
 rintro e w2 ⟨rfl,h2,J⟩
 have M:=Lh (M.out.call0 h2 J)
 clear h2 J
 clear u
 have u:Hid (w2.cell? ⟨w.heap.size,0,none⟩=some (.int .i64 m.q.th)/\w2.cell? ⟨w.heap.size,1,none⟩=some (.int .u64 m.q.id)/\w2.cell? ⟨x.pw,11,none⟩=some (ptr x.bk.p)):=Lh ⟨M.out.vb.cell 0 _ rfl,M.out.vb.cell 1 _ rfl,(M.out.wv.cells.c11)⟩
 refine⟨u.out,?_⟩
 refine rq 9 z.out u.out rfl ?_ (hv:=fun w' hw=>by (skip; go_simp; exact rfl))
 go_simp
 have z9:=M.out.vb.cell 8 _ rfl
 have f9:=M.out.free 8 (by decide)
 refine rO 10 rfl (by kernel_rfl) rfl ?_
 unfold Oper.wp
 go_simp
 have M:=Lh (M.out.set 8 (by decide) (.int .i64 F))
 have a6:Hid ((w2.setCell ⟨w.heap.size,8,none⟩ (.int .i64 F)).cell? ⟨w.heap.size,0,none⟩=some (.int .i64 m.q.th)/\(w2.setCell ⟨w.heap.size,8,none⟩ (.int .i64 F)).cell? ⟨w.heap.size,1,none⟩=some (.int .u64 m.q.id)/\(w2.setCell ⟨w.heap.size,8,none⟩ (.int .i64 F)).cell? ⟨x.pw,11,none⟩=some (ptr x.bk.p)):=Lh ⟨M.out.vb.cell 0 _ rfl,M.out.vb.cell 1 _ rfl,(M.out.wv.cells.c11)⟩
 refine⟨by first | exact u.out | exact a6.out,?_⟩
 clear u a6 z9 f9
 generalize (w2.setCell ⟨w.heap.size,8,none⟩ (.int .i64 F))=w3 at *
 have u:Hid (w3.cell? ⟨w.heap.size,0,none⟩=some (.int .i64 m.q.th)/\w3.cell? ⟨w.heap.size,1,none⟩=some (.int .u64 m.q.id)/\w3.cell? ⟨x.pw,11,none⟩=some (ptr x.bk.p)):=Lh ⟨M.out.vb.cell 0 _ rfl,M.out.vb.cell 1 _ rfl,(M.out.wv.cells.c11)⟩
 refine rgD (by kernel_rfl) ?_
 go_wp2_with fail
 have M:=Lh (M.out.later (Below.refl _ _).drew)
 have u:Hid (w3.drew.cell? ⟨w.heap.size,0,none⟩=some (.int .i64 m.q.th)/\w3.drew.cell? ⟨w.heap.size,1,none⟩=some (.int .u64 m.q.id)/\w3.drew.cell? ⟨w.heap.size,8,none⟩=some (.int .i64 F)/\w3.drew.cell? ⟨x.pw,13,none⟩=some (ptr x.ph)):=Lh ⟨M.out.vb.cell 0 _ rfl,M.out.vb.cell 1 _ rfl,M.out.vb.cell 8 _ rfl,(M.out.wv.cells.c13)⟩
 refine rgS 11 (fun w'=>w'.cell? ⟨w.heap.size,0,none⟩=some (.int .i64 m.q.th)/\w'.cell? ⟨w.heap.size,1,none⟩=some (.int .u64 m.q.id)/\w'.cell? ⟨w.heap.size,8,none⟩=some (.int .i64 F)/\w'.cell? ⟨x.pw,13,none⟩=some (ptr x.ph)) (by kernel_rfl) (by kernel_rfl) ?_
 intro Q
 have z:=Lh Q
 clear Q
 refine rq 0 z.out u.out rfl ?_ (hv:=fun w' hw=>by (skip; go_simp; exact rfl))
 refine rq 1 z.out u.out rfl ?_ (hv:=fun w' hw=>by (skip; go_simp; exact rfl))
 refine rq 2 z.out u.out rfl ?_ (hv:=fun w' hw=>by (skip; go_simp; exact rfl))
 go_simp
 refine rq 3 z.out u.out rfl ?_ (hv:=fun w' hw=>by (have W:=hw.1; have Y:=hw.2.1; have J:=hw.2.2.1; have y3:=hw.2.2.2; go_simp; exact rfl))
 refine rq 4 z.out u.out rfl ?_ (hv:=fun w' hw=>by (skip; go_simp; exact rfl))
 refine rq 5 z.out u.out rfl ?_ (hv:=fun w' hw=>by (have W:=hw.1; have Y:=hw.2.1; have J:=hw.2.2.1; have y3:=hw.2.2.2; go_simp; exact rfl))
 go_simp
 refine rq 6 z.out u.out rfl ?_ (hv:=fun w' hw=>by (skip; go_simp; exact rfl))
 refine rq 7 z.out u.out rfl ?_ (hv:=fun w' hw=>by (have W:=hw.1; have Y:=hw.2.1; have J:=hw.2.2.1; have y3:=hw.2.2.2; go_simp; exact rfl))
 refine rq 8 z.out u.out rfl ?_ (hv:=fun w' hw=>by (skip; go_simp; exact rfl))
 go_simp
 refine rq 9 z.out u.out rfl ?_ (hv:=fun w' hw=>by (have W:=hw.1; have Y:=hw.2.1; have J:=hw.2.2.1; have y3:=hw.2.2.2; go_simp; exact rfl))
 refine rO 10 rfl (by kernel_rfl) rfl ?_
 unfold Oper.wp
 go_simp
 refine (wadd _ M.out.wv m.q.th 1 1 m.q.id F ah).mono ?_
 rintro e I ⟨rfl,ak,h4,y4,l4⟩
 have M:=Lh (M.out.call h4 y4 l4)
 clear h4 y4 l4
 clear u
 have u:Hid (I.cell? ⟨w.heap.size,0,none⟩=some (.int .i64 m.q.th)/\I.cell? ⟨w.heap.size,1,none⟩=some (.int .u64 m.q.id)/\I.cell? ⟨w.heap.size,8,none⟩=some (.int .i64 F)/\I.cell? ⟨x.pw,13,none⟩=some (ptr x.ph)):=Lh ⟨M.out.vb.cell 0 _ rfl,M.out.vb.cell 1 _ rfl,M.out.vb.cell 8 _ rfl,(M.out.wv.cells.c13)⟩
 refine⟨u.out,?_⟩
 refine rgD (by kernel_rfl) ?_
 cases ez with
 | false=>
  have hr:r = { m with q:={ m.q with err:=F,g:=⟨m.q.th,1,m.q.id,wd,sOffer⟩,st:=tGive },s:=ptS { m.s with L:=endL m.s.L m.q.id m.q.th,T:=endT m.s.L m.s.T m.q.id m.q.th } m.q.th 1 m.q.id F }:=by rw[<- HR.out]; unfold startU; rw[a3.out,a7.out]; exact if_pos (by have h9:=a2.out; simpa using h9)
  subst hr
  have z8:=M.out.vb.cell 8 _ rfl
  have q1:(F != 0)=false:=a2.out
  go_upto_region 5 with (fail)
  clear z8 q1
  go_wp2_with fail
  have M:=Lh (M.out.later (Below.refl _ _).drew)
  have u:Hid (I.drew.cell? ⟨w.heap.size,1,none⟩=some (.int .u64 m.q.id)/\I.drew.cell? ⟨x.pw,8,none⟩=some (ptr x.pb)):=Lh ⟨M.out.vb.cell 1 _ rfl,(M.out.wv.cells.c8)⟩
  refine rgS 12 (fun w'=>w'.cell? ⟨w.heap.size,1,none⟩=some (.int .u64 m.q.id)/\w'.cell? ⟨x.pw,8,none⟩=some (ptr x.pb)) (by kernel_rfl) (by kernel_rfl) ?_
  intro Q
  have z:=Lh Q
  clear Q
  refine rq 0 z.out u.out rfl ?_ (hv:=fun w' hw=>by (skip; go_simp; exact rfl))
  refine rq 1 z.out u.out rfl ?_ (hv:=fun w' hw=>by (skip; go_simp; exact rfl))
  refine rq 2 z.out u.out rfl ?_ (hv:=fun w' hw=>by (skip; go_simp; exact rfl))
  go_simp
  refine rq 3 z.out u.out rfl ?_ (hv:=fun w' hw=>by (have W:=hw.1; have Y:=hw.2; go_simp; exact rfl))
  refine rq 4 z.out u.out rfl ?_ (hv:=fun w' hw=>by (skip; go_simp; exact rfl))
  refine rq 5 z.out u.out rfl ?_ (hv:=fun w' hw=>by (have W:=hw.1; have Y:=hw.2; go_simp; exact rfl))
  go_simp
  refine rO 6 rfl (by kernel_rfl) rfl ?_
  unfold Oper.wp
  go_simp
  refine (ae.out _ _ M.out.wv).mono ?_
  rintro e w5 ⟨rfl,rfl⟩
  clear u
  have u:Hid (I.drew.cell? ⟨w.heap.size,1,none⟩=some (.int .u64 m.q.id)/\I.drew.cell? ⟨x.pw,8,none⟩=some (ptr x.pb)):=Lh ⟨M.out.vb.cell 1 _ rfl,(M.out.wv.cells.c8)⟩
  refine⟨u.out,?_⟩
  refine rq 7 z.out u.out rfl ?_ (hv:=fun w' hw=>by (skip; go_simp; exact rfl))
  refine rq 8 z.out u.out rfl ?_ (hv:=fun w' hw=>by (skip; go_simp; exact rfl))
  refine rq 9 z.out u.out rfl ?_ (hv:=fun w' hw=>by (skip; go_simp; exact rfl))
  go_simp
  refine rq 10 z.out u.out rfl ?_ (hv:=fun w' hw=>by (skip; go_simp; exact rfl))
  refine rq 11 z.out u.out rfl ?_ (hv:=fun w' hw=>by (skip; go_simp; exact rfl))
  refine rgD (by kernel_rfl) ?_
  clear u
  generalize I.drew=w6 at *
  have z0:=M.out.vb.cell 0 _ rfl
  have z1:=M.out.vb.cell 1 _ rfl
  go_wp2_with fail
  refine (goff_any m.q.th 1 m.q.id wd _).mono ?_
  rintro e w7 ⟨rfl,b7⟩
  have M:=Lh (M.out.later b7)
  clear b7
  clear z0 z1
  go_upto_region 7 with (first
   | (refine store_s rt_give rfl _ _ rfl w.heap.size 3 rfl (Gv.cells ⟨m.q.th,1,m.q.id,wd,sOffer⟩) rfl (th_sub M.out.vb.th 3 5 (by decide)) rfl (by kernel_rfl) ?_; intro al a8; have M:=Lh (M.out.sets (Gv.cells ⟨m.q.th,1,m.q.id,wd,sOffer⟩) 3 _ _ (by show 3+5<=9; decide)); rw[<- a8] at M; clear a8))
  go_wp2_with (first
   | (refine ldB rt_pt rfl _ rfl w.heap.size rfl (Pt.cells { m.q with err:=F,g:=⟨m.q.th,1,m.q.id,wd,sOffer⟩ }) M.out.vb ?_))
  refine (uto_any { m.q with err:=F,g:=⟨m.q.th,1,m.q.id,wd,sOffer⟩ } tGive _).mono ?_
  rintro e w8 ⟨rfl,b8⟩
  have M:=Lh (M.out.later b8)
  clear b8
  go_wp2_with (first
   | (refine ldB rt_pt rfl _ rfl w.heap.size rfl (Pt.cells { m.q with err:=F,g:=⟨m.q.th,1,m.q.id,wd,sOffer⟩ }) M.out.vb ?_)
   | (refine stB rt_pt rfl _ _ rfl (w.heap.size+1) rfl (Pt.cells { m.q with err:=F,g:=⟨m.q.th,1,m.q.id,wd,sOffer⟩,st:=tGive }) rfl M.out.tr rfl (by kernel_rfl) ?_; intro ai a0 a1; have a4:=Lh a0; have a5:=Lh a1; clear a0 a1))
  refine bodyPost_ret (v:=Pt.val { m.q with err:=F,g:=⟨m.q.th,1,m.q.id,wd,sOffer⟩,st:=tGive }) (res_b rt_pt _ _ (w.heap.size+1) _ Tryz.results257 rfl a4.out) rfl ?_
  exact⟨rfl,M.out.ret a5.out⟩
 | true=>
  have hr:r = { m with q:={ m.q with err:=F,st:=tDone },s:=ptS { m.s with L:=endL m.s.L m.q.id m.q.th,T:=endT m.s.L m.s.T m.q.id m.q.th } m.q.th 1 m.q.id F }:=by rw[<- HR.out]; unfold startU; rw[a3.out]; exact if_neg (by have h9:=a2.out; simpa using h9)
  subst hr
  have z8:=M.out.vb.cell 8 _ rfl
  have q1:(F != 0)=true:=a2.out
  go_wp2_with (first
   | (refine ldB rt_pt rfl _ rfl w.heap.size rfl (Pt.cells { m.q with err:=F }) M.out.vb ?_))
  refine (uto_any { m.q with err:=F } tDone _).mono ?_
  rintro e w5 ⟨rfl,b5⟩
  have M:=Lh (M.out.later b5)
  clear b5
  go_wp2_with (first
   | (refine ldB rt_pt rfl _ rfl w.heap.size rfl (Pt.cells { m.q with err:=F }) M.out.vb ?_)
   | (refine stB rt_pt rfl _ _ rfl (w.heap.size+1) rfl (Pt.cells { m.q with err:=F,st:=tDone }) rfl M.out.tr rfl (by kernel_rfl) ?_; intro ai a0 a1; have a4:=Lh a0; have a5:=Lh a1; clear a0 a1))
  refine bodyPost_ret (v:=Pt.val { m.q with err:=F,st:=tDone }) (res_b rt_pt _ _ (w.heap.size+1) _ Tryz.results257 rfl a4.out) rfl ?_
  exact⟨rfl,M.out.ret a5.out⟩
end Go.Proofs.YtoiklelghfckgaaGreatDoor.Wo
end
section
set_option maxRecDepth 100000
set_option maxHeartbeats 8000000
set_option linter.unusedVariables false
namespace Go.Proofs.YtoiklelghfckgaaGreatDoor.Wo
open Go Go.ChangeShapes Go.WideShapes Go.ChangeAt Go.RowKit Go.Deep Go.Maps Rw Hi Mt Ba
open Cn (Cf cfE)
theorem rt_ht:RowT 245 12:=⟨by kernel_rfl,by kernel_rfl,by kernel_rfl⟩
theorem boxes_ht (q:Ht) (w:World):∃ W,(w.alloc (.cells q.cells.toArray 245)).alloc (.cells #[.int .i64 0,.string ⟨#[]⟩,.slice none 0 0,.int .i64 0,.int .u64 0,.int .u64 0,.int .i64 0,.int .i64 0,.int .u64 0,.int .u64 0,.string ⟨#[]⟩,.bool false] 245)=W /\
  Vb W w.heap.size 12 q.cells/\W.there (w.heap.size+1) 0 12/\Below w.heap.size w W/\W.heap.size=w.heap.size+2:=boxes_b 245 q.cells [.int .i64 0,.string ⟨#[]⟩,.slice none 0 0,.int .i64 0,.int .u64 0,.int .u64 0,.int .i64 0,.int .i64 0,.int .u64 0,.int .u64 0,.string ⟨#[]⟩,.bool false] w rfl rfl
theorem box_ht (q:Ht) (w:World):∃ W,w.alloc (.cells q.cells.toArray 245)=W/\Vb W w.heap.size 12 q.cells/\Below w.heap.size w W/\W.heap.size=w.heap.size+1:=box_b 245 q.cells w rfl
def actD_ht:DataW Unit:=(DataW.put (DataW.put (DataW.put (DataW.put (DataW.put (DataW.put (DataW.put (DataW.put (DataW.put (DataW.put (DataW.put (.map [] : DataW Unit) (.string [115,116,97,114,116]) (.lit (.int .u64 ((214:Nat)+1:Int)))) (.string [108,111,97,100]) (.lit (.int .u64 ((215:Nat)+1:Int)))) (.string [115,119,97,112]) (.lit (.int .u64 ((216:Nat)+1:Int)))) (.string [112,114,111,118,101]) (.lit (.int .u64 ((217:Nat)+1:Int)))) (.string [117,110,114,101,115]) (.lit (.int .u64 ((218:Nat)+1:Int)))) (.string [103,105,118,101]) (.lit (.int .u64 ((219:Nat)+1:Int)))) (.string [114,101,102,105,108,108]) (.lit (.int .u64 ((220:Nat)+1:Int)))) (.string [111,112,101,110]) (.lit (.int .u64 ((221:Nat)+1:Int)))) (.string [115,104,114,105,110,107]) (.lit (.int .u64 ((222:Nat)+1:Int)))) (.string [112,117,98,108,105,115,104]) (.lit (.int .u64 ((223:Nat)+1:Int)))) (.string [108,101,97,107,115]) (.lit (.int .u64 ((224:Nat)+1:Int))))
theorem acts_ht (w:World):Calls Tryz.prog 194 #[] w fun e w'=>∃ m,e=.returned (.map (some m))/\(∃ n,w'.ownsMap Tryz.prog 9 fnR m n actD_ht)/\Below w.heap.size w w':=by
 have aG:=@run_makeMap Tryz.prog
 have hk:∀ s:ByteArray,s.size<=maxLen->keyOf Tryz.prog 9 (.string s)=some (.string s.data.toList):=fun s hs=>WideMaps.keyOf_string_mk Tryz.underlying9 hs
 go_enter Tryz.func194,Tryz.ntmps194
 have ad:Hid (Below w.heap.size w (w.alloc (.map #[] 0))):=Lh ((Below.refl _ _).alloc (Nat.le_refl _) _)
 have ar:Hid ((w.alloc (.map #[] 0)).ownsMap Tryz.prog 9 fnR w.heap.size 0 (.map [] : DataW Unit)):=Lh (World.ownsMap_made w _ _ _)
 go_wp2_with (first
  | (refine inO (w.alloc (.map #[] 0)) rfl _ _ _ _ rfl 9 279 lawS Tryz.underlying280 w.heap.size 0 _ rfl ar.out (by decide) _ _ _ rfl rfl (hk _ (by decide)) (.lit (.int .u64 ((214:Nat)+1:Int))) [] rfl ?_; intro v1 a1 h; have au:=Lh a1; have ae:=Lh (grL ad.out h (Nat.le_refl _)); clear a1 h)
  | (refine inO v1 rfl _ _ _ _ rfl 9 279 lawS Tryz.underlying280 w.heap.size 1 _ rfl au.out (by decide) _ _ _ rfl rfl (hk _ (by decide)) (.lit (.int .u64 ((215:Nat)+1:Int))) [] rfl ?_; intro v2 a4 F; have ax:=Lh a4; have ah:=Lh (grL ae.out F (Nat.le_refl _)); clear a4 F)
  | (refine inO v2 rfl _ _ _ _ rfl 9 279 lawS Tryz.underlying280 w.heap.size 2 _ rfl ax.out (by decide) _ _ _ rfl rfl (hk _ (by decide)) (.lit (.int .u64 ((216:Nat)+1:Int))) [] rfl ?_; intro v3 a5 G; have ay:=Lh a5; have ai:=Lh (grL ah.out G (Nat.le_refl _)); clear a5 G)
  | (refine inO v3 rfl _ _ _ _ rfl 9 279 lawS Tryz.underlying280 w.heap.size 3 _ rfl ay.out (by decide) _ _ _ rfl rfl (hk _ (by decide)) (.lit (.int .u64 ((217:Nat)+1:Int))) [] rfl ?_; intro v4 a6 I; have az:=Lh a6; have aj:=Lh (grL ai.out I (Nat.le_refl _)); clear a6 I)
  | (refine inO v4 rfl _ _ _ _ rfl 9 279 lawS Tryz.underlying280 w.heap.size 4 _ rfl az.out (by decide) _ _ _ rfl rfl (hk _ (by decide)) (.lit (.int .u64 ((218:Nat)+1:Int))) [] rfl ?_; intro v5 a7 J; have aA:=Lh a7; have ak:=Lh (grL aj.out J (Nat.le_refl _)); clear a7 J)
  | (refine inO v5 rfl _ _ _ _ rfl 9 279 lawS Tryz.underlying280 w.heap.size 5 _ rfl aA.out (by decide) _ _ _ rfl rfl (hk _ (by decide)) (.lit (.int .u64 ((219:Nat)+1:Int))) [] rfl ?_; intro v6 a8 Q; have aB:=Lh a8; have al:=Lh (grL ak.out Q (Nat.le_refl _)); clear a8 Q)
  | (refine inO v6 rfl _ _ _ _ rfl 9 279 lawS Tryz.underlying280 w.heap.size 6 _ rfl aB.out (by decide) _ _ _ rfl rfl (hk _ (by decide)) (.lit (.int .u64 ((220:Nat)+1:Int))) [] rfl ?_; intro v7 a9 W; have aC:=Lh a9; have an:=Lh (grL al.out W (Nat.le_refl _)); clear a9 W)
  | (refine inO v7 rfl _ _ _ _ rfl 9 279 lawS Tryz.underlying280 w.heap.size 7 _ rfl aC.out (by decide) _ _ _ rfl rfl (hk _ (by decide)) (.lit (.int .u64 ((221:Nat)+1:Int))) [] rfl ?_; intro v8 aa Y; have aD:=Lh aa; have ao:=Lh (grL an.out Y (Nat.le_refl _)); clear aa Y)
  | (refine inO v8 rfl _ _ _ _ rfl 9 279 lawS Tryz.underlying280 w.heap.size 8 _ rfl aD.out (by decide) _ _ _ rfl rfl (hk _ (by decide)) (.lit (.int .u64 ((222:Nat)+1:Int))) [] rfl ?_; intro v9 ac a0; have aE:=Lh ac; have aq:=Lh (grL ao.out a0 (Nat.le_refl _)); clear ac a0)
  | (refine inO v9 rfl _ _ _ _ rfl 9 279 lawS Tryz.underlying280 w.heap.size 9 _ rfl aE.out (by decide) _ _ _ rfl rfl (hk _ (by decide)) (.lit (.int .u64 ((223:Nat)+1:Int))) [] rfl ?_; intro aF a2 u; have av:=Lh a2; have af:=Lh (grL aq.out u (Nat.le_refl _)); clear a2 u)
  | (refine inO aF rfl _ _ _ _ rfl 9 279 lawS Tryz.underlying280 w.heap.size 10 _ rfl av.out (by decide) _ _ _ rfl rfl (hk _ (by decide)) (.lit (.int .u64 ((224:Nat)+1:Int))) [] rfl ?_; intro aH a3 z; have aw:=Lh a3; have ag:=Lh (grL af.out z (Nat.le_refl _)); clear a3 z))
 go_wp2_with fail
 go_ret
 exact⟨_,rfl,⟨_,aw.out⟩,ag.out⟩
theorem eq_fn_ht (w:World) (h:Fn) (first cap:Array Value):(binOp .eql 279 (.func h first cap) .nilFunc).run Tryz.prog w=.ok (.bool false) w:=by kernel_rfl
theorem eq_nil_ht (w:World):(binOp .eql 279 .nilFunc .nilFunc).run Tryz.prog w=.ok (.bool true) w:=by kernel_rfl
theorem zero_fn_ht (w:World):(zeroValue 279).run Tryz.prog w=.ok .nilFunc w:=by kernel_rfl
theorem ht_act (w:World) {base:Nat} {z:Nat->Nat} {x:Wp} {s s':Ws} (q r:Ht) (h:Wv base z w x s) (f:FuncId) (a1:actD_ht.atKey (.string q.st.data.toList) (.lit (.int .u64 0))=.lit (.int .u64 ((f:Nat)+1:Int))) (a3:q.st.size<=maxLen)
  (hK:∀ w,(callFunc f #[.agg q.cells.toArray,ptr x.pw]).run Tryz.prog w=.ok (.enter f #[.agg q.cells.toArray,ptr x.pw]) w)
  (hD:∀ (W:World) (z:Nat->Nat),Wv base z W x s->Calls Tryz.prog f #[.agg q.cells.toArray,ptr x.pw] W (Mpost base z x W s' r.val)) :
  Calls Tryz.prog 165 #[q.val,ptr x.pw] w (Mpost base z x w s' r.val):=by
 obtain⟨W1,aa,Y,Q,I,J⟩:=boxes_ht q w
 obtain⟨ad,m1⟩:=Me.start h I J Y Q
 have M:=Lh m1
 have a7:=Lh a1
 have HZ:=Lh a3
 have a6:=Lh hD
 clear hD
 clear m1 Y Q I J h a1 a3
 go_enter Tryz.func165,Tryz.ntmps165
 go_upto_region 1 with (fail)
 clear aa
 go_wp2_with fail
 have M:=Lh (M.out.later (Below.refl _ _).drew)
 have u:Hid (Vb W1.drew w.heap.size 12 q.cells):=Lh M.out.vb
 refine rgS 5 (fun w'=>Vb w' w.heap.size 12 q.cells) (by kernel_rfl) (by kernel_rfl) ?_
 intro a0
 have F:=Lh a0
 clear a0
 refine rq 1 F.out u.out rfl ?_
 refine rq 2 F.out u.out rfl ?_ (hv:=fun w' hw=>by (have kz:=hw.cell 1 _ rfl; go_simp; exact rfl))
 refine rO 0 rfl (by kernel_rfl) rfl ?_
 unfold Oper.wp
 go_simp
 refine (acts_ht _).mono ?_
 rintro e w2 ⟨m,rfl,⟨n,a2⟩,b2⟩
 have M:=Lh (M.out.later b2)
 refine⟨M.out.vb,?_⟩
 clear u
 have u:=Lh M.out.vb
 obtain⟨fv,ps,ac,G⟩:=a2.lookup lawS Tryz.underlying280 (zero_fn_ht w2) (show fnR .nilFunc=some (.lit (.int .u64 0),[]) from rfl) (WideMaps.keyOf_string_mk Tryz.underlying9 HZ.out)
 rw[a7.out] at G
 obtain rfl:=fnR_inv G
 clear a2 b2 G
 refine rO 3 rfl (by kernel_rfl) rfl ?_
 unfold Oper.wp
 go_simp
 refine⟨u.out,?_⟩
 clear ac
 refine rq 4 F.out u.out rfl ?_
 refine rgD (by kernel_rfl) ?_
 clear u
 have af:=eq_fn_ht
 have ag:=eq_nil_ht
 go_wp2_with (first
  | (refine ldB rt_ht rfl _ rfl w.heap.size rfl q.cells M.out.vb ?_))
 refine (a6.out _ _ M.out.wv).mono ?_
 rintro e w3 ⟨rfl,ae,h3,z3,l3⟩
 have M:=Lh (M.out.call h3 z3 l3)
 clear h3 z3 l3
 go_wp2_with (first
  | (refine stB rt_ht rfl _ _ rfl (w.heap.size+1) rfl r.cells rfl M.out.tr rfl (by kernel_rfl) ?_; intro w9 a4 a5; have a8:=Lh a4; have a9:=Lh a5; clear a4 a5))
 refine bodyPost_ret (v:=r.val) (res_b rt_ht _ _ (w.heap.size+1) _ Tryz.results165 rfl a8.out) rfl ?_
 exact⟨rfl,M.out.ret a9.out⟩
theorem ht_actL (w:World) {base:Nat} {z:Nat->Nat} {x:Wp} {s s':Ws} (q:Ht) (r:Option Addr->Nat->Nat->Ht) (h:Wv base z w x s) {S:List Int} (f:FuncId) (a1:actD_ht.atKey (.string q.st.data.toList) (.lit (.int .u64 0))=.lit (.int .u64 ((f:Nat)+1:Int))) (a3:q.st.size<=maxLen)
  (hK:∀ w,(callFunc f #[.agg q.cells.toArray,ptr x.pw]).run Tryz.prog w=.ok (.enter f #[.agg q.cells.toArray,ptr x.pw]) w)
  (hD:∀ (W:World) (z:Nat->Nat),Wv base z W x s->Calls Tryz.prog f #[.agg q.cells.toArray,ptr x.pw] W (Lpost base z x W s' S fun A n c=>(r A n c).val)) :
  Calls Tryz.prog 165 #[q.val,ptr x.pw] w (Lpost base z x w s' S fun A n c=>(r A n c).val):=by
 obtain⟨W1,aa,Y,Q,I,J⟩:=boxes_ht q w
 obtain⟨ad,m1⟩:=Me.start h I J Y Q
 have M:=Lh m1
 have a7:=Lh a1
 have HZ:=Lh a3
 have a6:=Lh hD
 clear hD
 clear m1 Y Q I J h a1 a3
 go_enter Tryz.func165,Tryz.ntmps165
 go_upto_region 1 with (fail)
 clear aa
 go_wp2_with fail
 have M:=Lh (M.out.later (Below.refl _ _).drew)
 have u:Hid (Vb W1.drew w.heap.size 12 q.cells):=Lh M.out.vb
 refine rgS 5 (fun w'=>Vb w' w.heap.size 12 q.cells) (by kernel_rfl) (by kernel_rfl) ?_
 intro a0
 have F:=Lh a0
 clear a0
 refine rq 1 F.out u.out rfl ?_
 refine rq 2 F.out u.out rfl ?_ (hv:=fun w' hw=>by (have kz:=hw.cell 1 _ rfl; go_simp; exact rfl))
 refine rO 0 rfl (by kernel_rfl) rfl ?_
 unfold Oper.wp
 go_simp
 refine (acts_ht _).mono ?_
 rintro e w2 ⟨m,rfl,⟨n,a2⟩,b2⟩
 have M:=Lh (M.out.later b2)
 refine⟨M.out.vb,?_⟩
 clear u
 have u:=Lh M.out.vb
 obtain⟨fv,ps,ac,G⟩:=a2.lookup lawS Tryz.underlying280 (zero_fn_ht w2) (show fnR .nilFunc=some (.lit (.int .u64 0),[]) from rfl) (WideMaps.keyOf_string_mk Tryz.underlying9 HZ.out)
 rw[a7.out] at G
 obtain rfl:=fnR_inv G
 clear a2 b2 G
 refine rO 3 rfl (by kernel_rfl) rfl ?_
 unfold Oper.wp
 go_simp
 refine⟨u.out,?_⟩
 clear ac
 refine rq 4 F.out u.out rfl ?_
 refine rgD (by kernel_rfl) ?_
 clear u
 have af:=eq_fn_ht
 have ag:=eq_nil_ht
 go_wp2_with (first
  | (refine ldB rt_ht rfl _ rfl w.heap.size rfl q.cells M.out.vb ?_))
 refine (a6.out _ _ M.out.wv).mono ?_
 rintro e w3 ⟨A,n,c,rfl,ae,h3,z3,l3,hL⟩
 have M:=Lh (M.out.call h3 z3 l3)
 have HL:=Lh hL
 clear h3 z3 l3 hL
 go_wp2_with (first
  | (refine stB rt_ht rfl _ _ rfl (w.heap.size+1) rfl (r A n c).cells rfl M.out.tr rfl (by kernel_rfl) ?_; intro w9 a4 a5; have a8:=Lh a4; have a9:=Lh a5; clear a4 a5))
 refine bodyPost_ret (v:=(r A n c).val) (res_b rt_ht _ _ (w.heap.size+1) _ Tryz.results165 rfl a8.out) rfl ?_
 exact⟨A,n,c,rfl,M.out.retL a9.out HL.out⟩
theorem hto_any (q:Ht) (t:ByteArray) (w:World) :
  Calls Tryz.prog 241 #[q.val,.string t] w (fun e w'=>e=.returned (q.to t).val/\Below w.heap.size w w'):=by
 obtain⟨W,Y,F,z,h,u⟩:=boxes_ht q w
 have M:=Lh (Mp.start h u F z)
 clear F z h u
 go_enter Tryz.func241,Tryz.ntmps241
 go_upto_region 1 with (fail)
 clear Y
 have z1:=M.out.vb.cell 1 _ rfl
 have f1:=M.out.free 1 (by decide)
 go_upto_region 2 with (fail)
 have M:=Lh (M.out.set 1 (by decide) (.string t))
 clear z1 f1
 generalize (W.setCell ⟨w.heap.size,1,none⟩ (.string t))=w2 at *
 go_wp2_with (first
  | (refine ldB rt_ht rfl _ rfl w.heap.size rfl (Ht.cells (q.to t)) M.out.vb ?_)
  | (refine stB rt_ht rfl _ _ rfl (w.heap.size+1) rfl (Ht.cells (q.to t)) rfl M.out.tr rfl (by kernel_rfl) ?_; intro a0 G I; have J:=Lh G; have Q:=Lh I; clear G I))
 refine bodyPost_ret (v:=(q.to t).val) (res_b rt_ht _ _ (w.heap.size+1) _ Tryz.results241 rfl J.out) rfl ?_
 exact⟨rfl,M.out.ret Q.out⟩
theorem hbegin_any (th:Int) (w:World):Calls Tryz.prog 163 #[.int .i64 th] w fun e w'=>e=.returned (Ht.val ⟨th,tStart,none,0,0,[],0,0,0,zg,false⟩)/\Below w.heap.size w w':=by
 obtain⟨Y,h,F,u,S1⟩:=box_b 245 [.int .i64 0,.string ⟨#[]⟩,.slice none 0 0,.int .i64 0,.int .u64 0,.int .u64 0,.int .i64 0,.int .i64 0,.int .u64 0,.int .u64 0,.string ⟨#[]⟩,.bool false] w rfl
 have h:w.alloc (.cells #[.int .i64 0,.string ⟨#[]⟩,.slice none 0 0,.int .i64 0,.int .u64 0,.int .u64 0,.int .i64 0,.int .i64 0,.int .u64 0,.int .u64 0,.string ⟨#[]⟩,.bool false] 245)=Y:=h
 have J:=Lh F.th
 have z:=Lh u
 clear F u
 go_enter Tryz.func163,Tryz.ntmps163
 go_upto_region 1 with (fail)
 clear h
 go_wp2_with (first
  | (refine stB rt_ht rfl _ _ rfl w.heap.size rfl (Ht.cells ⟨th,tStart,none,0,0,[],0,0,0,zg,false⟩) rfl J.out rfl (by kernel_rfl) ?_; intro w9 G I; have Q:=Lh G; have W:=Lh I; clear G I))
 exact bodyPost_ret (v:=(Ht.val ⟨th,tStart,none,0,0,[],0,0,0,zg,false⟩)) (res_b rt_ht _ _ w.heap.size _ Tryz.results163 rfl Q.out) rfl ⟨rfl,z.out.trans (W.out.below z.out.size (fun k hk=>by omega))⟩
theorem hdone_any (q:Ht) (w:World):Calls Tryz.prog 167 #[q.val] w fun e w'=>e=.returned (.bool (q.st.toList == [100,111,110,101]))/\Below w.heap.size w w':=by
 obtain⟨J,G,u,h,I⟩:=box_ht q w
 have z:=u.cell 1 _ rfl
 have F:=Lh h
 clear u h
 go_enter Tryz.func167,Tryz.ntmps167
 go_upto_region 1 with (fail)
 clear G
 go_wp2_with fail
 go_ret
 exact⟨rfl,F.out⟩
theorem hstate_any (q:Ht) (w:World):Calls Tryz.prog 164 #[q.val] w fun e w'=>e=.returned (.string q.st)/\Below w.heap.size w w':=by
 obtain⟨J,G,u,h,I⟩:=box_ht q w
 have z:=u.cell 1 _ rfl
 have F:=Lh h
 clear u h
 go_enter Tryz.func164,Tryz.ntmps164
 go_upto_region 1 with (fail)
 clear G
 go_wp2_with fail
 go_ret
 exact⟨rfl,F.out⟩
theorem hlook_any (w:World) {base:Nat} {a0:Nat->Nat} (q:Ht) (p:Int) (hL:Lr base a0 w q.A q.n q.c q.S) :
  Calls Tryz.prog 238 #[q.val,.int .i64 p] w (fun e w'=>e=.returned (lookH q p).val/\Below w.heap.size w w'):=by
 have HL:=Lh hL
 clear hL
 obtain⟨r,z⟩:∃ r,lookH q p=r:=⟨_,rfl⟩
 have HR:=Lh z
 rw[z]
 clear z
 obtain⟨u,a1⟩:∃ u,atI q.S p=u:=⟨_,rfl⟩
 have Y:=Lh a1
 clear a1
 obtain⟨bk,a2⟩:∃ bk,atB q.S p=bk:=⟨_,rfl⟩
 have I:=Lh a2
 clear a2
 have HC:Hid (∀ w',Lr base a0 w' q.A q.n q.c q.S->Calls Tryz.prog 192 #[.agg #[.slice q.A q.n q.c],.int .i64 p] w' fun e a4=>e=.returned (.tuple #[.int .u64 u,.bool bk])/\Below w'.heap.size w' a4):=Lh (fun w' h=>by have e:=sat_any w' h p; rw[Y.out,I.out] at e; exact e)
 obtain⟨W1,a3,V1,T1,W,S1⟩:=boxes_ht q w
 have M:=Lh (Mp.start W S1 V1 T1)
 clear V1 T1 W S1
 go_enter Tryz.func238,Tryz.ntmps238
 go_upto_region 1 with (fail)
 clear a3
 have z3:=M.out.vb.cell 3 _ rfl
 have f3:=M.out.free 3 (by decide)
 go_upto_region 2 with (fail)
 have M:=Lh (M.out.set 3 (by decide) (.int .i64 p))
 clear z3 f3
 generalize (W1.setCell ⟨w.heap.size,3,none⟩ (.int .i64 p))=w2 at *
 have z2:=M.out.vb.cell 2 _ rfl
 go_wp2_with (first
  | (refine ldB rt_ht rfl _ rfl w.heap.size rfl (Ht.cells { q with place:=p }) M.out.vb ?_))
 refine (HC.out _ (HL.out.later M.out.bl)).mono ?_
 rintro e w3 ⟨rfl,b3⟩
 have M:=Lh (M.out.later b3)
 clear b3
 clear z2
 have z2:=M.out.vb.cell 2 _ rfl
 clear z2
 cases bk with
 | false=>
  have z:r = { q with place:=p,st:=tRefill }:=by rw[<- HR.out]; unfold lookH; rw[I.out]; rfl
  subst z
  go_wp2_with (first
   | (refine ldB rt_ht rfl _ rfl w.heap.size rfl (Ht.cells { q with place:=p }) M.out.vb ?_))
  refine (hto_any { q with place:=p } tRefill _).mono ?_
  rintro e w4 ⟨rfl,b4⟩
  have M:=Lh (M.out.later b4)
  clear b4
  go_wp2_with (first
   | (refine ldB rt_ht rfl _ rfl w.heap.size rfl (Ht.cells { q with place:=p }) M.out.vb ?_)
   | (refine stB rt_ht rfl _ _ rfl (w.heap.size+1) rfl (Ht.cells { q with place:=p,st:=tRefill }) rfl M.out.tr rfl (by kernel_rfl) ?_; intro a5 F G; have J:=Lh F; have Q:=Lh G; clear F G))
  refine bodyPost_ret (v:=Ht.val { q with place:=p,st:=tRefill }) (res_b rt_ht _ _ (w.heap.size+1) _ Tryz.results238 rfl J.out) rfl ?_
  exact⟨rfl,M.out.ret Q.out⟩
 | true=>
  have z:r = { q with place:=p,id:=u,st:=tLoad }:=by rw[<- HR.out]; unfold lookH; rw[I.out,Y.out]; rfl
  subst z
  have z4:=M.out.vb.cell 4 _ rfl
  have f4:=M.out.free 4 (by decide)
  go_upto_region 6 with (fail)
  have M:=Lh (M.out.set 4 (by decide) (.int .u64 u))
  clear z4 f4
  generalize (w3.setCell ⟨w.heap.size,4,none⟩ (.int .u64 u))=w4 at *
  go_wp2_with (first
   | (refine ldB rt_ht rfl _ rfl w.heap.size rfl (Ht.cells { q with place:=p,id:=u }) M.out.vb ?_))
  refine (hto_any { q with place:=p,id:=u } tLoad _).mono ?_
  rintro e w5 ⟨rfl,b5⟩
  have M:=Lh (M.out.later b5)
  clear b5
  go_wp2_with (first
   | (refine ldB rt_ht rfl _ rfl w.heap.size rfl (Ht.cells { q with place:=p,id:=u }) M.out.vb ?_)
   | (refine stB rt_ht rfl _ _ rfl (w.heap.size+1) rfl (Ht.cells { q with place:=p,id:=u,st:=tLoad }) rfl M.out.tr rfl (by kernel_rfl) ?_; intro a5 F G; have J:=Lh F; have Q:=Lh G; clear F G))
  refine bodyPost_ret (v:=Ht.val { q with place:=p,id:=u,st:=tLoad }) (res_b rt_ht _ _ (w.heap.size+1) _ Tryz.results238 rfl J.out) rfl ?_
  exact⟨rfl,M.out.ret Q.out⟩
theorem hnext_any (w:World) {base:Nat} {a1:Nat->Nat} (q:Ht) (I:Lr base a1 w q.A q.n q.c q.S) :
  Calls Tryz.prog 240 #[q.val] w (fun e w'=>e=.returned (nextH q).val/\Below w.heap.size w w'):=by
 have W:=Lh I
 clear I
 obtain⟨W1,a2,F,z,h,u⟩:=boxes_ht q w
 have M:=Lh (Mp.start h u F z)
 clear F z h u
 go_enter Tryz.func240,Tryz.ntmps240
 go_upto_region 1 with (fail)
 clear a2
 have z3:=M.out.vb.cell 3 _ rfl
 go_wp2_with (first
  | (refine ldB rt_ht rfl _ rfl w.heap.size rfl (q.cells) M.out.vb ?_))
 refine (hlook_any _ q (wrap64 (q.place+1)) (W.out.later M.out.bl)).mono ?_
 rintro e w2 ⟨rfl,G⟩
 have M:=Lh (M.out.later G)
 clear G
 go_wp2_with (first
  | (refine ldB rt_ht rfl _ rfl w.heap.size rfl (q.cells) M.out.vb ?_)
  | (refine stB rt_ht rfl _ _ rfl (w.heap.size+1) rfl (Ht.cells (nextH q)) rfl M.out.tr rfl (by kernel_rfl) ?_; intro a3 J Q; have Y:=Lh J; have a0:=Lh Q; clear J Q))
 refine bodyPost_ret (v:=(nextH q).val) (res_b rt_ht _ _ (w.heap.size+1) _ Tryz.results240 rfl Y.out) rfl ?_
 exact⟨rfl,M.out.ret a0.out⟩
theorem hstart_any (w:World) {base:Nat} {Y:Nat->Nat} {x:Wp} (m:Mh) (h:Wv base Y w x m.s) :
  Calls Tryz.prog 214 #[m.q.val,ptr x.pw] w (Lpost base Y x w m.s m.s.S fun A n c=>(startH m A n c).q.val):=by
 obtain⟨W1,a5,Q,J,F,I⟩:=boxes_ht m.q w
 obtain⟨a6,m1⟩:=Me.start h F I Q J
 have M:=Lh m1
 clear m1 h
 clear Q J F I
 go_enter Tryz.func214,Tryz.ntmps214
 go_upto_region 1 with (fail)
 clear a5
 have c8:=M.out.wv.cells.c8
 go_wp2_with (first
  | (refine ldB rt_ht rfl _ rfl w.heap.size rfl (m.q.cells) M.out.vb ?_))
 refine (wlist_any M.out.wv).mono ?_
 rintro e w2 ⟨A,n,c,rfl,a0,W⟩
 have u:=Lh a0
 have M:=Lh (M.out.later W)
 clear W a0
 clear c8
 have z2:=M.out.vb.cell 2 _ rfl
 have f2:=M.out.free 2 (by decide)
 go_upto_region 2 with (fail)
 have G:=Lh M.out
 have u:=Lh (u.out.fz (Fz.of_set (C:=fun k=>k=w.heap.size) (a:=⟨w.heap.size,2,none⟩) (.slice A n c) rfl) (fun g e=>G.out.kcol e))
 clear G
 have M:=Lh (M.out.set 2 (by decide) (.slice A n c))
 clear z2 f2
 generalize (w2.setCell ⟨w.heap.size,2,none⟩ (.slice A n c))=w3 at *
 go_wp2_with (first
  | (refine ldB rt_ht rfl _ rfl w.heap.size rfl (Ht.cells { m.q with A:=A,n:=n,c:=c }) M.out.vb ?_))
 refine (hlook_any _ { m.q with A:=A,n:=n,c:=c,S:=m.s.S } 0 u.out).mono ?_
 rintro e w4 ⟨rfl,z⟩
 have M:=Lh (M.out.later z)
 have u:=Lh (u.out.later z)
 clear z
 go_wp2_with (first
  | (refine ldB rt_ht rfl _ rfl w.heap.size rfl (Ht.cells { m.q with A:=A,n:=n,c:=c }) M.out.vb ?_)
  | (refine stB rt_ht rfl _ _ rfl (w.heap.size+1) rfl (Ht.cells (lookH { m.q with A:=A,n:=n,c:=c,S:=m.s.S } 0)) rfl M.out.tr rfl (by kernel_rfl) ?_; intro a7 a1 a2; have a3:=Lh a1; have a4:=Lh a2; clear a1 a2))
 refine bodyPost_ret (v:=(lookH { m.q with A:=A,n:=n,c:=c,S:=m.s.S } 0).val) (res_b rt_ht _ _ (w.heap.size+1) _ Tryz.results214 rfl a3.out) rfl ?_
 exact⟨A,n,c,rfl,M.out.retL a4.out u.out⟩
theorem hshuts_any (w:World) (q:Ht) :
  Calls Tryz.prog 242 #[q.val] w (fun e w'=>e=.returned (shutsH q).val/\Below w.heap.size w w'):=by
 obtain⟨W1,a1,F,z,h,u⟩:=boxes_ht q w
 have M:=Lh (Mp.start h u F z)
 clear F z h u
 go_enter Tryz.func242,Tryz.ntmps242
 go_upto_region 1 with (fail)
 clear a1
 have z0:=M.out.vb.cell 0 _ rfl
 have z4:=M.out.vb.cell 4 _ rfl
 have z5:=M.out.vb.cell 5 _ rfl
 go_wp2_with fail
 refine (gclose_any q.th 4 q.id q.word _).mono ?_
 rintro e w2 ⟨rfl,G⟩
 have M:=Lh (M.out.later G)
 clear G
 clear z0 z4 z5
 go_upto_region 2 with (first
  | (refine store_s rt_give rfl _ _ rfl w.heap.size 6 rfl (Gv.cells ⟨q.th,4,q.id,q.word,sClose⟩) rfl (th_sub M.out.vb.th 6 5 (by decide)) rfl (by kernel_rfl) ?_; intro a2 J; have M:=Lh (M.out.sets (Gv.cells ⟨q.th,4,q.id,q.word,sClose⟩) 6 _ _ (by show 6+5<=12; decide)); rw[<- J] at M; clear J))
 go_wp2_with (first
  | (refine ldB rt_ht rfl _ rfl w.heap.size rfl (Ht.cells { q with g:=⟨q.th,4,q.id,q.word,sClose⟩ }) M.out.vb ?_))
 refine (hto_any { q with g:=⟨q.th,4,q.id,q.word,sClose⟩ } tGive _).mono ?_
 rintro e w3 ⟨rfl,I⟩
 have M:=Lh (M.out.later I)
 clear I
 go_wp2_with (first
  | (refine ldB rt_ht rfl _ rfl w.heap.size rfl (Ht.cells { q with g:=⟨q.th,4,q.id,q.word,sClose⟩ }) M.out.vb ?_)
  | (refine stB rt_ht rfl _ _ rfl (w.heap.size+1) rfl (Ht.cells (shutsH q)) rfl M.out.tr rfl (by kernel_rfl) ?_; intro a3 Q W; have Y:=Lh Q; have a0:=Lh W; clear Q W))
 refine bodyPost_ret (v:=(shutsH q).val) (res_b rt_ht _ _ (w.heap.size+1) _ Tryz.results242 rfl Y.out) rfl ?_
 exact⟨rfl,M.out.ret a0.out⟩
theorem hunres_any (w:World) {base:Nat} {G:Nat->Nat} {x:Wp} (m:Mh) (h:Wv base G w x m.s) (hid:U64 m.q.id) (aa:U64 m.q.word) (a9:U64 m.s.now) :
  Calls Tryz.prog 218 #[m.q.val,ptr x.pw] w (Mpost base G x w (unresH m).s (unresH m).q.val):=by
 obtain⟨r,I⟩:∃ r,unresH m=r:=⟨_,rfl⟩
 have HR:=Lh I
 rw[I]
 clear I
 obtain⟨u,a7⟩:∃ u,bV m.s.D m.q.id m.q.word 0=u:=⟨_,rfl⟩
 have a4:=Lh a7
 clear a7
 obtain⟨bk,a6⟩:∃ bk,bK m.s.D m.q.id m.q.word 0=bk:=⟨_,rfl⟩
 have a1:=Lh a6
 clear a6
 have HC:Hid (∀ w (G:Nat->Nat),Wv base G w x m.s->Calls Tryz.prog 83 #[ptr x.pb,.int .u64 m.q.id,.int .u64 m.q.word,.int .i64 0,.int .u64 m.s.now] w fun e w'=>e=.returned (.tuple #[.int .u64 u,.bool bk]) /\ ∃ col',Wv base col' w' x { m.s with D:=up m.s.D m.q.id (exS m.q.word 0 m.s.now) } /\ Fw G w w'/\El w G col'):=Lh (fun w G h=>by have e:=wswap w h m.q.id m.q.word 0 m.s.now hid aa a9; rw[a4.out,a1.out] at e; exact e)
 obtain⟨W1,a8,V1,T1,B1,S1⟩:=boxes_ht m.q w
 obtain⟨ae,m1⟩:=Me.start h B1 S1 V1 T1
 have M:=Lh m1
 clear m1 h
 clear V1 T1 B1 S1
 go_enter Tryz.func218,Tryz.ntmps218
 go_upto_region 1 with (fail)
 clear a8
 go_wp2_with fail
 have M:=Lh (M.out.later (Below.refl _ _).drew)
 have z:Hid (Vb W1.drew w.heap.size 12 (m.q.cells)/\Wc W1.drew x m.s):=Lh ⟨M.out.vb,M.out.wv.cells⟩
 refine rgS 10 (fun w'=>Vb w' w.heap.size 12 (m.q.cells)/\Wc w' x m.s) (by kernel_rfl) (by kernel_rfl) ?_
 intro a5
 have F:=Lh a5
 clear a5
 refine rq 0 F.out z.out rfl ?_
 refine rq 1 F.out z.out rfl ?_
 refine rq 2 F.out z.out rfl ?_
 go_simp
 refine rq 3 F.out z.out rfl ?_ (hv:=fun w' hw=>by (have c8:=hw.2.c8; go_simp; exact rfl))
 refine rq 4 F.out z.out rfl ?_
 refine rq 5 F.out z.out rfl ?_ (hv:=fun w' hw=>by (have z4:=hw.1.cell 4 _ rfl; go_simp; exact rfl))
 go_simp
 refine rq 6 F.out z.out rfl ?_
 refine rq 7 F.out z.out rfl ?_ (hv:=fun w' hw=>by (have J:=hw.1.cell 5 _ rfl; go_simp; exact rfl))
 refine rq 8 F.out z.out rfl ?_
 go_simp
 refine rO 9 rfl (by kernel_rfl) rfl ?_
 unfold Oper.wp
 go_simp
 refine (wnow_any _ z.out.2).mono ?_
 rintro e w2 ⟨rfl,b2⟩
 have M:=Lh (M.out.later b2)
 clear b2
 clear z
 have z:Hid (Vb w2 w.heap.size 12 (m.q.cells)/\Wc w2 x m.s):=Lh ⟨M.out.vb,M.out.wv.cells⟩
 refine⟨z.out,?_⟩
 refine rO 10 rfl (by kernel_rfl) rfl ?_
 unfold Oper.wp
 go_simp
 refine (HC.out _ _ M.out.wv).mono ?_
 rintro e w3 ⟨rfl,af,h3,y3,l3⟩
 have M:=Lh (M.out.call h3 y3 l3)
 clear h3 y3 l3
 clear z
 refine rgP 11 F.out rfl (by kernel_rfl) (fun _ _ _ _ h=>h) (fun h=>absurd h (by decide)) rfl ?_
 apply Exists.intro
 refine⟨fun w'=>by (go_simp; exact rfl),?_⟩
 refine rgP 12 F.out rfl (by kernel_rfl) (fun _ _ _ _ h=>h) (fun h=>absurd h (by decide)) rfl ?_
 apply Exists.intro
 refine⟨fun w'=>by (go_simp; exact rfl),?_⟩
 refine rgP 13 F.out rfl (by kernel_rfl) (fun _ _ _ _ h=>h) (fun h=>absurd h (by decide)) rfl ?_
 apply Exists.intro
 refine⟨fun w'=>by (go_simp; exact rfl),?_⟩
 refine rgP 14 F.out rfl (by kernel_rfl) (fun _ _ _ _ h=>h) (fun h=>absurd h (by decide)) rfl ?_
 apply Exists.intro
 refine⟨fun w'=>by (go_simp; exact rfl),?_⟩
 refine rgP 15 F.out rfl (by kernel_rfl) (fun _ _ _ _ h=>h) (fun h=>absurd h (by decide)) rfl ?_
 apply Exists.intro
 refine⟨fun w'=>by (go_simp; exact rfl),?_⟩
 refine rgD (by kernel_rfl) ?_
 cases bk with
 | false=>
  have I:r = { m with q:={ m.q with word:=m.q.word,g:=⟨m.q.th,4,m.q.id,m.q.word,sAgain⟩,st:=tGive },s:={ m.s with D:=up m.s.D m.q.id (exS m.q.word 0 m.s.now) } }:=by rw[<- HR.out]; unfold unresH unresW; rw[a1.out]; rfl
  subst I
  go_upto_region 4 with (fail)
  have z0:=M.out.vb.cell 0 _ rfl
  have z4:=M.out.vb.cell 4 _ rfl
  have J:=M.out.vb.cell 5 _ rfl
  go_wp2_with fail
  refine (gagain_any m.q.th 4 m.q.id m.q.word _).mono ?_
  rintro e w4 ⟨rfl,b4⟩
  have M:=Lh (M.out.later b4)
  clear b4
  clear z0 z4 J
  go_upto_region 5 with (first
   | (refine store_s rt_give rfl _ _ rfl w.heap.size 6 rfl (Gv.cells ⟨m.q.th,4,m.q.id,m.q.word,sAgain⟩) rfl (th_sub M.out.vb.th 6 5 (by decide)) rfl (by kernel_rfl) ?_; intro ac W; have M:=Lh (M.out.sets (Gv.cells ⟨m.q.th,4,m.q.id,m.q.word,sAgain⟩) 6 _ _ (by show 6+5<=12; decide)); rw[<- W] at M; clear W))
  go_wp2_with (first
   | (refine ldB rt_ht rfl _ rfl w.heap.size rfl (Ht.cells { m.q with word:=m.q.word,g:=⟨m.q.th,4,m.q.id,m.q.word,sAgain⟩ }) M.out.vb ?_))
  refine (hto_any { m.q with word:=m.q.word,g:=⟨m.q.th,4,m.q.id,m.q.word,sAgain⟩ } tGive _).mono ?_
  rintro e w5 ⟨rfl,Q⟩
  have M:=Lh (M.out.later Q)
  clear Q
  go_wp2_with (first
   | (refine ldB rt_ht rfl _ rfl w.heap.size rfl (Ht.cells { m.q with word:=m.q.word,g:=⟨m.q.th,4,m.q.id,m.q.word,sAgain⟩ }) M.out.vb ?_)
   | (refine stB rt_ht rfl _ _ rfl (w.heap.size+1) rfl (Ht.cells { m.q with word:=m.q.word,g:=⟨m.q.th,4,m.q.id,m.q.word,sAgain⟩,st:=tGive }) rfl M.out.tr rfl (by kernel_rfl) ?_; intro ad Y a0; have a2:=Lh Y; have a3:=Lh a0; clear Y a0))
  refine bodyPost_ret (v:=Ht.val { m.q with word:=m.q.word,g:=⟨m.q.th,4,m.q.id,m.q.word,sAgain⟩,st:=tGive }) (res_b rt_ht _ _ (w.heap.size+1) _ Tryz.results218 rfl a2.out) rfl ?_
  exact⟨rfl,M.out.ret a3.out⟩
 | true=>
  have I:r = { m with q:={ m.q with word:=u,g:=⟨m.q.th,4,m.q.id,u,sAgain⟩,st:=tGive },s:={ m.s with D:=up m.s.D m.q.id (exS m.q.word 0 m.s.now) } }:=by rw[<- HR.out]; unfold unresH unresW; rw[a1.out,a4.out]; rfl
  subst I
  have J:=M.out.vb.cell 5 _ rfl
  have f5:=M.out.free 5 (by decide)
  go_upto_region 4 with (fail)
  have M:=Lh (M.out.set 5 (by decide) (.int .u64 u))
  clear J f5
  generalize (w3.setCell ⟨w.heap.size,5,none⟩ (.int .u64 u))=w4 at *
  have z0:=M.out.vb.cell 0 _ rfl
  have z4:=M.out.vb.cell 4 _ rfl
  have J:=M.out.vb.cell 5 _ rfl
  go_wp2_with fail
  refine (gagain_any m.q.th 4 m.q.id u _).mono ?_
  rintro e w5 ⟨rfl,Q⟩
  have M:=Lh (M.out.later Q)
  clear Q
  clear z0 z4 J
  go_upto_region 5 with (first
   | (refine store_s rt_give rfl _ _ rfl w.heap.size 6 rfl (Gv.cells ⟨m.q.th,4,m.q.id,u,sAgain⟩) rfl (th_sub M.out.vb.th 6 5 (by decide)) rfl (by kernel_rfl) ?_; intro ac W; have M:=Lh (M.out.sets (Gv.cells ⟨m.q.th,4,m.q.id,u,sAgain⟩) 6 _ _ (by show 6+5<=12; decide)); rw[<- W] at M; clear W))
  go_wp2_with (first
   | (refine ldB rt_ht rfl _ rfl w.heap.size rfl (Ht.cells { m.q with word:=u,g:=⟨m.q.th,4,m.q.id,u,sAgain⟩ }) M.out.vb ?_))
  refine (hto_any { m.q with word:=u,g:=⟨m.q.th,4,m.q.id,u,sAgain⟩ } tGive _).mono ?_
  rintro e w6 ⟨rfl,b6⟩
  have M:=Lh (M.out.later b6)
  clear b6
  go_wp2_with (first
   | (refine ldB rt_ht rfl _ rfl w.heap.size rfl (Ht.cells { m.q with word:=u,g:=⟨m.q.th,4,m.q.id,u,sAgain⟩ }) M.out.vb ?_)
   | (refine stB rt_ht rfl _ _ rfl (w.heap.size+1) rfl (Ht.cells { m.q with word:=u,g:=⟨m.q.th,4,m.q.id,u,sAgain⟩,st:=tGive }) rfl M.out.tr rfl (by kernel_rfl) ?_; intro ad Y a0; have a2:=Lh Y; have a3:=Lh a0; clear Y a0))
  refine bodyPost_ret (v:=Ht.val { m.q with word:=u,g:=⟨m.q.th,4,m.q.id,u,sAgain⟩,st:=tGive }) (res_b rt_ht _ _ (w.heap.size+1) _ Tryz.results218 rfl a2.out) rfl ?_
  exact⟨rfl,M.out.ret a3.out⟩
theorem hgive_any (w:World) {base:Nat} {z:Nat->Nat} {x:Wp} (m:Mh) (h:Wv base z w x m.s) (hg:Gon base x m.q.g m.s m.N) (hL:Lr base z w m.q.A m.q.n m.q.c m.q.S) :
  Calls Tryz.prog 219 #[m.q.val,ptr x.pw] w (Mpost base z x w (giveH m).s (giveH m).q.val):=by
 have HL:=Lh hL
 clear hL
 obtain⟨r,F⟩:∃ r,giveH m=r:=⟨_,rfl⟩
 have HR:=Lh F
 rw[F]
 clear F
 obtain⟨u,a5⟩:∃ u,stepG ⟨m.q.g,m.s,m.N⟩=u:=⟨_,rfl⟩
 have a1:=Lh a5
 clear a5
 obtain⟨dn,a3⟩:∃ dn,dnB u.g=dn:=⟨_,rfl⟩
 have Y:=Lh a3
 clear a3
 have HG:Hid (∀ w (z:Nat->Nat),Wv base z w x m.s->Calls Tryz.prog 124 #[.agg (Gv.cells m.q.g).toArray,ptr x.pw] w fun e w'=>e=.returned (.agg (Gv.cells u.g).toArray) /\ ∃ col',Wv base col' w' x u.s/\Fw z w w'/\El w z col'):=Lh (fun w z h=>by have e:=hg w z h; rw[a1.out] at e; exact e)
 have HD:Hid (∀ w,Calls Tryz.prog 123 #[.agg (Gv.cells u.g).toArray] w fun e w'=>e=.returned (.bool dn)/\Below w.heap.size w w'):=Lh (fun w=>by have e:=gdn_any u.g w; rw[Y.out] at e; exact e)
 obtain⟨fl,a4⟩:∃ fl,m.q.fills=fl:=⟨_,rfl⟩
 have a0:=Lh a4
 clear a4
 obtain⟨W1,a7,V1,T1,B1,S1⟩:=boxes_ht m.q w
 obtain⟨a9,m1⟩:=Me.start h B1 S1 V1 T1
 have M:=Lh m1
 clear m1 h
 clear V1 T1 B1 S1
 go_enter Tryz.func219,Tryz.ntmps219
 go_upto_region 1 with (fail)
 clear a7
 go_wp2_with (first
  | (refine load_s rt_give rfl _ rfl w.heap.size 6 rfl (Gv.cells m.q.g) (ra_sub M.out.vb.at_ 6 _ 5 rfl) rfl ?_))
 refine (HG.out _ _ M.out.wv).mono ?_
 rintro e w2 ⟨rfl,aa,h2,y2,l2⟩
 have M:=Lh (M.out.call h2 y2 l2)
 clear h2 y2 l2
 go_upto_region 2 with (first
  | (refine store_s rt_give rfl _ _ rfl w.heap.size 6 rfl (Gv.cells u.g) rfl (th_sub M.out.vb.th 6 5 (by decide)) rfl (by kernel_rfl) ?_; intro ac a2; have M:=Lh (M.out.sets (Gv.cells u.g) 6 _ _ (by show 6+5<=12; decide)); rw[<- a2] at M; clear a2))
 go_wp2_with (first
  | (refine load_s rt_give rfl _ rfl w.heap.size 6 rfl (Gv.cells u.g) (ra_sub M.out.vb.at_ 6 _ 5 rfl) rfl ?_))
 refine (HD.out _).mono ?_
 rintro e w3 ⟨rfl,b3⟩
 have M:=Lh (M.out.later b3)
 clear b3
 cases dn with
 | false=>
  have F:r = { q:={ m.q with g:=u.g },s:=u.s,N:=u.N }:=by rw[<- HR.out]; unfold giveH; rw[a1.out,Y.out]; rfl
  subst F
  go_wp2_with (first
   | (refine ldB rt_ht rfl _ rfl w.heap.size rfl (Ht.cells { m.q with g:=u.g }) M.out.vb ?_)
   | (refine stB rt_ht rfl _ _ rfl (w.heap.size+1) rfl (Ht.cells { m.q with g:=u.g }) rfl M.out.tr rfl (by kernel_rfl) ?_; intro a6 G I; have J:=Lh G; have Q:=Lh I; clear G I))
  refine bodyPost_ret (v:=Ht.val { m.q with g:=u.g }) (res_b rt_ht _ _ (w.heap.size+1) _ Tryz.results219 rfl J.out) rfl ?_
  exact⟨rfl,M.out.ret Q.out⟩
 | true=>
  cases fl with
  | false=>
   have F:r = { q:=nextH { m.q with g:=u.g },s:=u.s,N:=u.N }:=by rw[<- HR.out]; unfold giveH; rw[a1.out,Y.out,a0.out]; rfl
   subst F
   have a8:w3.cell? ⟨w.heap.size,11,none⟩=some (.bool false):=(M.out.vb.cell 11 _ rfl).trans (congrArg (fun b=>some (Value.bool b)) a0.out)
   go_wp2_with (first
    | (refine ldB rt_ht rfl _ rfl w.heap.size rfl (Ht.cells { m.q with g:=u.g }) M.out.vb ?_))
   refine (hnext_any _ { m.q with g:=u.g } (HL.out.fw M.out.fw M.out.el)).mono ?_
   rintro e w4 ⟨rfl,W⟩
   have M:=Lh (M.out.later W)
   clear W
   go_wp2_with (first
    | (refine ldB rt_ht rfl _ rfl w.heap.size rfl (Ht.cells { m.q with g:=u.g }) M.out.vb ?_)
    | (refine stB rt_ht rfl _ _ rfl (w.heap.size+1) rfl (Ht.cells (nextH { m.q with g:=u.g })) rfl M.out.tr rfl (by kernel_rfl) ?_; intro a6 G I; have J:=Lh G; have Q:=Lh I; clear G I))
   refine bodyPost_ret (v:=(nextH { m.q with g:=u.g }).val) (res_b rt_ht _ _ (w.heap.size+1) _ Tryz.results219 rfl J.out) rfl ?_
   exact⟨rfl,M.out.ret Q.out⟩
  | true=>
   have F:r = { q:={ m.q with g:=u.g,st:=tRefill },s:=u.s,N:=u.N }:=by rw[<- HR.out]; unfold giveH; rw[a1.out,Y.out,a0.out]; rfl
   subst F
   have a8:w3.cell? ⟨w.heap.size,11,none⟩=some (.bool true):=(M.out.vb.cell 11 _ rfl).trans (congrArg (fun b=>some (Value.bool b)) a0.out)
   go_wp2_with (first
    | (refine ldB rt_ht rfl _ rfl w.heap.size rfl (Ht.cells { m.q with g:=u.g }) M.out.vb ?_))
   refine (hto_any { m.q with g:=u.g } tRefill _).mono ?_
   rintro e w4 ⟨rfl,W⟩
   have M:=Lh (M.out.later W)
   clear W
   go_wp2_with (first
    | (refine ldB rt_ht rfl _ rfl w.heap.size rfl (Ht.cells { m.q with g:=u.g }) M.out.vb ?_)
    | (refine stB rt_ht rfl _ _ rfl (w.heap.size+1) rfl (Ht.cells { m.q with g:=u.g,st:=tRefill }) rfl M.out.tr rfl (by kernel_rfl) ?_; intro a6 G I; have J:=Lh G; have Q:=Lh I; clear G I))
   refine bodyPost_ret (v:=Ht.val { m.q with g:=u.g,st:=tRefill }) (res_b rt_ht _ _ (w.heap.size+1) _ Tryz.results219 rfl J.out) rfl ?_
   exact⟨rfl,M.out.ret Q.out⟩
theorem hrefill_any (w:World) {base:Nat} {a3:Nat->Nat} {x:Wp} (m:Mh) (h:Wv base a3 w x m.s) (ag:0<=m.s.live) (ah:m.s.conf.max<=1000000) :
  Calls Tryz.prog 220 #[m.q.val,ptr x.pw] w (Mpost base a3 x w (refillH m).s (refillH m).q.val):=by
 obtain⟨r,G⟩:∃ r,refillH m=r:=⟨_,rfl⟩
 have HR:=Lh G
 rw[G]
 clear G
 obtain⟨cl,ac⟩:∃ cl,m.s.closed=cl:=⟨_,rfl⟩
 have a4:=Lh ac
 clear ac
 obtain⟨ge,ad⟩:∃ ge,decide (m.s.conf.min<=m.s.live)=ge:=⟨_,rfl⟩
 have a7:=Lh ad
 clear ad
 obtain⟨bk,aa⟩:∃ bk,decide (m.s.live < m.s.conf.max)=bk:=⟨_,rfl⟩
 have a6:=Lh aa
 clear aa
 have HC:Hid (∀ w (a3:Nat->Nat),Wv base a3 w x m.s->Calls Tryz.prog 68 #[ptr x.pw] w fun e w'=>e=.returned (.bool bk)/\Wv base a3 w' x { m.s with live:=grwV m.s.live m.s.conf.max } /\ Fw a3 w w'):=Lh (fun w a3 h=>by have e:=wgrow_any w h ag ah; rw[a6.out] at e; exact e)
 cases cl with
 | true=>
  have G:r=m.to tLeaks:=by rw[<- HR.out]; unfold refillH; exact if_neg (fun e=>by rw[a4.out] at e; exact absurd e.1 (by decide))
  subst G
  obtain⟨F,a5,V1,Y,Q,W⟩:=boxes_ht m.q w
  obtain⟨a9,m1⟩:=Me.start h Q W V1 Y
  have M:=Lh m1
  clear m1 h
  clear V1 Y Q W
  go_enter Tryz.func220,Tryz.ntmps220
  go_upto_region 1 with (fail)
  clear a5
  go_wp2_with fail
  have M:=Lh (M.out.later (Below.refl _ _).drew)
  have u:Hid (F.drew.cell? ⟨x.pw,15,none⟩=some (.bool true)):=Lh (M.out.wv.cells.c15).trans (congrArg (fun b=>some (Value.bool b)) a4.out)
  refine rgS 21 (fun w'=>w'.cell? ⟨x.pw,15,none⟩=some (.bool true)) (by kernel_rfl) (by kernel_rfl) ?_
  intro a0
  have z:=Lh a0
  clear a0
  refine rq 0 z.out u.out rfl ?_ (hv:=fun w' hw=>by (skip; go_simp; exact rfl))
  refine rq 1 z.out u.out rfl ?_ (hv:=fun w' hw=>by (skip; go_simp; exact rfl))
  refine rq 2 z.out u.out rfl ?_ (hv:=fun w' hw=>by (skip; go_simp; exact rfl))
  go_simp
  refine rq 3 z.out u.out rfl ?_ (hv:=fun w' hw=>by (have y0:=hw; go_simp; exact rfl))
  refine rq 4 z.out u.out rfl ?_ (hv:=fun w' hw=>by (skip; go_simp; exact rfl))
  refine rgK 5 z.out rfl (by kernel_rfl) (fun _ _ _ _ h=>h) (fun _=>u.out) rfl ?_
  go_simp
  refine rgK 6 z.out rfl (by kernel_rfl) (fun _ _ _ _ h=>h) (fun _=>u.out) rfl ?_
  refine rgK 7 z.out rfl (by kernel_rfl) (fun _ _ _ _ h=>h) (fun _=>u.out) rfl ?_
  go_simp
  refine rgK 8 z.out rfl (by kernel_rfl) (fun _ _ _ _ h=>h) (fun _=>u.out) rfl ?_
  refine rgK 9 z.out rfl (by kernel_rfl) (fun _ _ _ _ h=>h) (fun _=>u.out) rfl ?_
  go_simp
  refine rgK 10 z.out rfl (by kernel_rfl) (fun _ _ _ _ h=>h) (fun _=>u.out) rfl ?_
  refine rgK 11 z.out rfl (by kernel_rfl) (fun _ _ _ _ h=>h) (fun _=>u.out) rfl ?_
  go_simp
  refine rgK 12 z.out rfl (by kernel_rfl) (fun _ _ _ _ h=>h) (fun _=>u.out) rfl ?_
  refine rgK 13 z.out rfl (by kernel_rfl) (fun _ _ _ _ h=>h) (fun _=>u.out) rfl ?_
  go_simp
  refine rgK 14 z.out rfl (by kernel_rfl) (fun _ _ _ _ h=>h) (fun _=>u.out) rfl ?_
  refine rq 15 z.out u.out rfl ?_ (hv:=fun w' hw=>by (skip; go_simp; exact rfl))
  refine rq 16 z.out u.out rfl ?_ (hv:=fun w' hw=>by (skip; go_simp; exact rfl))
  refine rgK 17 z.out rfl (by kernel_rfl) (fun _ _ _ _ h=>h) (fun _=>u.out) rfl ?_
  go_simp
  refine rgK 18 z.out rfl (by kernel_rfl) (fun _ _ _ _ h=>h) (fun _=>u.out) rfl ?_
  refine rgK 19 z.out rfl (by kernel_rfl) (fun _ _ _ _ h=>h) (fun _=>u.out) rfl ?_
  go_simp
  refine rq 20 z.out u.out rfl ?_ (hv:=fun w' hw=>by (skip; go_simp; exact rfl))
  go_simp
  refine rgD (by kernel_rfl) ?_
  clear u
  generalize F.drew=w2 at *
  go_wp2_with (first
   | (refine ldB rt_ht rfl _ rfl w.heap.size rfl (m.q.cells) M.out.vb ?_))
  refine (hto_any m.q tLeaks _).mono ?_
  rintro e w3 ⟨rfl,b3⟩
  have M:=Lh (M.out.later b3)
  clear b3
  go_wp2_with (first
   | (refine ldB rt_ht rfl _ rfl w.heap.size rfl (m.q.cells) M.out.vb ?_)
   | (refine stB rt_ht rfl _ _ rfl (w.heap.size+1) rfl (Ht.cells (m.q.to tLeaks)) rfl M.out.tr rfl (by kernel_rfl) ?_; intro a8 I J; have a1:=Lh I; have a2:=Lh J; clear I J))
  refine bodyPost_ret (v:=(m.q.to tLeaks).val) (res_b rt_ht _ _ (w.heap.size+1) _ Tryz.results220 rfl a1.out) rfl ?_
  exact⟨rfl,M.out.ret a2.out⟩
 | false=>
  cases ge with
  | true=>
   have G:r=m.to tLeaks:=by rw[<- HR.out]; unfold refillH; exact if_neg (fun e=>by have h9:=of_decide_eq_true a7.out; omega)
   subst G
   obtain⟨F,a5,V1,Y,Q,W⟩:=boxes_ht m.q w
   obtain⟨a9,m1⟩:=Me.start h Q W V1 Y
   have M:=Lh m1
   clear m1 h
   clear V1 Y Q W
   go_enter Tryz.func220,Tryz.ntmps220
   go_upto_region 1 with (fail)
   clear a5
   have hq:decide (m.s.conf.min<=m.s.live)=true:=a7.out
   go_wp2_with fail
   have M:=Lh (M.out.later (Below.refl _ _).drew)
   have u:Hid (F.drew.cell? ⟨x.pw,15,none⟩=some (.bool false)/\F.drew.cell? ⟨x.pw,14,none⟩=some (.int .i64 m.s.live)/\F.drew.cell? ⟨x.pw,1,none⟩=some (.int .i64 m.s.conf.min)):=Lh ⟨(M.out.wv.cells.c15).trans (congrArg (fun b=>some (Value.bool b)) a4.out),(M.out.wv.cells.c14),(M.out.wv.cells.c1)⟩
   refine rgS 21 (fun w'=>w'.cell? ⟨x.pw,15,none⟩=some (.bool false)/\w'.cell? ⟨x.pw,14,none⟩=some (.int .i64 m.s.live)/\w'.cell? ⟨x.pw,1,none⟩=some (.int .i64 m.s.conf.min)) (by kernel_rfl) (by kernel_rfl) ?_
   intro a0
   have z:=Lh a0
   clear a0
   refine rq 0 z.out u.out rfl ?_ (hv:=fun w' hw=>by (skip; go_simp; exact rfl))
   refine rq 1 z.out u.out rfl ?_ (hv:=fun w' hw=>by (skip; go_simp; exact rfl))
   refine rq 2 z.out u.out rfl ?_ (hv:=fun w' hw=>by (skip; go_simp; exact rfl))
   go_simp
   refine rq 3 z.out u.out rfl ?_ (hv:=fun w' hw=>by (have y0:=hw.1; have y1:=hw.2.1; have y2:=hw.2.2; go_simp; exact rfl))
   refine rq 4 z.out u.out rfl ?_ (hv:=fun w' hw=>by (skip; go_simp; exact rfl))
   refine rq 5 z.out u.out rfl ?_ (hv:=fun w' hw=>by (skip; go_simp; exact rfl))
   go_simp
   refine rq 6 z.out u.out rfl ?_ (hv:=fun w' hw=>by (skip; go_simp; exact rfl))
   refine rq 7 z.out u.out rfl ?_ (hv:=fun w' hw=>by (skip; go_simp; exact rfl))
   refine rq 8 z.out u.out rfl ?_ (hv:=fun w' hw=>by (have y0:=hw.1; have y1:=hw.2.1; have y2:=hw.2.2; go_simp; exact rfl))
   go_simp
   refine rq 9 z.out u.out rfl ?_ (hv:=fun w' hw=>by (skip; go_simp; exact rfl))
   refine rq 10 z.out u.out rfl ?_ (hv:=fun w' hw=>by (skip; go_simp; exact rfl))
   refine rq 11 z.out u.out rfl ?_ (hv:=fun w' hw=>by (skip; go_simp; exact rfl))
   go_simp
   refine rq 12 z.out u.out rfl ?_ (hv:=fun w' hw=>by (skip; go_simp; exact rfl))
   refine rq 13 z.out u.out rfl ?_ (hv:=fun w' hw=>by (have y0:=hw.1; have y1:=hw.2.1; have y2:=hw.2.2; go_simp; exact rfl))
   refine rq 14 z.out u.out rfl ?_ (hv:=fun w' hw=>by (skip; go_simp; exact rfl))
   go_simp
   refine rq 15 z.out u.out rfl ?_ (hv:=fun w' hw=>by (skip; go_simp; exact rfl))
   refine rq 16 z.out u.out rfl ?_ (hv:=fun w' hw=>by (skip; go_simp; exact rfl))
   refine rgK 17 z.out rfl (by kernel_rfl) (fun _ _ _ _ h=>h) (fun _=>u.out) rfl ?_
   go_simp
   refine rgK 18 z.out rfl (by kernel_rfl) (fun _ _ _ _ h=>h) (fun _=>u.out) rfl ?_
   refine rgK 19 z.out rfl (by kernel_rfl) (fun _ _ _ _ h=>h) (fun _=>u.out) rfl ?_
   go_simp
   refine rq 20 z.out u.out rfl ?_ (hv:=fun w' hw=>by (skip; go_simp; exact rfl))
   go_simp
   refine rgD (by kernel_rfl) ?_
   clear u
   generalize F.drew=w2 at *
   go_wp2_with (first
    | (refine ldB rt_ht rfl _ rfl w.heap.size rfl (m.q.cells) M.out.vb ?_))
   refine (hto_any m.q tLeaks _).mono ?_
   rintro e w3 ⟨rfl,b3⟩
   have M:=Lh (M.out.later b3)
   clear b3
   go_wp2_with (first
    | (refine ldB rt_ht rfl _ rfl w.heap.size rfl (m.q.cells) M.out.vb ?_)
    | (refine stB rt_ht rfl _ _ rfl (w.heap.size+1) rfl (Ht.cells (m.q.to tLeaks)) rfl M.out.tr rfl (by kernel_rfl) ?_; intro a8 I J; have a1:=Lh I; have a2:=Lh J; clear I J))
   refine bodyPost_ret (v:=(m.q.to tLeaks).val) (res_b rt_ht _ _ (w.heap.size+1) _ Tryz.results220 rfl a1.out) rfl ?_
   exact⟨rfl,M.out.ret a2.out⟩
  | false=>
   obtain⟨F,a5,V1,Y,Q,W⟩:=boxes_ht m.q w
   obtain⟨a9,m1⟩:=Me.start h Q W V1 Y
   have M:=Lh m1
   clear m1 h
   clear V1 Y Q W
   go_enter Tryz.func220,Tryz.ntmps220
   go_upto_region 1 with (fail)
   clear a5
   have hq:decide (m.s.conf.min<=m.s.live)=false:=a7.out
   go_wp2_with fail
   have M:=Lh (M.out.later (Below.refl _ _).drew)
   have u:Hid (F.drew.cell? ⟨x.pw,15,none⟩=some (.bool false)/\F.drew.cell? ⟨x.pw,14,none⟩=some (.int .i64 m.s.live)/\F.drew.cell? ⟨x.pw,1,none⟩=some (.int .i64 m.s.conf.min)):=Lh ⟨(M.out.wv.cells.c15).trans (congrArg (fun b=>some (Value.bool b)) a4.out),(M.out.wv.cells.c14),(M.out.wv.cells.c1)⟩
   refine rgS 18 (fun w'=>w'.cell? ⟨x.pw,15,none⟩=some (.bool false)/\w'.cell? ⟨x.pw,14,none⟩=some (.int .i64 m.s.live)/\w'.cell? ⟨x.pw,1,none⟩=some (.int .i64 m.s.conf.min)) (by kernel_rfl) (by kernel_rfl) ?_
   intro a0
   have z:=Lh a0
   clear a0
   refine rq 0 z.out u.out rfl ?_ (hv:=fun w' hw=>by (skip; go_simp; exact rfl))
   refine rq 1 z.out u.out rfl ?_ (hv:=fun w' hw=>by (skip; go_simp; exact rfl))
   refine rq 2 z.out u.out rfl ?_ (hv:=fun w' hw=>by (skip; go_simp; exact rfl))
   go_simp
   refine rq 3 z.out u.out rfl ?_ (hv:=fun w' hw=>by (have y0:=hw.1; have y1:=hw.2.1; have y2:=hw.2.2; go_simp; exact rfl))
   refine rq 4 z.out u.out rfl ?_ (hv:=fun w' hw=>by (skip; go_simp; exact rfl))
   refine rq 5 z.out u.out rfl ?_ (hv:=fun w' hw=>by (skip; go_simp; exact rfl))
   go_simp
   refine rq 6 z.out u.out rfl ?_ (hv:=fun w' hw=>by (skip; go_simp; exact rfl))
   refine rq 7 z.out u.out rfl ?_ (hv:=fun w' hw=>by (skip; go_simp; exact rfl))
   refine rq 8 z.out u.out rfl ?_ (hv:=fun w' hw=>by (have y0:=hw.1; have y1:=hw.2.1; have y2:=hw.2.2; go_simp; exact rfl))
   go_simp
   refine rq 9 z.out u.out rfl ?_ (hv:=fun w' hw=>by (skip; go_simp; exact rfl))
   refine rq 10 z.out u.out rfl ?_ (hv:=fun w' hw=>by (skip; go_simp; exact rfl))
   refine rq 11 z.out u.out rfl ?_ (hv:=fun w' hw=>by (skip; go_simp; exact rfl))
   go_simp
   refine rq 12 z.out u.out rfl ?_ (hv:=fun w' hw=>by (skip; go_simp; exact rfl))
   refine rq 13 z.out u.out rfl ?_ (hv:=fun w' hw=>by (have y0:=hw.1; have y1:=hw.2.1; have y2:=hw.2.2; go_simp; exact rfl))
   refine rq 14 z.out u.out rfl ?_ (hv:=fun w' hw=>by (skip; go_simp; exact rfl))
   go_simp
   refine rq 15 z.out u.out rfl ?_ (hv:=fun w' hw=>by (skip; go_simp; exact rfl))
   refine rq 16 z.out u.out rfl ?_ (hv:=fun w' hw=>by (skip; go_simp; exact rfl))
   refine rq 17 z.out u.out rfl ?_ (hv:=fun w' hw=>by (skip; go_simp; exact rfl))
   go_simp
   refine rO 18 rfl (by kernel_rfl) rfl ?_
   unfold Oper.wp
   go_simp
   refine (HC.out _ _ M.out.wv).mono ?_
   rintro e w2 ⟨rfl,h2,y2⟩
   have M:=Lh (M.out.call0 h2 y2)
   clear h2 y2
   clear u
   refine rgP 19 z.out rfl (by kernel_rfl) (fun _ _ _ _ h=>h) (fun h=>absurd h (by decide)) rfl ?_
   apply Exists.intro
   refine⟨fun w'=>by (go_simp; exact rfl),?_⟩
   refine rgP 20 z.out rfl (by kernel_rfl) (fun _ _ _ _ h=>h) (fun h=>absurd h (by decide)) rfl ?_
   apply Exists.intro
   refine⟨fun w'=>by (go_simp; exact rfl),?_⟩
   refine rgD (by kernel_rfl) ?_
   cases bk with
   | false=>
    have G:r = { m with q:=m.q.to tLeaks,s:={ m.s with live:=grwV m.s.live m.s.conf.max } }:=by rw[<- HR.out]; have af:grwV m.s.live m.s.conf.max=m.s.live:=(by unfold grwV; exact if_neg (of_decide_eq_false a6.out)); unfold refillH; rw[if_neg (fun e=>absurd e.2.2 (of_decide_eq_false a6.out)),af]
    subst G
    go_wp2_with (first
     | (refine ldB rt_ht rfl _ rfl w.heap.size rfl (m.q.cells) M.out.vb ?_))
    refine (hto_any m.q tLeaks _).mono ?_
    rintro e w3 ⟨rfl,b3⟩
    have M:=Lh (M.out.later b3)
    clear b3
    go_wp2_with (first
     | (refine ldB rt_ht rfl _ rfl w.heap.size rfl (m.q.cells) M.out.vb ?_)
     | (refine stB rt_ht rfl _ _ rfl (w.heap.size+1) rfl (Ht.cells (m.q.to tLeaks)) rfl M.out.tr rfl (by kernel_rfl) ?_; intro a8 I J; have a1:=Lh I; have a2:=Lh J; clear I J))
    refine bodyPost_ret (v:=(m.q.to tLeaks).val) (res_b rt_ht _ _ (w.heap.size+1) _ Tryz.results220 rfl a1.out) rfl ?_
    exact⟨rfl,M.out.ret a2.out⟩
   | true=>
    have G:r = { m with q:={ m.q with fills:=true,st:=tOpen },s:={ m.s with live:=grwV m.s.live m.s.conf.max } }:=by rw[<- HR.out]; unfold refillH; exact if_pos ⟨a4.out,by have h9:=of_decide_eq_false a7.out; omega,of_decide_eq_true a6.out⟩
    subst G
    have ai:=M.out.vb.cell 11 _ rfl
    have ae:=M.out.free 11 (by decide)
    go_upto_region 4 with (fail)
    have M:=Lh (M.out.set 11 (by decide) (.bool true))
    clear ai ae
    generalize (w2.setCell ⟨w.heap.size,11,none⟩ (.bool true))=w3 at *
    go_wp2_with (first
     | (refine ldB rt_ht rfl _ rfl w.heap.size rfl (Ht.cells { m.q with fills:=true }) M.out.vb ?_))
    refine (hto_any { m.q with fills:=true } tOpen _).mono ?_
    rintro e w4 ⟨rfl,b4⟩
    have M:=Lh (M.out.later b4)
    clear b4
    go_wp2_with (first
     | (refine ldB rt_ht rfl _ rfl w.heap.size rfl (Ht.cells { m.q with fills:=true }) M.out.vb ?_)
     | (refine stB rt_ht rfl _ _ rfl (w.heap.size+1) rfl (Ht.cells { m.q with fills:=true,st:=tOpen }) rfl M.out.tr rfl (by kernel_rfl) ?_; intro a8 I J; have a1:=Lh I; have a2:=Lh J; clear I J))
    refine bodyPost_ret (v:=Ht.val { m.q with fills:=true,st:=tOpen }) (res_b rt_ht _ _ (w.heap.size+1) _ Tryz.results220 rfl a1.out) rfl ?_
    exact⟨rfl,M.out.ret a2.out⟩
theorem hopen_any (w:World) {base:Nat} {F:Nat->Nat} {x:Wp} (m:Mh) (h:Wv base F w x m.s) (hn:m.s.n < 18446744073709551615) (a9:U64 m.s.now) (a8:m.s.D.length < 1000000) :
  Calls Tryz.prog 221 #[m.q.val,ptr x.pw] w (Mpost base F x w (openH m).s (openH m).q.val):=by
 obtain⟨r,G⟩:∃ r,openH m=r:=⟨_,rfl⟩
 have HR:=Lh G
 rw[G]
 clear G
 have HU:Hid (U64 (opnI m.s.O m.s.n)):=Lh (by unfold opnI; split <;> constructor <;> omega)
 obtain⟨u,a5⟩:∃ u,opnI m.s.O m.s.n=u:=⟨_,rfl⟩
 have a0:=Lh a5
 clear a5
 rw[a0.out] at HU
 obtain⟨bk,a4⟩:∃ bk,(Fc.nx m.s.O).1=bk:=⟨_,rfl⟩
 have Y:=Lh a4
 clear a4
 have HC:Hid (∀ w (F:Nat->Nat),Wv base F w x m.s->Calls Tryz.prog 71 #[ptr x.pF] w fun e w'=>e=.returned (.tuple #[.int .u64 u,.bool bk])/\Wv base F w' x { m.s with O:=(Fc.nx m.s.O).2,n:=opnN m.s.O m.s.n } /\ Fw F w w'):=Lh (fun w F h=>by have e:=wopen w h hn; rw[Y.out,a0.out] at e; exact e)
 have a6:Hid (∀ w,Calls Tryz.prog 23 #[.int .i64 2,.int .u64 0] w fun e w'=>e=.returned (.int .u64 2)/\w=w'):=Lh (fun w=>Wd.of_any 2 0 w (by decide) (by decide))
 obtain⟨W1,a7,V1,T1,B1,S1⟩:=boxes_ht m.q w
 obtain⟨ac,m1⟩:=Me.start h B1 S1 V1 T1
 have M:=Lh m1
 clear m1 h
 clear V1 T1 B1 S1
 go_enter Tryz.func221,Tryz.ntmps221
 go_upto_region 1 with (fail)
 clear a7
 have c12:=M.out.wv.cells.c12
 go_wp2_with (first
  | (refine ldB rt_ht rfl _ rfl w.heap.size rfl (m.q.cells) M.out.vb ?_))
 refine (HC.out _ _ M.out.wv).mono ?_
 rintro e w2 ⟨rfl,h2,y2⟩
 have M:=Lh (M.out.call0 h2 y2)
 clear h2 y2
 clear c12
 have c12:=M.out.wv.cells.c12
 clear c12
 cases bk with
 | false=>
  have G:r = { m with q:=m.q.to tShrink,s:={ m.s with O:=(Fc.nx m.s.O).2,n:=opnN m.s.O m.s.n } }:=by rw[<- HR.out]; unfold openH; rw[Y.out]; rfl
  subst G
  go_wp2_with (first
   | (refine ldB rt_ht rfl _ rfl w.heap.size rfl (m.q.cells) M.out.vb ?_))
  refine (hto_any m.q tShrink _).mono ?_
  rintro e w3 ⟨rfl,J⟩
  have M:=Lh (M.out.later J)
  clear J
  go_wp2_with (first
   | (refine ldB rt_ht rfl _ rfl w.heap.size rfl (m.q.cells) M.out.vb ?_)
   | (refine stB rt_ht rfl _ _ rfl (w.heap.size+1) rfl (Ht.cells (m.q.to tShrink)) rfl M.out.tr rfl (by kernel_rfl) ?_; intro aa Q W; have a1:=Lh Q; have a2:=Lh W; clear Q W))
  refine bodyPost_ret (v:=(m.q.to tShrink).val) (res_b rt_ht _ _ (w.heap.size+1) _ Tryz.results221 rfl a1.out) rfl ?_
  exact⟨rfl,M.out.ret a2.out⟩
 | true=>
  have G:r = { m with q:={ m.q with id:=u,word:=2,st:=tPublish },s:={ m.s with O:=(Fc.nx m.s.O).2,n:=opnN m.s.O m.s.n,D:=entD m.s.D u 2 m.s.now } }:=by rw[<- HR.out]; unfold openH; rw[Y.out,a0.out]; rfl
  subst G
  go_wp2_with fail
  have M:=Lh (M.out.later (Below.refl _ _).drew)
  have z:Hid (Vb w2.drew w.heap.size 12 (m.q.cells)/\Wc w2.drew x { m.s with O:=(Fc.nx m.s.O).2,n:=opnN m.s.O m.s.n }):=Lh ⟨M.out.vb,M.out.wv.cells⟩
  refine rgS 7 (fun w'=>Vb w' w.heap.size 12 (m.q.cells)/\Wc w' x { m.s with O:=(Fc.nx m.s.O).2,n:=opnN m.s.O m.s.n }) (by kernel_rfl) (by kernel_rfl) ?_
  intro a3
  have I:=Lh a3
  clear a3
  refine rq 0 I.out z.out rfl ?_
  refine rq 1 I.out z.out rfl ?_
  refine rq 2 I.out z.out rfl ?_
  go_simp
  refine rq 3 I.out z.out rfl ?_ (hv:=fun w' hw=>by (have c8:=hw.2.c8; go_simp; exact rfl))
  refine rq 4 I.out z.out rfl ?_
  refine rq 5 I.out z.out rfl ?_
  go_simp
  refine rO 6 rfl (by kernel_rfl) rfl ?_
  unfold Oper.wp
  go_simp
  refine (wnow_any _ z.out.2).mono ?_
  rintro e w3 ⟨rfl,J⟩
  have M:=Lh (M.out.later J)
  clear J
  clear z
  have z:Hid (Vb w3 w.heap.size 12 (m.q.cells)/\Wc w3 x { m.s with O:=(Fc.nx m.s.O).2,n:=opnN m.s.O m.s.n }):=Lh ⟨M.out.vb,M.out.wv.cells⟩
  refine⟨z.out,?_⟩
  refine rO 7 rfl (by kernel_rfl) rfl ?_
  unfold Oper.wp
  go_simp
  refine (wenter _ M.out.wv u 2 m.s.now HU.out a9 a8).mono ?_
  rintro e w4 ⟨rfl,ad,h4,y4,l4⟩
  have M:=Lh (M.out.call h4 y4 l4)
  clear h4 y4 l4
  clear z
  refine rgD (by kernel_rfl) ?_
  go_wp2_with (first
   | (refine ldB rt_ht rfl _ rfl w.heap.size rfl (m.q.cells) M.out.vb ?_))
  refine (a6.out _).mono ?_
  rintro e w8 ⟨rfl,rfl⟩
  have z4:=M.out.vb.cell 4 _ rfl
  have f4:=M.out.free 4 (by decide)
  have z5:=M.out.vb.cell 5 _ rfl
  have f5:=M.out.free 5 (by decide)
  go_upto_region 6 with (fail)
  have M:=Lh ((M.out.set 4 (by decide) (.int .u64 u)).set 5 (by decide) (.int .u64 2))
  clear z4 f4 z5 f5
  generalize ((w4.setCell ⟨w.heap.size,4,none⟩ (.int .u64 u)).setCell ⟨w.heap.size,5,none⟩ (.int .u64 2))=w5 at *
  go_wp2_with (first
   | (refine ldB rt_ht rfl _ rfl w.heap.size rfl (Ht.cells { m.q with id:=u,word:=2 }) M.out.vb ?_))
  refine (hto_any { m.q with id:=u,word:=2 } tPublish _).mono ?_
  rintro e w6 ⟨rfl,b6⟩
  have M:=Lh (M.out.later b6)
  clear b6
  go_wp2_with (first
   | (refine ldB rt_ht rfl _ rfl w.heap.size rfl (Ht.cells { m.q with id:=u,word:=2 }) M.out.vb ?_)
   | (refine stB rt_ht rfl _ _ rfl (w.heap.size+1) rfl (Ht.cells { m.q with id:=u,word:=2,st:=tPublish }) rfl M.out.tr rfl (by kernel_rfl) ?_; intro aa Q W; have a1:=Lh Q; have a2:=Lh W; clear Q W))
  refine bodyPost_ret (v:=Ht.val { m.q with id:=u,word:=2,st:=tPublish }) (res_b rt_ht _ _ (w.heap.size+1) _ Tryz.results221 rfl a1.out) rfl ?_
  exact⟨rfl,M.out.ret a2.out⟩
theorem hpublish_any (w:World) {base:Nat} {a0:Nat->Nat} {x:Wp} (m:Mh) (h:Wv base a0 w x m.s) (hid:U64 m.q.id) (a6:U64 m.q.word) (a5:U64 m.s.now) (hS:m.s.S.length<=1000000) :
  Calls Tryz.prog 223 #[m.q.val,ptr x.pw] w (Mpost base a0 x w (publishH m).s (publishH m).q.val):=by
 obtain⟨r,z⟩:∃ r,publishH m=r:=⟨_,rfl⟩
 have HR:=Lh z
 rw[z]
 clear z
 obtain⟨W1,a4,V1,T1,Y,S1⟩:=boxes_ht m.q w
 obtain⟨a8,m1⟩:=Me.start h Y S1 V1 T1
 have M:=Lh m1
 clear m1 h
 clear V1 T1 Y S1
 go_enter Tryz.func223,Tryz.ntmps223
 go_upto_region 1 with (fail)
 clear a4
 by_cases hc:m.s.closed=false/\(fnd m.s.D m.q.id).isSome=true
 .have a1:=Lh hc
  have z:r=unresH { m with s:={ m.s with S:=pubS m.s.D m.s.S m.q.id } }:=by rw[<- HR.out]; unfold publishH; exact if_pos hc
  subst z
  clear hc
  have z4:=M.out.vb.cell 4 _ rfl
  go_wp2_with (first
   | (refine ldB rt_ht rfl _ rfl w.heap.size rfl (m.q.cells) M.out.vb ?_))
  refine (wpub_yes M.out.wv m.q.id hid hS a1.out).mono ?_
  rintro e w2 ⟨rfl,a3,u,J,I⟩
  have M:=Lh (M.out.call u J I)
  clear u J I
  clear z4
  have z4:=M.out.vb.cell 4 _ rfl
  clear z4
  go_wp2_with (first
   | (refine ldB rt_ht rfl _ rfl w.heap.size rfl (m.q.cells) M.out.vb ?_))
  refine (hunres_any _ { m with s:={ m.s with S:=pubS m.s.D m.s.S m.q.id } } M.out.wv hid a6 a5).mono ?_
  rintro e w3 ⟨rfl,a9,h3,y3,l3⟩
  have M:=Lh (M.out.call h3 y3 l3)
  clear h3 y3 l3
  go_wp2_with (first
   | (refine ldB rt_ht rfl _ rfl w.heap.size rfl (m.q.cells) M.out.vb ?_)
   | (refine stB rt_ht rfl _ _ rfl (w.heap.size+1) rfl (Ht.cells (unresH { m with s:={ m.s with S:=pubS m.s.D m.s.S m.q.id } }).q) rfl M.out.tr rfl (by kernel_rfl) ?_; intro a7 F G; have Q:=Lh F; have W:=Lh G; clear F G))
  refine bodyPost_ret (v:=(unresH { m with s:={ m.s with S:=pubS m.s.D m.s.S m.q.id } }).q.val) (res_b rt_ht _ _ (w.heap.size+1) _ Tryz.results223 rfl Q.out) rfl ?_
  exact⟨rfl,M.out.ret W.out⟩
 .have a2:Hid (m.s.closed=true\/(fnd m.s.D m.q.id).isSome=false):=Lh (by cases h1:m.s.closed with | true=>exact .inl rfl | false=>cases u:(fnd m.s.D m.q.id).isSome with | false=>exact .inr rfl | true=>exact absurd ⟨h1,u⟩ hc)
  have z:r = { m with q:=shutsH m.q }:=by rw[<- HR.out]; unfold publishH; exact if_neg hc
  subst z
  clear hc
  have z4:=M.out.vb.cell 4 _ rfl
  go_wp2_with (first
   | (refine ldB rt_ht rfl _ rfl w.heap.size rfl (m.q.cells) M.out.vb ?_))
  refine (wpub_no M.out.wv m.q.id hid hS a2.out).mono ?_
  rintro e w2 ⟨rfl,a3,u,J,I⟩
  have M:=Lh (M.out.call u J I)
  clear u J I
  clear z4
  have z4:=M.out.vb.cell 4 _ rfl
  clear z4
  go_wp2_with (first
   | (refine ldB rt_ht rfl _ rfl w.heap.size rfl (m.q.cells) M.out.vb ?_))
  refine (hshuts_any _ m.q).mono ?_
  rintro e w3 ⟨rfl,b3⟩
  have M:=Lh (M.out.later b3)
  clear b3
  go_wp2_with (first
   | (refine ldB rt_ht rfl _ rfl w.heap.size rfl (m.q.cells) M.out.vb ?_)
   | (refine stB rt_ht rfl _ _ rfl (w.heap.size+1) rfl (Ht.cells (shutsH m.q)) rfl M.out.tr rfl (by kernel_rfl) ?_; intro a7 F G; have Q:=Lh F; have W:=Lh G; clear F G))
  refine bodyPost_ret (v:=(shutsH m.q).val) (res_b rt_ht _ _ (w.heap.size+1) _ Tryz.results223 rfl Q.out) rfl ?_
  exact⟨rfl,M.out.ret W.out⟩
theorem hleaks_any (w:World) {base:Nat} {a0:Nat->Nat} {x:Wp} (m:Mh) (h:Wv base a0 w x m.s) (a8:U64 m.s.now) (a9:m.s.T.length<=1000) (a7:m.s.L.length<=1000) (a6:m.s.ev.length<=1000) :
  Calls Tryz.prog 224 #[m.q.val,ptr x.pw] w (Mpost base a0 x w (leaksH m).s (leaksH m).q.val):=by
 obtain⟨W,a5,Q,J,G,I⟩:=boxes_ht m.q w
 obtain⟨aa,m1⟩:=Me.start h G I Q J
 have M:=Lh m1
 clear m1 h
 clear Q J G I
 go_enter Tryz.func224,Tryz.ntmps224
 go_upto_region 1 with (fail)
 clear a5
 go_wp2_with fail
 have M:=Lh (M.out.later (Below.refl _ _).drew)
 have u:Hid (Vb W.drew w.heap.size 12 (m.q.cells)/\Wc W.drew x m.s):=Lh ⟨M.out.vb,M.out.wv.cells⟩
 refine rgS 6 (fun w'=>Vb w' w.heap.size 12 (m.q.cells)/\Wc w' x m.s) (by kernel_rfl) (by kernel_rfl) ?_
 intro F
 have z:=Lh F
 clear F
 refine rq 0 z.out u.out rfl ?_
 refine rq 1 z.out u.out rfl ?_
 refine rq 2 z.out u.out rfl ?_
 go_simp
 refine rq 3 z.out u.out rfl ?_ (hv:=fun w' hw=>by (have c11:=hw.2.c11; go_simp; exact rfl))
 refine rq 4 z.out u.out rfl ?_
 refine rO 5 rfl (by kernel_rfl) rfl ?_
 unfold Oper.wp
 go_simp
 refine (wnow_any _ u.out.2).mono ?_
 rintro e w2 ⟨rfl,Y⟩
 have M:=Lh (M.out.later Y)
 clear Y
 clear u
 have u:Hid (Vb w2 w.heap.size 12 (m.q.cells)/\Wc w2 x m.s):=Lh ⟨M.out.vb,M.out.wv.cells⟩
 refine⟨u.out,?_⟩
 refine rO 6 rfl (by kernel_rfl) rfl ?_
 unfold Oper.wp
 go_simp
 refine (wleaks_any _ M.out.wv a8 a9 a7).mono ?_
 rintro e w3 ⟨⟨A9,c9,rfl⟩,h3,y3⟩
 have M:=Lh (M.out.call0 h3 y3)
 clear h3 y3
 clear u
 refine rgD (by kernel_rfl) ?_
 go_wp2_with fail
 have M:=Lh (M.out.later (Below.refl _ _).drew)
 have u:Hid (Vb w3.drew w.heap.size 12 (m.q.cells)/\Wc w3.drew x { m.s with L:=Le.flgs m.s.L ((Wl.due m.s.T m.s.now).map Prod.fst),T:=Wl.left m.s.T m.s.now }):=Lh ⟨M.out.vb,M.out.wv.cells⟩
 refine rgS 6 (fun w'=>Vb w' w.heap.size 12 (m.q.cells)/\Wc w' x { m.s with L:=Le.flgs m.s.L ((Wl.due m.s.T m.s.now).map Prod.fst),T:=Wl.left m.s.T m.s.now }) (by kernel_rfl) (by kernel_rfl) ?_
 intro F
 have z:=Lh F
 clear F
 refine rq 0 z.out u.out rfl ?_
 refine rq 1 z.out u.out rfl ?_
 refine rq 2 z.out u.out rfl ?_
 go_simp
 refine rq 3 z.out u.out rfl ?_ (hv:=fun w' hw=>by (have c13:=hw.2.c13; go_simp; exact rfl))
 refine rq 4 z.out u.out rfl ?_
 refine rq 5 z.out u.out rfl ?_ (hv:=fun w' hw=>by (have z0:=hw.1.cell 0 _ rfl; go_simp; exact rfl))
 go_simp
 refine rO 6 rfl (by kernel_rfl) rfl ?_
 unfold Oper.wp
 go_simp
 refine (wadd _ M.out.wv m.q.th 1 4 0 0 a6).mono ?_
 rintro e w4 ⟨rfl,ac,h4,y4,l4⟩
 have M:=Lh (M.out.call h4 y4 l4)
 clear h4 y4 l4
 clear u
 refine rgD (by kernel_rfl) ?_
 go_wp2_with (first
  | (refine ldB rt_ht rfl _ rfl w.heap.size rfl (m.q.cells) M.out.vb ?_))
 refine (hto_any m.q tDone _).mono ?_
 rintro e w5 ⟨rfl,b5⟩
 have M:=Lh (M.out.later b5)
 clear b5
 go_wp2_with (first
  | (refine ldB rt_ht rfl _ rfl w.heap.size rfl (m.q.cells) M.out.vb ?_)
  | (refine stB rt_ht rfl _ _ rfl (w.heap.size+1) rfl (Ht.cells (leaksH m).q) rfl M.out.tr rfl (by kernel_rfl) ?_; intro ad a1 a2; have a3:=Lh a1; have a4:=Lh a2; clear a1 a2))
 refine bodyPost_ret (v:=(leaksH m).q.val) (res_b rt_ht _ _ (w.heap.size+1) _ Tryz.results224 rfl a3.out) rfl ?_
 exact⟨rfl,M.out.ret a4.out⟩
end Go.Proofs.YtoiklelghfckgaaGreatDoor.Wo
end
section
set_option maxRecDepth 100000
set_option maxHeartbeats 8000000
set_option linter.unusedVariables false
namespace Go.Proofs.YtoiklelghfckgaaGreatDoor.Wo
open Go Go.ChangeShapes Go.WideShapes Go.ChangeAt Go.RowKit Go.Deep Go.Maps Rw Hi Mt Ba
open Cn (Cf cfE)
theorem rt_ct:RowT 82 12:=⟨by kernel_rfl,by kernel_rfl,by kernel_rfl⟩
theorem boxes_ct (q:Ct) (w:World):∃ W,(w.alloc (.cells q.cells.toArray 82)).alloc (.cells #[.int .i64 0,.string ⟨#[]⟩,.slice none 0 0,.int .i64 0,.int .u64 0,.int .u64 0,.int .i64 0,.int .i64 0,.int .u64 0,.int .u64 0,.string ⟨#[]⟩,.int .i64 0] 82)=W /\
  Vb W w.heap.size 12 q.cells/\W.there (w.heap.size+1) 0 12/\Below w.heap.size w W/\W.heap.size=w.heap.size+2:=boxes_b 82 q.cells [.int .i64 0,.string ⟨#[]⟩,.slice none 0 0,.int .i64 0,.int .u64 0,.int .u64 0,.int .i64 0,.int .i64 0,.int .u64 0,.int .u64 0,.string ⟨#[]⟩,.int .i64 0] w rfl rfl
theorem box_ct (q:Ct) (w:World):∃ W,w.alloc (.cells q.cells.toArray 82)=W/\Vb W w.heap.size 12 q.cells/\Below w.heap.size w W/\W.heap.size=w.heap.size+1:=box_b 82 q.cells w rfl
def actD_ct:DataW Unit:=(DataW.put (DataW.put (DataW.put (DataW.put (DataW.put (.map [] : DataW Unit) (.string [115,116,97,114,116]) (.lit (.int .u64 ((106:Nat)+1:Int)))) (.string [115,110,97,112]) (.lit (.int .u64 ((107:Nat)+1:Int)))) (.string [108,111,97,100]) (.lit (.int .u64 ((108:Nat)+1:Int)))) (.string [115,119,97,112]) (.lit (.int .u64 ((109:Nat)+1:Int)))) (.string [103,105,118,101]) (.lit (.int .u64 ((110:Nat)+1:Int))))
theorem acts_ct (w:World):Calls Tryz.prog 46 #[] w fun e w'=>∃ m,e=.returned (.map (some m))/\(∃ n,w'.ownsMap Tryz.prog 9 fnR m n actD_ct)/\Below w.heap.size w w':=by
 have ad:=@run_makeMap Tryz.prog
 have hk:∀ s:ByteArray,s.size<=maxLen->keyOf Tryz.prog 9 (.string s)=some (.string s.data.toList):=fun s hs=>WideMaps.keyOf_string_mk Tryz.underlying9 hs
 go_enter Tryz.func46,Tryz.ntmps46
 have a0:Hid (Below w.heap.size w (w.alloc (.map #[] 0))):=Lh ((Below.refl _ _).alloc (Nat.le_refl _) _)
 have a6:Hid ((w.alloc (.map #[] 0)).ownsMap Tryz.prog 9 fnR w.heap.size 0 (.map [] : DataW Unit)):=Lh (World.ownsMap_made w _ _ _)
 go_wp2_with (first
  | (refine inO (w.alloc (.map #[] 0)) rfl _ _ _ _ rfl 9 130 lawS Tryz.underlying131 w.heap.size 0 _ rfl a6.out (by decide) _ _ _ rfl rfl (hk _ (by decide)) (.lit (.int .u64 ((106:Nat)+1:Int))) [] rfl ?_; intro v1 I h; have a7:=Lh I; have a1:=Lh (grL a0.out h (Nat.le_refl _)); clear I h)
  | (refine inO v1 rfl _ _ _ _ rfl 9 130 lawS Tryz.underlying131 w.heap.size 1 _ rfl a7.out (by decide) _ _ _ rfl rfl (hk _ (by decide)) (.lit (.int .u64 ((107:Nat)+1:Int))) [] rfl ?_; intro v2 J u; have a8:=Lh J; have a2:=Lh (grL a1.out u (Nat.le_refl _)); clear J u)
  | (refine inO v2 rfl _ _ _ _ rfl 9 130 lawS Tryz.underlying131 w.heap.size 2 _ rfl a8.out (by decide) _ _ _ rfl rfl (hk _ (by decide)) (.lit (.int .u64 ((108:Nat)+1:Int))) [] rfl ?_; intro v3 Q z; have a9:=Lh Q; have a3:=Lh (grL a2.out z (Nat.le_refl _)); clear Q z)
  | (refine inO v3 rfl _ _ _ _ rfl 9 130 lawS Tryz.underlying131 w.heap.size 3 _ rfl a9.out (by decide) _ _ _ rfl rfl (hk _ (by decide)) (.lit (.int .u64 ((109:Nat)+1:Int))) [] rfl ?_; intro v4 W F; have aa:=Lh W; have a4:=Lh (grL a3.out F (Nat.le_refl _)); clear W F)
  | (refine inO v4 rfl _ _ _ _ rfl 9 130 lawS Tryz.underlying131 w.heap.size 4 _ rfl aa.out (by decide) _ _ _ rfl rfl (hk _ (by decide)) (.lit (.int .u64 ((110:Nat)+1:Int))) [] rfl ?_; intro v5 Y G; have ac:=Lh Y; have a5:=Lh (grL a4.out G (Nat.le_refl _)); clear Y G))
 go_wp2_with fail
 go_ret
 exact⟨_,rfl,⟨_,ac.out⟩,a5.out⟩
theorem eq_fn_ct (w:World) (h:Fn) (first cap:Array Value):(binOp .eql 130 (.func h first cap) .nilFunc).run Tryz.prog w=.ok (.bool false) w:=by kernel_rfl
theorem eq_nil_ct (w:World):(binOp .eql 130 .nilFunc .nilFunc).run Tryz.prog w=.ok (.bool true) w:=by kernel_rfl
theorem zero_fn_ct (w:World):(zeroValue 130).run Tryz.prog w=.ok .nilFunc w:=by kernel_rfl
theorem ct_act (w:World) {base:Nat} {z:Nat->Nat} {x:Wp} {s s':Ws} (q r:Ct) (h:Wv base z w x s) (f:FuncId) (a1:actD_ct.atKey (.string q.st.data.toList) (.lit (.int .u64 0))=.lit (.int .u64 ((f:Nat)+1:Int))) (a3:q.st.size<=maxLen)
  (hK:∀ w,(callFunc f #[.agg q.cells.toArray,ptr x.pw]).run Tryz.prog w=.ok (.enter f #[.agg q.cells.toArray,ptr x.pw]) w)
  (hD:∀ (W:World) (z:Nat->Nat),Wv base z W x s->Calls Tryz.prog f #[.agg q.cells.toArray,ptr x.pw] W (Mpost base z x W s' r.val)) :
  Calls Tryz.prog 20 #[q.val,ptr x.pw] w (Mpost base z x w s' r.val):=by
 obtain⟨W1,aa,Y,Q,I,J⟩:=boxes_ct q w
 obtain⟨ad,m1⟩:=Me.start h I J Y Q
 have M:=Lh m1
 have a7:=Lh a1
 have HZ:=Lh a3
 have a6:=Lh hD
 clear hD
 clear m1 Y Q I J h a1 a3
 go_enter Tryz.func20,Tryz.ntmps20
 go_upto_region 1 with (fail)
 clear aa
 go_wp2_with fail
 have M:=Lh (M.out.later (Below.refl _ _).drew)
 have u:Hid (Vb W1.drew w.heap.size 12 q.cells):=Lh M.out.vb
 refine rgS 5 (fun w'=>Vb w' w.heap.size 12 q.cells) (by kernel_rfl) (by kernel_rfl) ?_
 intro a0
 have F:=Lh a0
 clear a0
 refine rq 1 F.out u.out rfl ?_
 refine rq 2 F.out u.out rfl ?_ (hv:=fun w' hw=>by (have kz:=hw.cell 1 _ rfl; go_simp; exact rfl))
 refine rO 0 rfl (by kernel_rfl) rfl ?_
 unfold Oper.wp
 go_simp
 refine (acts_ct _).mono ?_
 rintro e w2 ⟨m,rfl,⟨n,a2⟩,b2⟩
 have M:=Lh (M.out.later b2)
 refine⟨M.out.vb,?_⟩
 clear u
 have u:=Lh M.out.vb
 obtain⟨fv,ps,ac,G⟩:=a2.lookup lawS Tryz.underlying131 (zero_fn_ct w2) (show fnR .nilFunc=some (.lit (.int .u64 0),[]) from rfl) (WideMaps.keyOf_string_mk Tryz.underlying9 HZ.out)
 rw[a7.out] at G
 obtain rfl:=fnR_inv G
 clear a2 b2 G
 refine rO 3 rfl (by kernel_rfl) rfl ?_
 unfold Oper.wp
 go_simp
 refine⟨u.out,?_⟩
 clear ac
 refine rq 4 F.out u.out rfl ?_
 refine rgD (by kernel_rfl) ?_
 clear u
 have af:=eq_fn_ct
 have ag:=eq_nil_ct
 go_wp2_with (first
  | (refine ldB rt_ct rfl _ rfl w.heap.size rfl q.cells M.out.vb ?_))
 refine (a6.out _ _ M.out.wv).mono ?_
 rintro e w3 ⟨rfl,ae,h3,z3,l3⟩
 have M:=Lh (M.out.call h3 z3 l3)
 clear h3 z3 l3
 go_wp2_with (first
  | (refine stB rt_ct rfl _ _ rfl (w.heap.size+1) rfl r.cells rfl M.out.tr rfl (by kernel_rfl) ?_; intro w9 a4 a5; have a8:=Lh a4; have a9:=Lh a5; clear a4 a5))
 refine bodyPost_ret (v:=r.val) (res_b rt_ct _ _ (w.heap.size+1) _ Tryz.results20 rfl a8.out) rfl ?_
 exact⟨rfl,M.out.ret a9.out⟩
theorem ct_none (w:World) {base:Nat} {Y:Nat->Nat} {x:Wp} {s:Ws} (q:Ct) (h:Wv base Y w x s) (a1:actD_ct.atKey (.string q.st.data.toList) (.lit (.int .u64 0))=.lit (.int .u64 0)) (a3:q.st.size<=maxLen) :
  Calls Tryz.prog 20 #[q.val,ptr x.pw] w (Mpost base Y x w s q.val):=by
 obtain⟨W1,a9,Q,J,G,I⟩:=boxes_ct q w
 obtain⟨ac,m1⟩:=Me.start h G I Q J
 have M:=Lh m1
 have a6:=Lh a1
 have HZ:=Lh a3
 skip
 clear m1 Q J G I h a1 a3
 go_enter Tryz.func20,Tryz.ntmps20
 go_upto_region 1 with (fail)
 clear a9
 go_wp2_with fail
 have M:=Lh (M.out.later (Below.refl _ _).drew)
 have u:Hid (Vb W1.drew w.heap.size 12 q.cells):=Lh M.out.vb
 refine rgS 5 (fun w'=>Vb w' w.heap.size 12 q.cells) (by kernel_rfl) (by kernel_rfl) ?_
 intro a0
 have z:=Lh a0
 clear a0
 refine rq 1 z.out u.out rfl ?_
 refine rq 2 z.out u.out rfl ?_ (hv:=fun w' hw=>by (have kz:=hw.cell 1 _ rfl; go_simp; exact rfl))
 refine rO 0 rfl (by kernel_rfl) rfl ?_
 unfold Oper.wp
 go_simp
 refine (acts_ct _).mono ?_
 rintro e w2 ⟨m,rfl,⟨n,a2⟩,W⟩
 have M:=Lh (M.out.later W)
 refine⟨M.out.vb,?_⟩
 clear u
 have u:=Lh M.out.vb
 obtain⟨fv,ps,aa,F⟩:=a2.lookup lawS Tryz.underlying131 (zero_fn_ct w2) (show fnR .nilFunc=some (.lit (.int .u64 0),[]) from rfl) (WideMaps.keyOf_string_mk Tryz.underlying9 HZ.out)
 rw[a6.out] at F
 obtain rfl:=fnR_nil F
 clear a2 W F
 refine rO 3 rfl (by kernel_rfl) rfl ?_
 unfold Oper.wp
 go_simp
 refine⟨u.out,?_⟩
 clear aa
 refine rq 4 z.out u.out rfl ?_
 refine rgD (by kernel_rfl) ?_
 clear u
 have ad:=eq_fn_ct
 have ae:=eq_nil_ct
 go_wp2_with (first
  | (refine ldB rt_ct rfl _ rfl w.heap.size rfl q.cells M.out.vb ?_)
  | (refine stB rt_ct rfl _ _ rfl (w.heap.size+1) rfl q.cells rfl M.out.tr rfl (by kernel_rfl) ?_; intro w9 a4 a5; have a7:=Lh a4; have a8:=Lh a5; clear a4 a5))
 refine bodyPost_ret (v:=q.val) (res_b rt_ct _ _ (w.heap.size+1) _ Tryz.results20 rfl a7.out) rfl ?_
 exact⟨rfl,M.out.ret a8.out⟩
theorem ct_actL (w:World) {base:Nat} {z:Nat->Nat} {x:Wp} {s s':Ws} (q:Ct) (r:Option Addr->Nat->Nat->Ct) (h:Wv base z w x s) {S:List Int} (f:FuncId) (a1:actD_ct.atKey (.string q.st.data.toList) (.lit (.int .u64 0))=.lit (.int .u64 ((f:Nat)+1:Int))) (a3:q.st.size<=maxLen)
  (hK:∀ w,(callFunc f #[.agg q.cells.toArray,ptr x.pw]).run Tryz.prog w=.ok (.enter f #[.agg q.cells.toArray,ptr x.pw]) w)
  (hD:∀ (W:World) (z:Nat->Nat),Wv base z W x s->Calls Tryz.prog f #[.agg q.cells.toArray,ptr x.pw] W (Lpost base z x W s' S fun A n c=>(r A n c).val)) :
  Calls Tryz.prog 20 #[q.val,ptr x.pw] w (Lpost base z x w s' S fun A n c=>(r A n c).val):=by
 obtain⟨W1,aa,Y,Q,I,J⟩:=boxes_ct q w
 obtain⟨ad,m1⟩:=Me.start h I J Y Q
 have M:=Lh m1
 have a7:=Lh a1
 have HZ:=Lh a3
 have a6:=Lh hD
 clear hD
 clear m1 Y Q I J h a1 a3
 go_enter Tryz.func20,Tryz.ntmps20
 go_upto_region 1 with (fail)
 clear aa
 go_wp2_with fail
 have M:=Lh (M.out.later (Below.refl _ _).drew)
 have u:Hid (Vb W1.drew w.heap.size 12 q.cells):=Lh M.out.vb
 refine rgS 5 (fun w'=>Vb w' w.heap.size 12 q.cells) (by kernel_rfl) (by kernel_rfl) ?_
 intro a0
 have F:=Lh a0
 clear a0
 refine rq 1 F.out u.out rfl ?_
 refine rq 2 F.out u.out rfl ?_ (hv:=fun w' hw=>by (have kz:=hw.cell 1 _ rfl; go_simp; exact rfl))
 refine rO 0 rfl (by kernel_rfl) rfl ?_
 unfold Oper.wp
 go_simp
 refine (acts_ct _).mono ?_
 rintro e w2 ⟨m,rfl,⟨n,a2⟩,b2⟩
 have M:=Lh (M.out.later b2)
 refine⟨M.out.vb,?_⟩
 clear u
 have u:=Lh M.out.vb
 obtain⟨fv,ps,ac,G⟩:=a2.lookup lawS Tryz.underlying131 (zero_fn_ct w2) (show fnR .nilFunc=some (.lit (.int .u64 0),[]) from rfl) (WideMaps.keyOf_string_mk Tryz.underlying9 HZ.out)
 rw[a7.out] at G
 obtain rfl:=fnR_inv G
 clear a2 b2 G
 refine rO 3 rfl (by kernel_rfl) rfl ?_
 unfold Oper.wp
 go_simp
 refine⟨u.out,?_⟩
 clear ac
 refine rq 4 F.out u.out rfl ?_
 refine rgD (by kernel_rfl) ?_
 clear u
 have af:=eq_fn_ct
 have ag:=eq_nil_ct
 go_wp2_with (first
  | (refine ldB rt_ct rfl _ rfl w.heap.size rfl q.cells M.out.vb ?_))
 refine (a6.out _ _ M.out.wv).mono ?_
 rintro e w3 ⟨A,n,c,rfl,ae,h3,z3,l3,hL⟩
 have M:=Lh (M.out.call h3 z3 l3)
 have HL:=Lh hL
 clear h3 z3 l3 hL
 go_wp2_with (first
  | (refine stB rt_ct rfl _ _ rfl (w.heap.size+1) rfl (r A n c).cells rfl M.out.tr rfl (by kernel_rfl) ?_; intro w9 a4 a5; have a8:=Lh a4; have a9:=Lh a5; clear a4 a5))
 refine bodyPost_ret (v:=(r A n c).val) (res_b rt_ct _ _ (w.heap.size+1) _ Tryz.results20 rfl a8.out) rfl ?_
 exact⟨A,n,c,rfl,M.out.retL a9.out HL.out⟩
theorem cto_any (q:Ct) (t:ByteArray) (w:World) :
  Calls Tryz.prog 169 #[q.val,.string t] w (fun e w'=>e=.returned (q.to t).val/\Below w.heap.size w w'):=by
 obtain⟨W,Y,F,z,h,u⟩:=boxes_ct q w
 have M:=Lh (Mp.start h u F z)
 clear F z h u
 go_enter Tryz.func169,Tryz.ntmps169
 go_upto_region 1 with (fail)
 clear Y
 have z1:=M.out.vb.cell 1 _ rfl
 have f1:=M.out.free 1 (by decide)
 go_upto_region 2 with (fail)
 have M:=Lh (M.out.set 1 (by decide) (.string t))
 clear z1 f1
 generalize (W.setCell ⟨w.heap.size,1,none⟩ (.string t))=w2 at *
 go_wp2_with (first
  | (refine ldB rt_ct rfl _ rfl w.heap.size rfl (Ct.cells (q.to t)) M.out.vb ?_)
  | (refine stB rt_ct rfl _ _ rfl (w.heap.size+1) rfl (Ct.cells (q.to t)) rfl M.out.tr rfl (by kernel_rfl) ?_; intro a0 G I; have J:=Lh G; have Q:=Lh I; clear G I))
 refine bodyPost_ret (v:=(q.to t).val) (res_b rt_ct _ _ (w.heap.size+1) _ Tryz.results169 rfl J.out) rfl ?_
 exact⟨rfl,M.out.ret Q.out⟩
theorem cbegin_any (th:Int) (w:World):Calls Tryz.prog 19 #[.int .i64 th] w fun e w'=>e=.returned (Ct.val ⟨th,tStart,none,0,0,[],0,0,0,zg,0⟩)/\Below w.heap.size w w':=by
 obtain⟨Y,h,F,u,S1⟩:=box_b 82 [.int .i64 0,.string ⟨#[]⟩,.slice none 0 0,.int .i64 0,.int .u64 0,.int .u64 0,.int .i64 0,.int .i64 0,.int .u64 0,.int .u64 0,.string ⟨#[]⟩,.int .i64 0] w rfl
 have h:w.alloc (.cells #[.int .i64 0,.string ⟨#[]⟩,.slice none 0 0,.int .i64 0,.int .u64 0,.int .u64 0,.int .i64 0,.int .i64 0,.int .u64 0,.int .u64 0,.string ⟨#[]⟩,.int .i64 0] 82)=Y:=h
 have J:=Lh F.th
 have z:=Lh u
 clear F u
 go_enter Tryz.func19,Tryz.ntmps19
 go_upto_region 1 with (fail)
 clear h
 go_wp2_with (first
  | (refine stB rt_ct rfl _ _ rfl w.heap.size rfl (Ct.cells ⟨th,tStart,none,0,0,[],0,0,0,zg,0⟩) rfl J.out rfl (by kernel_rfl) ?_; intro w9 G I; have Q:=Lh G; have W:=Lh I; clear G I))
 exact bodyPost_ret (v:=(Ct.val ⟨th,tStart,none,0,0,[],0,0,0,zg,0⟩)) (res_b rt_ct _ _ w.heap.size _ Tryz.results19 rfl Q.out) rfl ⟨rfl,z.out.trans (W.out.below z.out.size (fun k hk=>by omega))⟩
theorem cdone_any (q:Ct) (w:World):Calls Tryz.prog 24 #[q.val] w fun e w'=>e=.returned (.bool (q.st.toList == [100,111,110,101]))/\Below w.heap.size w w':=by
 obtain⟨J,G,u,h,I⟩:=box_ct q w
 have z:=u.cell 1 _ rfl
 have F:=Lh h
 clear u h
 go_enter Tryz.func24,Tryz.ntmps24
 go_upto_region 1 with (fail)
 clear G
 go_wp2_with fail
 go_ret
 exact⟨rfl,F.out⟩
theorem cerr_any (q:Ct) (w:World):Calls Tryz.prog 25 #[q.val] w fun e w'=>e=.returned (.int .i64 q.err)/\Below w.heap.size w w':=by
 obtain⟨J,G,u,h,I⟩:=box_ct q w
 have z:=u.cell 11 _ rfl
 have F:=Lh h
 clear u h
 go_enter Tryz.func25,Tryz.ntmps25
 go_upto_region 1 with (fail)
 clear G
 go_wp2_with fail
 go_ret
 exact⟨rfl,F.out⟩
theorem clook_any (w:World) {base:Nat} {a0:Nat->Nat} (q:Ct) (p:Int) (hL:Lr base a0 w q.A q.n q.c q.S) :
  Calls Tryz.prog 170 #[q.val,.int .i64 p] w (fun e w'=>e=.returned (lookC q p).val/\Below w.heap.size w w'):=by
 have HL:=Lh hL
 clear hL
 obtain⟨r,z⟩:∃ r,lookC q p=r:=⟨_,rfl⟩
 have HR:=Lh z
 rw[z]
 clear z
 obtain⟨u,a1⟩:∃ u,atI q.S p=u:=⟨_,rfl⟩
 have Y:=Lh a1
 clear a1
 obtain⟨bk,a2⟩:∃ bk,atB q.S p=bk:=⟨_,rfl⟩
 have I:=Lh a2
 clear a2
 have HC:Hid (∀ w',Lr base a0 w' q.A q.n q.c q.S->Calls Tryz.prog 192 #[.agg #[.slice q.A q.n q.c],.int .i64 p] w' fun e a4=>e=.returned (.tuple #[.int .u64 u,.bool bk])/\Below w'.heap.size w' a4):=Lh (fun w' h=>by have e:=sat_any w' h p; rw[Y.out,I.out] at e; exact e)
 obtain⟨W1,a3,V1,T1,W,S1⟩:=boxes_ct q w
 have M:=Lh (Mp.start W S1 V1 T1)
 clear V1 T1 W S1
 go_enter Tryz.func170,Tryz.ntmps170
 go_upto_region 1 with (fail)
 clear a3
 have z3:=M.out.vb.cell 3 _ rfl
 have f3:=M.out.free 3 (by decide)
 go_upto_region 2 with (fail)
 have M:=Lh (M.out.set 3 (by decide) (.int .i64 p))
 clear z3 f3
 generalize (W1.setCell ⟨w.heap.size,3,none⟩ (.int .i64 p))=w2 at *
 have z2:=M.out.vb.cell 2 _ rfl
 go_wp2_with (first
  | (refine ldB rt_ct rfl _ rfl w.heap.size rfl (Ct.cells { q with place:=p }) M.out.vb ?_))
 refine (HC.out _ (HL.out.later M.out.bl)).mono ?_
 rintro e w3 ⟨rfl,b3⟩
 have M:=Lh (M.out.later b3)
 clear b3
 clear z2
 have z2:=M.out.vb.cell 2 _ rfl
 clear z2
 cases bk with
 | false=>
  have z:r = { q with place:=p,st:=tDone }:=by rw[<- HR.out]; unfold lookC; rw[I.out]; rfl
  subst z
  go_wp2_with (first
   | (refine ldB rt_ct rfl _ rfl w.heap.size rfl (Ct.cells { q with place:=p }) M.out.vb ?_))
  refine (cto_any { q with place:=p } tDone _).mono ?_
  rintro e w4 ⟨rfl,b4⟩
  have M:=Lh (M.out.later b4)
  clear b4
  go_wp2_with (first
   | (refine ldB rt_ct rfl _ rfl w.heap.size rfl (Ct.cells { q with place:=p }) M.out.vb ?_)
   | (refine stB rt_ct rfl _ _ rfl (w.heap.size+1) rfl (Ct.cells { q with place:=p,st:=tDone }) rfl M.out.tr rfl (by kernel_rfl) ?_; intro a5 F G; have J:=Lh F; have Q:=Lh G; clear F G))
  refine bodyPost_ret (v:=Ct.val { q with place:=p,st:=tDone }) (res_b rt_ct _ _ (w.heap.size+1) _ Tryz.results170 rfl J.out) rfl ?_
  exact⟨rfl,M.out.ret Q.out⟩
 | true=>
  have z:r = { q with place:=p,id:=u,st:=tLoad }:=by rw[<- HR.out]; unfold lookC; rw[I.out,Y.out]; rfl
  subst z
  have z4:=M.out.vb.cell 4 _ rfl
  have f4:=M.out.free 4 (by decide)
  go_upto_region 6 with (fail)
  have M:=Lh (M.out.set 4 (by decide) (.int .u64 u))
  clear z4 f4
  generalize (w3.setCell ⟨w.heap.size,4,none⟩ (.int .u64 u))=w4 at *
  go_wp2_with (first
   | (refine ldB rt_ct rfl _ rfl w.heap.size rfl (Ct.cells { q with place:=p,id:=u }) M.out.vb ?_))
  refine (cto_any { q with place:=p,id:=u } tLoad _).mono ?_
  rintro e w5 ⟨rfl,b5⟩
  have M:=Lh (M.out.later b5)
  clear b5
  go_wp2_with (first
   | (refine ldB rt_ct rfl _ rfl w.heap.size rfl (Ct.cells { q with place:=p,id:=u }) M.out.vb ?_)
   | (refine stB rt_ct rfl _ _ rfl (w.heap.size+1) rfl (Ct.cells { q with place:=p,id:=u,st:=tLoad }) rfl M.out.tr rfl (by kernel_rfl) ?_; intro a5 F G; have J:=Lh F; have Q:=Lh G; clear F G))
  refine bodyPost_ret (v:=Ct.val { q with place:=p,id:=u,st:=tLoad }) (res_b rt_ct _ _ (w.heap.size+1) _ Tryz.results170 rfl J.out) rfl ?_
  exact⟨rfl,M.out.ret Q.out⟩
theorem cnext_any (w:World) {base:Nat} {a1:Nat->Nat} (q:Ct) (I:Lr base a1 w q.A q.n q.c q.S) :
  Calls Tryz.prog 171 #[q.val] w (fun e w'=>e=.returned (nextC q).val/\Below w.heap.size w w'):=by
 have W:=Lh I
 clear I
 obtain⟨W1,a2,F,z,h,u⟩:=boxes_ct q w
 have M:=Lh (Mp.start h u F z)
 clear F z h u
 go_enter Tryz.func171,Tryz.ntmps171
 go_upto_region 1 with (fail)
 clear a2
 have z3:=M.out.vb.cell 3 _ rfl
 go_wp2_with (first
  | (refine ldB rt_ct rfl _ rfl w.heap.size rfl (q.cells) M.out.vb ?_))
 refine (clook_any _ q (wrap64 (q.place+1)) (W.out.later M.out.bl)).mono ?_
 rintro e w2 ⟨rfl,G⟩
 have M:=Lh (M.out.later G)
 clear G
 go_wp2_with (first
  | (refine ldB rt_ct rfl _ rfl w.heap.size rfl (q.cells) M.out.vb ?_)
  | (refine stB rt_ct rfl _ _ rfl (w.heap.size+1) rfl (Ct.cells (nextC q)) rfl M.out.tr rfl (by kernel_rfl) ?_; intro a3 J Q; have Y:=Lh J; have a0:=Lh Q; clear J Q))
 refine bodyPost_ret (v:=(nextC q).val) (res_b rt_ct _ _ (w.heap.size+1) _ Tryz.results171 rfl Y.out) rfl ?_
 exact⟨rfl,M.out.ret a0.out⟩
theorem csnap_any (w:World) {base:Nat} {Y:Nat->Nat} {x:Wp} (m:Mc) (h:Wv base Y w x m.s) :
  Calls Tryz.prog 107 #[m.q.val,ptr x.pw] w (Lpost base Y x w m.s m.s.S fun A n c=>(snapC m A n c).q.val):=by
 obtain⟨W1,a5,Q,J,F,I⟩:=boxes_ct m.q w
 obtain⟨a6,m1⟩:=Me.start h F I Q J
 have M:=Lh m1
 clear m1 h
 clear Q J F I
 go_enter Tryz.func107,Tryz.ntmps107
 go_upto_region 1 with (fail)
 clear a5
 have c8:=M.out.wv.cells.c8
 go_wp2_with (first
  | (refine ldB rt_ct rfl _ rfl w.heap.size rfl (m.q.cells) M.out.vb ?_))
 refine (wlist_any M.out.wv).mono ?_
 rintro e w2 ⟨A,n,c,rfl,a0,W⟩
 have u:=Lh a0
 have M:=Lh (M.out.later W)
 clear W a0
 clear c8
 have z2:=M.out.vb.cell 2 _ rfl
 have f2:=M.out.free 2 (by decide)
 go_upto_region 2 with (fail)
 have G:=Lh M.out
 have u:=Lh (u.out.fz (Fz.of_set (C:=fun k=>k=w.heap.size) (a:=⟨w.heap.size,2,none⟩) (.slice A n c) rfl) (fun g e=>G.out.kcol e))
 clear G
 have M:=Lh (M.out.set 2 (by decide) (.slice A n c))
 clear z2 f2
 generalize (w2.setCell ⟨w.heap.size,2,none⟩ (.slice A n c))=w3 at *
 go_wp2_with (first
  | (refine ldB rt_ct rfl _ rfl w.heap.size rfl (Ct.cells { m.q with A:=A,n:=n,c:=c }) M.out.vb ?_))
 refine (clook_any _ { m.q with A:=A,n:=n,c:=c,S:=m.s.S } 0 u.out).mono ?_
 rintro e w4 ⟨rfl,z⟩
 have M:=Lh (M.out.later z)
 have u:=Lh (u.out.later z)
 clear z
 go_wp2_with (first
  | (refine ldB rt_ct rfl _ rfl w.heap.size rfl (Ct.cells { m.q with A:=A,n:=n,c:=c }) M.out.vb ?_)
  | (refine stB rt_ct rfl _ _ rfl (w.heap.size+1) rfl (Ct.cells (lookC { m.q with A:=A,n:=n,c:=c,S:=m.s.S } 0)) rfl M.out.tr rfl (by kernel_rfl) ?_; intro a7 a1 a2; have a3:=Lh a1; have a4:=Lh a2; clear a1 a2))
 refine bodyPost_ret (v:=(lookC { m.q with A:=A,n:=n,c:=c,S:=m.s.S } 0).val) (res_b rt_ct _ _ (w.heap.size+1) _ Tryz.results107 rfl a3.out) rfl ?_
 exact⟨A,n,c,rfl,M.out.retL a4.out u.out⟩
theorem crec_any (w:World) {base:Nat} {W:Nat->Nat} {x:Wp} (m:Mc) (h:Wv base W w x m.s) (e:Int) (a7:m.s.ev.length<=1000) :
  Calls Tryz.prog 168 #[m.q.val,ptr x.pw,.int .i64 e] w (Mpost base W x w (recC m e).s (recC m e).q.val):=by
 obtain⟨Q,a6,J,I,F,G⟩:=boxes_ct m.q w
 obtain⟨a9,m1⟩:=Me.start h F G J I
 have M:=Lh m1
 clear m1 h
 clear J I F G
 go_enter Tryz.func168,Tryz.ntmps168
 go_upto_region 1 with (fail)
 clear a6
 go_wp2_with fail
 have M:=Lh (M.out.later (Below.refl _ _).drew)
 have u:Hid (Vb Q.drew w.heap.size 12 (m.q.cells)/\Wc Q.drew x m.s):=Lh ⟨M.out.vb,M.out.wv.cells⟩
 refine rgS 7 (fun w'=>Vb w' w.heap.size 12 (m.q.cells)/\Wc w' x m.s) (by kernel_rfl) (by kernel_rfl) ?_
 intro a0
 have z:=Lh a0
 clear a0
 refine rq 0 z.out u.out rfl ?_
 refine rq 1 z.out u.out rfl ?_
 refine rq 2 z.out u.out rfl ?_
 go_simp
 refine rq 3 z.out u.out rfl ?_ (hv:=fun w' hw=>by (have c13:=hw.2.c13; go_simp; exact rfl))
 refine rq 4 z.out u.out rfl ?_
 refine rq 5 z.out u.out rfl ?_ (hv:=fun w' hw=>by (have z0:=hw.1.cell 0 _ rfl; go_simp; exact rfl))
 go_simp
 refine rq 6 z.out u.out rfl ?_
 refine rO 7 rfl (by kernel_rfl) rfl ?_
 unfold Oper.wp
 go_simp
 refine (wadd _ M.out.wv m.q.th 1 3 0 e a7).mono ?_
 rintro e w2 ⟨rfl,aa,Y,y2,l2⟩
 have M:=Lh (M.out.call Y y2 l2)
 clear Y y2 l2
 clear u
 refine rgD (by kernel_rfl) ?_
 have a8:=M.out.vb.cell 11 _ rfl
 have a5:=M.out.free 11 (by decide)
 go_upto_region 3 with (fail)
 have M:=Lh (M.out.set 11 (by decide) (.int .i64 e))
 clear a8 a5
 generalize (w2.setCell ⟨w.heap.size,11,none⟩ (.int .i64 e))=w3 at *
 go_wp2_with (first
  | (refine ldB rt_ct rfl _ rfl w.heap.size rfl (Ct.cells { m.q with err:=e }) M.out.vb ?_)
  | (refine stB rt_ct rfl _ _ rfl (w.heap.size+1) rfl (Ct.cells (recC m e).q) rfl M.out.tr rfl (by kernel_rfl) ?_; intro ac a1 a2; have a3:=Lh a1; have a4:=Lh a2; clear a1 a2))
 refine bodyPost_ret (v:=(recC m e).q.val) (res_b rt_ct _ _ (w.heap.size+1) _ Tryz.results168 rfl a3.out) rfl ?_
 exact⟨rfl,M.out.ret a4.out⟩
theorem cstart_any (w:World) {base:Nat} {a1:Nat->Nat} {x:Wp} (m:Mc) (h:Wv base a1 w x m.s) (a4:m.s.ev.length<=1000) :
  Calls Tryz.prog 106 #[m.q.val,ptr x.pw] w (Mpost base a1 x w (startC m).s (startC m).q.val):=by
 obtain⟨r,u⟩:∃ r,startC m=r:=⟨_,rfl⟩
 have HR:=Lh u
 rw[u]
 clear u
 obtain⟨cl,a3⟩:∃ cl,m.s.closed=cl:=⟨_,rfl⟩
 have G:=Lh a3
 clear a3
 obtain⟨Q,a8,V1,T1,Y,S1⟩:=boxes_ct m.q w
 obtain⟨aa,m1⟩:=Me.start h Y S1 V1 T1
 have M:=Lh m1
 clear m1 h
 clear V1 T1 Y S1
 go_enter Tryz.func106,Tryz.ntmps106
 go_upto_region 1 with (fail)
 clear a8
 cases cl with
 | false=>
  have u:r=(recC { m with s:={ m.s with closed:=true } } 0).to tSnap:=by rw[<- HR.out]; unfold startC; rw[G.out]; rfl
  subst u
  have c15:Q.cell? ⟨x.pw,15,none⟩=some (.bool false):=(M.out.wv.cells.c15).trans (congrArg (fun b=>some (Value.bool b)) G.out)
  have a7:=M.out.wv.cells.fz 15
  go_upto_region 4 with (fail)
  have W:=wset15 _ M.out.wv true
  have M:=Lh (M.out.call0 W.1 W.2)
  clear c15 a7 W
  generalize (Q.setCell ⟨x.pw,15,none⟩ (.bool true))=ae at *
  go_wp2_with (first
   | (refine ldB rt_ct rfl _ rfl w.heap.size rfl (m.q.cells) M.out.vb ?_))
  refine (crec_any _ { m with s:={ m.s with closed:=true } } M.out.wv 0 a4).mono ?_
  rintro e af ⟨rfl,ad,a2,a6,a5⟩
  have M:=Lh (M.out.call a2 a6 a5)
  clear a2 a6 a5
  go_wp2_with (first
   | (refine ldB rt_ct rfl _ rfl w.heap.size rfl (m.q.cells) M.out.vb ?_))
  refine (cto_any (recC { m with s:={ m.s with closed:=true } } 0).q tSnap _).mono ?_
  rintro e ag ⟨rfl,a0⟩
  have M:=Lh (M.out.later a0)
  clear a0
  go_wp2_with (first
   | (refine ldB rt_ct rfl _ rfl w.heap.size rfl (m.q.cells) M.out.vb ?_)
   | (refine stB rt_ct rfl _ _ rfl (w.heap.size+1) rfl (Ct.cells ((recC { m with s:={ m.s with closed:=true } } 0).q.to tSnap)) rfl M.out.tr rfl (by kernel_rfl) ?_; intro a9 z F; have I:=Lh z; have J:=Lh F; clear z F))
  refine bodyPost_ret (v:=((recC { m with s:={ m.s with closed:=true } } 0).q.to tSnap).val) (res_b rt_ct _ _ (w.heap.size+1) _ Tryz.results106 rfl I.out) rfl ?_
  exact⟨rfl,M.out.ret J.out⟩
 | true=>
  have u:r=(recC m 6).to tDone:=by rw[<- HR.out]; unfold startC; rw[G.out]; rfl
  subst u
  have c15:Q.cell? ⟨x.pw,15,none⟩=some (.bool true):=(M.out.wv.cells.c15).trans (congrArg (fun b=>some (Value.bool b)) G.out)
  go_wp2_with (first
   | (refine ldB rt_ct rfl _ rfl w.heap.size rfl (m.q.cells) M.out.vb ?_))
  refine (crec_any _ m M.out.wv 6 a4).mono ?_
  rintro e w2 ⟨rfl,ac,h2,y2,l2⟩
  have M:=Lh (M.out.call h2 y2 l2)
  clear h2 y2 l2
  go_wp2_with (first
   | (refine ldB rt_ct rfl _ rfl w.heap.size rfl (m.q.cells) M.out.vb ?_))
  refine (cto_any (recC m 6).q tDone _).mono ?_
  rintro e w3 ⟨rfl,b3⟩
  have M:=Lh (M.out.later b3)
  clear b3
  go_wp2_with (first
   | (refine ldB rt_ct rfl _ rfl w.heap.size rfl (m.q.cells) M.out.vb ?_)
   | (refine stB rt_ct rfl _ _ rfl (w.heap.size+1) rfl (Ct.cells ((recC m 6).q.to tDone)) rfl M.out.tr rfl (by kernel_rfl) ?_; intro a9 z F; have I:=Lh z; have J:=Lh F; clear z F))
  refine bodyPost_ret (v:=((recC m 6).q.to tDone).val) (res_b rt_ct _ _ (w.heap.size+1) _ Tryz.results106 rfl I.out) rfl ?_
  exact⟨rfl,M.out.ret J.out⟩
theorem cload_any (w:World) {base:Nat} {J:Nat->Nat} {x:Wp} (m:Mc) (h:Wv base J w x m.s) (hid:U64 m.q.id) (hL:Lr base J w m.q.A m.q.n m.q.c m.q.S) :
  Calls Tryz.prog 108 #[m.q.val,ptr x.pw] w (Mpost base J x w (loadC m).s (loadC m).q.val):=by
 have HL:=Lh hL
 clear hL
 have Q:Hid (U64 (bW m.s.D m.q.id)):=Lh (bW_u64 w x.pb x.ab m.s.S h.bag m.q.id)
 obtain⟨r,z⟩:∃ r,loadC m=r:=⟨_,rfl⟩
 have HR:=Lh z
 rw[z]
 clear z
 obtain⟨wd,a6⟩:∃ wd,bW m.s.D m.q.id=wd:=⟨_,rfl⟩
 have a1:=Lh a6
 clear a6
 obtain⟨ok,a5⟩:∃ ok,(fnd m.s.D m.q.id).isSome=ok:=⟨_,rfl⟩
 have a2:=Lh a5
 clear a5
 rw[a1.out] at Q
 obtain⟨fr,a4⟩:∃ fr,(wd % 4 != 0)=fr:=⟨_,rfl⟩
 have a0:=Lh a4
 clear a4
 have HC:Hid (∀ w (J:Nat->Nat),Wv base J w x m.s->Calls Tryz.prog 13 #[ptr x.pb,.int .u64 m.q.id] w fun e w'=>e=.returned (.tuple #[.int .u64 wd,.bool ok])/\w=w'):=Lh (fun w J h=>by have e:=load_any w x.pb x.ab m.s.D m.s.S m.q.id h.bag hid; rw[a1.out,a2.out] at e; exact e)
 obtain⟨W1,a8,V1,T1,B1,S1⟩:=boxes_ct m.q w
 obtain⟨a9,m1⟩:=Me.start h B1 S1 V1 T1
 have M:=Lh m1
 clear m1 h
 clear V1 T1 B1 S1
 go_enter Tryz.func108,Tryz.ntmps108
 go_upto_region 1 with (fail)
 clear a8
 go_wp2_with fail
 have M:=Lh (M.out.later (Below.refl _ _).drew)
 have I:Hid (Vb W1.drew w.heap.size 12 (m.q.cells)/\Wc W1.drew x m.s):=Lh ⟨M.out.vb,M.out.wv.cells⟩
 refine rgS 6 (fun w'=>Vb w' w.heap.size 12 (m.q.cells)/\Wc w' x m.s) (by kernel_rfl) (by kernel_rfl) ?_
 intro a3
 have u:=Lh a3
 clear a3
 refine rq 0 u.out I.out rfl ?_
 refine rq 1 u.out I.out rfl ?_
 refine rq 2 u.out I.out rfl ?_
 go_simp
 refine rq 3 u.out I.out rfl ?_ (hv:=fun w' hw=>by (have c8:=hw.2.c8; go_simp; exact rfl))
 refine rq 4 u.out I.out rfl ?_
 refine rq 5 u.out I.out rfl ?_ (hv:=fun w' hw=>by (have z4:=hw.1.cell 4 _ rfl; go_simp; exact rfl))
 go_simp
 refine rO 6 rfl (by kernel_rfl) rfl ?_
 unfold Oper.wp
 go_simp
 refine (HC.out _ _ M.out.wv).mono ?_
 rintro e w2 ⟨rfl,rfl⟩
 clear I
 refine rgP 7 u.out rfl (by kernel_rfl) (fun _ _ _ _ h=>h) (fun h=>absurd h (by decide)) rfl ?_
 apply Exists.intro
 refine⟨fun w'=>by (go_simp; exact rfl),?_⟩
 refine rgP 8 u.out rfl (by kernel_rfl) (fun _ _ _ _ h=>h) (fun h=>absurd h (by decide)) rfl ?_
 apply Exists.intro
 refine⟨fun w'=>by (go_simp; exact rfl),?_⟩
 refine rgP 9 u.out rfl (by kernel_rfl) (fun _ _ _ _ h=>h) (fun h=>absurd h (by decide)) rfl ?_
 apply Exists.intro
 refine⟨fun w'=>by (go_simp; exact rfl),?_⟩
 refine rgP 10 u.out rfl (by kernel_rfl) (fun _ _ _ _ h=>h) (fun h=>absurd h (by decide)) rfl ?_
 apply Exists.intro
 refine⟨fun w'=>by (go_simp; exact rfl),?_⟩
 refine rgP 11 u.out rfl (by kernel_rfl) (fun _ _ _ _ h=>h) (fun h=>absurd h (by decide)) rfl ?_
 apply Exists.intro
 refine⟨fun w'=>by (go_simp; exact rfl),?_⟩
 refine rgD (by kernel_rfl) ?_
 generalize W1.drew=w3 at *
 cases ok with
 | false=>
  have z:r = { m with q:=nextC m.q }:=by rw[<- HR.out]; unfold loadC; rw[a2.out]; exact if_neg (fun e=>absurd e.1 (by decide))
  subst z
  go_wp2_with (first
   | (refine ldB rt_ct rfl _ rfl w.heap.size rfl (m.q.cells) M.out.vb ?_))
  refine (cnext_any _ m.q (HL.out.fw M.out.fw M.out.el)).mono ?_
  rintro e w4 ⟨rfl,b4⟩
  have M:=Lh (M.out.later b4)
  clear b4
  go_wp2_with (first
   | (refine ldB rt_ct rfl _ rfl w.heap.size rfl (m.q.cells) M.out.vb ?_)
   | (refine stB rt_ct rfl _ _ rfl (w.heap.size+1) rfl (Ct.cells (nextC m.q)) rfl M.out.tr rfl (by kernel_rfl) ?_; intro a7 F G; have W:=Lh F; have Y:=Lh G; clear F G))
  refine bodyPost_ret (v:=(nextC m.q).val) (res_b rt_ct _ _ (w.heap.size+1) _ Tryz.results108 rfl W.out) rfl ?_
  exact⟨rfl,M.out.ret Y.out⟩
 | true=>
  cases fr with
  | false=>
   have z:r = { m with q:={ m.q with word:=wd,st:=tSwap } }:=by rw[<- HR.out]; unfold loadC; rw[a1.out]; exact if_pos ⟨a2.out,by have h9:=a0.out; simpa using h9⟩
   subst z
   go_wp2_with (first
    | (refine ldB rt_ct rfl _ rfl w.heap.size rfl (m.q.cells) M.out.vb ?_))
   refine (Wd.state_any wd _ Q.out.1 Q.out.2).mono ?_
   rintro e w5 ⟨rfl,rfl⟩
   have hq:(wd % 4 != 0)=false:=a0.out
   have z5:=M.out.vb.cell 5 _ rfl
   have f5:=M.out.free 5 (by decide)
   go_upto_region 5 with (fail)
   have M:=Lh (M.out.set 5 (by decide) (.int .u64 wd))
   clear z5 f5 hq
   generalize (w3.setCell ⟨w.heap.size,5,none⟩ (.int .u64 wd))=w4 at *
   go_wp2_with (first
    | (refine ldB rt_ct rfl _ rfl w.heap.size rfl (Ct.cells { m.q with word:=wd }) M.out.vb ?_))
   refine (cto_any { m.q with word:=wd } tSwap _).mono ?_
   rintro e w5 ⟨rfl,b5⟩
   have M:=Lh (M.out.later b5)
   clear b5
   go_wp2_with (first
    | (refine ldB rt_ct rfl _ rfl w.heap.size rfl (Ct.cells { m.q with word:=wd }) M.out.vb ?_)
    | (refine stB rt_ct rfl _ _ rfl (w.heap.size+1) rfl (Ct.cells { m.q with word:=wd,st:=tSwap }) rfl M.out.tr rfl (by kernel_rfl) ?_; intro a7 F G; have W:=Lh F; have Y:=Lh G; clear F G))
   refine bodyPost_ret (v:=Ct.val { m.q with word:=wd,st:=tSwap }) (res_b rt_ct _ _ (w.heap.size+1) _ Tryz.results108 rfl W.out) rfl ?_
   exact⟨rfl,M.out.ret Y.out⟩
  | true=>
   have z:r = { m with q:=nextC m.q }:=by rw[<- HR.out]; unfold loadC; rw[a1.out]; exact if_neg (fun e=>by have h9:=a0.out; rw[e.2] at h9; exact absurd h9 (by decide))
   subst z
   go_wp2_with (first
    | (refine ldB rt_ct rfl _ rfl w.heap.size rfl (m.q.cells) M.out.vb ?_))
   refine (Wd.state_any wd _ Q.out.1 Q.out.2).mono ?_
   rintro e w5 ⟨rfl,rfl⟩
   have hq:(wd % 4 != 0)=true:=a0.out
   go_wp2_with (first
    | (refine ldB rt_ct rfl _ rfl w.heap.size rfl (m.q.cells) M.out.vb ?_))
   refine (cnext_any _ m.q (HL.out.fw M.out.fw M.out.el)).mono ?_
   rintro e w4 ⟨rfl,b4⟩
   have M:=Lh (M.out.later b4)
   clear b4
   go_wp2_with (first
    | (refine ldB rt_ct rfl _ rfl w.heap.size rfl (m.q.cells) M.out.vb ?_)
    | (refine stB rt_ct rfl _ _ rfl (w.heap.size+1) rfl (Ct.cells (nextC m.q)) rfl M.out.tr rfl (by kernel_rfl) ?_; intro a7 F G; have W:=Lh F; have Y:=Lh G; clear F G))
   refine bodyPost_ret (v:=(nextC m.q).val) (res_b rt_ct _ _ (w.heap.size+1) _ Tryz.results108 rfl W.out) rfl ?_
   exact⟨rfl,M.out.ret Y.out⟩
theorem cswap_any (w:World) {base:Nat} {G:Nat->Nat} {x:Wp} (m:Mc) (h:Wv base G w x m.s) (hid:U64 m.q.id) (a8:U64 m.q.word) (a7:U64 m.s.now) :
  Calls Tryz.prog 109 #[m.q.val,ptr x.pw] w (Mpost base G x w (swapC m).s (swapC m).q.val):=by
 obtain⟨r,I⟩:∃ r,swapC m=r:=⟨_,rfl⟩
 have HR:=Lh I
 rw[I]
 clear I
 obtain⟨u,a5⟩:∃ u,bV m.s.D m.q.id m.q.word 2=u:=⟨_,rfl⟩
 have a1:=Lh a5
 clear a5
 obtain⟨bk,a4⟩:∃ bk,bK m.s.D m.q.id m.q.word 2=bk:=⟨_,rfl⟩
 have W:=Lh a4
 clear a4
 have HC:Hid (∀ w (G:Nat->Nat),Wv base G w x m.s->Calls Tryz.prog 83 #[ptr x.pb,.int .u64 m.q.id,.int .u64 m.q.word,.int .i64 2,.int .u64 m.s.now] w fun e w'=>e=.returned (.tuple #[.int .u64 u,.bool bk]) /\ ∃ col',Wv base col' w' x { m.s with D:=up m.s.D m.q.id (exS m.q.word 2 m.s.now) } /\ Fw G w w'/\El w G col'):=Lh (fun w G h=>by have e:=wswap w h m.q.id m.q.word 2 m.s.now hid a8 a7; rw[a1.out,W.out] at e; exact e)
 obtain⟨W1,a6,V1,T1,B1,S1⟩:=boxes_ct m.q w
 obtain⟨aa,m1⟩:=Me.start h B1 S1 V1 T1
 have M:=Lh m1
 clear m1 h
 clear V1 T1 B1 S1
 go_enter Tryz.func109,Tryz.ntmps109
 go_upto_region 1 with (fail)
 clear a6
 go_wp2_with fail
 have M:=Lh (M.out.later (Below.refl _ _).drew)
 have z:Hid (Vb W1.drew w.heap.size 12 (m.q.cells)/\Wc W1.drew x m.s):=Lh ⟨M.out.vb,M.out.wv.cells⟩
 refine rgS 10 (fun w'=>Vb w' w.heap.size 12 (m.q.cells)/\Wc w' x m.s) (by kernel_rfl) (by kernel_rfl) ?_
 intro a3
 have F:=Lh a3
 clear a3
 refine rq 0 F.out z.out rfl ?_
 refine rq 1 F.out z.out rfl ?_
 refine rq 2 F.out z.out rfl ?_
 go_simp
 refine rq 3 F.out z.out rfl ?_ (hv:=fun w' hw=>by (have c8:=hw.2.c8; go_simp; exact rfl))
 refine rq 4 F.out z.out rfl ?_
 refine rq 5 F.out z.out rfl ?_ (hv:=fun w' hw=>by (have z4:=hw.1.cell 4 _ rfl; go_simp; exact rfl))
 go_simp
 refine rq 6 F.out z.out rfl ?_
 refine rq 7 F.out z.out rfl ?_ (hv:=fun w' hw=>by (have z5:=hw.1.cell 5 _ rfl; go_simp; exact rfl))
 refine rq 8 F.out z.out rfl ?_
 go_simp
 refine rO 9 rfl (by kernel_rfl) rfl ?_
 unfold Oper.wp
 go_simp
 refine (wnow_any _ z.out.2).mono ?_
 rintro e w2 ⟨rfl,b2⟩
 have M:=Lh (M.out.later b2)
 clear b2
 clear z
 have z:Hid (Vb w2 w.heap.size 12 (m.q.cells)/\Wc w2 x m.s):=Lh ⟨M.out.vb,M.out.wv.cells⟩
 refine⟨z.out,?_⟩
 refine rO 10 rfl (by kernel_rfl) rfl ?_
 unfold Oper.wp
 go_simp
 refine (HC.out _ _ M.out.wv).mono ?_
 rintro e w3 ⟨rfl,ac,h3,y3,l3⟩
 have M:=Lh (M.out.call h3 y3 l3)
 clear h3 y3 l3
 clear z
 refine rgP 11 F.out rfl (by kernel_rfl) (fun _ _ _ _ h=>h) (fun h=>absurd h (by decide)) rfl ?_
 apply Exists.intro
 refine⟨fun w'=>by (go_simp; exact rfl),?_⟩
 refine rgP 12 F.out rfl (by kernel_rfl) (fun _ _ _ _ h=>h) (fun h=>absurd h (by decide)) rfl ?_
 apply Exists.intro
 refine⟨fun w'=>by (go_simp; exact rfl),?_⟩
 refine rgP 13 F.out rfl (by kernel_rfl) (fun _ _ _ _ h=>h) (fun h=>absurd h (by decide)) rfl ?_
 apply Exists.intro
 refine⟨fun w'=>by (go_simp; exact rfl),?_⟩
 refine rgP 14 F.out rfl (by kernel_rfl) (fun _ _ _ _ h=>h) (fun h=>absurd h (by decide)) rfl ?_
 apply Exists.intro
 refine⟨fun w'=>by (go_simp; exact rfl),?_⟩
 refine rgP 15 F.out rfl (by kernel_rfl) (fun _ _ _ _ h=>h) (fun h=>absurd h (by decide)) rfl ?_
 apply Exists.intro
 refine⟨fun w'=>by (go_simp; exact rfl),?_⟩
 refine rgD (by kernel_rfl) ?_
 cases bk with
 | false=>
  have I:r = { m with q:=m.q.to tLoad,s:={ m.s with D:=up m.s.D m.q.id (exS m.q.word 2 m.s.now) } }:=by rw[<- HR.out]; unfold swapC; rw[W.out]; rfl
  subst I
  go_wp2_with (first
   | (refine ldB rt_ct rfl _ rfl w.heap.size rfl (m.q.cells) M.out.vb ?_))
  refine (cto_any m.q tLoad _).mono ?_
  rintro e w4 ⟨rfl,b4⟩
  have M:=Lh (M.out.later b4)
  clear b4
  go_wp2_with (first
   | (refine ldB rt_ct rfl _ rfl w.heap.size rfl (m.q.cells) M.out.vb ?_)
   | (refine stB rt_ct rfl _ _ rfl (w.heap.size+1) rfl (Ct.cells (m.q.to tLoad)) rfl M.out.tr rfl (by kernel_rfl) ?_; intro a9 J Q; have Y:=Lh J; have a0:=Lh Q; clear J Q))
  refine bodyPost_ret (v:=(m.q.to tLoad).val) (res_b rt_ct _ _ (w.heap.size+1) _ Tryz.results109 rfl Y.out) rfl ?_
  exact⟨rfl,M.out.ret a0.out⟩
 | true=>
  have I:r = { m with q:={ m.q with word:=u,g:=⟨m.q.th,3,m.q.id,u,sClose⟩,st:=tGive },s:={ m.s with D:=up m.s.D m.q.id (exS m.q.word 2 m.s.now) } }:=by rw[<- HR.out]; unfold swapC; rw[W.out,a1.out]; rfl
  subst I
  have z5:=M.out.vb.cell 5 _ rfl
  have f5:=M.out.free 5 (by decide)
  go_upto_region 5 with (fail)
  have M:=Lh (M.out.set 5 (by decide) (.int .u64 u))
  clear z5 f5
  generalize (w3.setCell ⟨w.heap.size,5,none⟩ (.int .u64 u))=w4 at *
  have z0:=M.out.vb.cell 0 _ rfl
  have z4:=M.out.vb.cell 4 _ rfl
  go_wp2_with fail
  refine (gclose_any m.q.th 3 m.q.id u _).mono ?_
  rintro e w5 ⟨rfl,b5⟩
  have M:=Lh (M.out.later b5)
  clear b5
  clear z0 z4
  go_upto_region 6 with (first
   | (refine store_s rt_give rfl _ _ rfl w.heap.size 6 rfl (Gv.cells ⟨m.q.th,3,m.q.id,u,sClose⟩) rfl (th_sub M.out.vb.th 6 5 (by decide)) rfl (by kernel_rfl) ?_; intro ad a2; have M:=Lh (M.out.sets (Gv.cells ⟨m.q.th,3,m.q.id,u,sClose⟩) 6 _ _ (by show 6+5<=12; decide)); rw[<- a2] at M; clear a2))
  go_wp2_with (first
   | (refine ldB rt_ct rfl _ rfl w.heap.size rfl (Ct.cells { m.q with word:=u,g:=⟨m.q.th,3,m.q.id,u,sClose⟩ }) M.out.vb ?_))
  refine (cto_any { m.q with word:=u,g:=⟨m.q.th,3,m.q.id,u,sClose⟩ } tGive _).mono ?_
  rintro e w6 ⟨rfl,b6⟩
  have M:=Lh (M.out.later b6)
  clear b6
  go_wp2_with (first
   | (refine ldB rt_ct rfl _ rfl w.heap.size rfl (Ct.cells { m.q with word:=u,g:=⟨m.q.th,3,m.q.id,u,sClose⟩ }) M.out.vb ?_)
   | (refine stB rt_ct rfl _ _ rfl (w.heap.size+1) rfl (Ct.cells { m.q with word:=u,g:=⟨m.q.th,3,m.q.id,u,sClose⟩,st:=tGive }) rfl M.out.tr rfl (by kernel_rfl) ?_; intro a9 J Q; have Y:=Lh J; have a0:=Lh Q; clear J Q))
  refine bodyPost_ret (v:=Ct.val { m.q with word:=u,g:=⟨m.q.th,3,m.q.id,u,sClose⟩,st:=tGive }) (res_b rt_ct _ _ (w.heap.size+1) _ Tryz.results109 rfl Y.out) rfl ?_
  exact⟨rfl,M.out.ret a0.out⟩
theorem cgive_any (w:World) {base:Nat} {z:Nat->Nat} {x:Wp} (m:Mc) (h:Wv base z w x m.s) (hg:Gon base x m.q.g m.s m.N) (hL:Lr base z w m.q.A m.q.n m.q.c m.q.S) :
  Calls Tryz.prog 110 #[m.q.val,ptr x.pw] w (Mpost base z x w (giveC m).s (giveC m).q.val):=by
 have HL:=Lh hL
 clear hL
 obtain⟨r,F⟩:∃ r,giveC m=r:=⟨_,rfl⟩
 have HR:=Lh F
 rw[F]
 clear F
 obtain⟨u,a3⟩:∃ u,stepG ⟨m.q.g,m.s,m.N⟩=u:=⟨_,rfl⟩
 have W:=Lh a3
 clear a3
 obtain⟨J,a2⟩:∃ J,dnB u.g=J:=⟨_,rfl⟩
 have Q:=Lh a2
 clear a2
 have HG:Hid (∀ w (z:Nat->Nat),Wv base z w x m.s->Calls Tryz.prog 124 #[.agg (Gv.cells m.q.g).toArray,ptr x.pw] w fun e w'=>e=.returned (.agg (Gv.cells u.g).toArray) /\ ∃ col',Wv base col' w' x u.s/\Fw z w w'/\El w z col'):=Lh (fun w z h=>by have e:=hg w z h; rw[W.out] at e; exact e)
 have HD:Hid (∀ w,Calls Tryz.prog 123 #[.agg (Gv.cells u.g).toArray] w fun e w'=>e=.returned (.bool J)/\Below w.heap.size w w'):=Lh (fun w=>by have e:=gdn_any u.g w; rw[Q.out] at e; exact e)
 obtain⟨W1,a4,V1,T1,B1,S1⟩:=boxes_ct m.q w
 obtain⟨a6,m1⟩:=Me.start h B1 S1 V1 T1
 have M:=Lh m1
 clear m1 h
 clear V1 T1 B1 S1
 go_enter Tryz.func110,Tryz.ntmps110
 go_upto_region 1 with (fail)
 clear a4
 go_wp2_with (first
  | (refine load_s rt_give rfl _ rfl w.heap.size 6 rfl (Gv.cells m.q.g) (ra_sub M.out.vb.at_ 6 _ 5 rfl) rfl ?_))
 refine (HG.out _ _ M.out.wv).mono ?_
 rintro e w2 ⟨rfl,a7,h2,y2,l2⟩
 have M:=Lh (M.out.call h2 y2 l2)
 clear h2 y2 l2
 go_upto_region 2 with (first
  | (refine store_s rt_give rfl _ _ rfl w.heap.size 6 rfl (Gv.cells u.g) rfl (th_sub M.out.vb.th 6 5 (by decide)) rfl (by kernel_rfl) ?_; intro a8 a1; have M:=Lh (M.out.sets (Gv.cells u.g) 6 _ _ (by show 6+5<=12; decide)); rw[<- a1] at M; clear a1))
 go_wp2_with (first
  | (refine load_s rt_give rfl _ rfl w.heap.size 6 rfl (Gv.cells u.g) (ra_sub M.out.vb.at_ 6 _ 5 rfl) rfl ?_))
 refine (HD.out _).mono ?_
 rintro e w3 ⟨rfl,b3⟩
 have M:=Lh (M.out.later b3)
 clear b3
 cases J with
 | false=>
  have F:r = { q:={ m.q with g:=u.g },s:=u.s,N:=u.N }:=by rw[<- HR.out]; unfold giveC; rw[W.out,Q.out]; rfl
  subst F
  go_wp2_with (first
   | (refine ldB rt_ct rfl _ rfl w.heap.size rfl (Ct.cells { m.q with g:=u.g }) M.out.vb ?_)
   | (refine stB rt_ct rfl _ _ rfl (w.heap.size+1) rfl (Ct.cells { m.q with g:=u.g }) rfl M.out.tr rfl (by kernel_rfl) ?_; intro a5 G I; have Y:=Lh G; have a0:=Lh I; clear G I))
  refine bodyPost_ret (v:=Ct.val { m.q with g:=u.g }) (res_b rt_ct _ _ (w.heap.size+1) _ Tryz.results110 rfl Y.out) rfl ?_
  exact⟨rfl,M.out.ret a0.out⟩
 | true=>
  have F:r = { q:=nextC { m.q with g:=u.g },s:=u.s,N:=u.N }:=by rw[<- HR.out]; unfold giveC; rw[W.out,Q.out]; rfl
  subst F
  go_wp2_with (first
   | (refine ldB rt_ct rfl _ rfl w.heap.size rfl (Ct.cells { m.q with g:=u.g }) M.out.vb ?_))
  refine (cnext_any _ { m.q with g:=u.g } (HL.out.fw M.out.fw M.out.el)).mono ?_
  rintro e w4 ⟨rfl,b4⟩
  have M:=Lh (M.out.later b4)
  clear b4
  go_wp2_with (first
   | (refine ldB rt_ct rfl _ rfl w.heap.size rfl (Ct.cells { m.q with g:=u.g }) M.out.vb ?_)
   | (refine stB rt_ct rfl _ _ rfl (w.heap.size+1) rfl (Ct.cells (nextC { m.q with g:=u.g })) rfl M.out.tr rfl (by kernel_rfl) ?_; intro a5 G I; have Y:=Lh G; have a0:=Lh I; clear G I))
  refine bodyPost_ret (v:=(nextC { m.q with g:=u.g }).val) (res_b rt_ct _ _ (w.heap.size+1) _ Tryz.results110 rfl Y.out) rfl ?_
  exact⟨rfl,M.out.ret a0.out⟩
end Go.Proofs.YtoiklelghfckgaaGreatDoor.Wo
end
section
set_option maxRecDepth 100000
set_option linter.unusedVariables false
namespace Go.Proofs.YtoiklelghfckgaaGreatDoor.Wo
open Go Go.ChangeShapes Go.WideShapes Go.ChangeAt Go.RowKit Go.Deep Go.Maps Rw Hi Mt Ba
open Cn (Cf cfE)
theorem ht_actR (w:World) {base:Nat} {z:Nat->Nat} {x:Wp} {s s':Ws} (q r:Ht) (h:Wv base z w x s) (hL:Lr base z w q.A q.n q.c q.S) (f:FuncId) (a1:actD_ht.atKey (.string q.st.data.toList) (.lit (.int .u64 0))=.lit (.int .u64 ((f:Nat)+1:Int))) (a3:q.st.size<=maxLen)
  (hK:∀ w,(callFunc f #[.agg q.cells.toArray,ptr x.pw]).run Tryz.prog w=.ok (.enter f #[.agg q.cells.toArray,ptr x.pw]) w)
  (hD:∀ (W:World) (z:Nat->Nat),Wv base z W x s->Lr base z W q.A q.n q.c q.S->Calls Tryz.prog f #[.agg q.cells.toArray,ptr x.pw] W (Mpost base z x W s' r.val)) :
  Calls Tryz.prog 165 #[q.val,ptr x.pw] w (Mpost base z x w s' r.val):=by
 obtain⟨W1,ac,Y,Q,I,J⟩:=boxes_ht q w
 obtain⟨ae,m1⟩:=Me.start h I J Y Q
 have M:=Lh m1
 have a8:=Lh a1
 have a7:=Lh hL
 clear hL
 have HZ:=Lh a3
 have a6:=Lh hD
 clear hD
 clear m1 Y Q I J h a1 a3
 go_enter Tryz.func165,Tryz.ntmps165
 go_upto_region 1 with (fail)
 clear ac
 go_wp2_with fail
 have M:=Lh (M.out.later (Below.refl _ _).drew)
 have u:Hid (Vb W1.drew w.heap.size 12 q.cells):=Lh M.out.vb
 refine rgS 5 (fun w'=>Vb w' w.heap.size 12 q.cells) (by kernel_rfl) (by kernel_rfl) ?_
 intro a0
 have F:=Lh a0
 clear a0
 refine rq 1 F.out u.out rfl ?_
 refine rq 2 F.out u.out rfl ?_ (hv:=fun w' hw=>by (have kz:=hw.cell 1 _ rfl; go_simp; exact rfl))
 refine rO 0 rfl (by kernel_rfl) rfl ?_
 unfold Oper.wp
 go_simp
 refine (acts_ht _).mono ?_
 rintro e w2 ⟨m,rfl,⟨n,a2⟩,b2⟩
 have M:=Lh (M.out.later b2)
 refine⟨M.out.vb,?_⟩
 clear u
 have u:=Lh M.out.vb
 obtain⟨fv,ps,ad,G⟩:=a2.lookup lawS Tryz.underlying280 (zero_fn_ht w2) (show fnR .nilFunc=some (.lit (.int .u64 0),[]) from rfl) (WideMaps.keyOf_string_mk Tryz.underlying9 HZ.out)
 rw[a8.out] at G
 obtain rfl:=fnR_inv G
 clear a2 b2 G
 refine rO 3 rfl (by kernel_rfl) rfl ?_
 unfold Oper.wp
 go_simp
 refine⟨u.out,?_⟩
 clear ad
 refine rq 4 F.out u.out rfl ?_
 refine rgD (by kernel_rfl) ?_
 clear u
 have ag:=eq_fn_ht
 have ah:=eq_nil_ht
 go_wp2_with (first
  | (refine ldB rt_ht rfl _ rfl w.heap.size rfl q.cells M.out.vb ?_))
 refine (a6.out _ _ M.out.wv (a7.out.fw M.out.fw M.out.el)).mono ?_
 rintro e w3 ⟨rfl,af,h3,z3,l3⟩
 have M:=Lh (M.out.call h3 z3 l3)
 clear h3 z3 l3
 go_wp2_with (first
  | (refine stB rt_ht rfl _ _ rfl (w.heap.size+1) rfl r.cells rfl M.out.tr rfl (by kernel_rfl) ?_; intro w9 a4 a5; have a9:=Lh a4; have aa:=Lh a5; clear a4 a5))
 refine bodyPost_ret (v:=r.val) (res_b rt_ht _ _ (w.heap.size+1) _ Tryz.results165 rfl a9.out) rfl ?_
 exact⟨rfl,M.out.ret aa.out⟩
theorem ct_actR (w:World) {base:Nat} {z:Nat->Nat} {x:Wp} {s s':Ws} (q r:Ct) (h:Wv base z w x s) (hL:Lr base z w q.A q.n q.c q.S) (f:FuncId) (a1:actD_ct.atKey (.string q.st.data.toList) (.lit (.int .u64 0))=.lit (.int .u64 ((f:Nat)+1:Int))) (a3:q.st.size<=maxLen)
  (hK:∀ w,(callFunc f #[.agg q.cells.toArray,ptr x.pw]).run Tryz.prog w=.ok (.enter f #[.agg q.cells.toArray,ptr x.pw]) w)
  (hD:∀ (W:World) (z:Nat->Nat),Wv base z W x s->Lr base z W q.A q.n q.c q.S->Calls Tryz.prog f #[.agg q.cells.toArray,ptr x.pw] W (Mpost base z x W s' r.val)) :
  Calls Tryz.prog 20 #[q.val,ptr x.pw] w (Mpost base z x w s' r.val):=by
 obtain⟨W1,ac,Y,Q,I,J⟩:=boxes_ct q w
 obtain⟨ae,m1⟩:=Me.start h I J Y Q
 have M:=Lh m1
 have a8:=Lh a1
 have a7:=Lh hL
 clear hL
 have HZ:=Lh a3
 have a6:=Lh hD
 clear hD
 clear m1 Y Q I J h a1 a3
 go_enter Tryz.func20,Tryz.ntmps20
 go_upto_region 1 with (fail)
 clear ac
 go_wp2_with fail
 have M:=Lh (M.out.later (Below.refl _ _).drew)
 have u:Hid (Vb W1.drew w.heap.size 12 q.cells):=Lh M.out.vb
 refine rgS 5 (fun w'=>Vb w' w.heap.size 12 q.cells) (by kernel_rfl) (by kernel_rfl) ?_
 intro a0
 have F:=Lh a0
 clear a0
 refine rq 1 F.out u.out rfl ?_
 refine rq 2 F.out u.out rfl ?_ (hv:=fun w' hw=>by (have kz:=hw.cell 1 _ rfl; go_simp; exact rfl))
 refine rO 0 rfl (by kernel_rfl) rfl ?_
 unfold Oper.wp
 go_simp
 refine (acts_ct _).mono ?_
 rintro e w2 ⟨m,rfl,⟨n,a2⟩,b2⟩
 have M:=Lh (M.out.later b2)
 refine⟨M.out.vb,?_⟩
 clear u
 have u:=Lh M.out.vb
 obtain⟨fv,ps,ad,G⟩:=a2.lookup lawS Tryz.underlying131 (zero_fn_ct w2) (show fnR .nilFunc=some (.lit (.int .u64 0),[]) from rfl) (WideMaps.keyOf_string_mk Tryz.underlying9 HZ.out)
 rw[a8.out] at G
 obtain rfl:=fnR_inv G
 clear a2 b2 G
 refine rO 3 rfl (by kernel_rfl) rfl ?_
 unfold Oper.wp
 go_simp
 refine⟨u.out,?_⟩
 clear ad
 refine rq 4 F.out u.out rfl ?_
 refine rgD (by kernel_rfl) ?_
 clear u
 have ag:=eq_fn_ct
 have ah:=eq_nil_ct
 go_wp2_with (first
  | (refine ldB rt_ct rfl _ rfl w.heap.size rfl q.cells M.out.vb ?_))
 refine (a6.out _ _ M.out.wv (a7.out.fw M.out.fw M.out.el)).mono ?_
 rintro e w3 ⟨rfl,af,h3,z3,l3⟩
 have M:=Lh (M.out.call h3 z3 l3)
 clear h3 z3 l3
 go_wp2_with (first
  | (refine stB rt_ct rfl _ _ rfl (w.heap.size+1) rfl r.cells rfl M.out.tr rfl (by kernel_rfl) ?_; intro w9 a4 a5; have a9:=Lh a4; have aa:=Lh a5; clear a4 a5))
 refine bodyPost_ret (v:=r.val) (res_b rt_ct _ _ (w.heap.size+1) _ Tryz.results20 rfl a9.out) rfl ?_
 exact⟨rfl,M.out.ret aa.out⟩
end Go.Proofs.YtoiklelghfckgaaGreatDoor.Wo
end
section
set_option maxRecDepth 100000
set_option linter.unusedVariables false
namespace Go.Proofs.YtoiklelghfckgaaGreatDoor.Wo
open Go Go.ChangeShapes Go.WideShapes Go.ChangeAt Go.RowKit Go.Deep Go.Maps Rw Hi Mt Ba
open Cn (Cf cfE)
def stepC (m:Mc) (A:Option Addr) (n c:Nat):Mc:=
 if m.q.st=tStart then startC m else if m.q.st=tSnap then snapC m A n c else if m.q.st=tLoad then loadC m
 else if m.q.st=tSwap then swapC m else if m.q.st=tGive then giveC m else m
def seesC (st:ByteArray):Prop:=st=tLoad\/st=tSwap\/st=tGive
structure Ci (m:Mc) (k:Nat):Prop where
 mk_:m.s.M=Le.mk m.N
 nw:U64 m.s.now
 sl:m.s.sl.length<=900
 cl:m.s.C.length<=k
 el:m.s.ev.length<=k
 S:m.s.S.length<=900
 lv:0<=m.s.live/\m.s.live<=1000
 i:U64 m.q.id
 wd:U64 m.q.word
 st:m.q.st=tStart\/m.q.st=tSnap\/m.q.st=tLoad\/m.q.st=tSwap\/(m.q.st=tGive/\Gi ⟨m.q.g,m.s,m.N⟩ k)\/m.q.st=tDone
section
variable {m:Mc} {k:Nat}
theorem Ci.stepC_start (e:m.q.st=tStart) (A:Option Addr) (n c:Nat):stepC m A n c=startC m:=by unfold stepC; rw[if_pos e]
theorem Ci.stepC_snap (e:m.q.st=tSnap) (A:Option Addr) (n c:Nat):stepC m A n c=snapC m A n c:=by unfold stepC; rw[e,if_neg (by decide),if_pos rfl]
theorem Ci.stepC_load (e:m.q.st=tLoad) (A:Option Addr) (n c:Nat):stepC m A n c=loadC m:=by unfold stepC; rw[e,if_neg (by decide),if_neg (by decide),if_pos rfl]
theorem Ci.stepC_swap (e:m.q.st=tSwap) (A:Option Addr) (n c:Nat):stepC m A n c=swapC m:=by unfold stepC; rw[e,if_neg (by decide),if_neg (by decide),if_neg (by decide),if_pos rfl]
theorem Ci.stepC_give (e:m.q.st=tGive) (A:Option Addr) (n c:Nat):stepC m A n c=giveC m:=by unfold stepC; rw[e,if_neg (by decide),if_neg (by decide),if_neg (by decide),if_neg (by decide),if_pos rfl]
theorem Ci.stepC_done (e:m.q.st=tDone) (A:Option Addr) (n c:Nat):stepC m A n c=m:=by unfold stepC; rw[e,if_neg (by decide),if_neg (by decide),if_neg (by decide),if_neg (by decide),if_neg (by decide)]
theorem Ci.look (q:Ct) {s:Ws} {N:List Int} (G:s.M=Le.mk N) (hn:U64 s.now) (I:s.sl.length<=900) (u:s.C.length<=k) (z:s.ev.length<=k) (h:s.S.length<=900) (F:0<=s.live/\s.live<=1000) (hi:U64 q.id) (hw:U64 q.word) (J:Sn.U64s q.S) (p:Int):Ci ⟨lookC q p,s,N⟩ k:=by
 unfold lookC
 split
 .exact⟨G,hn,I,u,z,h,F,atI_u64 J p,hw,.inr (.inr (.inl rfl))⟩
 .exact⟨G,hn,I,u,z,h,F,hi,hw,.inr (.inr (.inr (.inr (.inr rfl))))⟩
theorem lookC_list (q:Ct) (p:Int):(lookC q p).A=q.A/\(lookC q p).n=q.n/\(lookC q p).c=q.c/\(lookC q p).S=q.S:=by
 unfold lookC
 split <;> exact⟨rfl,rfl,rfl,rfl⟩
end
abbrev Cpost (base:Nat) (col:Nat->Nat) (x:Wp) (w:World) (m:Mc) (k:Nat) (e:Ending) (w':World):Prop:=
 ∃ A n c,e=.returned (stepC m A n c).q.val/\(∃ col',Wv base col' w' x (stepC m A n c).s/\Fw col w w'/\El w col col'/\(seesC (stepC m A n c).q.st->Lr base col' w' (stepC m A n c).q.A (stepC m A n c).q.n (stepC m A n c).q.c (stepC m A n c).q.S))/\Ci (stepC m A n c) (k+1)
theorem close_step (w:World) {base:Nat} {a1:Nat->Nat} {x:Wp} {m:Mc} {k:Nat} (h:Wv base a1 w x m.s) (hi:Ci m k) (hk:k<=900) (hL:seesC m.q.st->Lr base a1 w m.q.A m.q.n m.q.c m.q.S) :
  Calls Tryz.prog 20 #[m.q.val,ptr x.pw] w (Cpost base a1 x w m k):=by
 have a3:=hi.cl
 have a4:=hi.el
 rcases hi.st with e | e | e | e | ⟨e,hg⟩ | e
 .have es:=Ci.stepC_start e none 0 0
  refine (ct_act w _ (startC m).q h 106 (by rw[e]; kernel_rfl) (by rw[e]; decide) (enters_of Tryz.func106 (by kernel_rfl) rfl _) (fun W a0 u=>cstart_any W m u (by omega))).mono ?_
  rintro e' w' ⟨rfl,col',I,u,F⟩
  refine⟨none,0,0,by rw[es],?_,?_⟩
  .rw[es]
   refine⟨col',I,u,F,fun Y=>?_⟩
   exfalso
   have:(startC m).q.st=tDone\/(startC m).q.st=tSnap:=by
    unfold startC; split
    .exact .inl rfl
    .exact .inr rfl
   unfold seesC at Y
   rcases this with e1 | e1 <;> rw[e1] at Y <;> exact absurd Y (by decide)
  .rw[es]
   unfold startC recC ptS
   split
   .exact⟨hi.mk_,hi.nw,hi.sl,by show m.s.C.length<=k+1; omega,by show (m.s.ev ++ [_]).length<=k+1; rw[List.length_append]; simp; omega,hi.S,hi.lv,hi.i,hi.wd,.inr (.inr (.inr (.inr (.inr rfl))))⟩
   .exact⟨hi.mk_,hi.nw,hi.sl,by show m.s.C.length<=k+1; omega,by show (m.s.ev ++ [_]).length<=k+1; rw[List.length_append]; simp; omega,hi.S,hi.lv,hi.i,hi.wd,.inr (.inl rfl)⟩
 .refine (ct_actL w _ (fun A n c=>(snapC m A n c).q) h 107 (by rw[e]; kernel_rfl) (by rw[e]; decide) (enters_of Tryz.func107 (by kernel_rfl) rfl _) (fun W a0 u=>csnap_any W m u)).mono ?_
  rintro e' w' ⟨A,n,c,rfl,col',I,u,F,h4⟩
  have es:=Ci.stepC_snap e A n c
  have z:=lookC_list { m.q with A:=A,n:=n,c:=c,S:=m.s.S } 0
  refine⟨A,n,c,by rw[es],?_,?_⟩
  .rw[es]
   refine⟨col',I,u,F,fun _=>?_⟩
   unfold snapC
   show Lr base col' w' (lookC { m.q with A:=A,n:=n,c:=c,S:=m.s.S } 0).A (lookC { m.q with A:=A,n:=n,c:=c,S:=m.s.S } 0).n (lookC { m.q with A:=A,n:=n,c:=c,S:=m.s.S } 0).c (lookC { m.q with A:=A,n:=n,c:=c,S:=m.s.S } 0).S
   rw[z.1,z.2.1,z.2.2.1,z.2.2.2]
   exact h4
  .rw[es]
   unfold snapC
   exact Ci.look { m.q with A:=A,n:=n,c:=c,S:=m.s.S } hi.mk_ hi.nw hi.sl (by omega) (by omega) hi.S hi.lv hi.i hi.wd h4.us 0
 .have es:=Ci.stepC_load e none 0 0
  have J:=hL (.inl e)
  have hW:=bW_u64 w x.pb x.ab m.s.S h.bag m.q.id
  refine (ct_actR w _ (loadC m).q h J 108 (by rw[e]; kernel_rfl) (by rw[e]; decide) (enters_of Tryz.func108 (by kernel_rfl) rfl _) (fun W a0 u z=>cload_any W m u hi.i z)).mono ?_
  rintro e' w' ⟨rfl,col',I,u,F⟩
  have Q:=J.fw u F
  have z:=lookC_list m.q (wrap64 (m.q.place+1))
  refine⟨none,0,0,by rw[es],?_,?_⟩
  .rw[es]
   refine⟨col',I,u,F,fun _=>?_⟩
   unfold loadC
   split
   .exact Q
   .show Lr base col' w' (lookC m.q (wrap64 (m.q.place+1))).A (lookC m.q (wrap64 (m.q.place+1))).n (lookC m.q (wrap64 (m.q.place+1))).c (lookC m.q (wrap64 (m.q.place+1))).S
    rw[z.1,z.2.1,z.2.2.1,z.2.2.2]
    exact Q
  .rw[es]
   unfold loadC
   split
   .exact⟨hi.mk_,hi.nw,hi.sl,by show m.s.C.length<=k+1; omega,by show m.s.ev.length<=k+1; omega,hi.S,hi.lv,hi.i,hW,.inr (.inr (.inr (.inl rfl)))⟩
   .exact Ci.look _ hi.mk_ hi.nw hi.sl (by omega) (by omega) hi.S hi.lv hi.i hi.wd J.us _
 .have es:=Ci.stepC_swap e none 0 0
  have J:=hL (.inr (.inl e))
  refine (ct_act w _ (swapC m).q h 109 (by rw[e]; kernel_rfl) (by rw[e]; decide) (enters_of Tryz.func109 (by kernel_rfl) rfl _) (fun W a0 u=>cswap_any W m u hi.i hi.wd hi.nw)).mono ?_
  rintro e' w' ⟨rfl,col',I,u,F⟩
  have Q:=J.fw u F
  refine⟨none,0,0,by rw[es],?_,?_⟩
  .rw[es]
   refine⟨col',I,u,F,fun _=>?_⟩
   unfold swapC
   split <;> exact Q
  .rw[es]
   unfold swapC
   split
   .next hb=>
    have hv:=bV_ok hb hi.wd
    refine⟨hi.mk_,hi.nw,hi.sl,by show m.s.C.length<=k+1; omega,by show m.s.ev.length<=k+1; omega,hi.S,hi.lv,hi.i,hv,.inr (.inr (.inr (.inr (.inl ⟨rfl,?_⟩))))⟩
    exact⟨hi.mk_,⟨hi.i,hv⟩,hi.nw,hi.sl,by show m.s.C.length<=k+1; omega,by show m.s.ev.length<=k+1; omega,hi.S,hi.lv,.inr (.inr (.inr (.inr (.inr (.inl rfl)))))⟩
   .exact⟨hi.mk_,hi.nw,hi.sl,by show m.s.C.length<=k+1; omega,by show m.s.ev.length<=k+1; omega,hi.S,hi.lv,hi.i,hi.wd,.inr (.inr (.inl rfl))⟩
 .have es:=Ci.stepC_give e none 0 0
  have J:=hL (.inr (.inr e))
  have G:=hg.step
  refine (ct_actR w _ (giveC m).q h J 110 (by rw[e]; kernel_rfl) (by rw[e]; decide) (enters_of Tryz.func110 (by kernel_rfl) rfl _) (fun W a0 u z=>cgive_any W m u (fun W3 a2 F=>give_run W3 F hg hk) z)).mono ?_
  rintro e' w' ⟨rfl,col',I,u,F⟩
  have Q:=J.fw u F
  have z:=lookC_list { m.q with g:=(stepG ⟨m.q.g,m.s,m.N⟩).g } (wrap64 (m.q.place+1))
  refine⟨none,0,0,by rw[es],?_,?_⟩
  .rw[es]
   refine⟨col',I,u,F,fun _=>?_⟩
   unfold giveC
   simp only
   split
   .show Lr base col' w' (lookC { m.q with g:=(stepG ⟨m.q.g,m.s,m.N⟩).g } (wrap64 (m.q.place+1))).A (lookC { m.q with g:=(stepG ⟨m.q.g,m.s,m.N⟩).g } (wrap64 (m.q.place+1))).n (lookC { m.q with g:=(stepG ⟨m.q.g,m.s,m.N⟩).g } (wrap64 (m.q.place+1))).c (lookC { m.q with g:=(stepG ⟨m.q.g,m.s,m.N⟩).g } (wrap64 (m.q.place+1))).S
    rw[z.1,z.2.1,z.2.2.1,z.2.2.2]
    exact Q
   .exact Q
  .rw[es]
   unfold giveC
   split
   .exact Ci.look { m.q with g:=(stepG ⟨m.q.g,m.s,m.N⟩).g } G.mk_ G.nw G.sl G.cl G.el G.S G.lv hi.i hi.wd J.us _
   .exact⟨G.mk_,G.nw,G.sl,G.cl,G.el,G.S,G.lv,hi.i,hi.wd,.inr (.inr (.inr (.inr (.inl ⟨e,G⟩))))⟩
 .have es:=Ci.stepC_done e none 0 0
  refine (ct_none w m.q h (by rw[e]; kernel_rfl) (by rw[e]; decide)).mono ?_
  rintro e' w' ⟨rfl,col',I,u,F⟩
  refine⟨none,0,0,by rw[es],?_,?_⟩
  .rw[es]
   refine⟨col',I,u,F,fun Y=>?_⟩
   exfalso
   unfold seesC at Y
   rw[e] at Y
   exact absurd Y (by decide)
  .rw[es]
   exact⟨hi.mk_,hi.nw,hi.sl,by omega,by omega,hi.S,hi.lv,hi.i,hi.wd,.inr (.inr (.inr (.inr (.inr e))))⟩
end Go.Proofs.YtoiklelghfckgaaGreatDoor.Wo
end
section
set_option maxRecDepth 100000
set_option maxHeartbeats 8000000
set_option linter.unusedVariables false
namespace Go.Proofs.YtoiklelghfckgaaGreatDoor.Wo
open Go Go.ChangeShapes Go.WideShapes Go.ChangeAt Go.RowKit Go.Deep Go.Maps Rw Hi Mt Ba
open Cn (Cf cfE)
abbrev cD:Cf:=⟨4,1,100,1000,50,200,4598175219545276416⟩
theorem cD_ok:cD.ok:=⟨⟨by decide,by decide⟩,⟨by decide,by decide⟩,⟨by decide,by decide⟩,⟨by decide,by decide⟩,by decide⟩
theorem cD_zero:cfE cD=0:=by kernel_rfl
abbrev sm0:Ws:=⟨cD,0,[],[],fun _=>[],[],200,[],[],[],[],[],0,[],0,[],0,false⟩
abbrev sm1:Ws:={ sm0 with live:=1 }
abbrev sm2:Ws:={ sm1 with n:=1 }
abbrev sm3:Ws:={ sm2 with D:=[(1,⟨1,0,0,0⟩)] }
abbrev sm4:Ws:={ sm3 with S:=[1] }
theorem Wo.vv {base:Nat} {z:Nat->Nat} {w:World} {x:Wp} {s:Ws} (h:Wo base z w x s):∃ col',Wv base col' w x s:=by
 obtain⟨col',I⟩:∃ col':Nat->Nat,col'=fun g=>if g < w.heap.size then z g else 0:=⟨_,rfl⟩
 have F:∀ g,g < w.heap.size->col' g=z g:=fun g u=>by rw[I]; exact if_pos u
 have G:∀ g,w.heap.size<=g->col' g=0:=fun g u=>by rw[I]; show (if g < w.heap.size then z g else 0)=0; rw[if_neg (by omega)]
 refine⟨col',x.rs,x.rh,h.recol F (fun g u=>?_),fun g u=>?_⟩
 .by_cases h3:g < w.heap.size
  .exact h.lo g (by rw[<- F g h3]; exact u)
  .exact absurd (G g (by omega)) u
 .by_cases h3:g < w.heap.size
  .exact h3
  .exact absurd (G g (by omega)) u
theorem small_any (w:World):Calls Tryz.prog 121 #[] w fun e w'=>∃ (base:Nat) (x:Wp) (u:Nat->Nat),e=.returned (.tuple #[ptr x.pw,.bool true])/\w.heap.size<=base/\Wv base u w' x sm4/\Below w.heap.size w w':=by
 go_enter Tryz.func121,Tryz.ntmps121
 go_wp2_with fail
 refine (Cn.default_any w).mono ?_
 rintro e h ⟨rfl,b1⟩
 have a0:=Lh b1
 clear b1
 go_wp2_with fail
 refine (new_ok cD cD_ok cD_zero none none 0 0 h.heap.size 0 0 h.heap.size [] [] h Rd.nil_ Rd.nil_ (Nat.le_refl _) (Nat.le_refl _) (by omega) (by omega)).mono ?_
 rintro e z ⟨x,ad,rfl,G,b2⟩
 obtain⟨u,G⟩:=G.vv
 have J:Hid (Wv h.heap.size u z x sm0):=Lh G
 have a8:=Lh b2
 clear G b2
 have HG:Hid (Calls Tryz.prog 68 #[ptr x.pw] z fun e w'=>e=.returned (.bool true)/\Wv h.heap.size u w' x sm1/\Fw u z w'):=Lh (wgrow_any z J.out (by decide) (by decide))
 go_wp2_with fail
 refine HG.out.mono ?_
 rintro e Y ⟨rfl,h3,z3⟩
 have a1:=Lh h3
 have a3:=Lh z3
 clear h3 z3 HG
 have c12:=a1.out.cells.c12
 have HO:Hid (Calls Tryz.prog 71 #[ptr x.pF] Y fun e w'=>e=.returned (.tuple #[.int .u64 1,.bool true])/\Wv h.heap.size u w' x sm2/\Fw u Y w'):=Lh (wopen Y a1.out (by decide))
 go_wp2_with fail
 refine HO.out.mono ?_
 rintro e I ⟨rfl,h4,z4⟩
 have a2:=Lh h4
 have a4:=Lh (a3.out.trans z4)
 clear h4 z4 HO c12 a3
 have c8:=a2.out.cells.c8
 have HE:Hid (Calls Tryz.prog 73 #[ptr x.pb,.int .u64 1,.int .i64 1,.int .u64 0] I fun e w'=>e=.returned (.int .i64 0) /\ ∃ col',Wv h.heap.size col' w' x sm3/\Fw u I w'/\El I u col'):=Lh (wenter I a2.out 1 1 0 ⟨by decide,by decide⟩ ⟨by decide,by decide⟩ (by decide))
 go_wp2_with fail
 refine HE.out.mono ?_
 rintro e F ⟨rfl,a6,h5,z5,l5⟩
 have Q:=Lh h5
 have a5:Hid (Below h.heap.size z F):=Lh ((a4.out.trans z5).below J.out.base_le (fun g W=>J.out.lo g W.1))
 clear h5 z5 l5 HE c8 a4
 have HP:Hid (Calls Tryz.prog 77 #[ptr x.pw,.int .u64 1] F fun e w'=>e=.returned (.bool true) /\ ∃ col',Wv h.heap.size col' w' x sm4/\Fw a6 F w'/\El F a6 col'):=Lh (wpub_open F Q.out 1 ⟨by decide,by decide⟩ (by decide) rfl)
 go_wp2_with fail
 refine HP.out.mono ?_
 rintro e w6 ⟨rfl,ac,h6,z6,l6⟩
 have a9:=Lh h6
 have aa:Hid (Below h.heap.size z w6):=Lh (a5.out.trans (z6.below Q.out.base_le (fun g W=>Q.out.lo g W.1)))
 clear h6 z6 l6 HP a5
 go_wp2_with fail
 go_ret2
 have a7:=a0.out.size
 exact⟨h.heap.size,x,ac,rfl,a7,a9.out,a0.out.trans ((a8.out.trans aa.out).mono a7)⟩
abbrev q0:Gw:=⟨⟨0,1,1,1,sOffer⟩,sm4,[]⟩
theorem q0_gi:Gi q0 0:=⟨rfl,⟨⟨by decide,by decide⟩,⟨by decide,by decide⟩⟩,⟨by decide,by decide⟩,by decide,by decide,by decide,by decide,by decide,.inl rfl⟩
theorem q0_d0:((itG 0 q0).g.st.toList == [100,111,110,101])=false:=by kernel_rfl
theorem q0_d1:((itG 1 q0).g.st.toList == [100,111,110,101])=false:=by kernel_rfl
theorem q0_d2:((itG 2 q0).g.st.toList == [100,111,110,101])=false:=by kernel_rfl
theorem q0_d3:((itG 3 q0).g.st.toList == [100,111,110,101])=false:=by kernel_rfl
theorem q0_d4:((itG 4 q0).g.st.toList == [100,111,110,101])=true:=by kernel_rfl
theorem q0_done:∀ k,k<=4->((itG k q0).g.st.toList == [100,111,110,101])=decide (k=4)
 | 0,_=>q0_d0
 | 1,_=>q0_d1
 | 2,_=>q0_d2
 | 3,_=>q0_d3
 | 4,_=>q0_d4
 | k+5,h=>absurd h (by omega)
theorem q0_end:bW (itG 4 q0).s.D 1=4:=by kernel_rfl
theorem awake17_any (W:World) (hT:Tb.Tabs W):Calls Tryz.prog 63 #[] W fun e w'=>e=.returned (.bool true)/\Below W.heap.size W w':=by
 have HT:=Lh hT
 clear hT
 go_enter Tryz.func63,Tryz.ntmps63
 go_wp2_with fail
 refine (small_any W).mono ?_
 rintro e w1 ⟨base,x,a2,rfl,hb,h1,b1⟩
 have an:=Lh h1
 have F:=Lh b1
 have aC:=Lh hb
 clear h1 b1 hb
 go_wp2_with fail
 have ag:Hid (Calls Tryz.prog 23 #[.int .i64 1,.int .u64 0] w1 fun e w'=>e=.returned (.int .u64 1)/\w1=w'):=Lh (Wd.of_any 1 0 w1 (by decide) (by decide))
 refine ag.out.mono ?_
 rintro e u ⟨rfl,rfl⟩
 clear ag
 go_wp2_with fail
 refine (goffer_any 0 1 1 1 w1).mono ?_
 rintro e u ⟨rfl,b2⟩
 have Y:=Lh b2
 have ao:=Lh (an.out.later b2)
 clear b2 an
 go_upto_region 5 with (first
  | (refine store_g rfl _ _ rfl u.heap.size rfl q0.g rfl ((box_g zg u).choose_spec.1 ▸ (box_g zg u).choose_spec.2.1.th) ?_; intro w3 ax az; have a0:=Lh ax; have a3:Hid (Below u.heap.size u w3):=Lh (((Below.refl _ u).alloc (Nat.le_refl _) _).trans (az.below (by simp) (fun k hk=>by omega))); clear ax az))
 obtain⟨h,a9⟩:∃ h,u.heap.size=h:=⟨_,rfl⟩
 rw[a9] at a0
 rw[a9]
 obtain⟨av,h3,l3,au,-⟩:=ao.out.var a3.out h (by omega) a0.out.lt
 have aq:Hid (Wv base av w3 x (itG 0 q0).s):=Lh h3
 have ac:=Lh au
 have aD:Hid (W.heap.size<=h):=Lh (by have:=F.out.size; have:=Y.out.size; omega)
 have aa:Hid (Below W.heap.size W w3):=Lh ((F.out.trans (Y.out.mono F.out.size)).trans (a3.out.mono (Nat.le_trans F.out.size Y.out.size)))
 clear h3 l3 au F Y a3 ao a9
 go_wp2_with fail
 go_loopw [4] (fun i wr=>∃ (k:Nat) (a2:Nat->Nat),k<=4/\i=.int .i64 k/\Hid (Wv base a2 wr x (itG k q0).s)/\Hid (a2 h=8)/\Hid (Vg wr h (itG k q0).g)/\Hid (Below W.heap.size W wr)) (fun i _=>4 - (intOf i).toNat)
 case atStart=>exact⟨0,av,Nat.zero_le _,rfl,aq,ac,a0,aa⟩
 case round=>
  clear aq ac a0 aa
  obtain⟨k,a2,hk,rfl,HW,HC,HV,HB⟩:=hrel
  have ae:=Lh (q0_done k hk)
  have HD:Hid (Calls Tryz.prog 123 #[(itG k q0).g.val] wr fun e w'=>e=.returned (.bool (decide (k=4)))/\Below wr.heap.size wr w'):=Lh (by have q:=gdone_any (itG k q0).g wr; rw[ae.out] at q; exact q)
  have a4:=Lh (q0_gi.it k)
  obtain⟨Q,hQ⟩:∃ Q,itG k q0=Q:=⟨_,rfl⟩
  have a5:Hid (itG (k+1) q0=stepG Q):=Lh (by rw[<- hQ]; rfl)
  have ah:=Lh hQ
  rw[hQ] at HW HV HD a4
  clear hQ ae
  go_wp2_with (first
   | (refine load_g rfl _ rfl h rfl Q.g HV.out ?_))
  refine HD.out.mono ?_
  rintro e z ⟨rfl,b4⟩
  have a1:=Lh (HW.out.later b4)
  have a6:=Lh (HV.out.later b4)
  have G:Hid (Below W.heap.size W z):=Lh (HB.out.trans (b4.mono HB.out.size))
  clear b4 HW HV HB HD
  by_cases hk4:k=4
  .subst hk4
   have J:decide ((4:Nat)=4)=true:=rfl
   rw[J]
   have HL:Hid (bW Q.s.D 1=4):=Lh (by rw[<- ah.out]; exact q0_end)
   clear J a5 a4 ah hk
   have c8:=a1.out.cells.c8
   obtain⟨bs,aw⟩:∃ bs,(fnd Q.s.D 1).isSome=bs:=⟨_,rfl⟩
   have af:Hid (Calls Tryz.prog 13 #[ptr x.pb,.int .u64 1] z fun e w'=>e=.returned (.tuple #[.int .u64 4,.bool bs])/\z=w'):=Lh (by
    have q:=load_any z x.pb x.ab Q.s.D Q.s.S 1 a1.out.bag ⟨by decide,by decide⟩
    rw[HL.out,aw] at q
    exact q)
   clear aw
   go_wp2_with fail
   refine af.out.mono ?_
   rintro e w5 ⟨rfl,rfl⟩
   clear af c8
   go_wp2_with fail
   refine (Awake16_any z (HT.out.below G.out)).mono ?_
   rintro e w5 ⟨rfl,b5⟩
   have I:=Lh b5
   clear b5
   have aj:=Lh (Wd.state_any 4 w5 (by decide) (by decide))
   go_wp2_with fail
   refine aj.out.mono ?_
   rintro e w6 ⟨rfl,rfl⟩
   clear aj
   go_wp2_with fail
   go_ret
   exact⟨rfl,G.out.trans (I.out.mono G.out.size)⟩
  .have J:decide (k=4)=false:=decide_eq_false hk4
   have q2:decide ((k:Int) < 9)=true:=decide_eq_true (by omega)
   have t3:IntKind.i64.wrap ((k:Int)+1)=(k:Int)+1:=by rw[IntKind.wrap_i64]; omega
   rw[J]
   clear J
   have ai:=Lh (give_run z a1.out a4.out (by omega))
   go_wp2_with (first
    | (refine load_g rfl _ rfl h rfl Q.g a6.out ?_))
   refine ai.out.mono ?_
   rintro e w5 ⟨rfl,a8,h5,z5,l5⟩
   have ar:=Lh h5
   have ak:=Lh (a6.out.fw HC.out z5).th
   have ad:Hid (a8 h=8):=Lh ((l5 h a6.out.lt).trans HC.out)
   have I:Hid (Below W.heap.size W w5):=Lh (G.out.trans (z5.below G.out.size (fun g hg=>Nat.le_trans aC.out (a1.out.lo g hg.1))))
   clear h5 z5 l5 ai
   go_wp2_with (first
    | (refine store_g rfl _ _ rfl h rfl (stepG Q).g rfl ak.out ?_; intro w6 ay aA; have al:=Lh ay; have a7:=Lh aA; clear ay aA))
   have aF:Hid (Wv base a8 w6 x (itG (k+1) q0).s):=Lh (by rw[a5.out]; exact ar.out.aside a7.out (fun g _ e=>e ▸ ad.out))
   have aE:Hid (Vg w6 h (itG (k+1) q0).g):=Lh (by rw[a5.out]; exact al.out)
   have aB:Hid (Below W.heap.size W w6):=Lh (I.out.trans (a7.out.below I.out.size (fun g hg=>by have:=aD.out; omega)))
   clear al a7 ar ak I
   go_roundw
   case rel=>exact⟨k+1,a8,by omega,by go_num,aF,ad,aE,aB⟩
   case measure=>simp[intOf]; omega
end Go.Proofs.YtoiklelghfckgaaGreatDoor.Wo
end
