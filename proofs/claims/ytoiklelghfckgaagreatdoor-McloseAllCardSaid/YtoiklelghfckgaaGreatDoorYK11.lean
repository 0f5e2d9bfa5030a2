/- A part of the claim. -/
import Derived.Test.YtoiklelghfckgaaGreatDoorYK10
section
set_option linter.unusedVariables false
namespace Go.Proofs.YtoiklelghfckgaaGreatDoor.Wo
open Go Go.ChangeShapes Go.WideShapes Go.ChangeAt Go.RowKit Go.Deep Go.Maps Rw Hi Mt Ba
open Cn (Cf cfE)
theorem Wv.aside8 {E:Nat->Prop} {base:Nat} {col:Nat->Nat} {w w':World} {x:Wp} {s:Ws} (h:Wv base col w x s) (Q:Fz E w w') (hE:∀ g,g < w.heap.size->E g->col g=8) :
  ∃ col',Wv base col' w' x s/\El w col col' /\ ∀ g,w.heap.size<=g->g < w'.heap.size->col' g=8:=by
 have a1:=h.base_le
 obtain⟨col',J⟩:∃ col':Nat->Nat,col'=fun g=>if g < w.heap.size then col g else if g < w'.heap.size then 8 else 0:=⟨_,rfl⟩
 have I:∀ g,g < w.heap.size->col' g=col g:=fun g u=>by rw[J]; exact if_pos u
 have Y:∀ g,w.heap.size<=g->g < w'.heap.size->col' g=8:=fun g z G=>by rw[J]; show (if g < w.heap.size then col g else if g < w'.heap.size then 8 else 0)=8; rw[if_neg (by omega),if_pos G]
 have e3:∀ g,¬ g < w.heap.size -> ¬ g < w'.heap.size->col' g=0:=fun g z G=>by rw[J]; show (if g < w.heap.size then col g else if g < w'.heap.size then 8 else 0)=0; rw[if_neg z,if_neg G]
 obtain⟨r,q,h,hi⟩:=h
 have a0:∀ g,col' g≠0->base<=g:=fun g u=>by
  by_cases z:g < w.heap.size
  .rw[I g z] at u; exact h.lo g u
  .omega
 have h:=h.recol I a0
 have F:Fz (fun g=>col' g=8) w w':=Q.mono fun g u he=>(I g u).trans (hE g u he)
 refine⟨col',⟨r,q,⟨h.cells_aside F (by decide),h.bag_aside F (by decide) (by decide),h.loc_aside F (by decide) (by decide),h.slots_aside F (by decide),h.book_aside F (by decide),h.fact_aside F (by decide),h.hist_aside F (by decide),h.kl,h.ks,h.kb,h.kf,h.kh,h.kw,h.lo⟩,fun g u=>?_⟩,I,Y⟩
 by_cases z:g < w.heap.size
 .exact Nat.lt_of_lt_of_le z Q.size
 .by_cases G:g < w'.heap.size
  .exact G
  .exact absurd (e3 g z G) u
theorem fz_grown {w w':World} {row:Option Nat} (h:w.grownBy w' row):Fz (fun g=>row=some g) w w':=⟨h.os,h.tape,h.output,h.size,fun k hk hn=>h.block k hk (fun e=>hn e.symm)⟩
theorem there_alloc (T:TypeId) (zs:List Value) (w:World):(w.alloc (.cells zs.toArray T)).there w.heap.size 0 zs.length:=by
 obtain⟨W,e,h,-,-⟩:=box_b (n:=zs.length) T zs w rfl
 rw[e]; exact h.th
def lenOf (v:Value):Nat:=match v with
 | .slice _ n _=>n
 | _=>0
theorem lenOf_slice (A:Option Addr) (n c:Nat):lenOf (.slice A n c)=n:=rfl
structure Aw (W:World) (base:Nat) (col:Nat->Nat) (x:Wp) (n gb:Nat) (w:World) (s:Ws) (cs:List Value) (A:Option Addr) (k c:Nat) (ss:List ByteArray):Prop where
 wv:Wv base col w x s
 vb:Vb w gb (n+1) cs
 cb:col gb=8
 own:w.ownsRow W.heap.size 9 1 (.slice A k c) k (ss.map Value.string)
 oc:∀ g,(Value.slice A k c).ownBlock=some g->col g=8/\g≠gb
 bl:Below W.heap.size W w
 gbl:W.heap.size<=gb
 bs:W.heap.size<=base
section
variable {W w w':World} {base:Nat} {col col':Nat->Nat} {x:Wp} {n gb:Nat} {s s':Ws} {cs cs':List Value} {A:Option Addr} {k c:Nat} {ss:List ByteArray}
theorem Aw.olt (h:Aw W base col x n gb w s cs A k c ss):∀ g,(Value.slice A k c).ownBlock=some g->g < w.heap.size:=fun g u=>(h.own.lt g u).2
theorem Aw.same (h:Aw W base col x n gb w s cs A k c ss) (hw:Wv base col' w' x s') (F:Below W.heap.size W w') (hc:col' gb=8) (hv:Vb w' gb (n+1) cs') (z:∀ g,(Value.slice A k c).ownBlock=some g->col' g=8/\w'.heap[g]? = w.heap[g]?):Aw W base col' x n gb w' s' cs' A k c ss:=
 ⟨hw,hv,hc,owS h.own (fun g u=>(z g u).2),fun g u=>⟨(z g u).1,(h.oc g u).2⟩,F,h.gbl,h.bs⟩
theorem Aw.later (h:Aw W base col x n gb w s cs A k c ss) (u:Below w.heap.size w w'):Aw W base col x n gb w' s cs A k c ss:=
 h.same (h.wv.later u) (h.bl.trans (u.mono h.bl.size)) h.cb (h.vb.later u) (fun g z=>⟨(h.oc g z).1,u.block g (h.olt g z)⟩)
theorem Aw.call (h:Aw W base col x n gb w s cs A k c ss) (G:Wv base col' w' x s') (z:Fw col w w') (F:El w col col'):Aw W base col' x n gb w' s' cs A k c ss:=
 h.same G (h.bl.trans (z.below h.bl.size (fun g u=>Nat.le_trans h.bs (h.wv.lo g u.1)))) ((F gb h.vb.lt).trans h.cb) (h.vb.blk (z.block gb h.vb.lt (fun e=>e.2 h.cb)))
  (fun g u=>⟨(F g (h.olt g u)).trans (h.oc g u).1,z.block g (h.olt g u) (fun e=>e.2 (h.oc g u).1)⟩)
theorem Aw.put (h:Aw W base col x n gb w s cs A k c ss) (hv:Vb w' gb (n+1) cs') (z:Fz (fun k=>k=gb) w w'):Aw W base col x n gb w' s cs' A k c ss:=
 h.same (h.wv.aside z (fun g _ e=>e ▸ h.cb)) (h.bl.trans (z.below h.bl.size (fun g u=>u ▸ h.gbl))) h.cb hv (fun g u=>⟨(h.oc g u).1,z.block g (h.olt g u) (h.oc g u).2⟩)
theorem Aw.grow (h:Aw W base col x n gb w s cs A k c ss) (y:ByteArray) {A':Option Addr} {F:Nat} (I:w'.ownsRow W.heap.size 9 1 (.slice A' (k+1) F) (k+1) ((ss ++ [y]).map Value.string)) (G:w.grownBy w' (Value.slice A k c).ownBlock)
  (a0:(Value.slice A' (k+1) F).ownBlock=(Value.slice A k c).ownBlock\/(Value.slice A' (k+1) F).ownBlock=some w.heap.size):∃ col',Aw W base col' x n gb w' s cs A' (k+1) F (ss ++ [y])/\El w col col' /\ ∀ A n c S,Lr base col w A n c S->Lr base col' w' A n c S:=by
 obtain⟨col',J,z,Q⟩:=h.wv.aside8 (fz_grown G) (fun g _ e=>(h.oc g e).1)
 refine⟨col',⟨J,h.vb.blk (G.block gb h.vb.lt (fun e=>(h.oc gb e.symm).2 rfl)),(z gb h.vb.lt).trans h.cb,I,fun g u=>?_,?_,h.gbl,h.bs⟩,z,fun A n c S Y=>(Y.el z).fz (fz_grown G) (fun g e=>by have:=(z g (h.olt g e)).trans (h.oc g e).1; omega)⟩
 .rcases a0 with e | e
  .rw[e] at u
   exact⟨(z g (h.olt g u)).trans (h.oc g u).1,(h.oc g u).2⟩
  .have a1:=(I.lt g u).2
   rw[e] at u
   injection u with u
   subst u
   exact⟨Q _ (Nat.le_refl _) a1,fun e2=>by have:=h.vb.lt; omega⟩
 .refine h.bl.grown G h.bl.size (fun j hj=>(h.own.lt j hj).1)
end
theorem rd_lit {α:Type} {enc:α->Value} (w:World) (xs:List α) (n:Nat) (hn:xs.length=n) (u:n<=9223372036854775807) (t:TypeId):Rd enc (w.alloc (.cells (xs.map enc).toArray t)) (w.heap.size+1) (some ⟨w.heap.size,0,none⟩) n n xs:=
 ⟨hn,Nat.le_refl _,u,fun _=>⟨w.heap.size,0,rfl,by omega,fun j x hx=>by
  have h:(w.alloc (.cells (xs.map enc).toArray t)).heap[w.heap.size]? = some (.cells (xs.map enc).toArray t):=heap_alloc_last _ _
  rw[Nat.zero_add,cell_of_row _ _ _ _ _ _ h]
  simp[hx]⟩⟩
theorem Awake17_any (W:World) (h:Tb.Tabs W):Calls Tryz.prog 31 #[] W fun e w'=>e=.returned (.bool true)/\Below W.heap.size W w':=by
 have H:=Lh (awake17_any W h)
 clear h
 go_enter Tryz.func31,Tryz.ntmps31
 go_wp2_with fail
 refine H.out.mono ?_
 rintro e u ⟨rfl,b1⟩
 go_wp2_with fail
 go_ret
 exact⟨rfl,b1⟩
end Go.Proofs.YtoiklelghfckgaaGreatDoor.Wo
end
section
set_option maxRecDepth 100000
set_option maxHeartbeats 8000000
set_option linter.unusedVariables false
namespace Go.Proofs.YtoiklelghfckgaaGreatDoor.Wo
open Go Go.ChangeShapes Go.WideShapes Go.ChangeAt Go.RowKit Go.Deep Go.Maps Rw Hi Mt Ba
open Cn (Cf cfE)
theorem gbegin_any (th dl:Int) (w:World):Calls Tryz.prog 8 #[.int .i64 th,.int .u64 dl] w fun e w'=>e=.returned (Gt.val ⟨th,dl,gStart,0,0,false,none,0,0,[],0,false,0,0,zg⟩)/\Below w.heap.size w w':=by
 obtain⟨Y,h,F,u,S1⟩:=box_b 68 [.int .i64 0,.int .u64 0,.string ⟨#[]⟩,.int .u64 0,.int .u64 0,.bool false,.slice none 0 0,.int .i64 0,.bool false,.int .i64 0,.int .u64 0,.int .i64 0,.int .i64 0,.int .u64 0,.int .u64 0,.string ⟨#[]⟩] w rfl
 have h:w.alloc (.cells #[.int .i64 0,.int .u64 0,.string ⟨#[]⟩,.int .u64 0,.int .u64 0,.bool false,.slice none 0 0,.int .i64 0,.bool false,.int .i64 0,.int .u64 0,.int .i64 0,.int .i64 0,.int .u64 0,.int .u64 0,.string ⟨#[]⟩] 68)=Y:=h
 have J:=Lh F.th
 have z:=Lh u
 clear F u
 go_enter Tryz.func8,Tryz.ntmps8
 go_upto_region 1 with (fail)
 clear h
 go_wp2_with (first
  | (refine stB rt_gt rfl _ _ rfl w.heap.size rfl (Gt.cells ⟨th,dl,gStart,0,0,false,none,0,0,[],0,false,0,0,zg⟩) rfl J.out rfl (by kernel_rfl) ?_; intro w9 G I; have Q:=Lh G; have W:=Lh I; clear G I))
 exact bodyPost_ret (v:=(Gt.val ⟨th,dl,gStart,0,0,false,none,0,0,[],0,false,0,0,zg⟩)) (res_b rt_gt _ _ w.heap.size _ Tryz.results8 rfl Q.out) rfl ⟨rfl,z.out.trans (W.out.below z.out.size (fun k hk=>by omega))⟩
theorem gdone_get (q:Gt) (w:World):Calls Tryz.prog 10 #[q.val] w fun e w'=>e=.returned (.bool (q.st.toList == [100,111,110,101]))/\Below w.heap.size w w':=by
 obtain⟨J,G,u,h,I⟩:=box_gt q w
 have z:=u.cell 2 _ rfl
 have F:=Lh h
 clear u h
 go_enter Tryz.func10,Tryz.ntmps10
 go_upto_region 1 with (fail)
 clear G
 go_wp2_with fail
 go_ret
 exact⟨rfl,F.out⟩
theorem gstate_any (q:Gt) (w:World):Calls Tryz.prog 11 #[q.val] w fun e w'=>e=.returned (.string q.st)/\Below w.heap.size w w':=by
 obtain⟨J,G,u,h,I⟩:=box_gt q w
 have z:=u.cell 2 _ rfl
 have F:=Lh h
 clear u h
 go_enter Tryz.func11,Tryz.ntmps11
 go_upto_region 1 with (fail)
 clear G
 go_wp2_with fail
 go_ret
 exact⟨rfl,F.out⟩
theorem got_yes (q:Gt) (w:World) (Q:(q.st.toList == [100,111,110,101])=true) (hg:(q.got != 0)=true):Calls Tryz.prog 12 #[q.val] w fun e w'=>e=.returned (.tuple #[.int .u64 q.got,.int .i64 0])/\Below w.heap.size w w':=by
 obtain⟨W1,W,J,G,S1⟩:=box_gt q w
 have u:=Lh J
 have h:=Lh G
 have I:Hid (∀ w,Calls Tryz.prog 10 #[q.val] w fun e w'=>e=.returned (.bool true)/\Below w.heap.size w w'):=Lh (fun w=>by have e:=gdone_get q w; rw[Q] at e; exact e)
 clear J G Q
 go_enter Tryz.func12,Tryz.ntmps12
 go_upto_region 1 with (fail)
 clear W
 go_wp2_with (first
  | (refine ldB rt_gt rfl _ rfl w.heap.size rfl q.cells u.out ?_))
 refine (I.out _).mono ?_
 rintro e Y ⟨rfl,F⟩
 have u:=Lh (u.out.later F)
 have h:Hid (Below w.heap.size w Y):=Lh (h.out.trans (F.mono h.out.size))
 clear F I
 have z:=u.out.cell 10 _ rfl
 go_wp2_with fail
 go_ret2
 exact⟨rfl,h.out⟩
def gq (A:Option Addr) (c:Nat):Nat->Mg
 | 0=>⟨⟨0,5,gStart,0,0,false,none,0,0,[],0,false,0,0,zg⟩,sm0,[]⟩
 | k+1=>stepM (gq A c k) A 0 c
theorem gq0 (A:Option Addr) (c:Nat):gq A c 0=⟨⟨0,5,gStart,0,0,false,none,0,0,[],0,false,0,0,zg⟩,sm0,[]⟩:=rfl
theorem gq1 (A:Option Addr) (c:Nat):gq A c 1=⟨⟨0,5,gNear,0,0,false,none,0,0,[],0,false,0,0,zg⟩,sm0,[]⟩:=rfl
theorem gq2 (A:Option Addr) (c:Nat):gq A c 2=⟨⟨0,5,gSnap,0,0,false,none,0,0,[],0,false,0,0,zg⟩,{ sm0 with loc:=(Lc.takeR sm0.loc 0).1 },[]⟩:=by
 show stepM (gq A c 1) A 0 c=_
 rw[gq1]
 kernel_rfl
theorem gq3 (A:Option Addr) (c:Nat):gq A c 3=⟨⟨0,5,gGrow,0,0,false,A,0,c,[],0,false,0,0,zg⟩,{ sm0 with loc:=(Lc.takeR sm0.loc 0).1 },[]⟩:=by
 show stepM (gq A c 2) A 0 c=_
 rw[gq2]
 kernel_rfl
theorem gq4 (A:Option Addr) (c:Nat):gq A c 4=⟨⟨0,5,gOpen,0,0,false,A,0,c,[],0,false,0,0,zg⟩,{ sm0 with loc:=(Lc.takeR sm0.loc 0).1,live:=1 },[]⟩:=by
 show stepM (gq A c 3) A 0 c=_
 rw[gq3]
 kernel_rfl
theorem gq5 (A:Option Addr) (c:Nat):gq A c 5=⟨⟨0,5,gPublish,1,1,false,A,0,c,[],0,false,0,0,zg⟩,{ sm0 with loc:=(Lc.takeR sm0.loc 0).1,live:=1,n:=1,D:=[(1,⟨1,0,0,0⟩)] },[]⟩:=by
 show stepM (gq A c 4) A 0 c=_
 rw[gq4]
 kernel_rfl
theorem gq6 (A:Option Addr) (c:Nat):gq A c 6=⟨⟨0,5,gDone,1,1,false,A,0,c,[],0,false,0,1,zg⟩,{ sm0 with loc:=(Lc.takeR sm0.loc 0).1,live:=1,n:=1,D:=[(1,⟨1,0,0,0⟩)],S:=[1],L:=[(1,⟨0,0,false⟩)],T:=[(1,200)],ev:=[⟨0,0,1,0,1,0⟩] },[]⟩:=by
 show stepM (gq A c 5) A 0 c=_
 rw[gq5]
 kernel_rfl
def gsts:List ByteArray:=[gStart,gNear,gSnap,gGrow,gOpen,gPublish]
theorem gq_st (A:Option Addr) (c:Nat):∀ k,k < 6->gsts.take k ++ [(gq A c k).q.st] = gsts.take (k+1)
 | 0,_=>rfl
 | 1,_=>by rw[gq1]; rfl
 | 2,_=>by rw[gq2]; rfl
 | 3,_=>by rw[gq3]; rfl
 | 4,_=>by rw[gq4]; rfl
 | 5,_=>by rw[gq5]; rfl
 | k+6,h=>absurd h (by omega)
def Gstep (base:Nat) (col:Nat->Nat) (x:Wp) (w:World) (k:Nat) (e:Ending) (w':World):Prop:=
 ∃ A c,e=.returned (gq A c (k+1)).q.val /\ ∃ col',Wv base col' w' x (gq A c (k+1)).s/\Fw col w w'/\El w col col'/\(2<=k->Lr base col' w' A 0 c [])
theorem gq_step {base:Nat} {x:Wp} (A:Option Addr) (c:Nat):∀ (k:Nat) (w:World) (u:Nat->Nat),k < 6->Wv base u w x (gq A c k).s->(3<=k->Lr base u w A 0 c [])->Calls Tryz.prog 9 #[(gq A c k).q.val,ptr x.pw] w (Gstep base u x w k)
 | 0,w,u,_,h,hL=>by
  rw[gq0] at h ⊢
  refine (gt_act w _ (startM (⟨⟨0,5,gStart,0,0,false,none,0,0,[],0,false,0,0,zg⟩,sm0,[]⟩:Mg)).q h 89 (by kernel_rfl) (show gStart.size<=maxLen by decide) (fun w=>by kernel_rfl) (fun W u h=>mstart_any W (⟨⟨0,5,gStart,0,0,false,none,0,0,[],0,false,0,0,zg⟩,sm0,[]⟩:Mg) h (by decide))).mono ?_
  rintro e w' ⟨rfl,col',G,z,F⟩
  refine⟨A,c,?_,col',?_,z,F,fun I=>absurd I (by decide)⟩
  .show Ending.returned _=Ending.returned (gq A c 1).q.val
   rw[gq1]; rfl
  .show Wv base col' w' x (gq A c 1).s
   rw[gq1]; exact G
 | 1,w,u,_,h,hL=>by
  rw[gq1] at h ⊢
  refine (gt_act w _ (nearM (⟨⟨0,5,gNear,0,0,false,none,0,0,[],0,false,0,0,zg⟩,sm0,[]⟩:Mg)).q h 90 (by kernel_rfl) (show gNear.size<=maxLen by decide) (fun w=>by kernel_rfl) (fun W u h=>mnear_any W (⟨⟨0,5,gNear,0,0,false,none,0,0,[],0,false,0,0,zg⟩,sm0,[]⟩:Mg) h )).mono ?_
  rintro e w' ⟨rfl,col',G,z,F⟩
  refine⟨A,c,?_,col',?_,z,F,fun I=>absurd I (by decide)⟩
  .show Ending.returned _=Ending.returned (gq A c 2).q.val
   rw[gq2]; rfl
  .show Wv base col' w' x (gq A c 2).s
   rw[gq2]; exact G
 | 2,w,u,_,h,hL=>by
  rw[gq2] at h ⊢
  refine (gt_actL w _ (fun A n c=>(snapM (⟨⟨0,5,gSnap,0,0,false,none,0,0,[],0,false,0,0,zg⟩,{ sm0 with loc:=(Lc.takeR sm0.loc 0).1 },[]⟩:Mg) A n c).q) h 91 (by kernel_rfl) (show gSnap.size<=maxLen by decide) (fun w=>by kernel_rfl) (fun W u h=>msnap_any W (⟨⟨0,5,gSnap,0,0,false,none,0,0,[],0,false,0,0,zg⟩,{ sm0 with loc:=(Lc.takeR sm0.loc 0).1 },[]⟩:Mg) h)).mono ?_
  rintro e w' ⟨A,n,c,rfl,col',G,z,F,J⟩
  obtain rfl:n=0:=J.rd.len.symm
  refine⟨A,c,?_,col',?_,z,F,fun _=>J⟩
  .show Ending.returned _=Ending.returned (gq A c 3).q.val
   rw[gq3]; rfl
  .show Wv base col' w' x (gq A c 3).s
   rw[gq3]; exact G
 | 3,w,u,_,h,hL=>by
  rw[gq3] at h ⊢
  refine (gt_act w _ (growM (⟨⟨0,5,gGrow,0,0,false,A,0,c,[],0,false,0,0,zg⟩,{ sm0 with loc:=(Lc.takeR sm0.loc 0).1 },[]⟩:Mg)).q h 94 (by kernel_rfl) (show gGrow.size<=maxLen by decide) (fun w=>by kernel_rfl) (fun W u h=>mgrow_any W (⟨⟨0,5,gGrow,0,0,false,A,0,c,[],0,false,0,0,zg⟩,{ sm0 with loc:=(Lc.takeR sm0.loc 0).1 },[]⟩:Mg) h (show (0:Int)<=0 by decide) (show (4:Int)<=1000000 by decide))).mono ?_
  rintro e w' ⟨rfl,col',G,z,F⟩
  refine⟨A,c,?_,col',?_,z,F,fun _=>(hL (by decide)).fw z F⟩
  .show Ending.returned _=Ending.returned (gq A c 4).q.val
   rw[gq4]; rfl
  .show Wv base col' w' x (gq A c 4).s
   rw[gq4]; exact G
 | 4,w,u,_,h,hL=>by
  rw[gq4] at h ⊢
  refine (gt_act w _ (openM (⟨⟨0,5,gOpen,0,0,false,A,0,c,[],0,false,0,0,zg⟩,{ sm0 with loc:=(Lc.takeR sm0.loc 0).1,live:=1 },[]⟩:Mg)).q h 95 (by kernel_rfl) (show gOpen.size<=maxLen by decide) (fun w=>by kernel_rfl) (fun W u h=>mopen_any W (⟨⟨0,5,gOpen,0,0,false,A,0,c,[],0,false,0,0,zg⟩,{ sm0 with loc:=(Lc.takeR sm0.loc 0).1,live:=1 },[]⟩:Mg) h (show (0:Nat) < 18446744073709551615 by decide) ⟨show (0:Int)<=0 by decide,show (0:Int)<=18446744073709551615 by decide⟩ (show (0:Nat) < 1000000 by decide))).mono ?_
  rintro e w' ⟨rfl,col',G,z,F⟩
  refine⟨A,c,?_,col',?_,z,F,fun _=>(hL (by decide)).fw z F⟩
  .show Ending.returned _=Ending.returned (gq A c 5).q.val
   rw[gq5]; rfl
  .show Wv base col' w' x (gq A c 5).s
   rw[gq5]; exact G
 | 5,w,u,_,h,hL=>by
  rw[gq5] at h ⊢
  refine (gt_act w _ (publishM (⟨⟨0,5,gPublish,1,1,false,A,0,c,[],0,false,0,0,zg⟩,{ sm0 with loc:=(Lc.takeR sm0.loc 0).1,live:=1,n:=1,D:=[(1,⟨1,0,0,0⟩)] },[]⟩:Mg)).q h 97 (by kernel_rfl) (show gPublish.size<=maxLen by decide) (fun w=>by kernel_rfl) (fun W u h=>mpublish_any W (⟨⟨0,5,gPublish,1,1,false,A,0,c,[],0,false,0,0,zg⟩,{ sm0 with loc:=(Lc.takeR sm0.loc 0).1,live:=1,n:=1,D:=[(1,⟨1,0,0,0⟩)] },[]⟩:Mg) h ⟨rfl,show (0:Nat)<=1000 by decide,show (0:Nat)<=1000 by decide,show (0:Nat)<=1000 by decide,⟨show (0:Int)<=200 by decide,show (200:Int)<=18446744073709551615 by decide⟩,⟨show (0:Int)<=0 by decide,show (0:Int)<=18446744073709551615 by decide⟩⟩ ⟨show (0:Int)<=1 by decide,show (1:Int)<=18446744073709551615 by decide⟩ (show (0:Nat)<=1000000 by decide))).mono ?_
  rintro e w' ⟨rfl,col',G,z,F⟩
  refine⟨A,c,?_,col',?_,z,F,fun _=>(hL (by decide)).fw z F⟩
  .show Ending.returned _=Ending.returned (gq A c 6).q.val
   rw[gq6]; rfl
  .show Wv base col' w' x (gq A c 6).s
   rw[gq6]; exact G
 | k+6,_,_,h,_,_=>absurd h (by omega)
theorem awake18_any (W:World) (hT:Tb.Tabs W):Calls Tryz.prog 5 #[] W fun e w'=>e=.returned (.bool true)/\Below W.heap.size W w':=by
 obtain⟨i0,hi,aO,aP,aQ⟩:=info_parts info_str
 have HT:=Lh hT
 clear hT
 go_enter Tryz.func5,Tryz.ntmps5
 go_wp2_with fail
 refine (Cn.default_any W).mono ?_
 rintro e w1 ⟨rfl,b1⟩
 have a0:=Lh b1
 clear b1
 go_wp2_with fail
 refine (new_ok cD cD_ok cD_zero none none 0 0 w1.heap.size 0 0 w1.heap.size [] [] w1 Rd.nil_ Rd.nil_ (Nat.le_refl _) (Nat.le_refl _) (by omega) (by omega)).mono ?_
 rintro e w2 ⟨x,aX,rfl,h2,b2⟩
 obtain⟨F,h2⟩:=h2.vv
 have ad:Hid (Wv w1.heap.size F w2 x sm0):=Lh h2
 have a6:Hid (Below W.heap.size W w2):=Lh (a0.out.trans (b2.mono a0.out.size))
 have a9:Hid (W.heap.size<=w1.heap.size):=Lh a0.out.size
 obtain⟨base,aw⟩:∃ base,w1.heap.size=base:=⟨_,rfl⟩
 rw[aw] at ad a9
 clear h2 b2 a0 aw
 go_upto_region 4 with (fail)
 go_wp2_with fail
 refine (gbegin_any 0 5 w2).mono ?_
 rintro e w3 ⟨rfl,b3⟩
 have an:=Lh (ad.out.later b3)
 have a7:Hid (Below W.heap.size W w3):=Lh (a6.out.trans (b3.mono a6.out.size))
 clear b3 ad a6
 go_upto_region 5 with (first
  | (refine stB rt_gt rfl _ _ rfl w3.heap.size rfl (gq none 0 0).q.cells rfl (there_alloc 68 [.int .i64 0,.int .u64 0,.string ⟨#[]⟩,.int .u64 0,.int .u64 0,.bool false,.slice none 0 0,.int .i64 0,.bool false,.int .i64 0,.int .u64 0,.int .i64 0,.int .i64 0,.int .u64 0,.int .u64 0,.string ⟨#[]⟩] w3) rfl (by kernel_rfl) ?_; intro w4 aD aG; have a3:=Lh aD; have a8:Hid (Below w3.heap.size w3 w4):=Lh (((Below.refl _ w3).alloc (Nat.le_refl _) _).trans (aG.below (by simp) (fun k hk=>by omega))); clear aD aG))
 have aB:=a7.out.size
 obtain⟨I,ax⟩:∃ I,w3.heap.size=I:=⟨_,rfl⟩
 have ah:Hid (W.heap.size<=I):=Lh (by omega)
 obtain⟨aq,h4,l4,c4⟩:=an.out.var8 a8.out
 rw[ax] at a3 c4 ⊢
 have ag:Hid (Aw W base aq x 15 I w4 sm0 (gq none 0 0).q.cells none 0 0 []):=Lh ⟨h4,a3.out,c4 I (Nat.le_refl _) a3.out.lt,World.ownsRow_nil _ _ _ _,fun g hg=>by (cases hg),a7.out.trans (a8.out.mono aB),ah.out,a9.out⟩
 clear h4 l4 c4 a3 a8 a7 an aB ax ah a9
 go_upto_region 6 with (fail)
 go_loopw [4] (fun l wr=>∃ (k c c2:Nat) (A A2:Option Addr) (F:Nat->Nat),k<=6/\l=.slice A2 k c2/\Hid (Aw W base F x 15 I wr (gq A c k).s (gq A c k).q.cells A2 k c2 (gsts.take k))/\Hid (3<=k->Lr base F wr A 0 c [])) (fun l _=>6 - lenOf l)
 case atStart=>exact⟨0,0,0,none,none,aq,Nat.zero_le _,rfl,ag,Lh (fun h=>absurd h (by decide))⟩
 case round=>
  clear ag
  obtain⟨k,c,c2,A,A2,F,hk,rfl,u,Y⟩:=hrel
  by_cases hlt:k < 6
  .have q1:decide ((k:Int) < 6)=true:=decide_eq_true (by omega)
   have a2:Hid ((gsts.take k).map Value.string ++ [(gq A c k).q.st].map Value.string=(gsts.take (k+1)).map Value.string):=Lh (by rw[<- List.map_append,gq_st A c k hlt])
   have ac:Hid (gsts.take k ++ [(gq A c k).q.st] = gsts.take (k+1)):=Lh (gq_st A c k hlt)
   have al:Hid (∀ (w:World) (F:Nat->Nat),Wv base F w x (gq A c k).s->(3<=k->Lr base F w A 0 c [])->Calls Tryz.prog 9 #[(gq A c k).q.val,ptr x.pw] w (Gstep base F x w k)):=Lh (fun w F=>gq_step A c k w F hlt)
   obtain⟨m,hm⟩:∃ m,gq A c k=m:=⟨_,rfl⟩
   rw[hm] at u a2 ac al
   clear hm
   go_wp2_with (first
    | (refine ldB rt_gt rfl _ rfl I rfl m.q.cells u.out.vb ?_))
   refine (gstate_any m.q wr).mono ?_
   rintro e z ⟨rfl,b5⟩
   have u:=Lh (u.out.later b5)
   have Y:Hid (3<=k->Lr base F z A 0 c []):=Lh (fun h=>(Y.out h).later b5)
   clear b5
   obtain⟨J,aC⟩:∃ J,m.q.st=J:=⟨_,rfl⟩
   rw[aC] at a2 ac ⊢
   clear aC
   have ay:Rd Value.string (z.alloc (.cells #[.string J] 9)) (z.heap.size+1) (some ⟨z.heap.size,0,none⟩) 1 1 [J]:=rd_one z J 9
   have ak:=Lh ay
   have Q:Below z.heap.size z (z.alloc (.cells #[.string J] 9)):=(Below.refl _ z).alloc (Nat.le_refl _) _
   obtain⟨w6,aF⟩:∃ w6,z.alloc (.cells #[.string J] 9)=w6:=⟨_,rfl⟩
   rw[aF] at Q ak
   have u:=Lh (u.out.later Q)
   have Y:Hid (3<=k->Lr base F w6 A 0 c []):=Lh (fun h=>(Y.out h).later Q)
   have aN:=u.out.bl.size
   clear ay Q
   go_wp2_with (first
    | (at_builtin
       refine apRd _ rfl _ _ 97 rfl W.heap.size 9 i0 (.string ⟨#[]⟩) 16 Tryz.underlying97 hi aO aP aQ rfl (.slice A2 k c2) k _ rfl u.out.own _ _ 1 1 [J] rfl ak.out (fun _=>rfl) (k+1) rfl _ a2.out (by unfold maxLen; omega) (by omega) aN ?_
       intro A3 c3 G az hg av
       have aA:G.ownsRow W.heap.size 9 1 (.slice A3 (k+1) c3) (k+1) (((gsts.take k) ++ [J]).map Value.string):=by rw[List.map_append]; exact a2.out.symm ▸ az
       obtain⟨aM,au,l7,aH⟩:=u.out.grow J aA hg av
       have u:=Lh au
       have Y:Hid (3<=k->Lr base aM G A 0 c []):=Lh (fun h=>aH _ _ _ _ (Y.out h))
       clear az hg av aA au l7 aH)
    | (refine ldB rt_gt rfl _ rfl I rfl m.q.cells u.out.vb ?_))
   clear aF
   rw[ac.out] at u
   refine (al.out _ _ u.out.wv Y.out).mono ?_
   rintro e w8 ⟨A',c',rfl,col8,h8,z8,l8,ar⟩
   have u:=Lh (u.out.call h8 z8 l8)
   have aK:=Lh ar
   clear h8 z8 l8 ar
   go_wp2_with (first
    | (refine stB rt_gt rfl _ _ rfl I rfl (gq A' c' (k+1)).q.cells rfl u.out.vb.th rfl (by kernel_rfl) ?_; intro w9 aE af; have aI:=Lh (u.out.put aE af); have aL:Hid (3<=k+1->Lr base col8 w9 A' 0 c' []):=Lh (fun h=>(aK.out (by omega)).fz af (fun g e=>by rw[e,u.out.cb]; decide)); clear aE af))
   go_roundw
   case rel=>exact⟨_,_,_,_,_,_,_,_,_,_,_,_,⟨k+1,c',c3,A',A3,col8,by omega,rfl,aI,aL⟩,rfl⟩
   case measure=>
    show 6 - lenOf (.slice A3 (k+1) c3) < 6 - lenOf (.slice A2 k c2)
    simp only[lenOf_slice]
    omega
  .obtain rfl:k=6:=by omega
   have q1:decide (((6:Nat):Int) < 6)=false:=rfl
   rw[gq6] at u
   obtain⟨q6,a4⟩:∃ q6:Gt,q6=⟨0,5,gDone,1,1,false,A,0,c,[],0,false,0,1,zg⟩:=⟨_,rfl⟩
   have u:Hid (Aw W base F x 15 I wr { sm0 with loc:=(Lc.takeR sm0.loc 0).1,live:=1,n:=1,D:=[(1,⟨1,0,0,0⟩)],S:=[1],L:=[(1,⟨0,0,false⟩)],T:=[(1,200)],ev:=[⟨0,0,1,0,1,0⟩] } q6.cells A2 6 c2 gsts):=Lh (by rw[a4]; exact u.out)
   have ai:Hid (∀ w,Calls Tryz.prog 12 #[q6.val] w fun e w'=>e=.returned (.tuple #[.int .u64 1,.int .i64 0])/\Below w.heap.size w w'):=Lh (fun w=>by rw[a4]; exact got_yes _ w (by kernel_rfl) (by kernel_rfl))
   have aJ:Hid (∀ w,Calls Tryz.prog 10 #[q6.val] w fun e w'=>e=.returned (.bool true)/\Below w.heap.size w w'):=Lh (fun w=>by have e:=gdone_get q6 w; rw[show (q6.st.toList == [100,111,110,101])=true from by rw[a4]; kernel_rfl] at e; exact e)
   clear a4 Y hk
   go_wp2_with (first
    | (refine ldB rt_gt rfl _ rfl I rfl q6.cells u.out.vb ?_))
   refine (ai.out _).mono ?_
   rintro e z ⟨rfl,b5⟩
   have u:=Lh (u.out.later b5)
   clear b5 ai
   have c11:=u.out.wv.cells.c11
   have aj:Hid (Calls Tryz.prog 14 #[ptr x.bk.p,.int .u64 1] z fun e w'=>e=.returned (.tuple #[.int .i64 0,.bool true])/\Below z.heap.size z w'):=Lh (Le.holder_any z x.bk _ _ _ _ 1 u.out.wv.book ⟨by decide,by decide⟩ 0 0 false true rfl rfl)
   go_wp2_with fail
   refine aj.out.mono ?_
   rintro e w6 ⟨rfl,b6⟩
   have u:=Lh (u.out.later b6)
   clear b6 aj c11
   go_wp2_with fail
   refine (Awake17_any w6 (HT.out.below u.out.bl)).mono ?_
   rintro e G ⟨rfl,b7⟩
   have u:=Lh (u.out.later b7)
   clear b7
   have a1:Hid (Rd Value.string G G.heap.size A2 6 c2 gsts):=Lh (Rd.own_rd u.out.own)
   have Q:Below G.heap.size G (G.alloc (.cells (gsts.map Value.string).toArray 9)):=(Below.refl _ G).alloc (Nat.le_refl _) _
   have aa:=Lh (rd_lit (enc:=Value.string) G gsts 6 rfl (by decide) 9)
   obtain⟨w8,a5⟩:∃ w8,G.alloc (.cells (gsts.map Value.string).toArray 9)=w8:=⟨_,rfl⟩
   rw[a5] at Q aa
   have a5:G.alloc (.cells #[.string ⟨#[115,116,97,114,116]⟩,.string ⟨#[110,101,97,114]⟩,.string ⟨#[115,110,97,112]⟩,.string ⟨#[103,114,111,119]⟩,.string ⟨#[111,112,101,110]⟩,.string ⟨#[112,117,98,108,105,115,104]⟩] 9)=w8:=a5
   have u:=Lh (u.out.later Q)
   have a1:=Lh (a1.out.later Q)
   clear Q
   go_wp2_with fail
   refine (strequal_same _ _ 6 _ _ gsts _ _ w8 a1.out aa.out).mono ?_
   rintro e w9 ⟨rfl,n9,rfl⟩
   have u:=Lh (u.out.later (Rw.bdN (Below.refl _ w8) n9))
   clear a1 aa a5
   obtain⟨w9,ae⟩:∃ w9,w8.drewN n9=w9:=⟨_,rfl⟩
   rw[ae] at u
   rw[ae]
   clear ae
   have z0:=u.out.vb.cell 0 _ rfl
   have z1:=u.out.vb.cell 1 _ rfl
   have z2:=u.out.vb.cell 2 _ rfl
   have z3:=u.out.vb.cell 3 _ rfl
   have z4:=u.out.vb.cell 4 _ rfl
   have z5:=u.out.vb.cell 5 _ rfl
   have z6:=u.out.vb.cell 6 _ rfl
   have z7:=u.out.vb.cell 7 _ rfl
   have z8:=u.out.vb.cell 8 _ rfl
   have z9:=u.out.vb.cell 9 _ rfl
   have aR:=u.out.vb.cell 10 _ rfl
   have aS:=u.out.vb.cell 11 _ rfl
   have aT:=u.out.vb.cell 12 _ rfl
   have aU:=u.out.vb.cell 13 _ rfl
   have aV:=u.out.vb.cell 14 _ rfl
   have aW:=u.out.vb.cell 15 _ rfl
   go_wp2_with fail
   refine (aJ.out _).mono ?_
   rintro e aY ⟨rfl,ao⟩
   have u:=Lh (u.out.later ao)
   clear ao z0 z1 z2 z3 z4 z5 z6 z7 z8 z9 aR aS aT aU aV aW
   go_wp2_with fail
   go_ret
   exact⟨rfl,u.out.bl⟩
end Go.Proofs.YtoiklelghfckgaaGreatDoor.Wo
end
section
set_option maxRecDepth 100000
set_option maxHeartbeats 8000000
set_option linter.unusedVariables false
namespace Go.Proofs.YtoiklelghfckgaaGreatDoor.Wo
open Go Go.ChangeShapes Go.WideShapes Go.ChangeAt Go.RowKit Go.Deep Go.Maps Rw Hi Mt Ba
open Cn (Cf cfE)
theorem under_rc:Tryz.prog.underlying 28=some (Tryz.prog.underlying 28).get!:=by kernel_rfl
theorem row_rc:((Tryz.prog.underlying 28).get!).isRow=true:=by kernel_rfl
theorem info_rc:(Tryz.prog.info? 28).map (·.size)=some 7:=by kernel_rfl
theorem exec_load_rc (h:Oper) (ev:Operand->Value) (y:Operand) (u:h.op=.load 28 y) {g:Nat} (hx:ev y=.pointer (some ⟨g,0,none⟩)) {w:World} {c:Cf} (hv:w.rangeAt g 0 (ccs c)):(execOp ev h).run Tryz.prog w=.ok (.value c.v) w:=by
 unfold execOp
 simp only[u,hx,Instr.loadAt,Instr.sureAddr,Sem.run_bind,Sem.run_pure,Result.andThen_ok,run_loadVar_mid (P:=Tryz.prog) w g 0 28 _ _ hv under_rc row_rc info_rc]
section
variable {ops:Array Oper} {rest:List Oper} {op:Oper} {a:Act} {w:World} {Q:Exit->Act->World->Prop}
theorem load_rc (u:op.guard=none) (y:Operand) (z:op.op=.load 28 y) (g:Nat) (hx:a.eval y=.pointer (some ⟨g,0,none⟩)) (c:Cf) (hv:w.rangeAt g 0 (ccs c))
  (h:wpList Tryz.prog ops Q rest (a.put op.dst c.v) w):wpList Tryz.prog ops Q (op :: rest) a w:=
 wpList_load_mid u 28 y z g 0 hx _ _ hv under_rc row_rc info_rc h
end
theorem range_blk {w w':World} {g:Nat} {cs:List Value} (h:w.rangeAt g 0 cs) (z:w'.heap[g]? = w.heap[g]?):w'.rangeAt g 0 cs:=fun j u F=>(World.cell?_of_block z).trans (h j u F)
theorem range_later {w w':World} {g:Nat} {c:Cf} (h:w.rangeAt g 0 (ccs c)) (u:Below w.heap.size w w'):w'.rangeAt g 0 (ccs c):=range_blk h (u.block _ (hr3lt h))
def ZW:List Value:=[.int .i64 0,.int .i64 0,.int .u64 0,.int .u64 0,.int .u64 0,.int .u64 0,.float .f64 0,.int .u64 0,.slice none 0 0,.slice none 0 0,.slice none 0 0,.slice none 0 0,.int .u64 0,.slice none 0 0,.slice none 0 0,.slice none 0 0,.slice none 0 0,.slice none 0 0,.slice none 0 0,.int .u64 0,.slice none 0 0,.int .i64 0,.bool false]
theorem boxes_n (c:Cf) (w:World):∃ W,(w.alloc (.cells #[.int .i64 c.max,.int .i64 c.min,.int .u64 c.idle,.int .u64 c.life,.int .u64 c.keep,.int .u64 c.leak,.float .f64 c.var] 28)).alloc (.cells #[.int .i64 0,.int .i64 0,.int .u64 0,.int .u64 0,.int .u64 0,.int .u64 0,.float .f64 0,.int .u64 0,.slice none 0 0,.slice none 0 0,.slice none 0 0,.slice none 0 0,.int .u64 0,.slice none 0 0,.slice none 0 0,.slice none 0 0,.slice none 0 0,.slice none 0 0,.slice none 0 0,.int .u64 0,.slice none 0 0,.int .i64 0,.bool false] 46)=W /\
  W.rangeAt w.heap.size 0 (ccs c)/\W.there (w.heap.size+1) 0 23/\Below w.heap.size w W/\W.heap.size=w.heap.size+2:=by
 obtain⟨h,z⟩:∃ h,w.alloc (.cells #[.int .i64 c.max,.int .i64 c.min,.int .u64 c.idle,.int .u64 c.life,.int .u64 c.keep,.int .u64 c.leak,.float .f64 c.var] 28)=h:=⟨_,rfl⟩
 have Y:h.heap[w.heap.size]? = some (.cells #[.int .i64 c.max,.int .i64 c.min,.int .u64 c.idle,.int .u64 c.life,.int .u64 c.keep,.int .u64 c.leak,.float .f64 c.var] 28):=z ▸ heap_alloc_last _ _
 have hr:h.rangeAt w.heap.size 0 (ccs c):=fun j u hj=>by
  rw[cell_of_row _ _ _ _ _ _ Y]; simpa using hj
 have b1:Below w.heap.size w h:=z ▸ (Below.refl _ _).alloc (Nat.le_refl _) _
 have s1:h.heap.size=w.heap.size+1:=by rw[<- z]; simp
 rw[z]
 obtain⟨I,J,G,F,s2⟩:=box_w ZW h rfl
 rw[s1] at G
 exact⟨I,J,range_later hr F,G.th,b1.trans (F.mono b1.size),by omega⟩
abbrev newS (c:Cf) (O P:List Bool):Ws:=⟨c,0,[],[],fun _=>[],[],c.leak,[],[],[],O,P,0,[],0,[],0,false⟩
end Go.Proofs.YtoiklelghfckgaaGreatDoor.Wo
namespace Go.Proofs.YtoiklelghfckgaaGreatDoor.St
open Go.ChangeShapes Go.WideShapes Go.ChangeAt Go.RowKit Go.Deep Rw Hi
theorem rparkK_any (w:World) {K:Nat->Prop} (a1:∀ g,w.heap.size<=g->K g) (A:Option Addr) (n c:Nat) (l:List Sx) (t d:Int) (hk:Kn K n A) (h:Rs enc3 3 w w.heap.size A n c l) (hn:n<=1000) :
  Calls Tryz.prog 85 #[.slice A n c,.int .i64 t,.int .u64 d] w fun e w'=>∃ A' n' c',e=.returned (.tuple #[.slice A' n' c',.int .i64 (parkE l t)])/\Rs enc3 3 w' w'.heap.size A' n' c' (parkL l t d)/\Kn K n' A'/\Below w.heap.size w w':=by
 obtain⟨i0,hi,a7,a8,a9⟩:=info_parts info_rslot
 have z:=Lh h
 have ad:=Lh h.len
 clear h
 have ac:=Lh a1
 clear a1
 cases hf:l.findIdx? (hit t) with
 | some k=>
  obtain⟨F,G⟩:=park_hit (d:=d) hf
  have J:=Lh (ixZ_some hf)
  rw[F,G]
  clear F G hf
  go_enter Tryz.func85,Tryz.ntmps85
  go_wp2_with fail
  refine (rof_any A n c _ l t w z.out (Nat.le_refl _)).mono ?_
  rw[J.out]
  rintro e w1 ⟨rfl,u⟩
  go_wp2_with fail
  go_ret2
  exact⟨A,n,c,rfl,z.out.later u,hk,u⟩
 | none=>
  obtain⟨F,G⟩:=park_miss (d:=d) hf
  have J:=Lh (ixZ_none hf)
  rw[F,G]
  clear F G hf
  go_enter Tryz.func85,Tryz.ntmps85
  go_wp2_with fail
  refine (rof_any A n c _ l t w z.out (Nat.le_refl _)).mono ?_
  rw[J.out]
  rintro e w1 ⟨rfl,u⟩
  have a6:=u.size
  have R1:=Lh (z.out.later u)
  have B1:=Lh u
  clear u z
  go_wp2_with (
   at_builtin
   refine apRs enc3_len rfl _ _ 34 rfl w.heap.size 231 i0 _ 24 Tryz.underlying34 hi a7 a8 a9 rfl (by decide) (.slice none 0 0) 0 [] rfl (World.ownsRow_nil _ _ _ _) _ A n c l rfl R1.out enc3_one n (Nat.zero_add _) (flat enc3 l) rfl (by unfold maxLen; omega) (by omega) a6 ?_
   intro A2 c2 I a4 a2 ah
   refine Hid.out ?_)
  refine Lh ?_
  have B2:=Lh (B1.out.grown a2 a6 (fun j W=>by cases W))
  have aj:=B2.out.size
  have a0:=Lh (a4.alloc (.cells #[.int .i64 t,.int .u64 d,.int .u64 0] 231))
  have B3:=Lh (B2.out.alloc aj (.cells #[.int .i64 t,.int .u64 d,.int .u64 0] 231))
  have a5:Rs enc3 3 (I.alloc (.cells #[.int .i64 t,.int .u64 d,.int .u64 0] 231)) (I.heap.size+1) (some ⟨I.heap.size,0,none⟩) 1 1 [(t,d,0)]:=rs_one enc3_len I (t,d,0) 231 (cs:=#[.int .i64 t,.int .u64 d,.int .u64 0]) rfl
  have ag:=Lh a5
  clear a4 a2 ah a5 B1 R1
  go_wp2_with (
   at_builtin
   refine apRs enc3_len rfl _ _ 34 rfl w.heap.size 231 i0 _ 24 Tryz.underlying34 hi a7 a8 a9 rfl (by decide) (.slice A2 n c2) n _ rfl a0.out _ _ 1 1 [(t,d,0)] rfl ag.out enc3_one (n+1) rfl (flat enc3 (l ++ [(t,d,0)])) (flA _ _).symm (by unfold maxLen; omega) (by omega) (by simp; omega) ?_
   intro A3 c3 w3 Y a3 ai
   have af:=Lh (Rs.own_rs enc3_len (xs:=l ++ [(t,d,0)]) (by simp[ad.out]) Y)
   have ae:=Lh Y.lt
   have aa:=Lh (B3.out.grown a3 (by simp; omega) (fun j W=>(a0.out.lt j W).1))
   clear Y a3 ai)
  go_ret2
  exact⟨A3,n+1,c3,rfl,af.out,(fun _ a e=>ac.out _ (by subst e; exact (ae.out _ rfl).1)),aa.out⟩
end Go.Proofs.YtoiklelghfckgaaGreatDoor.St
namespace Go.Proofs.YtoiklelghfckgaaGreatDoor.Wo
open Go Go.ChangeShapes Go.WideShapes Go.ChangeAt Go.RowKit Go.Deep Go.Maps Rw Hi Mt Ba
open Cn (Cf cfE)
theorem dnew_dw {K:Nat->Prop} {w:World} {c:Cf} {G:Option Addr} {cl:Nat} {vs:List Lc.Sv} {h Ap:Option Addr} {no u F z:Nat} {O P:List Bool} (W:Lk.Dc K w G cl vs (fun _=>[])) (I:Fk.Rn K w h no u O) (J:Fk.Rn K w Ap F z P) :
  Dw K w ⟨⟨none,0,0,none,0,0⟩,G,8,cl,vs,none,0,0,⟨none,0,0,none,0,0,none,0,0⟩,h,no,u,Ap,F,z,none,0,none,0,0⟩ (newS c O P) []:=by
 exact⟨Dq.nil_,W,Rs.nil_,Kn.nil_,⟨Rs.nil_,Rd.nil_,Rs.nil_,.inl ⟨rfl,rfl⟩,.inl ⟨rfl,rfl⟩,Kn.nil_,Kn.nil_,Kn.nil_⟩,⟨⟨h,no,u,Ap,F,z,none,0,[],rfl,I,J,Fk.Rn.nil_ _ _,Fc.Sh.nil_⟩⟩,Rs.nil_,Kn.nil_,rfl⟩
section
variable {K:Nat->Prop} (w:World)
theorem dnew_any (c:Cf) (hc:c.ok) (h0:cfE c=0) (ak:∀ g,w.heap.size<=g->K g) (G Ap:Option Addr) (no I Y J:Nat) (O P:List Bool) (hO:Fk.Rn K w G no I O) (hP:Fk.Rn K w Ap Y J P) :
  Calls Tryz.prog 33 #[c.v,.slice G no I,.slice Ap Y J] w fun e w'=>∃ v':Dv,e=.returned (.tuple #[v'.val (newS c O P),.int .i64 0])/\Dw K w' v' (newS c O P) [] /\ Below w.heap.size w w':=by
 obtain⟨z,al,V1,T1,B1,S1⟩:=boxes_n c w
 have ad:Hid (∀ g,z.heap.size<=g->Ks K w g):=Lh (fun g W=>⟨ak g (by omega),by omega,by omega⟩)
 have af:Hid (Fk.Rn (Ks K w) z G no I O):=Lh ((rn_mono hO (fun g W hk=>⟨hk,by omega,by omega⟩)).below B1)
 have ag:Hid (Fk.Rn (Ks K w) z Ap Y J P):=Lh ((rn_mono hP (fun g W hk=>⟨hk,by omega,by omega⟩)).below B1)
 have HC:=Lh hc
 have H0:=Lh h0
 have a7:=Lh V1
 have a6:=Lh T1
 have a3:=Lh B1
 clear V1 T1 B1 hc h0 hO hP
 go_enter Tryz.func33,Tryz.ntmps33
 go_upto_region 1 with (fail)
 clear al
 go_wp2_with (first
  | (refine load_rc rfl _ rfl w.heap.size rfl c a7.out ?_))
 have a1:=Cn.rcheck13_any c HC.out z
 rw[H0.out] at a1
 refine a1.mono ?_
 rintro e w2 ⟨rfl,b2⟩
 have a4:=Lh b2
 have ai:=Lh (range_later a7.out b2)
 have aq:=Lh (th_later a6.out b2)
 clear b2 a1
 go_wp2_with fail
 have a5:Hid (Below z.heap.size z w2.drew):=Lh (a4.out.trans ((Below.refl _ _).drew))
 have h:Hid (w2.drew.rangeAt w.heap.size 0 (ccs c)):=Lh (range_blk ai.out rfl)
 refine rgS 11 (fun w'=>w'.rangeAt w.heap.size 0 (ccs c)) (by kernel_rfl) (by kernel_rfl) ?_
 intro a9
 have u:=Lh a9
 clear a9
 refine rl 0 u.out h.out rfl ?_
 apply Exists.intro
 refine⟨fun w' hw=>exec_load_rc _ _ _ rfl rfl hw,?_⟩
 refine rq 2 u.out h.out rfl ?_
 refine rq 3 u.out h.out rfl ?_ (hv:=fun w' hw=>by (have kc:w'.cell? ⟨w.heap.size,5,none⟩=some (.int .u64 c.leak):=(by have:=hw 5 _ rfl; simpa using this); go_simp; exact rfl))
 refine rq 4 u.out h.out rfl ?_
 refine rq 5 u.out h.out rfl ?_
 refine rq 6 u.out h.out rfl ?_
 refine rq 7 u.out h.out rfl ?_
 refine rO 1 rfl (by kernel_rfl) rfl ?_
 unfold Oper.wp
 go_simp
 refine (Lk.rnew_any (K:=Ks K w) w2.drew (fun g W=>ad.out g (by have:=a4.out.size; have W:w2.heap.size<=g:=W; omega))).mono ?_
 rintro e w3 ⟨Al,cl,vs,rfl,aa,b3⟩
 have F:w3.rangeAt w.heap.size 0 (ccs c):=range_later h.out b3
 refine⟨F,?_⟩
 clear h
 have h:=Lh F
 have ae:=Lh aa
 have a0:Hid (Below z.heap.size z w3):=Lh (a5.out.trans (b3.mono a5.out.size))
 have ah:=Lh (th_later a6.out a0.out)
 clear F aa b3
 refine rq 8 u.out h.out rfl ?_
 refine rO 9 rfl (by kernel_rfl) rfl ?_
 refine wp_store_w _ _ rfl (w.heap.size+1) rfl ⟨⟨none,0,0,none,0,0⟩,Al,8,cl,vs,none,0,0,⟨none,0,0,none,0,0,none,0,0⟩,G,no,I,Ap,Y,J,none,0,none,0,0⟩ (newS c O P) rfl ah.out ?_
 intro w4 ac a2
 have F:w4.rangeAt w.heap.size 0 (ccs c):=range_blk h.out (a2.block _ (hr3lt h.out) (by simp))
 refine⟨fun _=>F,?_⟩
 clear h
 have h:=Lh F
 have aj:=Lh ac
 have a8:=Lh a2
 clear F ac a2
 refine rq 10 u.out h.out rfl ?_
 refine rgD (by kernel_rfl) ?_
 go_wp2_with fail
 have ao:Dw (Ks K w) w3 ⟨⟨none,0,0,none,0,0⟩,Al,8,cl,vs,none,0,0,⟨none,0,0,none,0,0,none,0,0⟩,G,no,I,Ap,Y,J,none,0,none,0,0⟩ (newS c O P) []:=dnew_dw ae.out (af.out.below a0.out) (ag.out.below a0.out)
 have an:Below w.heap.size w w3:=a3.out.trans (a0.out.mono a3.out.size)
 exact bodyPost_ret (v:=.tuple #[Dv.val _ (newS c O P),.int .i64 0]) (res_w2 _ _ (w.heap.size+1) _ _ Tryz.results33 rfl aj.out) rfl ⟨_,rfl,end_w ao (fz1 a8.out (.inr rfl)),fz_low (fz1 a8.out (.inr rfl)) an⟩
theorem dpark_any (v:Dv) (s:Ws) (N:List Int) (h:Dw K w v s N) (a7:∀ g,w.heap.size<=g->K g) (t d:Int) (hn:s.sl.length<=1000) :
  Calls Tryz.prog 36 #[v.val s,.int .i64 t,.int .u64 d] w fun e w'=>∃ v':Dv,e=.returned (v'.val { s with sl:=St.parkL s.sl t d })/\Dw K w' v' { s with sl:=St.parkL s.sl t d } N/\Below w.heap.size w w':=by
 obtain⟨W1,aj,V1,T1,Y,S1⟩:=boxes_w (v.cells s) w rfl
 obtain⟨d1,k1⟩:=start_w h a7 Y S1
 have J:=Lh d1
 have ae:=Lh k1
 have a4:=Lh V1
 have a2:=Lh T1
 have a0:=Lh Y
 have a1:=V1.cell 11 _ rfl
 clear V1 T1 Y d1 k1 h a7
 go_enter Tryz.func36,Tryz.ntmps36
 go_upto_region 1 with (fail)
 clear aj
 go_wp2_with fail
 refine (St.rparkK_any W1 ae.out v.sA v.sn v.sc s.sl t d J.out.sk J.out.sl (by have:=J.out.sl.len; omega)).mono ?_
 rintro e G ⟨A',z,u,rfl,a8,ak,I⟩
 have ad:Hid (Dw (Ks K w) G { v with sA:=A',sn:=z,sc:=u } { s with sl:=St.parkL s.sl t d } N):=Lh (by
  have F:=J.out.later I
  exact⟨F.bag,F.loc,a8,ak,F.book,F.fact,F.hist,F.hk,F.l8⟩)
 have W:=Lh (a4.out.later I)
 have a3:=Lh (th_later a2.out I)
 have ac:=Lh (a0.out.trans (I.mono a0.out.size))
 have al:=I.size
 clear a8 I J a4 a2 a0 a1
 have a1:=W.out.cell 11 _ rfl
 have ai:=W.out.free 11 (by decide)
 go_upto_region 2 with (fail)
 have ag:Hid (Vw (G.setCell ⟨w.heap.size,11,none⟩ (.slice A' z u)) w.heap.size (Dv.cells { v with sA:=A',sn:=z,sc:=u } { s with sl:=St.parkL s.sl t d })):=Lh (W.out.set 11 (by simp[cells_len]) (.slice A' z u))
 have af:Hid ((G.setCell ⟨w.heap.size,11,none⟩ (.slice A' z u)).there (w.heap.size+1) 0 23):=Lh (th_set (j:=11) a3.out (r:=w.heap.size) (by omega) (.slice A' z u))
 have a5:Hid (Fz (Bx2 w) G (G.setCell ⟨w.heap.size,11,none⟩ (.slice A' z u))):=Lh ((Fz.refl _ G).trans (fz_set (j:=11) (.slice A' z u) (.inl rfl)))
 generalize (G.setCell ⟨w.heap.size,11,none⟩ (.slice A' z u))=W4 at *
 clear W a3 a1 ai
 go_wp2_with (first
  | (refine load_w rfl _ rfl w.heap.size rfl { v with sA:=A',sn:=z,sc:=u } { s with sl:=St.parkL s.sl t d } ag.out ?_)
  | (refine store_w rfl _ _ rfl (w.heap.size+1) rfl { v with sA:=A',sn:=z,sc:=u } { s with sl:=St.parkL s.sl t d } rfl af.out ?_; intro w9 a9 aa; have ah:=Lh a9; have a6:=Lh aa; clear a9 aa))
 exact bodyPost_ret (v:=Dv.val { v with sA:=A',sn:=z,sc:=u } { s with sl:=St.parkL s.sl t d }) (res_w _ _ (w.heap.size+1) _ _ Tryz.results36 rfl ah.out) rfl ⟨{ v with sA:=A',sn:=z,sc:=u },rfl,end_w ad.out (a5.out.trans (fz1 a6.out (.inr rfl))),fz_low (a5.out.trans (fz1 a6.out (.inr rfl))) ac.out⟩
theorem dmark_any (v:Dv) (s:Ws) (N:List Int) (h:Dw K w v s N) (a9:∀ g,w.heap.size<=g->K g) (id th:Int) (ar:Mt.Nd s.L) (hn:s.L.length<=1000) (au:N.length<=1000) (av:s.T.length<=1000) :
  Calls Tryz.prog 38 #[v.val s,.int .u64 id,.int .i64 th] w fun e w'=>∃ v':Dv,e=.returned (v'.val s)/\Dw K w' v' s (mrkN s.L N id th)/\Below w.heap.size w w':=by
 obtain⟨W1,aq,I,T1,W,S1⟩:=boxes_w (v.cells s) w rfl
 obtain⟨d1,k1⟩:=start_w h a9 W S1
 have G:=Lh d1
 have ag:=Lh k1
 have a6:=Lh I
 have a4:=Lh T1
 have Y:=Lh W
 have a0:=I.cell 12 _ rfl
 have a1:=I.cell 13 _ rfl
 have a2:=I.cell 14 _ rfl
 have a3:=I.cell 15 _ rfl
 clear I T1 W d1 k1 h a9
 go_enter Tryz.func38,Tryz.ntmps38
 go_upto_region 1 with (fail)
 clear aq
 go_wp2_with fail
 refine (Le.rmark_any s.leak v.k.A v.k.A2 v.k.A3 v.k.n v.k.c v.k.n2 v.k.c2 v.k.n3 v.k.c3 s.L N s.T W1 id th G.out.book ag.out ar (by have:=G.out.book.l.len; omega) (by have:=G.out.book.m.len; omega) (by have:=G.out.book.t.len; omega)).mono ?_
 rintro e F ⟨d,rfl,aa,J⟩
 have af:Hid (Dw (Ks K w) F { v with k:=d } s (mrkN s.L N id th)):=Lh (by
  have z:=G.out.later J
  exact⟨z.bag,z.loc,z.sl,z.sk,aa,z.fact,z.hist,z.hk,z.l8⟩)
 have u:=Lh (a6.out.later J)
 have a5:=Lh (th_later a4.out J)
 have ae:=Lh (Y.out.trans (J.mono Y.out.size))
 have aw:=J.size
 clear aa J G a6 a4 Y a0 a1 a2 a3
 have a0:=u.out.cell 12 _ rfl
 have ak:=u.out.free 12 (by decide)
 have a1:=u.out.cell 13 _ rfl
 have al:=u.out.free 13 (by decide)
 have a2:=u.out.cell 14 _ rfl
 have an:=u.out.free 14 (by decide)
 have a3:=u.out.cell 15 _ rfl
 have ao:=u.out.free 15 (by decide)
 go_upto_region 2 with (fail)
 have ai:Hid (Vw ((((F.setCell ⟨w.heap.size,12,none⟩ (.int .u64 s.leak)).setCell ⟨w.heap.size,13,none⟩ (.slice d.A d.n d.c)).setCell ⟨w.heap.size,14,none⟩ (.slice d.A2 d.n2 d.c2)).setCell ⟨w.heap.size,15,none⟩ (.slice d.A3 d.n3 d.c3)) w.heap.size (Dv.cells { v with k:=d } s)):=Lh ((((u.out.set 12 (by simp[cells_len]) (.int .u64 s.leak)).set 13 (by simp[cells_len]) (.slice d.A d.n d.c)).set 14 (by simp[cells_len]) (.slice d.A2 d.n2 d.c2)).set 15 (by simp[cells_len]) (.slice d.A3 d.n3 d.c3))
 have ah:Hid (((((F.setCell ⟨w.heap.size,12,none⟩ (.int .u64 s.leak)).setCell ⟨w.heap.size,13,none⟩ (.slice d.A d.n d.c)).setCell ⟨w.heap.size,14,none⟩ (.slice d.A2 d.n2 d.c2)).setCell ⟨w.heap.size,15,none⟩ (.slice d.A3 d.n3 d.c3)).there (w.heap.size+1) 0 23):=Lh (th_set (j:=15) (th_set (j:=14) (th_set (j:=13) (th_set (j:=12) a5.out (r:=w.heap.size) (by omega) (.int .u64 s.leak)) (r:=w.heap.size) (by omega) (.slice d.A d.n d.c)) (r:=w.heap.size) (by omega) (.slice d.A2 d.n2 d.c2)) (r:=w.heap.size) (by omega) (.slice d.A3 d.n3 d.c3))
 have a7:Hid (Fz (Bx2 w) F ((((F.setCell ⟨w.heap.size,12,none⟩ (.int .u64 s.leak)).setCell ⟨w.heap.size,13,none⟩ (.slice d.A d.n d.c)).setCell ⟨w.heap.size,14,none⟩ (.slice d.A2 d.n2 d.c2)).setCell ⟨w.heap.size,15,none⟩ (.slice d.A3 d.n3 d.c3))):=Lh (((((Fz.refl _ F).trans (fz_set (j:=12) (.int .u64 s.leak) (.inl rfl))).trans (fz_set (j:=13) (.slice d.A d.n d.c) (.inl rfl))).trans (fz_set (j:=14) (.slice d.A2 d.n2 d.c2) (.inl rfl))).trans (fz_set (j:=15) (.slice d.A3 d.n3 d.c3) (.inl rfl)))
 generalize ((((F.setCell ⟨w.heap.size,12,none⟩ (.int .u64 s.leak)).setCell ⟨w.heap.size,13,none⟩ (.slice d.A d.n d.c)).setCell ⟨w.heap.size,14,none⟩ (.slice d.A2 d.n2 d.c2)).setCell ⟨w.heap.size,15,none⟩ (.slice d.A3 d.n3 d.c3))=W4 at *
 clear u a5 a0 ak a1 al a2 an a3 ao
 go_wp2_with (first
  | (refine load_w rfl _ rfl w.heap.size rfl { v with k:=d } s ai.out ?_)
  | (refine store_w rfl _ _ rfl (w.heap.size+1) rfl { v with k:=d } s rfl ah.out ?_; intro w9 ac ad; have aj:=Lh ac; have a8:=Lh ad; clear ac ad))
 exact bodyPost_ret (v:=Dv.val { v with k:=d } s) (res_w _ _ (w.heap.size+1) _ _ Tryz.results38 rfl aj.out) rfl ⟨{ v with k:=d },rfl,end_w af.out (a7.out.trans (fz1 a8.out (.inr rfl))),fz_low (a7.out.trans (fz1 a8.out (.inr rfl))) ae.out⟩
end
end Go.Proofs.YtoiklelghfckgaaGreatDoor.Wo
end
section
set_option maxRecDepth 100000
set_option maxHeartbeats 40000000
set_option linter.unusedVariables false
namespace Go.Proofs.YtoiklelghfckgaaGreatDoor.Wo
open Go Go.ChangeShapes Go.WideShapes Go.ChangeAt Go.RowKit Go.Deep Go.Maps Rw Hi Mt Ba
open Cn (Cf cfE)
def tri (i:Nat) (st:Int):List Ay:=[⟨1,0,0,0,0⟩,⟨3,0,0,0,st⟩,⟨4,(i:Int)+1,0,0,0⟩]
def acts1 (l:List Int) (k:Nat):List Ay:=(List.range k).flatMap fun i=>tri i (l.getD i 0 % 4)
def lsA (m:Int):Ay:=⟨5,m % 8+1,0,m % 8,0⟩
theorem acts1_succ (l:List Int) (k:Nat):acts1 l (k+1)=acts1 l k ++ tri k (l.getD k 0 % 4):=by
 unfold acts1; rw[List.range_succ,List.flatMap_append]; simp
theorem acts1_len (l:List Int) (k:Nat):(acts1 l k).length=3 * k:=by
 induction k with
 | zero=>rfl
 | succ k ih=>rw[acts1_succ,List.length_append,ih]; show 3 * k+3=_; omega
def parkW (s:Ws) (t:Int):Ws:={ s with sl:=St.parkL s.sl (t % 8) 9 }
def markW (q:Ws × List Int) (m:Int):Ws × List Int:=if 128<=m then q else ({ q.1 with M:=Le.mk (mrkN q.1.L q.2 (m % 8+1) (m % 8)) },mrkN q.1.L q.2 (m % 8+1) (m % 8))
abbrev c8:Cf:=⟨8,1,100,1000,50,200,4598175219545276416⟩
def bgnA (ss ms:List Int):List Ay:=acts1 ss ss.length ++ ms.map lsA
def bgn1 (ss ms:List Int):Ws:=(bgnA ss ms).foldl playS (newS c8 [] [])
def bgn2 (ss ws ms:List Int):Ws:=ws.foldl parkW (bgn1 ss ms)
def bgn3 (ss ws ms:List Int):Ws × List Int:=ms.foldl markW (bgn2 ss ws ms,[])
def bgnS (ss ws ms:List Int) (cl:Bool):Ws:={ (bgn3 ss ws ms).1 with closed:=cl }
def bgnN (ss ws ms:List Int):List Int:=(bgn3 ss ws ms).2
theorem foldl_take {α β:Type} (f:β->α->β) (b:β) {l:List α} {k:Nat} {x:α} (h:l[k]? = some x):(l.take (k+1)).foldl f b=f ((l.take k).foldl f b) x:=by
 rw[List.take_add_one,h,List.foldl_append]; rfl
def okA (y:Ay):Prop:=y.ok/\(y.do_ % 8=1\/y.do_ % 8=3\/y.do_ % 8=4\/y.do_ % 8=5)
theorem ay_ok {d i n t s:Int} (h:0<=d/\d<=255) (hi:0<=i/\i<=18446744073709551615) (hn:0<=n/\n<=18446744073709551615) (z:-9223372036854775808<=t/\t<=9223372036854775807) (u:-9223372036854775808<=s/\s<=9223372036854775807):(⟨d,i,n,t,s⟩:Ay).ok:=⟨h,hi,hn,z,u⟩
theorem tri_ok (i:Nat) (hi:i<=1000) (st:Int) (u:0<=st/\st < 4):∀ y∈tri i st,okA y:=by
 intro y h
 have:y=⟨1,0,0,0,0⟩\/y=⟨3,0,0,0,st⟩\/y=⟨4,(i:Int)+1,0,0,0⟩:=by simpa [tri] using h
 rcases this with rfl | rfl | rfl
 .exact⟨ay_ok (by decide) (by decide) (by decide) (by decide) (by decide),.inl (by decide)⟩
 .exact⟨ay_ok (by decide) (by decide) (by decide) (by decide) ⟨by omega,by omega⟩,.inr (.inl (show (3:Int) % 8=3 by decide))⟩
 .exact⟨ay_ok (by decide) ⟨by omega,by omega⟩ (by decide) (by decide) (by decide),.inr (.inr (.inl (show (4:Int) % 8=4 by decide)))⟩
theorem acts1_ok (l:List Int) (k:Nat) (hk:k<=1000):∀ y∈acts1 l k,okA y:=by
 intro y h
 obtain⟨i,hi,h⟩:=List.mem_flatMap.1 h
 exact tri_ok i (by have:=List.mem_range.1 hi; omega) _ ⟨by omega,by omega⟩ y h
theorem lsA_ok (m:Int):okA (lsA m):=⟨ay_ok (by decide) ⟨by omega,by omega⟩ (by decide) ⟨by omega,by omega⟩ (by decide),.inr (.inr (.inr (show (5:Int) % 8=5 by decide)))⟩
theorem bgnA_ok (z F:List Int) (h:z.length<=1000):∀ y∈bgnA z F,okA y:=by
 intro y u
 rcases List.mem_append.1 u with u | u
 .exact acts1_ok z _ h y u
 .obtain⟨m,_,rfl⟩:=List.mem_map.1 u
  exact lsA_ok m
theorem Pl.new:Pl (newS c8 [] []) [] 0:=
 ⟨rfl,by decide,by decide,⟨by decide,by decide⟩,⟨by decide,by decide⟩,Nat.le_refl _,Nat.le_refl _,Nat.le_refl _,Nat.le_refl _,Nat.le_refl _,Nat.le_refl _,Nat.le_refl _,List.Pairwise.nil,List.Pairwise.nil,fun i hi=>by cases hi⟩
theorem playS_cl {s:Ws} {y:Ay} : (playS s y).closed=s.closed:=by
 unfold playS
 repeat' split
 all_goals rfl
theorem acts_pl (l:List Ay) (z:∀ y∈l,okA y) (k:Nat) (hk:k<=l.length) (F:l.length<=900):Pl ((l.take k).foldl playS (newS c8 [] [])) [] k/\((l.take k).foldl playS (newS c8 [] [])).closed=false:=by
 induction k with
 | zero=>exact⟨Pl.new,rfl⟩
 | succ k ih=>
  obtain⟨h,u⟩:=ih (by omega)
  have hx:=List.getElem?_eq_getElem (show k < l.length by omega)
  rw[foldl_take playS _ hx]
  exact⟨h.play (by omega) (z _ (List.getElem_mem _)).1,by rw[playS_cl]; exact u⟩
section
variable {w w':World} {base:Nat} {col col':Nat->Nat} {x:Wp} {s:Ws} {d:Nat} {v:Dv} {y:Ay} {N:List Int} {k:Nat}
theorem Tw.later (h:Tw base col w x v d s N) (u:Below w.heap.size w w'):Tw base col w' x v d s N:=⟨h.wv.later u,h.dw.later u,h.vw.later u,h.c8⟩
theorem play_ok (w:World) (h:Tw base col w x v d s N) (z:Pl s N k) (hk:k<=900) (F:N.length<=900) (u:okA y) (hc:s.closed=false):Plays w base col x s d y N:=by
 rcases u.2 with e | e | e | e
 .exact playT1 w h z u.1 e
 .exact playT3 w h z hk F u.1 e
 .exact playT4 w h z hk F u.1 e hc
 .exact playT5 w h z hk F u.1 e
theorem rs_of (w:World) {α:Type} {enc:α->List Value} {h:Nat} (I:∀ x,(enc x).length=h) (Y:0 < h) (xs:List α) (n:Nat) (hn:xs.length=n) (F:n<=9223372036854775807) (t:TypeId) {cs:Array Value} (G:cs.toList=flat enc xs):Rs enc h (w.alloc (.cells cs t)) (w.heap.size+1) (some ⟨w.heap.size,0,none⟩) n n xs:=by
 refine⟨hn,Nat.le_refl _,F,fun _=>⟨w.heap.size,0,rfl,by omega,fun j x hx i u hi W=>?_⟩⟩
 have J:=flat_at I xs j x i hx hi
 have z:(w.alloc (.cells cs t)).heap[w.heap.size]? = some (.cells cs t):=heap_alloc_last _ _
 rw[Nat.zero_add,cell_of_row _ _ _ _ _ _ z,<- Array.getElem?_toList,G,J]
 exact W
end
theorem encY_one:∀ y,∀ u∈encY y,u.oneCell'=true:=by
 intro y u h
 simp[encY] at h
 rcases h with rfl | rfl | rfl | rfl | rfl <;> rfl
theorem range_set0 {w:World} {g:Nat} {c:Cf} (h:w.rangeAt g 0 (ccs c)) (n:Int):(w.setCell ⟨g,0,none⟩ (.int .i64 n)).rangeAt g 0 (ccs { c with max:=n }):=by
 have k:∀ o u,o≠0->w.cell? ⟨g,o,none⟩=some u->(w.setCell ⟨g,0,none⟩ (.int .i64 n)).cell? ⟨g,o,none⟩=some u:=fun o u G F=>(World.cell?_setCell_other _ _ _ _ (fun e=>by injection e with _ e _; omega)).trans F
 have r:∀ j u,(ccs c)[j]? = some u->w.cell? ⟨g,j,none⟩=some u:=fun j u z=>by have:=h j u z; rwa [Nat.zero_add] at this
 intro j u z
 rw[Nat.zero_add]
 match j,z with
 | 0,z=>injection z with z; subst z; exact World.cell?_setCell_same _ _ _ (r 0 _ rfl)
 | 1,z=>exact k 1 u (by decide) (r 1 u z)
 | 2,z=>exact k 2 u (by decide) (r 2 u z)
 | 3,z=>exact k 3 u (by decide) (r 3 u z)
 | 4,z=>exact k 4 u (by decide) (r 4 u z)
 | 5,z=>exact k 5 u (by decide) (r 5 u z)
 | 6,z=>exact k 6 u (by decide) (r 6 u z)
end Go.Proofs.YtoiklelghfckgaaGreatDoor.Wo
namespace Go.Proofs.YtoiklelghfckgaaGreatDoor.Wo
open Go Go.ChangeShapes Go.WideShapes Go.ChangeAt Go.RowKit Go.Maps Rw Hi Mt Ba
open Cn (Cf cfE)
theorem new_ok2 (R base':Nat) (c:Cf) (hc:c.ok) (h0:cfE c=0) (A A':Option Addr) (k cp B k' a2 B':Nat) (O P:List Bool) (w:World) (an:R < w.heap.size) (ao:base'<=R) (hO:Rd Value.bool w B A k cp O) (hP:Rd Value.bool w B' A' k' a2 P) (hB:B<=w.heap.size) (a3:B'<=w.heap.size) (hk:k<=1000) (ad:k'<=1000) :
  Calls Tryz.prog 29 #[c.v,.slice A k cp,.slice A' k' a2] w fun e w'=>∃ (x:Wp) (col:Nat->Nat),e=.returned (.tuple #[ptr x.pw,.int .i64 0]) /\
   Wo base' col w' x ⟨c,0,[],[],fun _=>[],[],c.leak,[],[],[],O,P,0,[],0,[],0,false⟩/\col R=8/\Below w.heap.size w w':=by
 have HC:=Lh hc
 have a1:=Lh (Cn.ccheck_any c hc (w.alloc (.cells #[.int .i64 c.max,.int .i64 c.min,.int .u64 c.idle,.int .u64 c.life,.int .u64 c.keep,.int .u64 c.leak,.float .f64 c.var] 50)))
 rw[h0] at a1
 have HO:=Lh hO
 have HP:=Lh hP
 have a6:=Lh hB
 have a7:=Lh a3
 clear h0 hc hO hP
 go_enter Tryz.func29,Tryz.ntmps29
 go_wp2_with fail
 refine a1.out.mono ?_
 rintro e w1 ⟨rfl,b1⟩
 have a5:Below w.heap.size w (w.alloc (.cells #[.int .i64 c.max,.int .i64 c.min,.int .u64 c.idle,.int .u64 c.life,.int .u64 c.keep,.int .u64 c.leak,.float .f64 c.var] 50)):=(Below.refl _ w).alloc (Nat.le_refl _) _
 have J:=Lh (a5.trans (b1.mono a5.size))
 have aa:=Lh (J.out.mono hB)
 have ac:=Lh (J.out.mono a3)
 have a9:w.heap.size < w1.heap.size:=by have:=b1.size; simp at this; omega
 have V0:=Lh ((b1.cell (p:=⟨w.heap.size,0,none⟩) (by simp)).trans (show _=some (.int .i64 c.max) by go_simp))
 have V1:=Lh ((b1.cell (p:=⟨w.heap.size,1,none⟩) (by simp)).trans (show _=some (.int .i64 c.min) by go_simp))
 have V2:=Lh ((b1.cell (p:=⟨w.heap.size,2,none⟩) (by simp)).trans (show _=some (.int .u64 c.idle) by go_simp))
 have V3:=Lh ((b1.cell (p:=⟨w.heap.size,3,none⟩) (by simp)).trans (show _=some (.int .u64 c.life) by go_simp))
 have V4:=Lh ((b1.cell (p:=⟨w.heap.size,4,none⟩) (by simp)).trans (show _=some (.int .u64 c.keep) by go_simp))
 have V5:=Lh ((b1.cell (p:=⟨w.heap.size,5,none⟩) (by simp)).trans (show _=some (.int .u64 c.leak) by go_simp))
 have V6:=Lh ((b1.cell (p:=⟨w.heap.size,6,none⟩) (by simp)).trans (show _=some (.float .f64 c.var) by go_simp))
 have HQ:=Lh a9
 clear b1 a5 a1
 go_wp2_with fail
 clear a9 hB a3
 have u:Hid (Below w1.heap.size w1 w1.drew):=Lh (Below.refl _ _).drew
 refine rgS 16 (fun w'=>Below w1.heap.size w1 w') (by kernel_rfl) (by kernel_rfl) ?_
 intro a8
 have a0:=Lh a8
 clear a8
 refine rq 0 a0.out u.out rfl ?_ (hv:=fun w' hw=>by (have k0:=(hw.cell (p:=⟨w.heap.size,0,none⟩) HQ.out).trans V0.out; have k1:=(hw.cell (p:=⟨w.heap.size,1,none⟩) HQ.out).trans V1.out; have k2:=(hw.cell (p:=⟨w.heap.size,2,none⟩) HQ.out).trans V2.out; have k3:=(hw.cell (p:=⟨w.heap.size,3,none⟩) HQ.out).trans V3.out; have k4:=(hw.cell (p:=⟨w.heap.size,4,none⟩) HQ.out).trans V4.out; have k5:=(hw.cell (p:=⟨w.heap.size,5,none⟩) HQ.out).trans V5.out; have k6:=(hw.cell (p:=⟨w.heap.size,6,none⟩) HQ.out).trans V6.out; go_simp; exact rfl))
 refine rq 5 a0.out u.out rfl ?_
 refine rq 6 a0.out u.out rfl ?_ (hv:=fun w' hw=>by (have k5:=(hw.cell (p:=⟨w.heap.size,5,none⟩) HQ.out).trans V5.out; go_simp; exact rfl))
 refine rq 8 a0.out u.out rfl ?_
 refine rq 9 a0.out u.out rfl ?_
 refine rO 1 rfl (by kernel_rfl) rfl ?_
 unfold Oper.wp
 go_simp
 refine (at0 _).mono ?_
 rintro e Y ⟨rfl,b2⟩
 have z:=u.out.trans (b2.mono u.out.size)
 refine⟨z,?_⟩
 have af:=u
 clear u
 have u:=Lh z
 clear z
 refine rO 2 rfl (by kernel_rfl) rfl ?_
 unfold Oper.wp
 go_simp
 refine (bnew_any Y).mono ?_
 rintro e w3 ⟨rfl,h3,b3⟩
 have z:=u.out.trans (b3.mono u.out.size)
 refine⟨z,?_⟩
 have ag:=u
 clear u
 have u:=Lh z
 clear z
 refine rO 3 rfl (by kernel_rfl) rfl ?_
 unfold Oper.wp
 go_simp
 refine (Lc.new_any (fun g=>g < w3.heap.size) w3 base' (by have h1:=J.out.size; have h2:=u.out.size; omega) (fun g F=>F)).mono ?_
 rintro e w4 ⟨pl,rfl,h4,l4,b4⟩
 have z:=u.out.trans (b4.mono u.out.size)
 refine⟨z,?_⟩
 have ah:=u
 clear u
 have u:=Lh z
 clear z
 refine rO 4 rfl (by kernel_rfl) rfl ?_
 unfold Oper.wp
 go_simp
 refine (St.new_any w4 base' (by have h1:=J.out.size; have h2:=u.out.size; omega)).mono ?_
 rintro e w5 ⟨ps,rfl,h5,l5,b5⟩
 have z:=u.out.trans (b5.mono u.out.size)
 refine⟨z,?_⟩
 have ai:=u
 clear u
 have u:=Lh z
 clear z
 refine rO 7 rfl (by kernel_rfl) rfl ?_
 unfold Oper.wp
 go_simp
 refine (Le.new_any w5 c.leak).mono ?_
 rintro e w6 ⟨G,rfl,h6,b6,lp,la,lb,lq,lm⟩
 have z:=u.out.trans (b6.mono u.out.size)
 refine⟨z,?_⟩
 have aj:=u
 clear u
 have u:=Lh z
 clear z
 refine rO 10 rfl (by kernel_rfl) rfl ?_
 unfold Oper.wp
 go_simp
 refine (Fc.new_any A k cp B O A' k' a2 B' P w6 (HO.out.below (aa.out.trans (u.out.mono (Nat.le_trans a6.out J.out.size)))) (HP.out.below (ac.out.trans (u.out.mono (Nat.le_trans a7.out J.out.size)))) (Nat.le_trans a6.out (Nat.le_trans J.out.size u.out.size)) (Nat.le_trans a7.out (Nat.le_trans J.out.size u.out.size)) hk ad).mono ?_
 rintro e w7 ⟨mF,pF,rfl,h7,b7⟩
 have z:=u.out.trans (b7.mono u.out.size)
 refine⟨z,?_⟩
 have ak:=u
 clear u
 have u:=Lh z
 clear z
 refine rO 11 rfl (by kernel_rfl) rfl ?_
 unfold Oper.wp
 go_simp
 refine (Hi.new_any w7 base' (by have h1:=J.out.size; have h2:=u.out.size; omega)).mono ?_
 rintro e I ⟨ph,rfl,h8,l8,b8⟩
 have z:=u.out.trans (b8.mono u.out.size)
 refine⟨z,?_⟩
 have al:=u
 clear u
 have u:=Lh z
 clear z
 refine rq 12 a0.out u.out rfl ?_
 refine rO 13 rfl (by kernel_rfl) rfl ?_
 unfold Oper.wp
 go_simp
 have z:=u.out.alloc u.out.size (.cells #[.int .i64 c.max,.int .i64 c.min,.int .u64 c.idle,.int .u64 c.life,.int .u64 c.keep,.int .u64 c.leak,.float .f64 c.var,.int .u64 0,ptr (Y.heap.size+1),ptr pl,ptr ps,ptr G.p,ptr pF,ptr ph,.int .i64 0,.bool false] 60)
 refine⟨z,?_⟩
 have ae:=u
 clear u
 have u:=Lh z
 clear z
 refine rq 14 a0.out u.out rfl ?_
 refine rq 15 a0.out u.out rfl ?_
 refine rgD (by kernel_rfl) ?_
 go_wp2_with fail
 go_ret2
 have t8:Below I.heap.size I (I.alloc (.cells #[.int .i64 c.max,.int .i64 c.min,.int .u64 c.idle,.int .u64 c.life,.int .u64 c.keep,.int .u64 c.leak,.float .f64 c.var,.int .u64 0,ptr (Y.heap.size+1),ptr pl,ptr ps,ptr G.p,ptr pF,ptr ph,.int .i64 0,.bool false] 60)):=(Below.refl _ _).alloc (Nat.le_refl _) _
 have t7:=b8.trans (t8.mono b8.size)
 have t6:=b7.trans (t7.mono b7.size)
 have t5:=b6.trans (t6.mono b6.size)
 have t4:=b5.trans (t5.mono b5.size)
 have t3:=b4.trans (t4.mono b4.size)
 have z1:=J.out.size
 have z2:w1.heap.size<=Y.heap.size:=b2.size
 have z3:=b3.size
 have z4:=b4.size
 have z5:=b5.size
 have z6:=b6.size
 have z7:=b7.size
 have z8:=b8.size
 have y3:=h3.lt
 have y4:=h4.lt
 have y5:=h5.lt
 have y6:=h6.lt
 have y7:=h7.in_
 have aq:=h7.lo
 have ar:=h7.lt
 have y8:=h8.lt
 obtain⟨col,a4⟩:∃ col:Nat->Nat,col=fun g=>if g=R then 8 else col8 Y.heap.size w3.heap.size w4.heap.size w5.heap.size w6.heap.size w7.heap.size I.heap.size I.heap.size g:=⟨_,rfl⟩
 have cR:col R=8:=by rw[a4]; exact if_pos rfl
 have W:∀ g,w.heap.size<=g->col g=col8 Y.heap.size w3.heap.size w4.heap.size w5.heap.size w6.heap.size w7.heap.size I.heap.size I.heap.size g:=fun g F=>by rw[a4]; exact if_neg (by omega)
 have cA:∀ g,g≠R->col g=col8 Y.heap.size w3.heap.size w4.heap.size w5.heap.size w6.heap.size w7.heap.size I.heap.size I.heap.size g:=fun g F=>by rw[a4]; exact if_neg F
 have hX:∀ g,((col g≠0/\col g≠2)\/g < base')->g < w3.heap.size\/w4.heap.size<=g:=fun g F=>by
  by_cases e:g=R
  .exact .inl (by omega)
  .rw[cA g e] at F
   rcases F with F | F
   .rcases col8_x z4 F with h | h
    .exact .inl h.2
    .exact .inr h
   .exact .inl (by omega)
 refine⟨⟨I.heap.size,Y.heap.size+1,Y.heap.size,pl,ps,none,G,w6.heap.size,mF,pF,ph,none⟩,col,rfl,⟨?_,?_,?_,?_,?_,?_,?_,?_,?_,?_,?_,?_,?_,?_⟩,cR,?_⟩
 .refine⟨?_,?_,?_,?_,?_,?_,?_,?_,?_,?_,?_,?_,?_,?_,?_,?_,?_⟩
  all_goals (first | (go_simp; done) | (intro o; simp[World.frozen?]))
 .exact (h3.mono (fun g F hc=>by rw[W g (by have h9:Y.heap.size<=g:=hc; omega)]; exact col8_1 hc F) (fun g _ h=>h.elim) (fun g h1 h2=>by rw[h1] at h2; cases h2.1)).later t3
 .exact (h4.shun hX).later t4
 .exact h5.later t5
 .exact h6.later t6
 .exact h7.later t7
 .exact h8.later t8
 .show col pl=2; rw[W pl (by omega)]; exact col8_2 z3 l4 y4
 .exact⟨by show col ps=3; rw[W ps (by omega)]; exact col8_3 z3 z4 l5 y5,fun g F=>by cases F⟩
 .exact⟨by show col G.p=4; rw[W G.p (by omega)]; exact col8_4 z3 z4 z5 lp y6.1,by show col G.a=4; rw[W G.a (by omega)]; exact col8_4 z3 z4 z5 la y6.2.1,by show col G.b=4; rw[W G.b (by omega)]; exact col8_4 z3 z4 z5 lb y6.2.2.1,by show col G.q=4; rw[W G.q (by omega)]; exact col8_4 z3 z4 z5 lq y6.2.2.2.1,by show col G.m=4; rw[W G.m (by omega)]; exact col8_4 z3 z4 z5 lm y6.2.2.2.2⟩
 .exact fun g h1 h2=>by
   have h1:w6.heap.size<=g:=h1
   have h2:g<=pF:=h2
   rw[W g (by omega)]; exact col8_5 z3 z4 z5 z6 h1 (by omega)
 .exact⟨by show col ph=6; rw[W ph (by omega)]; exact col8_6 z3 z4 z5 z6 z7 l8 y8,fun g F=>by cases F⟩
 .show col I.heap.size=7; rw[W I.heap.size (by omega)]; exact col8_7 z3 z4 z5 z6 z7 z8 rfl rfl
 .exact fun g F=>by
   by_cases e:g=R
   .omega
   .rw[cA g e] at F; have:=col8_lo F; omega
 .exact J.out.trans (u.out.mono z1)
end Go.Proofs.YtoiklelghfckgaaGreatDoor.Wo
namespace Go.Proofs.YtoiklelghfckgaaGreatDoor.Wo
open Go Go.ChangeShapes Go.WideShapes Go.ChangeAt Go.RowKit Go.Deep Go.Maps Rw Hi Mt Ba
open Cn (Cf cfE)
theorem info_act:(Tryz.prog.info? 103).map (fun i=>(i.zero,i.size,i.bytes))=some (some (.agg #[.int .u8 0,.int .u64 0,.int .u64 0,.int .i64 0,.int .i64 0]),5,40):=by kernel_rfl
section
variable {ops:Array Oper} {rest:List Oper} {op:Oper} {a:Act} {w:World} {Q:Exit->Act->World->Prop}
theorem store_c2 (F:op.guard=none) (y z:Operand) (G:op.op=.store 50 y z) (g:Nat) (hx:a.eval y=.pointer (some ⟨g,0,none⟩)) (c:Cf) (I:a.eval z=c.v) (u:w.there g 0 7)
  (h:∀ w',w'.rangeAt g 0 (ccs c)->w'.there g 0 7->Fz (fun k=>k=g) w w'->wpList Tryz.prog ops Q rest (a.put op.dst undef) w'):wpList Tryz.prog ops Q (op :: rest) a w:=
 wpList_store_mid F 50 y z G g 0 (ccs c).toArray hx I u (by kernel_rfl) (by kernel_rfl) (h _ (World.rangeAt_setCells_same w g 0 _ u) (World.there_setCells u g 0 _) (fz_setCells _ _ _ _))
end
theorem res_wm {fn:Func} {p u x:Tmp} (z:Array Value) (w:World) (g:Nat) (v:Dv) (s:Ws) (h:fn.results=#[.tmp u,.cell p 46,.tmp x]) (F:z.getD p undef=.pointer (some ⟨g,0,none⟩)) (hv:Vw w g (v.cells s)):(results fn z).run Tryz.prog w=.ok (.tuple #[z.getD u undef,v.val s,z.getD x undef]) w:=by
 have I:=run_loadVar_mid (P:=Tryz.prog) w g 0 46 _ _ hv.at_ under_w row_w info_w
 have G:z[p]?.getD undef=.pointer (some ⟨g,0,none⟩):=by simpa using F
 simp[results,h,G,asAddr,I]
theorem c8_ok:c8.ok:=⟨⟨by decide,by decide⟩,⟨by decide,by decide⟩,⟨by decide,by decide⟩,⟨by decide,by decide⟩,by decide⟩
theorem c8_zero:cfE c8=0:=by kernel_rfl
section
variable {w w':World} {base:Nat} {col col':Nat->Nat} {x:Wp} {s:Ws} {d:Nat} {v:Dv} {N:List Int}
theorem Tw.there (h:Tw base col w x v d s N) {R:Nat} (z:col R=8) (F:R≠d) (G:Fp col d w w') (u:w.there R 0 23):w'.there R 0 23:=
 th_blk u (G.block R (th_lt u) (fun e=>by
  rcases e with e | e
  .exact e.2 z
  .exact F e))
theorem Wo.v2 (h:Wo base col w x s):∃ col',Wv base col' w x s/\El w col col':=by
 obtain⟨col',G⟩:∃ col':Nat->Nat,col'=fun g=>if g < w.heap.size then col g else 0:=⟨_,rfl⟩
 have z:∀ g,g < w.heap.size->col' g=col g:=fun g u=>by rw[G]; exact if_pos u
 have F:∀ g,w.heap.size<=g->col' g=0:=fun g u=>by rw[G]; show (if g < w.heap.size then col g else 0)=0; rw[if_neg (by omega)]
 refine⟨col',⟨x.rs,x.rh,h.recol z (fun g u=>?_),fun g u=>?_⟩,z⟩
 .by_cases h3:g < w.heap.size
  .exact h.lo g (by rw[<- z g h3]; exact u)
  .exact absurd (F g (by omega)) u
 .by_cases h3:g < w.heap.size
  .exact h3
  .exact absurd (F g (by omega)) u
theorem Tw.low (h:Tw base col w x v d s N) (F:base<=d) (z:Fp col d w w'):Below base w w':=
 z.below h.wv.base_le (fun g u=>by
  rcases u with u | u
  .exact h.wv.lo g u.1
  .omega)
theorem rs_fp {α:Type} {enc:α->List Value} {F n c:Nat} {A:Option Addr} {xs:List α} (h:Rs enc F w w.heap.size A n c xs) (hk:Kn (Kc base col) n A) (hc:col d=8) (z:Fp col d w w'):Rs enc F w' w'.heap.size A n c xs:=
 rs_blk h z.size (kn_blk (rs_at h) hk z (fun g G e u=>by
  have e:col g=0:=e.1
  rcases u with u | u
  .exact u.1 e
  .subst u; omega))
theorem kn_el {α:Type} {enc:α->List Value} {F n c:Nat} {A:Option Addr} {xs:List α} (h:Rs enc F w w.heap.size A n c xs) (hk:Kn (Kc base col) n A) (z:El w col col'):Kn (Kc base col') n A:=
 kn_mono (rs_at h) hk (fun g u e=>⟨(z g u).trans e.1,e.2⟩)
end
theorem bgn1_facts (u h:List Int) (F:u.length<=6) (G:h.length<=5):Pl (bgn1 u h) [] (bgnA u h).length/\(bgn1 u h).closed=false:=by
 have z:(bgnA u h).length<=900:=by unfold bgnA; rw[List.length_append,acts1_len,List.length_map]; omega
 have:=acts_pl (bgnA u h) (bgnA_ok u h (by omega)) (bgnA u h).length (Nat.le_refl _) z
 rw[List.take_length] at this
 exact this
theorem foldS (f:Ws->Ay->Ws) (h:∀ s y,(f s y).sl=s.sl) (l:List Ay) (s:Ws):(l.foldl f s).sl=s.sl:=by
 induction l generalizing s with
 | nil=>rfl
 | cons a l ih=>rw[List.foldl_cons,ih,h]
theorem bgn1_sl (u h:List Int):(bgn1 u h).sl=[]:=by
 unfold bgn1
 rw[foldS playS (fun s y=>by unfold playS; (repeat' split); all_goals rfl)]
theorem park_len (l:List Int) (s:Ws):(l.foldl parkW s).sl.length<=s.sl.length+l.length:=by
 induction l generalizing s with
 | nil=>simp
 | cons a l ih=>
  rw[List.foldl_cons]
  have:=ih (parkW s a)
  have h:(parkW s a).sl.length<=s.sl.length+1:=by
   show (St.parkL s.sl (a % 8) 9).length<=_
   unfold St.parkL; split <;> simp
  simp only[List.length_cons]; omega
theorem park_rest (l:List Int) (s:Ws):(l.foldl parkW s).M=s.M/\(l.foldl parkW s).L=s.L/\(l.foldl parkW s).T=s.T:=by
 induction l generalizing s with
 | nil=>exact⟨rfl,rfl,rfl⟩
 | cons a l ih=>rw[List.foldl_cons]; exact ih (parkW s a)
theorem bgn2_facts (z F u:List Int) (I:z.length<=6) (J:u.length<=5):(bgn2 z F u).M=Le.mk [] /\ Le.Sd (bgn2 z F u).L/\(bgn2 z F u).L.length<=23/\(bgn2 z F u).T.length<=23:=by
 have h:=(bgn1_facts z u I J).1
 have W:(bgnA z u).length<=23:=by unfold bgnA; rw[List.length_append,acts1_len,List.length_map]; omega
 have G:=park_rest F (bgn1 z u)
 unfold bgn2
 rw[G.1,G.2.1,G.2.2]
 exact⟨h.mk_,h.sd,by have:=h.ll; omega,by have:=h.tl; omega⟩
theorem mark_facts (l:List Int) (u:Ws) (h:u.M=Le.mk [] /\ Le.Sd u.L/\u.L.length<=23/\u.T.length<=23):(l.foldl markW (u,[])).1.M=Le.mk (l.foldl markW (u,[])).2/\(l.foldl markW (u,[])).2.length<=l.length/\Le.Sd (l.foldl markW (u,[])).1.L/\(l.foldl markW (u,[])).1.L.length<=23/\(l.foldl markW (u,[])).1.T.length<=23:=by
 have key:∀ (l:List Int) (q:Ws × List Int) (n:Nat),(q.1.M=Le.mk q.2/\q.2.length<=n/\Le.Sd q.1.L/\q.1.L.length<=23/\q.1.T.length<=23)->((l.foldl markW q).1.M=Le.mk (l.foldl markW q).2/\(l.foldl markW q).2.length<=n+l.length/\Le.Sd (l.foldl markW q).1.L/\(l.foldl markW q).1.L.length<=23/\(l.foldl markW q).1.T.length<=23):=by
  intro l
  induction l with
  | nil=>intro q n hq; exact hq
  | cons a l ih=>
   intro q n hq
   rw[List.foldl_cons]
   have:=ih (markW q a) (n+1) (by
    unfold markW
    split
    .exact⟨hq.1,by omega,hq.2.2⟩
    .refine⟨rfl,?_,hq.2.2⟩
     show (mrkN q.1.L q.2 (a % 8+1) (a % 8)).length<=n+1
     unfold mrkN
     split
     .have:=List.length_filter_le (· != (a % 8+1)) q.2; simp; omega
     .omega)
   simp only[List.length_cons]
   exact⟨this.1,by have:=this.2.1; omega,this.2.2⟩
 have:=key l (u,[]) 0 ⟨h.1,Nat.le_refl _,h.2⟩
 simpa using this
theorem begin_any (W:World) (As Aw Am:Option Addr) (ns cs nw cw nm cm:Nat) (F G u:List Int) (hs:Rd (Value.int .u8) W W.heap.size As ns cs F) (hw:Rd (Value.int .u8) W W.heap.size Aw nw cw G) (hm:Rd (Value.int .u8) W W.heap.size Am nm cm u)
  (us:∀ z∈F,0<=z/\z<=255) (uw:∀ z∈G,0<=z/\z<=255) (um:∀ z∈u,0<=z/\z<=255) (hn:ns<=6) (d9:nw<=5) (d6:nm<=5) (cl:Bool) :
  Calls Tryz.prog 6 #[.slice As ns cs,.slice Aw nw cw,.slice Am nm cm,.bool cl] W fun e w'=>∃ (base:Nat) (x:Wp) (col:Nat->Nat) (v:Dv),e=.returned (.tuple #[ptr x.pw,v.val (bgnS F G u cl),.bool true])/\W.heap.size<=base/\Wv base col w' x (bgnS F G u cl)/\Dw (Kc base col) w' v (bgnS F G u cl) (bgnN F G u)/\Below W.heap.size W w':=by
 obtain⟨i0,hi,cu,cv,cx⟩:=info_parts info_act
 have bI:=Lh hs
 have bP:=Lh hw
 have aP:=Lh hm
 have cN:=Lh us
 have cO:=Lh uw
 have bO:=Lh um
 have aO:=Lh hs.len
 have cI:=Lh hw.len
 have aN:=Lh hm.len
 clear hs hw hm us uw um
 have bJ:Hid ((W.alloc (.cells #[.int .i64 0,.int .i64 0,.int .u64 0,.int .u64 0,.int .u64 0,.int .u64 0,.float .f64 0,.int .u64 0,.slice none 0 0,.slice none 0 0,.slice none 0 0,.slice none 0 0,.int .u64 0,.slice none 0 0,.slice none 0 0,.slice none 0 0,.slice none 0 0,.slice none 0 0,.slice none 0 0,.int .u64 0,.slice none 0 0,.int .i64 0,.bool false] 46)).there W.heap.size 0 23):=Lh (th_zero W)
 have aK:Hid (Below W.heap.size W (W.alloc (.cells #[.int .i64 0,.int .i64 0,.int .u64 0,.int .u64 0,.int .u64 0,.int .u64 0,.float .f64 0,.int .u64 0,.slice none 0 0,.slice none 0 0,.slice none 0 0,.slice none 0 0,.int .u64 0,.slice none 0 0,.slice none 0 0,.slice none 0 0,.slice none 0 0,.slice none 0 0,.slice none 0 0,.int .u64 0,.slice none 0 0,.int .i64 0,.bool false] 46))):=Lh ((Below.refl _ _).alloc (Nat.le_refl _) _)
 have cg:(W.alloc (.cells #[.int .i64 0,.int .i64 0,.int .u64 0,.int .u64 0,.int .u64 0,.int .u64 0,.float .f64 0,.int .u64 0,.slice none 0 0,.slice none 0 0,.slice none 0 0,.slice none 0 0,.int .u64 0,.slice none 0 0,.slice none 0 0,.slice none 0 0,.slice none 0 0,.slice none 0 0,.slice none 0 0,.int .u64 0,.slice none 0 0,.int .i64 0,.bool false] 46)).heap.size=W.heap.size+1:=by simp
 have cK:=Lh cg
 clear cg
 go_enter Tryz.func6,Tryz.ntmps6
 go_upto_region 1 with (fail)
 generalize (W.alloc (.cells #[.int .i64 0,.int .i64 0,.int .u64 0,.int .u64 0,.int .u64 0,.int .u64 0,.float .f64 0,.int .u64 0,.slice none 0 0,.slice none 0 0,.slice none 0 0,.slice none 0 0,.int .u64 0,.slice none 0 0,.slice none 0 0,.slice none 0 0,.slice none 0 0,.slice none 0 0,.slice none 0 0,.int .u64 0,.slice none 0 0,.int .i64 0,.bool false] 46))=W0 at *
 go_wp2_with fail
 refine (Cn.default_any W0).mono ?_
 rintro e w1 ⟨rfl,b1⟩
 have a8:=Lh b1
 clear b1
 go_upto_region 2 with (first
  | (refine store_c2 rfl _ _ rfl w1.heap.size rfl ⟨4,1,100,1000,50,200,4598175219545276416⟩ rfl (th_conf w1) ?_; intro w2 aW ch ad; have aR:=Lh aW; have bb:=Lh ch; have an:Hid (Below w1.heap.size w1 w2):=Lh (((Below.refl _ _).alloc (Nat.le_refl _) _).trans (ad.below (by simp) (fun k hk=>by omega))); clear aW ch ad))
 obtain⟨cb,aV⟩:∃ cb,w1.heap.size=cb:=⟨_,rfl⟩
 rw[aV] at aR bb
 rw[aV]
 have bz:=Lh aV
 clear aV
 have f0:w2.cell? ⟨cb,0,none⟩=some (.int .i64 4):=by have:=aR.out 0 _ rfl; rwa [Nat.zero_add] at this
 have g0:w2.frozen? ⟨cb,0,none⟩=false:=by have:=(bb.out 0 (by decide)).2; rwa [Nat.zero_add] at this
 go_upto_region 3 with (fail)
 have b6:Hid ((w2.setCell ⟨cb,0,none⟩ (.int .i64 8)).rangeAt cb 0 (ccs c8)):=Lh (range_set0 aR.out 8)
 have ae:Hid (Below w1.heap.size w1 (w2.setCell ⟨cb,0,none⟩ (.int .i64 8))):=Lh (an.out.setCell (p:=⟨cb,0,none⟩) (by have:=bz.out; show w1.heap.size<=cb; omega) _)
 generalize (w2.setCell ⟨cb,0,none⟩ (.int .i64 8))=w3 at *
 clear f0 g0 aR bb an
 have bw:Hid (Below W.heap.size W w3):=Lh ((aK.out.trans (a8.out.mono aK.out.size)).trans (ae.out.mono (Nat.le_trans aK.out.size a8.out.size)))
 have I:Hid (w3.there W.heap.size 0 23):=Lh (th_later bJ.out (a8.out.trans (ae.out.mono a8.out.size)))
 have ai:Hid (W.heap.size < w3.heap.size):=Lh (th_lt I.out)
 clear aK a8 ae bJ bz cK
 go_wp2_with (first
  | (refine load_c rfl _ rfl cb rfl c8 b6.out ?_))
 refine (new_ok2 W.heap.size W.heap.size c8 c8_ok c8_zero none none 0 0 w3.heap.size 0 0 w3.heap.size [] [] w3 ai.out (Nat.le_refl _) Rd.nil_ Rd.nil_ (Nat.le_refl _) (Nat.le_refl _) (by omega) (by omega)).mono ?_
 rintro e w4 ⟨x,d3,rfl,h4,bR,b4⟩
 obtain⟨col,h4,bX⟩:=h4.v2
 have bA:Hid (col W.heap.size=8):=Lh ((bX _ (by have h1:=ai.out; have h2:=b4.size; omega)).trans bR)
 have bh:=Lh h4
 have af:=Lh b4
 have bH:=Lh (range_later b6.out b4)
 clear h4 b4 b6 bX bR
 go_wp2_with (first
  | (refine load_c rfl _ rfl cb rfl c8 bH.out ?_))
 refine (dnew_any (K:=Kc W.heap.size col) w4 c8 c8_ok c8_zero bh.out.new0 none none 0 0 0 0 [] [] (Fk.Rn.nil_ _ _) (Fk.Rn.nil_ _ _)).mono ?_
 rintro e w5 ⟨v,rfl,bU,b5⟩
 have bB:=Lh bU
 have a9:=Lh b5
 clear bU b5 bH
 go_upto_region 5 with (first
  | (refine store_w rfl _ _ rfl w5.heap.size rfl v (newS c8 [] []) rfl (th_zero w5) ?_; intro w6 cp cy; have aT:=Lh cp; have aL:Hid (Below w5.heap.size w5 w6):=Lh (((Below.refl _ w5).alloc (Nat.le_refl _) _).trans (cy.below (by simp) (fun k hk=>by omega))); clear cp cy))
 obtain⟨d,hd⟩:∃ d,w5.heap.size=d:=⟨_,rfl⟩
 rw[hd] at aT
 rw[hd]
 have bN:Hid (∃ al,Tw W.heap.size al w6 x v d (newS c8 [] []) [] /\ al W.heap.size=8):=Lh (by
  have db:=a9.out.size
  obtain⟨al,d1,bZ,cW,cV⟩:=bh.out.var (a9.out.trans (aL.out.mono a9.out.size)) d (by omega) aT.out.lt
  refine⟨al,⟨d1,(bB.out.mono (fun g hg e=>?_)).later aL.out,aT.out,cW⟩,(bZ _ (by have h1:=ai.out; have h2:=af.out.size; omega)).trans bA.out⟩
  refine⟨?_,e.2⟩
  by_cases h3:g < w4.heap.size
  .exact (bZ g h3).trans e.1
  .exact cV g (by omega) (by omega))
 have aY:Hid (Below w3.heap.size w3 w6):=Lh ((af.out.trans (a9.out.mono af.out.size)).trans (aL.out.mono (Nat.le_trans af.out.size a9.out.size)))
 have ao:Hid (W.heap.size<=d):=Lh (by have:=af.out.size; have:=a9.out.size; have:=ai.out; omega)
 have aj:Hid (W.heap.size≠d):=Lh (by have:=af.out.size; have:=a9.out.size; have:=ai.out; omega)
 clear bh af bB a9 aT aL hd
 obtain⟨al,cj,bS⟩:=bN.out
 have bg:=Lh cj
 have Y:=Lh bS
 clear cj bS bN bA
 have ag:Hid (Below W.heap.size W w6):=Lh (bw.out.trans (aY.out.mono (Nat.le_of_lt ai.out)))
 have bM:Hid (w6.there W.heap.size 0 23):=Lh (th_blk I.out (aY.out.block _ ai.out))
 clear bw aY I
 go_upto_region 8 with (fail)
 go_wp2_with fail
 go_loopw [16,52] (fun a i wr=>∃ (k:Nat) (A:Option Addr) (c:Nat),k<=ns/\a=.slice A (3 * k) c/\i=.int .i64 k/\Hid (wr.ownsRow w6.heap.size 103 5 (.slice A (3 * k) c) (3 * k) (flat encY (acts1 F k)))/\Hid (Below w6.heap.size w6 wr)) (fun _ i _=>ns - (intOf i).toNat)
 case atStart=>exact⟨0,none,0,Nat.zero_le _,rfl,rfl,Lh (World.ownsRow_nil _ _ _ _),Lh (Below.refl _ _)⟩
 case round=>
  obtain⟨k,A,c,hk,rfl,rfl,HO,HB⟩:=hrel
  by_cases hkn:k < ns
  .obtain⟨b,o,z,rfl,hb,hz,hc⟩:=bI.out.get hkn
   have a1:=cN.out z (List.mem_of_getElem? hz)
   have d0:=((ag.out.trans (HB.out.mono ag.out.size)).cell (p:=⟨b,o+k,none⟩) hb).trans hc
   have bq:k < cs:=by have:=bI.out.cap; omega
   have t1:z.tmod 4=z % 4:=Int.tmod_eq_emod_of_nonneg a1.1
   have t2:IntKind.i64.wrap (z % 4)=z % 4:=by rw[IntKind.wrap_i64]; omega
   have t3:IntKind.i64.wrap ((k:Int)+1)=(k:Int)+1:=by rw[IntKind.wrap_i64]; omega
   have t4:IntKind.u64.wrap ((k:Int)+1)=(k:Int)+1:=by rw[IntKind.wrap_u64]; omega
   have be:Hid (acts1 F (k+1)=acts1 F k ++ tri k (z % 4)):=Lh (by rw[acts1_succ,List.getD_eq_getElem?_getD,hz]; rfl)
   have aH:=rs_of wr encY_len (by decide) (tri k (z % 4)) 3 rfl (by decide) 103 (cs:=#[.int .u8 1,.int .u64 0,.int .u64 0,.int .i64 0,.int .i64 0,.int .u8 3,.int .u64 0,.int .u64 0,.int .i64 0,.int .i64 (z % 4),.int .u8 4,.int .u64 ((k:Int)+1),.int .u64 0,.int .i64 0,.int .i64 0]) rfl
   have b7:=Lh aH
   have bp:=HB.out.size
   have ay:=Lh (HO.out.alloc (.cells #[.int .u8 1,.int .u64 0,.int .u64 0,.int .i64 0,.int .i64 0,.int .u8 3,.int .u64 0,.int .u64 0,.int .i64 0,.int .i64 (z % 4),.int .u8 4,.int .u64 ((k:Int)+1),.int .u64 0,.int .i64 0,.int .i64 0] 103))
   have an:=Lh (HB.out.alloc bp (.cells #[.int .u8 1,.int .u64 0,.int .u64 0,.int .i64 0,.int .i64 0,.int .u8 3,.int .u64 0,.int .u64 0,.int .i64 0,.int .i64 (z % 4),.int .u8 4,.int .u64 ((k:Int)+1),.int .u64 0,.int .i64 0,.int .i64 0] 103))
   clear hz hc aH HO HB a1
   go_wp2_with (
    at_builtin
    refine apRs encY_len rfl _ _ 101 rfl w6.heap.size 103 i0 _ 40 Tryz.underlying101 hi cu cv cx rfl (by decide) (.slice A (3 * k) c) (3 * k) _ rfl ay.out _ _ 3 3 (tri k (z % 4)) rfl b7.out encY_one (3 * (k+1)) (by omega) (flat encY (acts1 F (k+1))) (by rw[be.out]; exact (flA _ _).symm) (by unfold maxLen; omega) (by omega) (by simp; omega) ?_
    intro A' c' w' a6 hg bo
    have b3:=Lh a6
    have ae:=Lh (an.out.grown hg (by simp; omega) (fun j hj=>(ay.out.lt j hj).1))
    clear a6 hg bo)
   go_roundw
   case rel=>exact⟨k+1,A',c',by omega,rfl,by go_num,b3,ae⟩
   case measure=>simp[intOf]; omega
  .obtain rfl:k=ns:=by omega
   clear hk hkn
   have bD:=HO
   have a8:=HB
   clear HO HB
   generalize wr=wa at *
   go_wp2_with fail
   go_loopw [16,72] (fun a i wr=>∃ (j:Nat) (A:Option Addr) (c:Nat),j<=nm/\a=.slice A (3 * k+j) c/\i=.int .i64 j/\Hid (wr.ownsRow w6.heap.size 103 5 (.slice A (3 * k+j) c) (3 * k+j) (flat encY (acts1 F k ++ (u.take j).map lsA)))/\Hid (Below w6.heap.size w6 wr)) (fun _ i _=>nm - (intOf i).toNat)
   case atStart=>exact⟨0,A,c,Nat.zero_le _,rfl,rfl,Lh (by have:=bD.out; simpa using this),a8⟩
   case round=>
    clear bD a8
    obtain⟨j,A,c,hj,rfl,rfl,HO,HB⟩:=hrel
    by_cases hjn:j < nm
    .obtain⟨b,o,z,rfl,hb,hz,hc⟩:=aP.out.get hjn
     have a1:=bO.out z (List.mem_of_getElem? hz)
     have d0:=((ag.out.trans (HB.out.mono ag.out.size)).cell (p:=⟨b,o+j,none⟩) hb).trans hc
     have bq:j < cm:=by have:=aP.out.cap; omega
     have t1:z.tmod 8=z % 8:=Int.tmod_eq_emod_of_nonneg a1.1
     have t2:IntKind.i64.wrap (z % 8)=z % 8:=by rw[IntKind.wrap_i64]; omega
     have t3:IntKind.u64.wrap (z % 8)=z % 8:=by rw[IntKind.wrap_u64]; omega
     have t4:IntKind.u64.wrap (z % 8+1)=z % 8+1:=by rw[IntKind.wrap_u64]; omega
     have be:Hid (acts1 F k ++ (u.take (j+1)).map lsA=(acts1 F k ++ (u.take j).map lsA) ++ [lsA z]):=Lh (by rw[List.take_add_one,hz,List.map_append,List.append_assoc]; rfl)
     have aH:=rs_one encY_len wr (lsA z) 103 (cs:=#[.int .u8 5,.int .u64 (z % 8+1),.int .u64 0,.int .i64 (z % 8),.int .i64 0]) rfl
     have b7:=Lh aH
     have bp:=HB.out.size
     have ay:=Lh (HO.out.alloc (.cells #[.int .u8 5,.int .u64 (z % 8+1),.int .u64 0,.int .i64 (z % 8),.int .i64 0] 103))
     have an:=Lh (HB.out.alloc bp (.cells #[.int .u8 5,.int .u64 (z % 8+1),.int .u64 0,.int .i64 (z % 8),.int .i64 0] 103))
     clear hz hc aH HO HB a1
     go_wp2_with (
      at_builtin
      refine apRs encY_len rfl _ _ 101 rfl w6.heap.size 103 i0 _ 40 Tryz.underlying101 hi cu cv cx rfl (by decide) (.slice A (3 * k+j) c) (3 * k+j) _ rfl ay.out _ _ 1 1 [lsA z] rfl b7.out encY_one (3 * k+(j+1)) (by omega) (flat encY (acts1 F k ++ (u.take (j+1)).map lsA)) (by rw[be.out]; exact (flA _ _).symm) (by unfold maxLen; omega) (by omega) (by simp; omega) ?_
      intro A' c' w' a6 hg bo
      have b3:=Lh a6
      have ae:=Lh (an.out.grown hg (by simp; omega) (fun j hj=>(ay.out.lt j hj).1))
      clear a6 hg bo)
     go_roundw
     case rel=>exact⟨j+1,A',c',by omega,rfl,by go_num,b3,ae⟩
     case measure=>simp[intOf]; omega
    .obtain rfl:j=nm:=by omega
     clear hj hjn
     obtain⟨L,hL⟩:∃ L,bgnA F u=L:=⟨_,rfl⟩
     obtain⟨na,aG⟩:∃ na,3 * k+j=na:=⟨_,rfl⟩
     have bn:L.length=na:=by rw[<- hL,<- aG]; unfold bgnA; rw[List.length_append,acts1_len,List.length_map,aO.out,aN.out]
     have a6:=HO.out
     rw[show acts1 F k ++ (u.take j).map lsA=L by rw[<- hL]; unfold bgnA; rw[aO.out,<- aN.out,List.take_length]] at a6
     rw[aG] at a6
     rw[aG]
     have bY:Kn (Kc W.heap.size al) na A:=fun _ a e=>bg.out.wv.new0 _ (by subst e; exact (a6.lt _ rfl).1)
     have aa:=Lh (Rs.own_rs encY_len bn a6)
     have ah:=Lh bY
     have b2:=Lh bn
     have bC:=Lh (show ∀ y∈L,okA y from hL ▸ bgnA_ok F u (by have:=aO.out; omega))
     have d5:na<=23:=by omega
     have h:=Lh (bg.out.later HB.out)
     have J:Hid (Below W.heap.size W wr):=Lh (ag.out.trans (HB.out.mono ag.out.size))
     have I:=Lh (th_later bM.out HB.out)
     have cH:=Lh hL
     have d2:=Lh aG
     clear hL aG bn a6 bY HO HB bg ag bM
     generalize wr=wb at *
     go_wp2_with fail
     go_loopw [90] (fun i wr=>∃ (p:Nat) (col:Nat->Nat) (v:Dv),p<=na/\i=.int .i64 p/\Hid (Tw W.heap.size col wr x v d ((L.take p).foldl playS (newS c8 [] [])) [])/\Hid (Rs encY 5 wr wr.heap.size A na c L)/\Hid (Kn (Kc W.heap.size col) na A)/\Hid (Below W.heap.size W wr)/\Hid (wr.there W.heap.size 0 23)/\Hid (col W.heap.size=8)) (fun i _=>na - (intOf i).toNat)
     case atStart=>exact⟨0,al,v,Nat.zero_le _,rfl,h,aa,ah,J,I,Y⟩
     case round=>
      clear h aa ah J I Y
      obtain⟨p,col,v,hp,rfl,h,aa,ah,J,I,Y⟩:=hrel
      have bu:=acts_pl L bC.out p (by rw[b2.out]; exact hp) (by rw[b2.out]; omega)
      have aQ:=Lh bu.1
      have aM:=Lh bu.2
      clear bu
      by_cases hpn:p < na
      .obtain⟨b,o,y,rfl,hb,hy,e1,e2,e3,e4,e5⟩:=actY_at aa.out hpn
       have HY:=Lh (bC.out y (List.mem_of_getElem? hy))
       have a2:Hid ((L.take (p+1)).foldl playS (newS c8 [] [])=playS ((L.take p).foldl playS (newS c8 [] [])) y):=Lh (foldl_take playS _ hy)
       have da:p < c:=by have:=aa.out.cap; omega
       have aC:Below wr.heap.size wr (wr.alloc (.cells #[.int .u8 y.do_,.int .u64 y.id,.int .u64 y.n,.int .i64 y.th,.int .i64 y.st] 103)):=(Below.refl _ _).alloc (Nat.le_refl _) _
       have ar:=Lh (h.out.later aC)
       have b9:=Lh (aa.out.later aC)
       have au:Hid (Below W.heap.size W (wr.alloc (.cells #[.int .u8 y.do_,.int .u64 y.id,.int .u64 y.n,.int .i64 y.th,.int .i64 y.st] 103))):=Lh (J.out.trans (aC.mono J.out.size))
       have az:=Lh (th_later I.out aC)
       have bi:=Lh (Yc.new wr y)
       clear aC hy
       go_upto_region 21 with (fail)
       obtain⟨q,hq⟩:∃ q,wr.heap.size=q:=⟨_,rfl⟩
       rw[hq] at bi
       rw[hq]
       clear hq e1 e2 e3 e4 e5 hb h aa J I
       generalize (wr.alloc (.cells #[.int .u8 y.do_,.int .u64 y.id,.int .u64 y.n,.int .i64 y.th,.int .i64 y.st] 103))=w7 at *
       obtain⟨z0,z1,z2,z3,z4⟩:=bi.out
       obtain⟨s,hs⟩:∃ s,(L.take p).foldl playS (newS c8 [] [])=s:=⟨_,rfl⟩
       rw[hs] at ar aQ aM a2
       have bG:=Lh (play_ok w7 ar.out aQ.out (by omega) (by decide) HY.out aM.out)
       clear hs aQ aM
       go_wp2_with fail
       refine bG.out.mono ?_
       rintro e w8 ⟨rfl,col8,v8,ci,aX,br⟩
       have cM:Hid (Tw W.heap.size col8 w8 x v8 d ((L.take (p+1)).foldl playS (newS c8 [] [])) []):=Lh (by rw[a2.out]; exact ci)
       have cJ:=Lh (rs_fp b9.out ah.out ar.out.c8 aX)
       have cG:=Lh (kn_el b9.out ah.out br)
       have cE:Hid (col8 W.heap.size=8):=Lh ((br _ (th_lt az.out)).trans Y.out)
       have a5:=ar.out.low ao.out aX
       have cz:Hid (Below W.heap.size W w8):=Lh (au.out.trans a5)
       have cL:Hid (w8.there W.heap.size 0 23):=Lh (ar.out.there Y.out aj.out aX az.out)
       clear ci aX br bG ar b9 ah au az z0 z1 z2 z3 z4 bi a5
       go_wp2_with fail
       go_roundw
       case rel=>exact⟨p+1,col8,v8,by omega,by go_num,cM,cJ,cG,cz,cL,cE⟩
       case measure=>simp[intOf]; omega
      .obtain rfl:p=na:=by omega
       have ca:(L.take p).foldl playS (newS c8 [] [])=bgn1 F u:=by rw[<- b2.out,List.take_length,<- cH.out]; rfl
       rw[ca] at h aQ aM
       clear ca hp hpn aa ah
       generalize wr=wc at *
       go_wp2_with fail
       go_loopw [102] (fun i wr=>∃ (r:Nat) (col:Nat->Nat) (v:Dv),r<=nw/\i=.int .i64 r/\Hid (Tw W.heap.size col wr x v d ((G.take r).foldl parkW (bgn1 F u)) [])/\Hid (Below W.heap.size W wr)/\Hid (wr.there W.heap.size 0 23)/\Hid (col W.heap.size=8)) (fun i _=>nw - (intOf i).toNat)
       case atStart=>exact⟨0,col,v,Nat.zero_le _,rfl,h,J,I,Y⟩
       case round=>
        clear h J I Y
        obtain⟨r,col,v,hr,rfl,h,J,I,Y⟩:=hrel
        by_cases hrn:r < nw
        .obtain⟨b,o,z,rfl,hb,hz,hc⟩:=bP.out.get hrn
         have a1:=cO.out z (List.mem_of_getElem? hz)
         have d0:=(J.out.cell (p:=⟨b,o+r,none⟩) hb).trans hc
         have bq:r < cw:=by have:=bP.out.cap; omega
         have t1:z.tmod 8=z % 8:=Int.tmod_eq_emod_of_nonneg a1.1
         have t2:IntKind.i64.wrap (z % 8)=z % 8:=by rw[IntKind.wrap_i64]; omega
         have a2:Hid ((G.take (r+1)).foldl parkW (bgn1 F u)=parkW ((G.take r).foldl parkW (bgn1 F u)) z):=Lh (foldl_take parkW _ hz)
         have ba:Hid (((G.take r).foldl parkW (bgn1 F u)).sl.length<=1000):=Lh (by have:=park_len (G.take r) (bgn1 F u); rw[bgn1_sl,List.length_nil] at this; have h2:(G.take r).length<=5:=(by rw[List.length_take]; omega); omega)
         obtain⟨s,hs⟩:∃ s,(G.take r).foldl parkW (bgn1 F u)=s:=⟨_,rfl⟩
         rw[hs] at h a2 ba
         clear hz hc hs a1
         have c10:=h.out.wv.cells.c10
         go_wp2_with (first
          | (refine load_w rfl _ rfl d rfl v s ac.out ?_))
         refine (wpark wr h.out.wv (z % 8) 9 ba.out).mono ?_
         rintro e w7 ⟨rfl,aU,h7,z7,l7⟩
         have a3:=Lh h7
         have aw:=Lh (h.out.dw.call z7 l7)
         have ac:=Lh (h.out.vw.blk (z7.block d h.out.vw.lt (fun e=>e.2 h.out.c8)))
         have a7:Hid (aU d=8):=Lh ((l7 d h.out.vw.lt).trans h.out.c8)
         have cC:Hid (aU W.heap.size=8):=Lh ((l7 _ (th_lt I.out)).trans Y.out)
         have a5:=h.out.low ao.out (fp_w (d:=d) z7)
         have av:Hid (Below W.heap.size W w7):=Lh (J.out.trans a5)
         have ak:Hid (w7.there W.heap.size 0 23):=Lh (h.out.there Y.out aj.out (fp_w (d:=d) z7) I.out)
         clear h7 z7 l7 h J I c10 a5
         go_wp2_with (first
          | (refine load_w rfl _ rfl d rfl v s ac.out ?_))
         refine (dpark_any w7 v s [] aw.out a3.out.new0 (z % 8) 9 ba.out).mono ?_
         rintro e w8 ⟨v8,rfl,aE,b8⟩
         have ax:=Lh aE
         have a0:=Lh b8
         have aA:=Lh (ac.out.later b8).th
         clear aE b8
         go_wp2_with (first
          | (refine store_w rfl _ _ rfl d rfl v8 { s with sl:=St.parkL s.sl (z % 8) 9 } rfl aA.out ?_; intro w9 aI aJ; have aB:=Lh aI; have a4:=Lh aJ; clear aI aJ))
         have bd:Hid (Tw W.heap.size aU w9 x v8 d ((G.take (r+1)).foldl parkW (bgn1 F u)) []):=Lh (by
          rw[a2.out]
          exact⟨(a3.out.later a0.out).aside a4.out (fun g _ e=>e ▸ a7.out),ax.out.at_ a7.out a4.out,aB.out,a7.out⟩)
         have aD:Below W.heap.size w7 w9:=(a0.out.mono a3.out.base_le).trans (a4.out.below (Nat.le_trans a3.out.base_le a0.out.size) (fun g hg=>by have:=ao.out; omega))
         have aZ:Hid (Below W.heap.size W w9):=Lh (av.out.trans aD)
         have bc:Hid (w9.there W.heap.size 0 23):=Lh (th_blk (th_later ak.out a0.out) (a4.out.block _ (th_lt (th_later ak.out a0.out)) aj.out))
         clear a3 aw ac a7 av ak ax a0 aA aB a4 aD
         go_roundw
         case rel=>exact⟨r+1,aU,v8,by omega,by go_num,bd,aZ,bc,cC⟩
         case measure=>simp[intOf]; omega
        .obtain rfl:r=nw:=by omega
         have cd:(G.take r).foldl parkW (bgn1 F u)=bgn2 F G u:=by rw[<- cI.out,List.take_length]; rfl
         rw[cd] at h
         clear cd hr hrn
         generalize wr=wd at *
         go_wp2_with fail
         go_loopw [122] (fun i wr=>∃ (r2:Nat) (col:Nat->Nat) (v:Dv),r2<=j/\i=.int .i64 r2/\Hid (Tw W.heap.size col wr x v d ((u.take r2).foldl markW (bgn2 F G u,[])).1 ((u.take r2).foldl markW (bgn2 F G u,[])).2)/\Hid (Below W.heap.size W wr)/\Hid (wr.there W.heap.size 0 23)/\Hid (col W.heap.size=8)) (fun i _=>j - (intOf i).toNat)
         case atStart=>exact⟨0,col,v,Nat.zero_le _,rfl,h,J,I,Y⟩
         case round=>
          clear h J I Y
          obtain⟨r2,col,v,aW,rfl,h,J,I,Y⟩:=hrel
          by_cases hrn:r2 < j
          .obtain⟨b,o,z,rfl,hb,hz,hc⟩:=aP.out.get hrn
           have a1:=bO.out z (List.mem_of_getElem? hz)
           have d0:=(J.out.cell (p:=⟨b,o+r2,none⟩) hb).trans hc
           have bq:r2 < cm:=by have:=aP.out.cap; omega
           have t1:z.tmod 8=z % 8:=Int.tmod_eq_emod_of_nonneg a1.1
           have t2:IntKind.i64.wrap (z % 8)=z % 8:=by rw[IntKind.wrap_i64]; omega
           have t3:IntKind.u64.wrap (z % 8)=z % 8:=by rw[IntKind.wrap_u64]; omega
           have t4:IntKind.u64.wrap (z % 8+1)=z % 8+1:=by rw[IntKind.wrap_u64]; omega
           have a2:Hid ((u.take (r2+1)).foldl markW (bgn2 F G u,[])=markW ((u.take r2).foldl markW (bgn2 F G u,[])) z):=Lh (foldl_take markW _ hz)
           have bt:=mark_facts (u.take r2) (bgn2 F G u) (bgn2_facts F G u (by have:=aO.out; omega) (by have:=aN.out; omega))
           have d4:(u.take r2).length<=5:=by rw[List.length_take]; omega
           obtain⟨P,hP⟩:∃ P,(u.take r2).foldl markW (bgn2 F G u,[])=P:=⟨_,rfl⟩
           rw[hP] at h a2 bt
           obtain⟨s,N⟩:=P
           have aq:=Lh bt
           clear hz hc hP bt
           by_cases h128:128<=z
           .have q1:decide ((128:Int)<=z)=true:=decide_eq_true h128
            have aF:markW (s,N) z=(s,N):=if_pos h128
            rw[aF] at a2
            clear h128 aF a1
            go_wp2_with fail
            go_roundw
            case rel=>exact⟨r2+1,col,v,by omega,by go_num,by rw[a2.out]; exact h,J,I,Y⟩
            case measure=>simp[intOf]; omega
           .have q1:decide ((128:Int)<=z)=false:=decide_eq_false h128
            have aF:markW (s,N) z=({ s with M:=Le.mk (mrkN s.L N (z % 8+1) (z % 8)) },mrkN s.L N (z % 8+1) (z % 8)):=if_neg h128
            rw[aF] at a2
            clear h128 aF a1
            have c11:=h.out.wv.cells.c11
            go_wp2_with fail
            refine (wmark wr N h.out.wv aq.out.1 (z % 8+1) (z % 8) ⟨by omega,by omega⟩ (by have:=aq.out.2.1; simp at this; omega)).mono ?_
            rintro e w7 ⟨rfl,h7,z7⟩
            have a3:=Lh h7
            have aw:=Lh (h.out.dw.call z7 (El.refl _ _))
            have ac:=Lh (h.out.vw.blk (z7.block d h.out.vw.lt (fun e=>e.2 h.out.c8)))
            have a7:=Lh h.out.c8
            have a5:=h.out.low ao.out (fp_w (d:=d) z7)
            have av:Hid (Below W.heap.size W w7):=Lh (J.out.trans a5)
            have ak:Hid (w7.there W.heap.size 0 23):=Lh (h.out.there Y.out aj.out (fp_w (d:=d) z7) I.out)
            clear h7 z7 h J I c11 a5
            go_wp2_with (first
             | (refine load_w rfl _ rfl d rfl v s ac.out ?_))
            refine (dmark_any w7 v s N aw.out a3.out.new0 (z % 8+1) (z % 8) aq.out.2.2.1.nd (by have:=aq.out.2.2.2.1; omega) (by have:=aq.out.2.1; simp at this; omega) (by have:=aq.out.2.2.2.2; omega)).mono ?_
            rintro e w8 ⟨v8,rfl,aE,b8⟩
            have ax:=Lh aE
            have a0:=Lh b8
            have aA:=Lh (ac.out.later b8).th
            clear aE b8
            go_wp2_with (first
             | (refine store_w rfl _ _ rfl d rfl v8 s rfl aA.out ?_; intro w9 aI aJ; have aB:=Lh aI; have a4:=Lh aJ; clear aI aJ))
            have bd:Hid (Tw W.heap.size col w9 x v8 d ((u.take (r2+1)).foldl markW (bgn2 F G u,[])).1 ((u.take (r2+1)).foldl markW (bgn2 F G u,[])).2):=Lh (by
             rw[a2.out]
             have hd:=ax.out.at_ a7.out a4.out
             exact⟨(a3.out.later a0.out).aside a4.out (fun g _ e=>e ▸ a7.out),⟨hd.bag,hd.loc,hd.sl,hd.sk,hd.book,hd.fact,hd.hist,hd.hk,hd.l8⟩,aB.out,a7.out⟩)
            have aD:Below W.heap.size w7 w9:=(a0.out.mono a3.out.base_le).trans (a4.out.below (Nat.le_trans a3.out.base_le a0.out.size) (fun g hg=>by have:=ao.out; omega))
            have aZ:Hid (Below W.heap.size W w9):=Lh (av.out.trans aD)
            have bc:Hid (w9.there W.heap.size 0 23):=Lh (th_blk (th_later ak.out a0.out) (a4.out.block _ (th_lt (th_later ak.out a0.out)) aj.out))
            clear a3 aw ac a7 av ak ax a0 aA aB a4 aD
            go_roundw
            case rel=>exact⟨r2+1,col,v8,by omega,by go_num,bd,aZ,bc,Y⟩
            case measure=>simp[intOf]; omega
          .obtain rfl:r2=j:=by omega
           have ce:(u.take r2).foldl markW (bgn2 F G u,[])=bgn3 F G u:=by rw[<- aN.out,List.take_length]; rfl
           rw[ce] at h
           clear ce aW hrn
           obtain⟨⟨s,N⟩,hP⟩:∃ P,bgn3 F G u=P:=⟨_,rfl⟩
           have b0:Hid (bgnS F G u cl = { s with closed:=cl }):=Lh (by unfold bgnS; rw[hP])
           have cB:Hid (bgnN F G u=N):=Lh (by unfold bgnN; rw[hP])
           rw[hP] at h
           clear hP
           generalize wr=we at *
           have cS:=h.out.wv.cells.fz 15
           have c15:=h.out.wv.cells.c15
           have cT:=h.out.vw.cell 22 _ rfl
           have cU:=h.out.vw.free 22 (by decide)
           have cY:x.pw≠d:=fun e=>by have h1:=h.out.wv.kw; have h2:=h.out.c8; rw[e] at h1; omega
           have cX:d≠x.pw:=fun e=>cY e.symm
           go_upto_region 38 with (fail)
           have h1:=wset15 we h.out.wv cl
           have cn:Vw (we.setCell ⟨x.pw,15,none⟩ (.bool cl)) d (v.cells s):=h.out.vw.blk (heap_setCell_other _ _ d _ cX)
           have co:=cn.set 22 (by simp[cells_len]) (.bool cl)
           have ad:Fz (fun k=>k=d) (we.setCell ⟨x.pw,15,none⟩ (.bool cl)) ((we.setCell ⟨x.pw,15,none⟩ (.bool cl)).setCell ⟨d,22,none⟩ (.bool cl)):=Fz.of_set (C:=fun k=>k=d) (a:=⟨d,22,none⟩) _ rfl
           have cP:Hid (Vw ((we.setCell ⟨x.pw,15,none⟩ (.bool cl)).setCell ⟨d,22,none⟩ (.bool cl)) d (v.cells { s with closed:=cl })):=Lh co
           have cR:Hid (Wv W.heap.size col ((we.setCell ⟨x.pw,15,none⟩ (.bool cl)).setCell ⟨d,22,none⟩ (.bool cl)) x { s with closed:=cl }):=Lh (h1.1.aside ad (fun g _ e=>e ▸ h.out.c8))
           have cF:Hid (Dw (Kc W.heap.size col) ((we.setCell ⟨x.pw,15,none⟩ (.bool cl)).setCell ⟨d,22,none⟩ (.bool cl)) v { s with closed:=cl } N):=Lh (((h.out.dw.call h1.2 (El.refl _ _)).at_ h.out.c8 ad).own_ s.conf s.now s.live cl)
           have a5:=h.out.low ao.out ((fp_w (d:=d) h1.2).trans (fp_d ad))
           have au:Hid (Below W.heap.size W ((we.setCell ⟨x.pw,15,none⟩ (.bool cl)).setCell ⟨d,22,none⟩ (.bool cl))):=Lh (J.out.trans a5)
           have az:Hid (((we.setCell ⟨x.pw,15,none⟩ (.bool cl)).setCell ⟨d,22,none⟩ (.bool cl)).there W.heap.size 0 23):=Lh (h.out.there Y.out aj.out ((fp_w (d:=d) h1.2).trans (fp_d ad)) I.out)
           clear cS c15 cT cU h1 cn co ad a5 h J I
           generalize ((we.setCell ⟨x.pw,15,none⟩ (.bool cl)).setCell ⟨d,22,none⟩ (.bool cl))=wf at *
           go_wp2_with fail
           have HS:Hid (Vw wf.drew d (v.cells { s with closed:=cl })):=Lh (cP.out.blk rfl)
           refine rgS 5 (fun w'=>Vw w' d (v.cells { s with closed:=cl })) (by kernel_rfl) (by kernel_rfl) ?_
           intro bQ
           have aS:=Lh bQ
           clear bQ
           refine rq 0 aS.out HS.out rfl ?_
           refine rl 1 aS.out HS.out rfl ?_
           apply Exists.intro
           refine⟨fun w' hw=>exec_load_w _ _ _ rfl rfl hw,?_⟩
           refine rq 2 aS.out HS.out rfl ?_
           refine rO 3 rfl (by kernel_rfl) rfl ?_
           refine wp_store_w _ _ rfl W.heap.size rfl v { s with closed:=cl } rfl (th_blk az.out rfl) ?_
           intro wg ct bv
           have cZ:W.heap.size≠d:=aj.out
           have hS:Vw wg d (v.cells { s with closed:=cl }):=HS.out.blk (bv.block d HS.out.lt (fun e=>cZ e.symm))
           refine⟨fun _=>hS,?_⟩
           clear HS
           have HS:=Lh hS
           have cQ:=Lh ct
           have bj:Hid (Fz (fun k=>k=W.heap.size) wf wg):=Lh ((Fz.of_below (Below.refl _ _).drew).trans bv)
           clear hS ct bv
           refine rq 4 aS.out HS.out rfl ?_
           refine rgD (by kernel_rfl) ?_
           go_wp2_with fail
           exact bodyPost_ret (v:=.tuple #[ptr x.pw,Dv.val v { s with closed:=cl },.bool true]) (res_wm _ _ W.heap.size _ _ Tryz.results6 rfl cQ.out) rfl ⟨W.heap.size,x,col,v,by rw[b0.out],Nat.le_refl _,by rw[b0.out]; exact cR.out.aside bj.out (fun g _ e=>e ▸ Y.out),by rw[b0.out,cB.out]; exact cF.out.at_ Y.out bj.out,au.out.trans (bj.out.below au.out.size (fun k hk=>by omega))⟩
end Go.Proofs.YtoiklelghfckgaaGreatDoor.Wo
end
section
set_option maxRecDepth 100000
set_option maxHeartbeats 8000000
set_option linter.unusedVariables false
namespace Go.Proofs.YtoiklelghfckgaaGreatDoor.Wo
open Go Go.ChangeShapes Go.WideShapes Go.ChangeAt Go.RowKit Go.Deep Go.Maps Rw Hi Mt Ba
open Cn (Cf cfE)
theorem Awake18_any (W:World) (h:Tb.Tabs W):Calls Tryz.prog 227 #[] W fun e w'=>e=.returned (.bool true)/\Below W.heap.size W w':=by
 have H:=Lh (awake18_any W h)
 clear h
 go_enter Tryz.func227,Tryz.ntmps227
 go_wp2_with fail
 refine H.out.mono ?_
 rintro e u ⟨rfl,b1⟩
 go_wp2_with fail
 go_ret
 exact⟨rfl,b1⟩
theorem u0_mk:(bgnS [1] [] [0] false).M=Le.mk (bgnN [1] [] [0]):=by kernel_rfl
theorem u0_ev:(bgnS [1] [] [0] false).ev.length=0:=by kernel_rfl
theorem u0_end:(startU (⟨⟨1,1,tStart,zg,0⟩,bgnS [1] [] [0] false,bgnN [1] [] [0]⟩:Mu)).q=⟨1,1,tDone,zg,5⟩:=by kernel_rfl
theorem u0_step {base:Nat} {x:Wp} {s:Ws} (F:bgnS [1] [] [0] false=s) (w:World) (u:Nat->Nat) (h:Wv base u w x s):Calls Tryz.prog 226 #[Pt.val ⟨1,1,tStart,zg,0⟩,ptr x.pw] w fun e w'=>e=.returned (Pt.val ⟨1,1,tDone,zg,5⟩)/\Fw u w w':=by
 subst F
 refine (pt_act w _ (startU (⟨⟨1,1,tStart,zg,0⟩,bgnS [1] [] [0] false,bgnN [1] [] [0]⟩:Mu)).q h 257 (by kernel_rfl) (show tStart.size<=maxLen by decide) (fun w=>by kernel_rfl) (fun W u h=>ustart_any W (⟨⟨1,1,tStart,zg,0⟩,bgnS [1] [] [0] false,bgnN [1] [] [0]⟩:Mu) h u0_mk ⟨show (0:Int)<=1 by decide,show (1:Int)<=18446744073709551615 by decide⟩ (by show (bgnS [1] [] [0] false).ev.length<=1000; rw[u0_ev]; decide))).mono ?_
 rintro e w' ⟨rfl,col',-,z,-⟩
 exact⟨by rw[u0_end],z⟩
theorem awake19_any (W:World) (hT:Tb.Tabs W):Calls Tryz.prog 195 #[] W fun e w'=>e=.returned (.bool true)/\Below W.heap.size W w':=by
 have HT:=Lh hT
 clear hT
 obtain⟨F,a0⟩:∃ F,W.alloc (.cells #[.int .u8 1] 5)=F:=⟨_,rfl⟩
 obtain⟨u,a1⟩:∃ u,F.alloc (.cells #[.int .u8 0] 5)=u:=⟨_,rfl⟩
 have b1:Below W.heap.size W F:=by rw[<- a0]; exact (Below.refl _ _).alloc (Nat.le_refl _) _
 have s1:F.heap.size=W.heap.size+1:=by rw[<- a0]; simp
 have b2:Below F.heap.size F u:=by rw[<- a1]; exact (Below.refl _ _).alloc (Nat.le_refl _) _
 have s2:u.heap.size=W.heap.size+2:=by rw[<- a1]; simp; omega
 have r1:Rd (Value.int .u8) F F.heap.size (some ⟨W.heap.size,0,none⟩) 1 1 [1]:=by
  have e:=rd_one (enc:=Value.int .u8) W 1 5
  rw[s1,<- a0]; exact e
 have r2:Rd (Value.int .u8) u u.heap.size (some ⟨W.heap.size+1,0,none⟩) 1 1 [0]:=by
  have e:=rd_one (enc:=Value.int .u8) F 0 5
  rw[s1] at e
  rw[s2,<- a1]; exact e
 have HR:Hid (Rd (Value.int .u8) u u.heap.size (some ⟨W.heap.size,0,none⟩) 1 1 [1] /\ Rd (Value.int .u8) u u.heap.size (some ⟨W.heap.size+1,0,none⟩) 1 1 [0]):=Lh ⟨r1.later b2,r2⟩
 have a2:Hid (Below W.heap.size W u):=Lh (b1.trans (b2.mono b1.size))
 clear b1 b2 s2 r1 r2
 go_enter Tryz.func195,Tryz.ntmps195
 go_wp2_with fail
 refine (begin_any u _ none _ 1 1 0 0 1 1 [1] [] [0] HR.out.1 Rd.nil_ HR.out.2 (by simp) (by simp) (by simp) (by decide) (by decide) (by decide) false).mono ?_
 rintro e Q ⟨base,x,ar,v,rfl,au,h3,-,b3⟩
 have ai:=a2.out.size
 have ad:Hid (W.heap.size<=base):=Lh (by omega)
 have a3:Hid (Below W.heap.size W Q):=Lh (a2.out.trans (b3.mono ai))
 have a9:=Lh h3
 obtain⟨sB,ac⟩:∃ sB,bgnS [1] [] [0] false=sB:=⟨_,rfl⟩
 rw[ac] at a9 ⊢
 have ae:=Lh ac
 clear h3 b3 au ai a2 ac HR a0 a1 s1
 go_upto_region 2 with (first
  | (refine store_w rfl _ _ rfl Q.heap.size rfl v sB rfl (th_zero Q) ?_; intro w4 av ak; have I:Hid (Below Q.heap.size Q w4):=Lh (((Below.refl _ Q).alloc (Nat.le_refl _) _).trans (ak.below (by simp) (fun k hk=>by omega))); clear av ak))
 have af:=Lh (a9.out.later I.out)
 have I:Hid (Below W.heap.size W w4):=Lh (a3.out.trans (I.out.mono a3.out.size))
 clear a9 a3
 go_upto_region 4 with (fail)
 go_wp2_with fail
 refine (ubegin_any 1 1 w4).mono ?_
 rintro e w5 ⟨rfl,b5⟩
 have aa:=Lh (af.out.later b5)
 have a4:Hid (Below W.heap.size W w5):=Lh (I.out.trans (b5.mono I.out.size))
 clear b5 af I
 go_wp2_with fail
 refine (u0_step ae.out w5 ar aa.out).mono ?_
 rintro e G ⟨rfl,Y⟩
 have a5:Hid (Below W.heap.size W G):=Lh (a4.out.trans (Y.below a4.out.size (fun g hg=>Nat.le_trans ad.out (aa.out.lo g hg.1))))
 clear Y aa a4 ae ad
 go_upto_region 5 with (first
  | (refine stB rt_pt rfl _ _ rfl G.heap.size rfl (Pt.cells ⟨1,1,tDone,zg,5⟩) rfl (there_alloc 293 [.int .i64 0,.int .u64 0,.string ⟨#[]⟩,.int .i64 0,.int .i64 0,.int .u64 0,.int .u64 0,.string ⟨#[]⟩,.int .i64 0] G) rfl (by kernel_rfl) ?_; intro w7 aj al; have a8:=Lh aj; have J:Hid (Below G.heap.size G w7):=Lh (((Below.refl _ G).alloc (Nat.le_refl _) _).trans (al.below (by simp) (fun k hk=>by omega))); clear aj al))
 have J:Hid (Below W.heap.size W w7):=Lh (a5.out.trans (J.out.mono a5.out.size))
 obtain⟨gb,ah⟩:∃ gb,G.heap.size=gb:=⟨_,rfl⟩
 rw[ah] at a8 ⊢
 clear a5 ah
 go_wp2_with fail
 refine (Awake18_any w7 (HT.out.below J.out)).mono ?_
 rintro e w8 ⟨rfl,b8⟩
 have h:=Lh (a8.out.later b8)
 have a6:Hid (Below W.heap.size W w8):=Lh (J.out.trans (b8.mono J.out.size))
 clear b8 a8 J HT
 obtain⟨q,hq⟩:∃ q:Pt,q=⟨1,1,tDone,zg,5⟩:=⟨_,rfl⟩
 rw[<- hq] at h
 have ao:Hid (∀ w,Calls Tryz.prog 228 #[q.val] w fun e w'=>e=.returned (.bool true)/\Below w.heap.size w w'):=Lh (fun w=>by have e:=udone_any q w; rw[show (q.st.toList == [100,111,110,101])=true from by rw[hq]; kernel_rfl] at e; exact e)
 have aq:Hid (∀ w,Calls Tryz.prog 229 #[q.val] w fun e w'=>e=.returned (.int .i64 5)/\Below w.heap.size w w'):=Lh (fun w=>by have e:=uerr_any q w; rw[show q.err=5 from by rw[hq]] at e; exact e)
 clear hq
 have z0:=h.out.cell 0 _ rfl
 have z1:=h.out.cell 1 _ rfl
 have z2:=h.out.cell 2 _ rfl
 have z3:=h.out.cell 3 _ rfl
 have z4:=h.out.cell 4 _ rfl
 have z5:=h.out.cell 5 _ rfl
 have Y:=h.out.cell 6 _ rfl
 have z7:=h.out.cell 7 _ rfl
 have z8:=h.out.cell 8 _ rfl
 go_wp2_with fail
 refine (ao.out _).mono ?_
 rintro e w9 ⟨rfl,b9⟩
 have z:=Lh (h.out.later b9)
 have a7:Hid (Below W.heap.size W w9):=Lh (a6.out.trans (b9.mono a6.out.size))
 clear b9 h a6 z0 z1 z2 z3 z4 z5 Y z7 z8
 have z0:=z.out.cell 0 _ rfl
 have z1:=z.out.cell 1 _ rfl
 have z2:=z.out.cell 2 _ rfl
 have z3:=z.out.cell 3 _ rfl
 have z4:=z.out.cell 4 _ rfl
 have z5:=z.out.cell 5 _ rfl
 have Y:=z.out.cell 6 _ rfl
 have z7:=z.out.cell 7 _ rfl
 have z8:=z.out.cell 8 _ rfl
 go_wp2_with fail
 refine (aq.out _).mono ?_
 rintro e aw ⟨rfl,ag⟩
 have an:Hid (Below W.heap.size W aw):=Lh (a7.out.trans (ag.mono a7.out.size))
 clear ag z a7 z0 z1 z2 z3 z4 z5 Y z7 z8
 go_wp2_with fail
 go_ret
 exact⟨rfl,an.out⟩
end Go.Proofs.YtoiklelghfckgaaGreatDoor.Wo
end
section
set_option maxRecDepth 100000
set_option maxHeartbeats 8000000
set_option linter.unusedVariables false
namespace Go.Proofs.YtoiklelghfckgaaGreatDoor.Wo
open Go Go.ChangeShapes Go.WideShapes Go.ChangeAt Go.RowKit Go.Deep Go.Maps Rw Hi Mt Ba
open Cn (Cf cfE)
theorem Awake19_any (W:World) (h:Tb.Tabs W):Calls Tryz.prog 166 #[] W fun e w'=>e=.returned (.bool true)/\Below W.heap.size W w':=by
 have H:=Lh (awake19_any W h)
 clear h
 go_enter Tryz.func166,Tryz.ntmps166
 go_wp2_with fail
 refine H.out.mono ?_
 rintro e u ⟨rfl,b1⟩
 go_wp2_with fail
 go_ret
 exact⟨rfl,b1⟩
def hq (A:Option Addr) (c:Nat):Nat->Mh
 | 0=>(⟨⟨0,tStart,none,0,0,[],0,0,0,zg,false⟩,sm0,[]⟩:Mh)
 | 1=>(⟨⟨0,tRefill,A,0,c,[],0,0,0,zg,false⟩,sm0,[]⟩:Mh)
 | 2=>(⟨⟨0,tOpen,A,0,c,[],0,0,0,zg,true⟩,{ sm0 with live:=1 },[]⟩:Mh)
 | 3=>(⟨⟨0,tPublish,A,0,c,[],0,1,2,zg,true⟩,{ sm0 with live:=1,n:=1,D:=[(1,⟨2,0,0,0⟩)] },[]⟩:Mh)
 | 4=>(⟨⟨0,tGive,A,0,c,[],0,1,4,⟨0,4,1,4,sAgain⟩,true⟩,{ sm0 with live:=1,n:=1,D:=[(1,⟨4,0,0,0⟩)],S:=[1] },[]⟩:Mh)
 | 5=>(⟨⟨0,tRefill,A,0,c,[],0,1,4,⟨0,4,1,4,sDone⟩,true⟩,{ sm0 with live:=1,n:=1,D:=[(1,⟨4,0,0,0⟩)],S:=[1] },[]⟩:Mh)
 | 6=>(⟨⟨0,tLeaks,A,0,c,[],0,1,4,⟨0,4,1,4,sDone⟩,true⟩,{ sm0 with live:=1,n:=1,D:=[(1,⟨4,0,0,0⟩)],S:=[1] },[]⟩:Mh)
 | _=>(⟨⟨0,tDone,A,0,c,[],0,1,4,⟨0,4,1,4,sDone⟩,true⟩,{ sm0 with live:=1,n:=1,D:=[(1,⟨4,0,0,0⟩)],S:=[1],ev:=[⟨0,0,1,4,0,0⟩] },[]⟩:Mh)
def hsts:List ByteArray:=[tStart,tRefill,tOpen,tPublish,tGive,tRefill,tLeaks]
theorem hq_st (A:Option Addr) (c:Nat):∀ k,k < 7->hsts.take k ++ [(hq A c k).q.st] = hsts.take (k+1)
 | 0,_=>rfl
 | 1,_=>rfl
 | 2,_=>rfl
 | 3,_=>rfl
 | 4,_=>rfl
 | 5,_=>rfl
 | 6,_=>rfl
 | k+7,h=>absurd h (by omega)
def Hstep (base:Nat) (col:Nat->Nat) (x:Wp) (w:World) (k:Nat) (e:Ending) (w':World):Prop:=
 ∃ A c,e=.returned (hq A c (k+1)).q.val /\ ∃ col',Wv base col' w' x (hq A c (k+1)).s/\Fw col w w'/\El w col col'/\Lr base col' w' A 0 c []
theorem gon_of {base:Nat} {x:Wp} {q:Gw} {k:Nat} (hi:Gi q k) (hk:k<=900):Gon base x q.g q.s q.N:=fun w u h=>give_run w h hi hk
theorem hq_s0 {base:Nat} {x:Wp} (A:Option Addr) (c:Nat) (w:World) (u:Nat->Nat) (h:Wv base u w x (hq A c 0).s) (J:1<=0->Lr base u w A 0 c []):Calls Tryz.prog 165 #[(hq A c 0).q.val,ptr x.pw] w (Hstep base u x w 0):=by
 refine (ht_actL w _ (fun A n c=>(startH (⟨⟨0,tStart,none,0,0,[],0,0,0,zg,false⟩,sm0,[]⟩:Mh) A n c).q) h 214 (by kernel_rfl) (show tStart.size<=maxLen by decide) (fun w=>by kernel_rfl) (fun W u h=>hstart_any W (⟨⟨0,tStart,none,0,0,[],0,0,0,zg,false⟩,sm0,[]⟩:Mh) h)).mono ?_
 rintro e w' ⟨A,n,c,rfl,col',F,G,I,z⟩
 obtain rfl:n=0:=z.rd.len.symm
 exact⟨A,c,rfl,col',F,G,I,z⟩
theorem hq_s1 {base:Nat} {x:Wp} (A:Option Addr) (c:Nat) (w:World) (u:Nat->Nat) (h:Wv base u w x (hq A c 1).s) (I:1<=1->Lr base u w A 0 c []):Calls Tryz.prog 165 #[(hq A c 1).q.val,ptr x.pw] w (Hstep base u x w 1):=by
 refine (ht_act w _ (refillH (⟨⟨0,tRefill,A,0,c,[],0,0,0,zg,false⟩,sm0,[]⟩:Mh)).q h 220 (by kernel_rfl) (show tRefill.size<=maxLen by decide) (fun w=>by kernel_rfl) (fun W u h=>hrefill_any W (⟨⟨0,tRefill,A,0,c,[],0,0,0,zg,false⟩,sm0,[]⟩:Mh) h (show (0:Int)<=0 by decide) (show (4:Int)<=1000000 by decide))).mono ?_
 rintro e w' ⟨rfl,col',G,z,F⟩
 exact⟨A,c,rfl,col',G,z,F,(I (by decide)).fw z F⟩
theorem hq_s2 {base:Nat} {x:Wp} (A:Option Addr) (c:Nat) (w:World) (u:Nat->Nat) (h:Wv base u w x (hq A c 2).s) (I:1<=2->Lr base u w A 0 c []):Calls Tryz.prog 165 #[(hq A c 2).q.val,ptr x.pw] w (Hstep base u x w 2):=by
 refine (ht_act w _ (openH (⟨⟨0,tOpen,A,0,c,[],0,0,0,zg,true⟩,{ sm0 with live:=1 },[]⟩:Mh)).q h 221 (by kernel_rfl) (show tOpen.size<=maxLen by decide) (fun w=>by kernel_rfl) (fun W u h=>hopen_any W (⟨⟨0,tOpen,A,0,c,[],0,0,0,zg,true⟩,{ sm0 with live:=1 },[]⟩:Mh) h (show (0:Nat) < 18446744073709551615 by decide) ⟨show (0:Int)<=0 by decide,show (0:Int)<=18446744073709551615 by decide⟩ (show (0:Nat) < 1000000 by decide))).mono ?_
 rintro e w' ⟨rfl,col',G,z,F⟩
 exact⟨A,c,rfl,col',G,z,F,(I (by decide)).fw z F⟩
theorem hq_s3 {base:Nat} {x:Wp} (A:Option Addr) (c:Nat) (w:World) (u:Nat->Nat) (h:Wv base u w x (hq A c 3).s) (I:1<=3->Lr base u w A 0 c []):Calls Tryz.prog 165 #[(hq A c 3).q.val,ptr x.pw] w (Hstep base u x w 3):=by
 refine (ht_act w _ (publishH (⟨⟨0,tPublish,A,0,c,[],0,1,2,zg,true⟩,{ sm0 with live:=1,n:=1,D:=[(1,⟨2,0,0,0⟩)] },[]⟩:Mh)).q h 223 (by kernel_rfl) (show tPublish.size<=maxLen by decide) (fun w=>by kernel_rfl) (fun W u h=>hpublish_any W (⟨⟨0,tPublish,A,0,c,[],0,1,2,zg,true⟩,{ sm0 with live:=1,n:=1,D:=[(1,⟨2,0,0,0⟩)] },[]⟩:Mh) h ⟨show (0:Int)<=1 by decide,show (1:Int)<=18446744073709551615 by decide⟩ ⟨show (0:Int)<=2 by decide,show (2:Int)<=18446744073709551615 by decide⟩ ⟨show (0:Int)<=0 by decide,show (0:Int)<=18446744073709551615 by decide⟩ (show (0:Nat)<=1000000 by decide))).mono ?_
 rintro e w' ⟨rfl,col',G,z,F⟩
 exact⟨A,c,rfl,col',G,z,F,(I (by decide)).fw z F⟩
theorem hq_s4 {base:Nat} {x:Wp} (A:Option Addr) (c:Nat) (w:World) (u:Nat->Nat) (h:Wv base u w x (hq A c 4).s) (z:1<=4->Lr base u w A 0 c []):Calls Tryz.prog 165 #[(hq A c 4).q.val,ptr x.pw] w (Hstep base u x w 4):=by
 refine (ht_actR w _ (giveH (⟨⟨0,tGive,A,0,c,[],0,1,4,⟨0,4,1,4,sAgain⟩,true⟩,{ sm0 with live:=1,n:=1,D:=[(1,⟨4,0,0,0⟩)],S:=[1] },[]⟩:Mh)).q h (z (by decide)) 219 (by kernel_rfl) (show tGive.size<=maxLen by decide) (fun w=>by kernel_rfl) (fun W u h z=>hgive_any W (⟨⟨0,tGive,A,0,c,[],0,1,4,⟨0,4,1,4,sAgain⟩,true⟩,{ sm0 with live:=1,n:=1,D:=[(1,⟨4,0,0,0⟩)],S:=[1] },[]⟩:Mh) h (gon_of (q:=⟨⟨0,4,1,4,sAgain⟩,{ sm0 with live:=1,n:=1,D:=[(1,⟨4,0,0,0⟩)],S:=[1] },[]⟩) (k:=10) ⟨rfl,⟨⟨show (0:Int)<=1 by decide,show (1:Int)<=18446744073709551615 by decide⟩,⟨show (0:Int)<=4 by decide,show (4:Int)<=18446744073709551615 by decide⟩⟩,⟨show (0:Int)<=0 by decide,show (0:Int)<=18446744073709551615 by decide⟩,show (0:Nat)<=900 by decide,show (0:Nat)<=10 by decide,show (0:Nat)<=10 by decide,show (1:Nat)<=900 by decide,⟨show (0:Int)<=1 by decide,show (1:Int)<=1000 by decide⟩,.inr (.inr (.inr (.inl rfl)))⟩ (by decide)) z)).mono ?_
 rintro e w' ⟨rfl,col',J,G,I⟩
 have F:giveH (⟨⟨0,tGive,A,0,c,[],0,1,4,⟨0,4,1,4,sAgain⟩,true⟩,{ sm0 with live:=1,n:=1,D:=[(1,⟨4,0,0,0⟩)],S:=[1] },[]⟩:Mh)=hq A c 5:=by kernel_rfl
 exact⟨A,c,by rw[F],col',by rw[<- F]; exact J,G,I,(z (by decide)).fw G I⟩
theorem hq_s5 {base:Nat} {x:Wp} (A:Option Addr) (c:Nat) (w:World) (u:Nat->Nat) (h:Wv base u w x (hq A c 5).s) (I:1<=5->Lr base u w A 0 c []):Calls Tryz.prog 165 #[(hq A c 5).q.val,ptr x.pw] w (Hstep base u x w 5):=by
 refine (ht_act w _ (refillH (⟨⟨0,tRefill,A,0,c,[],0,1,4,⟨0,4,1,4,sDone⟩,true⟩,{ sm0 with live:=1,n:=1,D:=[(1,⟨4,0,0,0⟩)],S:=[1] },[]⟩:Mh)).q h 220 (by kernel_rfl) (show tRefill.size<=maxLen by decide) (fun w=>by kernel_rfl) (fun W u h=>hrefill_any W (⟨⟨0,tRefill,A,0,c,[],0,1,4,⟨0,4,1,4,sDone⟩,true⟩,{ sm0 with live:=1,n:=1,D:=[(1,⟨4,0,0,0⟩)],S:=[1] },[]⟩:Mh) h (show (0:Int)<=1 by decide) (show (4:Int)<=1000000 by decide))).mono ?_
 rintro e w' ⟨rfl,col',G,z,F⟩
 exact⟨A,c,rfl,col',G,z,F,(I (by decide)).fw z F⟩
theorem hq_s6 {base:Nat} {x:Wp} (A:Option Addr) (c:Nat) (w:World) (u:Nat->Nat) (h:Wv base u w x (hq A c 6).s) (I:1<=6->Lr base u w A 0 c []):Calls Tryz.prog 165 #[(hq A c 6).q.val,ptr x.pw] w (Hstep base u x w 6):=by
 refine (ht_act w _ (leaksH (⟨⟨0,tLeaks,A,0,c,[],0,1,4,⟨0,4,1,4,sDone⟩,true⟩,{ sm0 with live:=1,n:=1,D:=[(1,⟨4,0,0,0⟩)],S:=[1] },[]⟩:Mh)).q h 224 (by kernel_rfl) (show tLeaks.size<=maxLen by decide) (fun w=>by kernel_rfl) (fun W u h=>hleaks_any W (⟨⟨0,tLeaks,A,0,c,[],0,1,4,⟨0,4,1,4,sDone⟩,true⟩,{ sm0 with live:=1,n:=1,D:=[(1,⟨4,0,0,0⟩)],S:=[1] },[]⟩:Mh) h ⟨show (0:Int)<=0 by decide,show (0:Int)<=18446744073709551615 by decide⟩ (show (0:Nat)<=1000 by decide) (show (0:Nat)<=1000 by decide) (show (0:Nat)<=1000 by decide))).mono ?_
 rintro e w' ⟨rfl,col',G,z,F⟩
 exact⟨A,c,rfl,col',G,z,F,(I (by decide)).fw z F⟩
theorem hq_step {base:Nat} {x:Wp} (A:Option Addr) (c:Nat):∀ (k:Nat) (w:World) (u:Nat->Nat),k < 7->Wv base u w x (hq A c k).s->(1<=k->Lr base u w A 0 c [])->Calls Tryz.prog 165 #[(hq A c k).q.val,ptr x.pw] w (Hstep base u x w k)
 | 0,w,u,_,h,hL=>hq_s0 A c w u h hL
 | 1,w,u,_,h,hL=>hq_s1 A c w u h hL
 | 2,w,u,_,h,hL=>hq_s2 A c w u h hL
 | 3,w,u,_,h,hL=>hq_s3 A c w u h hL
 | 4,w,u,_,h,hL=>hq_s4 A c w u h hL
 | 5,w,u,_,h,hL=>hq_s5 A c w u h hL
 | 6,w,u,_,h,hL=>hq_s6 A c w u h hL
 | k+7,_,_,h,_,_=>absurd h (by omega)
theorem awake20_any (W:World) (hT:Tb.Tabs W):Calls Tryz.prog 105 #[] W fun e w'=>e=.returned (.bool true)/\Below W.heap.size W w':=by
 obtain⟨i0,hi,aP,aQ,aR⟩:=info_parts info_str
 have HT:=Lh hT
 clear hT
 go_enter Tryz.func105,Tryz.ntmps105
 go_wp2_with fail
 refine (Cn.default_any W).mono ?_
 rintro e w1 ⟨rfl,b1⟩
 have a0:=Lh b1
 clear b1
 go_wp2_with fail
 refine (new_ok cD cD_ok cD_zero none none 0 0 w1.heap.size 0 0 w1.heap.size [] [] w1 Rd.nil_ Rd.nil_ (Nat.le_refl _) (Nat.le_refl _) (by omega) (by omega)).mono ?_
 rintro e w2 ⟨x,aV,rfl,h2,b2⟩
 obtain⟨z,h2⟩:=h2.vv
 have ad:Hid (Wv w1.heap.size z w2 x sm0):=Lh h2
 have a5:Hid (Below W.heap.size W w2):=Lh (a0.out.trans (b2.mono a0.out.size))
 have a8:Hid (W.heap.size<=w1.heap.size):=Lh a0.out.size
 obtain⟨base,ax⟩:∃ base,w1.heap.size=base:=⟨_,rfl⟩
 rw[ax] at ad a8
 clear h2 b2 a0 ax
 go_upto_region 4 with (fail)
 go_wp2_with fail
 refine (hbegin_any 0 w2).mono ?_
 rintro e w3 ⟨rfl,b3⟩
 have ao:=Lh (ad.out.later b3)
 have a6:Hid (Below W.heap.size W w3):=Lh (a5.out.trans (b3.mono a5.out.size))
 clear b3 ad a5
 go_upto_region 5 with (first
  | (refine stB rt_ht rfl _ _ rfl w3.heap.size rfl (hq none 0 0).q.cells rfl (there_alloc 245 [.int .i64 0,.string ⟨#[]⟩,.slice none 0 0,.int .i64 0,.int .u64 0,.int .u64 0,.int .i64 0,.int .i64 0,.int .u64 0,.int .u64 0,.string ⟨#[]⟩,.bool false] w3) rfl (by kernel_rfl) ?_; intro w4 aE aH; have a3:=Lh aE; have a7:Hid (Below w3.heap.size w3 w4):=Lh (((Below.refl _ w3).alloc (Nat.le_refl _) _).trans (aH.below (by simp) (fun k hk=>by omega))); clear aE aH))
 have aC:=a6.out.size
 obtain⟨I,ay⟩:∃ I,w3.heap.size=I:=⟨_,rfl⟩
 have aj:Hid (W.heap.size<=I):=Lh (by omega)
 obtain⟨ar,h4,l4,c4⟩:=ao.out.var8 a7.out
 rw[ay] at a3 c4 ⊢
 have ai:Hid (Aw W base ar x 11 I w4 sm0 (hq none 0 0).q.cells none 0 0 []):=Lh ⟨h4,a3.out,c4 I (Nat.le_refl _) a3.out.lt,World.ownsRow_nil _ _ _ _,fun g hg=>by (cases hg),a6.out.trans (a7.out.mono aC),aj.out,a8.out⟩
 clear h4 l4 c4 a3 a7 a6 ao aC ay aj a8
 go_upto_region 6 with (fail)
 go_loopw [4] (fun l wr=>∃ (k c c2:Nat) (A A2:Option Addr) (z:Nat->Nat),k<=7/\l=.slice A2 k c2/\Hid (Aw W base z x 11 I wr (hq A c k).s (hq A c k).q.cells A2 k c2 (hsts.take k))/\Hid (1<=k->Lr base z wr A 0 c [])) (fun l _=>7 - lenOf l)
 case atStart=>exact⟨0,0,0,none,none,ar,Nat.zero_le _,rfl,ai,Lh (fun h=>absurd h (by decide))⟩
 case round=>
  clear ai
  obtain⟨k,c,c2,A,A2,z,hk,rfl,u,Y⟩:=hrel
  by_cases hlt:k < 7
  .have q1:decide ((k:Int) < 7)=true:=decide_eq_true (by omega)
   have a2:Hid ((hsts.take k).map Value.string ++ [(hq A c k).q.st].map Value.string=(hsts.take (k+1)).map Value.string):=Lh (by rw[<- List.map_append,hq_st A c k hlt])
   have ac:Hid (hsts.take k ++ [(hq A c k).q.st] = hsts.take (k+1)):=Lh (hq_st A c k hlt)
   have an:Hid (∀ (w:World) (z:Nat->Nat),Wv base z w x (hq A c k).s->(1<=k->Lr base z w A 0 c [])->Calls Tryz.prog 165 #[(hq A c k).q.val,ptr x.pw] w (Hstep base z x w k)):=Lh (fun w z=>hq_step A c k w z hlt)
   obtain⟨m,hm⟩:∃ m,hq A c k=m:=⟨_,rfl⟩
   rw[hm] at u a2 ac an
   clear hm
   go_wp2_with (first
    | (refine ldB rt_ht rfl _ rfl I rfl m.q.cells u.out.vb ?_))
   refine (hstate_any m.q wr).mono ?_
   rintro e G ⟨rfl,b5⟩
   have u:=Lh (u.out.later b5)
   have Y:Hid (1<=k->Lr base z G A 0 c []):=Lh (fun h=>(Y.out h).later b5)
   clear b5
   obtain⟨J,aD⟩:∃ J,m.q.st=J:=⟨_,rfl⟩
   rw[aD] at a2 ac ⊢
   clear aD
   have az:Rd Value.string (G.alloc (.cells #[.string J] 9)) (G.heap.size+1) (some ⟨G.heap.size,0,none⟩) 1 1 [J]:=rd_one G J 9
   have ak:=Lh az
   have Q:Below G.heap.size G (G.alloc (.cells #[.string J] 9)):=(Below.refl _ G).alloc (Nat.le_refl _) _
   obtain⟨w6,aG⟩:∃ w6,G.alloc (.cells #[.string J] 9)=w6:=⟨_,rfl⟩
   rw[aG] at Q ak
   have u:=Lh (u.out.later Q)
   have Y:Hid (1<=k->Lr base z w6 A 0 c []):=Lh (fun h=>(Y.out h).later Q)
   have aO:=u.out.bl.size
   clear az Q
   go_wp2_with (first
    | (at_builtin
       refine apRd _ rfl _ _ 97 rfl W.heap.size 9 i0 (.string ⟨#[]⟩) 16 Tryz.underlying97 hi aP aQ aR rfl (.slice A2 k c2) k _ rfl u.out.own _ _ 1 1 [J] rfl ak.out (fun _=>rfl) (k+1) rfl _ a2.out (by unfold maxLen; omega) (by omega) aO ?_
       intro A3 c3 F aA hg aw
       have aB:F.ownsRow W.heap.size 9 1 (.slice A3 (k+1) c3) (k+1) (((hsts.take k) ++ [J]).map Value.string):=by rw[List.map_append]; exact a2.out.symm ▸ aA
       obtain⟨aN,av,l7,aI⟩:=u.out.grow J aB hg aw
       have u:=Lh av
       have Y:Hid (1<=k->Lr base aN F A 0 c []):=Lh (fun h=>aI _ _ _ _ (Y.out h))
       clear aA hg aw aB av l7 aI)
    | (refine ldB rt_ht rfl _ rfl I rfl m.q.cells u.out.vb ?_))
   clear aG
   rw[ac.out] at u
   refine (an.out _ _ u.out.wv Y.out).mono ?_
   rintro e w8 ⟨A',c',rfl,col8,h8,z8,l8,au⟩
   have u:=Lh (u.out.call h8 z8 l8)
   have aL:=Lh au
   clear h8 z8 l8 au
   go_wp2_with (first
    | (refine stB rt_ht rfl _ _ rfl I rfl (hq A' c' (k+1)).q.cells rfl u.out.vb.th rfl (by kernel_rfl) ?_; intro w9 aF ah; have aJ:=Lh (u.out.put aF ah); have aM:Hid (1<=k+1->Lr base col8 w9 A' 0 c' []):=Lh (fun _=>aL.out.fz ah (fun g e=>by rw[e,u.out.cb]; decide)); clear aF ah))
   go_roundw
   case rel=>exact⟨_,_,_,_,_,_,_,_,_,_,_,_,⟨k+1,c',c3,A',A3,col8,by omega,rfl,aJ,aM⟩,rfl⟩
   case measure=>
    show 7 - lenOf (.slice A3 (k+1) c3) < 7 - lenOf (.slice A2 k c2)
    simp only[lenOf_slice]
    omega
  .obtain rfl:k=7:=by omega
   have q1:decide (((7:Nat):Int) < 7)=false:=rfl
   obtain⟨q6,ae⟩:∃ q6:Ht,(hq A c 7).q=q6:=⟨_,rfl⟩
   have aK:Hid (∀ w,Calls Tryz.prog 167 #[q6.val] w fun e w'=>e=.returned (.bool true)/\Below w.heap.size w w'):=Lh (fun w=>by have e:=hdone_any q6 w; rw[show (q6.st.toList == [100,111,110,101])=true from by rw[<- ae]; kernel_rfl] at e; exact e)
   have a9:Hid (∀ (w:World) (z:Nat->Nat),Wv base z w x (hq A c 7).s->Calls Tryz.prog 13 #[ptr x.pb,.int .u64 1] w fun e w'=>e=.returned (.tuple #[.int .u64 4,.bool true])/\w=w'):=Lh (fun w z h=>load_any w x.pb x.ab _ _ 1 h.bag ⟨by decide,by decide⟩)
   obtain⟨s7,af⟩:∃ s7,(hq A c 7).s=s7:=⟨_,rfl⟩
   have u:Hid (Aw W base z x 11 I wr s7 q6.cells A2 7 c2 hsts):=Lh (by rw[<- ae,<- af]; exact u.out)
   rw[af] at a9
   clear ae af Y hk
   have c8:=u.out.wv.cells.c8
   go_wp2_with fail
   refine (a9.out _ _ u.out.wv).mono ?_
   rintro e G ⟨rfl,rfl⟩
   clear c8 a9
   go_wp2_with fail
   refine (Awake19_any wr (HT.out.below u.out.bl)).mono ?_
   rintro e F ⟨rfl,b7⟩
   have u:=Lh (u.out.later b7)
   clear b7
   have a1:Hid (Rd Value.string F F.heap.size A2 7 c2 hsts):=Lh (Rd.own_rd u.out.own)
   have Q:Below F.heap.size F (F.alloc (.cells (hsts.map Value.string).toArray 9)):=(Below.refl _ F).alloc (Nat.le_refl _) _
   have aa:=Lh (rd_lit (enc:=Value.string) F hsts 7 rfl (by decide) 9)
   obtain⟨w8,a4⟩:∃ w8,F.alloc (.cells (hsts.map Value.string).toArray 9)=w8:=⟨_,rfl⟩
   rw[a4] at Q aa
   have a4:F.alloc (.cells #[.string ⟨#[115,116,97,114,116]⟩,.string ⟨#[114,101,102,105,108,108]⟩,.string ⟨#[111,112,101,110]⟩,.string ⟨#[112,117,98,108,105,115,104]⟩,.string ⟨#[103,105,118,101]⟩,.string ⟨#[114,101,102,105,108,108]⟩,.string ⟨#[108,101,97,107,115]⟩] 9)=w8:=a4
   have u:=Lh (u.out.later Q)
   have a1:=Lh (a1.out.later Q)
   clear Q
   go_wp2_with fail
   refine (strequal_same _ _ 7 _ _ hsts _ _ w8 a1.out aa.out).mono ?_
   rintro e w9 ⟨rfl,n9,rfl⟩
   have u:=Lh (u.out.later (Rw.bdN (Below.refl _ w8) n9))
   clear a1 aa a4
   obtain⟨w9,ag⟩:∃ w9,w8.drewN n9=w9:=⟨_,rfl⟩
   rw[ag] at u
   rw[ag]
   clear ag
   have z0:=u.out.vb.cell 0 _ rfl
   have z1:=u.out.vb.cell 1 _ rfl
   have z2:=u.out.vb.cell 2 _ rfl
   have z3:=u.out.vb.cell 3 _ rfl
   have z4:=u.out.vb.cell 4 _ rfl
   have z5:=u.out.vb.cell 5 _ rfl
   have z6:=u.out.vb.cell 6 _ rfl
   have z7:=u.out.vb.cell 7 _ rfl
   have z8:=u.out.vb.cell 8 _ rfl
   have z9:=u.out.vb.cell 9 _ rfl
   have aT:=u.out.vb.cell 10 _ rfl
   have aU:=u.out.vb.cell 11 _ rfl
   go_wp2_with fail
   refine (aK.out _).mono ?_
   rintro e aS ⟨rfl,aq⟩
   have u:=Lh (u.out.later aq)
   clear aq z0 z1 z2 z3 z4 z5 z6 z7 z8 z9 aT aU
   have al:=Lh (Wd.state_any 4 aS (by decide) (by decide))
   go_wp2_with fail
   refine al.out.mono ?_
   rintro e aW ⟨rfl,rfl⟩
   clear al
   go_wp2_with fail
   go_ret
   exact⟨rfl,u.out.bl⟩
end Go.Proofs.YtoiklelghfckgaaGreatDoor.Wo
end
section
set_option maxRecDepth 100000
set_option maxHeartbeats 8000000
set_option linter.unusedVariables false
namespace Go.Proofs.YtoiklelghfckgaaGreatDoor.Wo
open Go Go.ChangeShapes Go.WideShapes Go.ChangeAt Go.RowKit Go.Deep Go.Maps Rw Hi Mt Ba
open Cn (Cf cfE)
theorem Awake20_any (W:World) (h:Tb.Tabs W):Calls Tryz.prog 45 #[] W fun e w'=>e=.returned (.bool true)/\Below W.heap.size W w':=by
 have H:=Lh (awake20_any W h)
 clear h
 go_enter Tryz.func45,Tryz.ntmps45
 go_wp2_with fail
 refine H.out.mono ?_
 rintro e u ⟨rfl,b1⟩
 go_wp2_with fail
 go_ret
 exact⟨rfl,b1⟩
theorem c0_eq:bgnS [0] [] [] false = { sm0 with conf:=c8,D:=[(1,⟨0,0,0,0⟩)],S:=[1],live:=1,n:=1,C:=[],closed:=false,ev:=[] }:=by kernel_rfl
def cq (A:Option Addr) (c:Nat):Nat->Mc
 | 0=>(⟨⟨0,tStart,none,0,0,[],0,0,0,zg,0⟩,{ sm0 with conf:=c8,D:=[(1,⟨0,0,0,0⟩)],S:=[1],live:=1,n:=1,C:=[],closed:=false,ev:=[] },[]⟩:Mc)
 | 1=>(⟨⟨0,tSnap,none,0,0,[],0,0,0,zg,0⟩,{ sm0 with conf:=c8,D:=[(1,⟨0,0,0,0⟩)],S:=[1],live:=1,n:=1,C:=[],closed:=true,ev:=[⟨0,0,1,3,0,0⟩] },[]⟩:Mc)
 | 2=>(⟨⟨0,tLoad,A,1,c,[1],0,1,0,zg,0⟩,{ sm0 with conf:=c8,D:=[(1,⟨0,0,0,0⟩)],S:=[1],live:=1,n:=1,C:=[],closed:=true,ev:=[⟨0,0,1,3,0,0⟩] },[]⟩:Mc)
 | 3=>(⟨⟨0,tSwap,A,1,c,[1],0,1,0,zg,0⟩,{ sm0 with conf:=c8,D:=[(1,⟨0,0,0,0⟩)],S:=[1],live:=1,n:=1,C:=[],closed:=true,ev:=[⟨0,0,1,3,0,0⟩] },[]⟩:Mc)
 | 4=>(⟨⟨0,tGive,A,1,c,[1],0,1,6,⟨0,3,1,6,sClose⟩,0⟩,{ sm0 with conf:=c8,D:=[(1,⟨6,0,0,0⟩)],S:=[1],live:=1,n:=1,C:=[],closed:=true,ev:=[⟨0,0,1,3,0,0⟩] },[]⟩:Mc)
 | 5=>(⟨⟨0,tGive,A,1,c,[1],0,1,6,⟨0,3,1,6,sUnlist⟩,0⟩,{ sm0 with conf:=c8,D:=[(1,⟨11,0,0,0⟩)],S:=[1],live:=1,n:=1,C:=[1],closed:=true,ev:=[⟨0,0,1,3,0,0⟩,⟨0,0,3,3,1,0⟩] },[]⟩:Mc)
 | 6=>(⟨⟨0,tGive,A,1,c,[1],0,1,6,⟨0,3,1,6,sShrink⟩,0⟩,{ sm0 with conf:=c8,D:=[(1,⟨11,0,0,0⟩)],S:=[],live:=1,n:=1,C:=[1],closed:=true,ev:=[⟨0,0,1,3,0,0⟩,⟨0,0,3,3,1,0⟩] },[]⟩:Mc)
 | _=>(⟨⟨0,tDone,A,1,c,[1],1,1,6,⟨0,3,1,6,sDone⟩,0⟩,{ sm0 with conf:=c8,D:=[(1,⟨11,0,0,0⟩)],S:=[],live:=0,n:=1,C:=[1],closed:=true,ev:=[⟨0,0,1,3,0,0⟩,⟨0,0,3,3,1,0⟩] },[]⟩:Mc)
def Cstep (base:Nat) (col:Nat->Nat) (x:Wp) (w:World) (k:Nat) (e:Ending) (w':World):Prop:=
 ∃ A c,e=.returned (cq A c (k+1)).q.val /\ ∃ col',Wv base col' w' x (cq A c (k+1)).s/\Fw col w w'/\El w col col'/\(1<=k->Lr base col' w' A 1 c [1])
theorem cq_s0 {base:Nat} {x:Wp} (A:Option Addr) (c:Nat) (w:World) (col:Nat->Nat) (h:Wv base col w x (cq A c 0).s) (I:2<=0->Lr base col w A 1 c [1]):Calls Tryz.prog 20 #[(cq A c 0).q.val,ptr x.pw] w (Cstep base col x w 0):=by
 refine (ct_act w _ (startC (⟨⟨0,tStart,none,0,0,[],0,0,0,zg,0⟩,{ sm0 with conf:=c8,D:=[(1,⟨0,0,0,0⟩)],S:=[1],live:=1,n:=1,C:=[],closed:=false,ev:=[] },[]⟩:Mc)).q h 106 (by kernel_rfl) (show tStart.size<=maxLen by decide) (fun w=>by kernel_rfl) (fun W col h=>cstart_any W (⟨⟨0,tStart,none,0,0,[],0,0,0,zg,0⟩,{ sm0 with conf:=c8,D:=[(1,⟨0,0,0,0⟩)],S:=[1],live:=1,n:=1,C:=[],closed:=false,ev:=[] },[]⟩:Mc) h (show (0:Nat)<=1000 by decide))).mono ?_
 rintro e w' ⟨rfl,col',u,z,F⟩
 exact⟨A,c,rfl,col',u,z,F,fun G=>absurd G (by decide)⟩
theorem cq_s1 {base:Nat} {x:Wp} (A:Option Addr) (c:Nat) (w:World) (col:Nat->Nat) (h:Wv base col w x (cq A c 1).s) (I:2<=1->Lr base col w A 1 c [1]):Calls Tryz.prog 20 #[(cq A c 1).q.val,ptr x.pw] w (Cstep base col x w 1):=by
 refine (ct_actL w _ (fun A n c=>(snapC (⟨⟨0,tSnap,none,0,0,[],0,0,0,zg,0⟩,{ sm0 with conf:=c8,D:=[(1,⟨0,0,0,0⟩)],S:=[1],live:=1,n:=1,C:=[],closed:=true,ev:=[⟨0,0,1,3,0,0⟩] },[]⟩:Mc) A n c).q) h 107 (by kernel_rfl) (show tSnap.size<=maxLen by decide) (fun w=>by kernel_rfl) (fun W col h=>csnap_any W (⟨⟨0,tSnap,none,0,0,[],0,0,0,zg,0⟩,{ sm0 with conf:=c8,D:=[(1,⟨0,0,0,0⟩)],S:=[1],live:=1,n:=1,C:=[],closed:=true,ev:=[⟨0,0,1,3,0,0⟩] },[]⟩:Mc) h)).mono ?_
 rintro e w' ⟨A,n,c,rfl,col',z,F,G,u⟩
 obtain rfl:n=1:=u.rd.len.symm
 exact⟨A,c,rfl,col',z,F,G,fun _=>u⟩
theorem cq_s2 {base:Nat} {x:Wp} (A:Option Addr) (c:Nat) (w:World) (col:Nat->Nat) (h:Wv base col w x (cq A c 2).s) (u:2<=2->Lr base col w A 1 c [1]):Calls Tryz.prog 20 #[(cq A c 2).q.val,ptr x.pw] w (Cstep base col x w 2):=by
 refine (ct_actR w _ (loadC (⟨⟨0,tLoad,A,1,c,[1],0,1,0,zg,0⟩,{ sm0 with conf:=c8,D:=[(1,⟨0,0,0,0⟩)],S:=[1],live:=1,n:=1,C:=[],closed:=true,ev:=[⟨0,0,1,3,0,0⟩] },[]⟩:Mc)).q h (u (by decide)) 108 (by kernel_rfl) (show tLoad.size<=maxLen by decide) (fun w=>by kernel_rfl) (fun W col h u=>cload_any W (⟨⟨0,tLoad,A,1,c,[1],0,1,0,zg,0⟩,{ sm0 with conf:=c8,D:=[(1,⟨0,0,0,0⟩)],S:=[1],live:=1,n:=1,C:=[],closed:=true,ev:=[⟨0,0,1,3,0,0⟩] },[]⟩:Mc) h ⟨show (0:Int)<=1 by decide,show (1:Int)<=18446744073709551615 by decide⟩ u)).mono ?_
 rintro e w' ⟨rfl,col',G,z,F⟩
 exact⟨A,c,rfl,col',G,z,F,fun _=>(u (by decide)).fw z F⟩
theorem cq_s3 {base:Nat} {x:Wp} (A:Option Addr) (c:Nat) (w:World) (col:Nat->Nat) (h:Wv base col w x (cq A c 3).s) (G:2<=3->Lr base col w A 1 c [1]):Calls Tryz.prog 20 #[(cq A c 3).q.val,ptr x.pw] w (Cstep base col x w 3):=by
 refine (ct_act w _ (swapC (⟨⟨0,tSwap,A,1,c,[1],0,1,0,zg,0⟩,{ sm0 with conf:=c8,D:=[(1,⟨0,0,0,0⟩)],S:=[1],live:=1,n:=1,C:=[],closed:=true,ev:=[⟨0,0,1,3,0,0⟩] },[]⟩:Mc)).q h 109 (by kernel_rfl) (show tSwap.size<=maxLen by decide) (fun w=>by kernel_rfl) (fun W col h=>cswap_any W (⟨⟨0,tSwap,A,1,c,[1],0,1,0,zg,0⟩,{ sm0 with conf:=c8,D:=[(1,⟨0,0,0,0⟩)],S:=[1],live:=1,n:=1,C:=[],closed:=true,ev:=[⟨0,0,1,3,0,0⟩] },[]⟩:Mc) h ⟨show (0:Int)<=1 by decide,show (1:Int)<=18446744073709551615 by decide⟩ ⟨show (0:Int)<=0 by decide,show (0:Int)<=18446744073709551615 by decide⟩ ⟨show (0:Int)<=0 by decide,show (0:Int)<=18446744073709551615 by decide⟩)).mono ?_
 rintro e w' ⟨rfl,col',F,u,z⟩
 exact⟨A,c,rfl,col',F,u,z,fun _=>(G (by decide)).fw u z⟩
theorem cq_s4 {base:Nat} {x:Wp} (A:Option Addr) (c:Nat) (w:World) (col:Nat->Nat) (h:Wv base col w x (cq A c 4).s) (u:2<=4->Lr base col w A 1 c [1]):Calls Tryz.prog 20 #[(cq A c 4).q.val,ptr x.pw] w (Cstep base col x w 4):=by
 refine (ct_actR w _ (giveC (⟨⟨0,tGive,A,1,c,[1],0,1,6,⟨0,3,1,6,sClose⟩,0⟩,{ sm0 with conf:=c8,D:=[(1,⟨6,0,0,0⟩)],S:=[1],live:=1,n:=1,C:=[],closed:=true,ev:=[⟨0,0,1,3,0,0⟩] },[]⟩:Mc)).q h (u (by decide)) 110 (by kernel_rfl) (show tGive.size<=maxLen by decide) (fun w=>by kernel_rfl) (fun W col h u=>cgive_any W (⟨⟨0,tGive,A,1,c,[1],0,1,6,⟨0,3,1,6,sClose⟩,0⟩,{ sm0 with conf:=c8,D:=[(1,⟨6,0,0,0⟩)],S:=[1],live:=1,n:=1,C:=[],closed:=true,ev:=[⟨0,0,1,3,0,0⟩] },[]⟩:Mc) h (gon_of (q:=⟨⟨0,3,1,6,sClose⟩,{ sm0 with conf:=c8,D:=[(1,⟨6,0,0,0⟩)],S:=[1],live:=1,n:=1,C:=[],closed:=true,ev:=[⟨0,0,1,3,0,0⟩] },[]⟩) (k:=10) ⟨rfl,⟨⟨show (0:Int)<=1 by decide,show (1:Int)<=18446744073709551615 by decide⟩,⟨show (0:Int)<=6 by decide,show (6:Int)<=18446744073709551615 by decide⟩⟩,⟨show (0:Int)<=0 by decide,show (0:Int)<=18446744073709551615 by decide⟩,show (0:Nat)<=900 by decide,show (0:Nat)<=10 by decide,show (1:Nat)<=10 by decide,show (1:Nat)<=900 by decide,⟨show (0:Int)<=1 by decide,show (1:Int)<=1000 by decide⟩,.inr (.inr (.inr (.inr (.inr (.inl rfl)))))⟩ (by decide)) u)).mono ?_
 rintro e w' ⟨rfl,col',I,F,G⟩
 have z:giveC (⟨⟨0,tGive,A,1,c,[1],0,1,6,⟨0,3,1,6,sClose⟩,0⟩,{ sm0 with conf:=c8,D:=[(1,⟨6,0,0,0⟩)],S:=[1],live:=1,n:=1,C:=[],closed:=true,ev:=[⟨0,0,1,3,0,0⟩] },[]⟩:Mc)=cq A c 5:=by kernel_rfl
 exact⟨A,c,by rw[z],col',by rw[<- z]; exact I,F,G,fun _=>(u (by decide)).fw F G⟩
theorem cq_s5 {base:Nat} {x:Wp} (A:Option Addr) (c:Nat) (w:World) (col:Nat->Nat) (h:Wv base col w x (cq A c 5).s) (u:2<=5->Lr base col w A 1 c [1]):Calls Tryz.prog 20 #[(cq A c 5).q.val,ptr x.pw] w (Cstep base col x w 5):=by
 refine (ct_actR w _ (giveC (⟨⟨0,tGive,A,1,c,[1],0,1,6,⟨0,3,1,6,sUnlist⟩,0⟩,{ sm0 with conf:=c8,D:=[(1,⟨11,0,0,0⟩)],S:=[1],live:=1,n:=1,C:=[1],closed:=true,ev:=[⟨0,0,1,3,0,0⟩,⟨0,0,3,3,1,0⟩] },[]⟩:Mc)).q h (u (by decide)) 110 (by kernel_rfl) (show tGive.size<=maxLen by decide) (fun w=>by kernel_rfl) (fun W col h u=>cgive_any W (⟨⟨0,tGive,A,1,c,[1],0,1,6,⟨0,3,1,6,sUnlist⟩,0⟩,{ sm0 with conf:=c8,D:=[(1,⟨11,0,0,0⟩)],S:=[1],live:=1,n:=1,C:=[1],closed:=true,ev:=[⟨0,0,1,3,0,0⟩,⟨0,0,3,3,1,0⟩] },[]⟩:Mc) h (gon_of (q:=⟨⟨0,3,1,6,sUnlist⟩,{ sm0 with conf:=c8,D:=[(1,⟨11,0,0,0⟩)],S:=[1],live:=1,n:=1,C:=[1],closed:=true,ev:=[⟨0,0,1,3,0,0⟩,⟨0,0,3,3,1,0⟩] },[]⟩) (k:=10) ⟨rfl,⟨⟨show (0:Int)<=1 by decide,show (1:Int)<=18446744073709551615 by decide⟩,⟨show (0:Int)<=6 by decide,show (6:Int)<=18446744073709551615 by decide⟩⟩,⟨show (0:Int)<=0 by decide,show (0:Int)<=18446744073709551615 by decide⟩,show (0:Nat)<=900 by decide,show (1:Nat)<=10 by decide,show (2:Nat)<=10 by decide,show (1:Nat)<=900 by decide,⟨show (0:Int)<=1 by decide,show (1:Int)<=1000 by decide⟩,.inr (.inr (.inr (.inr (.inr (.inr (.inl rfl))))))⟩ (by decide)) u)).mono ?_
 rintro e w' ⟨rfl,col',I,F,G⟩
 have z:giveC (⟨⟨0,tGive,A,1,c,[1],0,1,6,⟨0,3,1,6,sUnlist⟩,0⟩,{ sm0 with conf:=c8,D:=[(1,⟨11,0,0,0⟩)],S:=[1],live:=1,n:=1,C:=[1],closed:=true,ev:=[⟨0,0,1,3,0,0⟩,⟨0,0,3,3,1,0⟩] },[]⟩:Mc)=cq A c 6:=by kernel_rfl
 exact⟨A,c,by rw[z],col',by rw[<- z]; exact I,F,G,fun _=>(u (by decide)).fw F G⟩
theorem cq_s6 {base:Nat} {x:Wp} (A:Option Addr) (c:Nat) (w:World) (col:Nat->Nat) (h:Wv base col w x (cq A c 6).s) (u:2<=6->Lr base col w A 1 c [1]):Calls Tryz.prog 20 #[(cq A c 6).q.val,ptr x.pw] w (Cstep base col x w 6):=by
 refine (ct_actR w _ (giveC (⟨⟨0,tGive,A,1,c,[1],0,1,6,⟨0,3,1,6,sShrink⟩,0⟩,{ sm0 with conf:=c8,D:=[(1,⟨11,0,0,0⟩)],S:=[],live:=1,n:=1,C:=[1],closed:=true,ev:=[⟨0,0,1,3,0,0⟩,⟨0,0,3,3,1,0⟩] },[]⟩:Mc)).q h (u (by decide)) 110 (by kernel_rfl) (show tGive.size<=maxLen by decide) (fun w=>by kernel_rfl) (fun W col h u=>cgive_any W (⟨⟨0,tGive,A,1,c,[1],0,1,6,⟨0,3,1,6,sShrink⟩,0⟩,{ sm0 with conf:=c8,D:=[(1,⟨11,0,0,0⟩)],S:=[],live:=1,n:=1,C:=[1],closed:=true,ev:=[⟨0,0,1,3,0,0⟩,⟨0,0,3,3,1,0⟩] },[]⟩:Mc) h (gon_of (q:=⟨⟨0,3,1,6,sShrink⟩,{ sm0 with conf:=c8,D:=[(1,⟨11,0,0,0⟩)],S:=[],live:=1,n:=1,C:=[1],closed:=true,ev:=[⟨0,0,1,3,0,0⟩,⟨0,0,3,3,1,0⟩] },[]⟩) (k:=10) ⟨rfl,⟨⟨show (0:Int)<=1 by decide,show (1:Int)<=18446744073709551615 by decide⟩,⟨show (0:Int)<=6 by decide,show (6:Int)<=18446744073709551615 by decide⟩⟩,⟨show (0:Int)<=0 by decide,show (0:Int)<=18446744073709551615 by decide⟩,show (0:Nat)<=900 by decide,show (1:Nat)<=10 by decide,show (2:Nat)<=10 by decide,show (0:Nat)<=900 by decide,⟨show (0:Int)<=1 by decide,show (1:Int)<=1000 by decide⟩,.inr (.inr (.inr (.inr (.inr (.inr (.inr (.inl rfl)))))))⟩ (by decide)) u)).mono ?_
 rintro e w' ⟨rfl,col',I,F,G⟩
 have z:giveC (⟨⟨0,tGive,A,1,c,[1],0,1,6,⟨0,3,1,6,sShrink⟩,0⟩,{ sm0 with conf:=c8,D:=[(1,⟨11,0,0,0⟩)],S:=[],live:=1,n:=1,C:=[1],closed:=true,ev:=[⟨0,0,1,3,0,0⟩,⟨0,0,3,3,1,0⟩] },[]⟩:Mc)=cq A c 7:=by kernel_rfl
 exact⟨A,c,by rw[z],col',by rw[<- z]; exact I,F,G,fun _=>(u (by decide)).fw F G⟩
theorem cq_step {base:Nat} {x:Wp} (A:Option Addr) (c:Nat):∀ (k:Nat) (w:World) (col:Nat->Nat),k < 7->Wv base col w x (cq A c k).s->(2<=k->Lr base col w A 1 c [1])->Calls Tryz.prog 20 #[(cq A c k).q.val,ptr x.pw] w (Cstep base col x w k)
 | 0,w,col,_,h,hL=>cq_s0 A c w col h hL
 | 1,w,col,_,h,hL=>cq_s1 A c w col h hL
 | 2,w,col,_,h,hL=>cq_s2 A c w col h hL
 | 3,w,col,_,h,hL=>cq_s3 A c w col h hL
 | 4,w,col,_,h,hL=>cq_s4 A c w col h hL
 | 5,w,col,_,h,hL=>cq_s5 A c w col h hL
 | 6,w,col,_,h,hL=>cq_s6 A c w col h hL
 | k+7,_,_,h,_,_=>absurd h (by omega)
structure Bw (W:World) (base:Nat) (col:Nat->Nat) (x:Wp) (n gb:Nat) (w:World) (s:Ws) (cs:List Value):Prop where
 wv:Wv base col w x s
 vb:Vb w gb (n+1) cs
 cb:col gb=8
 bl:Below W.heap.size W w
 gbl:W.heap.size<=gb
 bs:W.heap.size<=base
section
variable {W w w':World} {base:Nat} {col col':Nat->Nat} {x:Wp} {n gb:Nat} {s s':Ws} {cs cs':List Value}
theorem Bw.later (h:Bw W base col x n gb w s cs) (u:Below w.heap.size w w'):Bw W base col x n gb w' s cs:=⟨h.wv.later u,h.vb.later u,h.cb,h.bl.trans (u.mono h.bl.size),h.gbl,h.bs⟩
theorem Bw.call (h:Bw W base col x n gb w s cs) (z:Wv base col' w' x s') (u:Fw col w w') (G:El w col col'):Bw W base col' x n gb w' s' cs:=
 ⟨z,h.vb.blk (u.block gb h.vb.lt (fun e=>e.2 h.cb)),(G gb h.vb.lt).trans h.cb,h.bl.trans (u.below h.bl.size (fun g F=>Nat.le_trans h.bs (h.wv.lo g F.1))),h.gbl,h.bs⟩
theorem Bw.put (h:Bw W base col x n gb w s cs) (hv:Vb w' gb (n+1) cs') (u:Fz (fun k=>k=gb) w w'):Bw W base col x n gb w' s cs':=
 ⟨h.wv.aside u (fun g _ e=>e ▸ h.cb),hv,h.cb,h.bl.trans (u.below h.bl.size (fun g z=>z ▸ h.gbl)),h.gbl,h.bs⟩
end
theorem awake21_any (W:World) (hT:Tb.Tabs W):Calls Tryz.prog 18 #[] W fun e w'=>e=.returned (.bool true)/\Below W.heap.size W w':=by
 have HT:=Lh hT
 clear hT
 obtain⟨z,a0⟩:∃ z,W.alloc (.cells #[.int .u8 0] 5)=z:=⟨_,rfl⟩
 have b1:Below W.heap.size W z:=by rw[<- a0]; exact (Below.refl _ _).alloc (Nat.le_refl _) _
 have s1:z.heap.size=W.heap.size+1:=by rw[<- a0]; simp
 have r1:Rd (Value.int .u8) z z.heap.size (some ⟨W.heap.size,0,none⟩) 1 1 [0]:=by
  have e:=rd_one (enc:=Value.int .u8) W 0 5
  rw[s1,<- a0]; exact e
 have HR:=Lh r1
 have a1:=Lh b1
 clear b1 r1 s1
 go_enter Tryz.func18,Tryz.ntmps18
 go_wp2_with fail
 refine (begin_any z _ none none 1 1 0 0 0 0 [0] [] [] HR.out Rd.nil_ Rd.nil_ (by simp) (by simp) (by simp) (by decide) (by decide) (by decide) false).mono ?_
 rintro e I ⟨base,x,col,v,rfl,aC,h3,-,b3⟩
 have ar:=a1.out.size
 have af:Hid (W.heap.size<=base):=Lh (by omega)
 have a2:Hid (Below W.heap.size W I):=Lh (a1.out.trans (b3.mono ar))
 have a7:=Lh h3
 obtain⟨sB,a9⟩:∃ sB,bgnS [0] [] [] false=sB:=⟨_,rfl⟩
 rw[a9] at a7 ⊢
 have aj:=Lh a9
 clear h3 b3 aC ar a1 a9 HR a0
 go_upto_region 2 with (first
  | (refine store_w rfl _ _ rfl I.heap.size rfl v sB rfl (th_zero I) ?_; intro w4 aD ax; have G:Hid (Below I.heap.size I w4):=Lh (((Below.refl _ I).alloc (Nat.le_refl _) _).trans (ax.below (by simp) (fun k hk=>by omega))); clear aD ax))
 have Y:=Lh (a7.out.later G.out)
 have G:Hid (Below W.heap.size W w4):=Lh (a2.out.trans (G.out.mono a2.out.size))
 clear a7 a2
 have Y:Hid (Wv base col w4 x (cq none 0 0).s):=Lh (by rw[show (cq none 0 0).s=sB from c0_eq.symm.trans aj.out]; exact Y.out)
 go_upto_region 4 with (fail)
 go_wp2_with fail
 refine (cbegin_any 0 w4).mono ?_
 rintro e F ⟨rfl,b5⟩
 have ak:=Lh (Y.out.later b5)
 have a3:Hid (Below W.heap.size W F):=Lh (G.out.trans (b5.mono G.out.size))
 clear b5 Y G aj
 go_upto_region 5 with (first
  | (refine stB rt_ct rfl _ _ rfl F.heap.size rfl (cq none 0 0).q.cells rfl (there_alloc 82 [.int .i64 0,.string ⟨#[]⟩,.slice none 0 0,.int .i64 0,.int .u64 0,.int .u64 0,.int .i64 0,.int .i64 0,.int .u64 0,.int .u64 0,.string ⟨#[]⟩,.int .i64 0] F) rfl (by kernel_rfl) ?_; intro w6 av ay; have Q:=Lh av; have a4:Hid (Below F.heap.size F w6):=Lh (((Below.refl _ F).alloc (Nat.le_refl _) _).trans (ay.below (by simp) (fun k hk=>by omega))); clear av ay))
 have au:=a3.out.size
 obtain⟨gb,aq⟩:∃ gb,F.heap.size=gb:=⟨_,rfl⟩
 have ai:Hid (W.heap.size<=gb):=Lh (by omega)
 obtain⟨an,h6,l6,c6⟩:=ak.out.var8 a4.out
 rw[aq] at Q c6 ⊢
 have ae:Hid (Bw W base an x 11 gb w6 (cq none 0 0).s (cq none 0 0).q.cells):=Lh ⟨h6,Q.out,c6 gb (Nat.le_refl _) Q.out.lt,a3.out.trans (a4.out.mono au),ai.out,af.out⟩
 clear h6 l6 c6 Q a4 a3 ak au aq ai af
 go_upto_region 6 with (fail)
 go_loopw [14] (fun i wr=>∃ (k c:Nat) (A:Option Addr) (col:Nat->Nat),k<=7/\i=.int .i64 k/\Hid (Bw W base col x 11 gb wr (cq A c k).s (cq A c k).q.cells)/\Hid (2<=k->Lr base col wr A 1 c [1])) (fun i _=>7 - (intOf i).toNat)
 case atStart=>exact⟨0,0,none,an,Nat.zero_le _,rfl,ae,Lh (fun h=>absurd h (by decide))⟩
 case round=>
  clear ae
  obtain⟨k,c,A,col,hk,rfl,u,HL⟩:=hrel
  by_cases hlt:k < 7
  .have q1:decide ((k:Int) < 7)=true:=decide_eq_true (by omega)
   have t3:IntKind.i64.wrap ((k:Int)+1)=(k:Int)+1:=by rw[IntKind.wrap_i64]; omega
   have a6:Hid (∀ (w:World) (col:Nat->Nat),Wv base col w x (cq A c k).s->(2<=k->Lr base col w A 1 c [1])->Calls Tryz.prog 20 #[(cq A c k).q.val,ptr x.pw] w (Cstep base col x w k)):=Lh (fun w col=>cq_step A c k w col hlt)
   obtain⟨m,hm⟩:∃ m,cq A c k=m:=⟨_,rfl⟩
   rw[hm] at u a6
   clear hm
   go_wp2_with (first
    | (refine ldB rt_ct rfl _ rfl gb rfl m.q.cells u.out.vb ?_))
   refine (a6.out _ _ u.out.wv HL.out).mono ?_
   rintro e w8 ⟨A',c',rfl,col8,h8,J,l8,ao⟩
   have u:=Lh (u.out.call h8 J l8)
   have aA:=Lh ao
   clear h8 J l8 ao HL a6
   go_wp2_with (first
    | (refine stB rt_ct rfl _ _ rfl gb rfl (cq A' c' (k+1)).q.cells rfl u.out.vb.th rfl (by kernel_rfl) ?_; intro w9 aw aa; have az:=Lh (u.out.put aw aa); have aB:Hid (2<=k+1->Lr base col8 w9 A' 1 c' [1]):=Lh (fun h=>(aA.out (by omega)).fz aa (fun g e=>by rw[e,u.out.cb]; decide)); clear aw aa))
   go_roundw
   case rel=>exact⟨k+1,c',A',col8,by omega,by go_num,az,aB⟩
   case measure=>simp[intOf]; omega
  .obtain rfl:k=7:=by omega
   have q1:decide (((7:Nat):Int) < 7)=false:=rfl
   obtain⟨q,hq⟩:∃ q:Ct,(cq A c 7).q=q:=⟨_,rfl⟩
   have ag:Hid (∀ w,Calls Tryz.prog 24 #[q.val] w fun e w'=>e=.returned (.bool true)/\Below w.heap.size w w'):=Lh (fun w=>by have e:=cdone_any q w; rw[show (q.st.toList == [100,111,110,101])=true from by rw[<- hq]; kernel_rfl] at e; exact e)
   have ah:Hid (∀ w,Calls Tryz.prog 25 #[q.val] w fun e w'=>e=.returned (.int .i64 0)/\Below w.heap.size w w'):=Lh (fun w=>by have e:=cerr_any q w; rw[show q.err=0 from by rw[<- hq]; rfl] at e; exact e)
   have a5:Hid (∀ (w:World) (col:Nat->Nat),Wv base col w x (cq A c 7).s->Calls Tryz.prog 16 #[ptr x.pF,.int .u64 1] w fun e w'=>e=.returned (.bool false)/\w=w'):=Lh (fun w col h=>Fc.isopen_any x.pF x.bF x.mF _ _ _ _ 1 w h.fact ⟨by decide,by decide⟩)
   obtain⟨s7,a8⟩:∃ s7,(cq A c 7).s=s7:=⟨_,rfl⟩
   rw[hq,a8] at u
   rw[a8] at a5
   clear hq a8 HL hk
   go_wp2_with fail
   refine (Awake20_any wr (HT.out.below u.out.bl)).mono ?_
   rintro e w8 ⟨rfl,b8⟩
   have u:=Lh (u.out.later b8)
   clear b8 HT
   have z0:=u.out.vb.cell 0 _ rfl
   have z1:=u.out.vb.cell 1 _ rfl
   have z2:=u.out.vb.cell 2 _ rfl
   have z3:=u.out.vb.cell 3 _ rfl
   have z4:=u.out.vb.cell 4 _ rfl
   have z5:=u.out.vb.cell 5 _ rfl
   have z6:=u.out.vb.cell 6 _ rfl
   have z7:=u.out.vb.cell 7 _ rfl
   have J:=u.out.vb.cell 8 _ rfl
   have z9:=u.out.vb.cell 9 _ rfl
   have ac:=u.out.vb.cell 10 _ rfl
   have ad:=u.out.vb.cell 11 _ rfl
   go_wp2_with fail
   refine (ag.out _).mono ?_
   rintro e w9 ⟨rfl,b9⟩
   have u:=Lh (u.out.later b9)
   clear b9 ag z0 z1 z2 z3 z4 z5 z6 z7 J z9 ac ad
   have z0:=u.out.vb.cell 0 _ rfl
   have z1:=u.out.vb.cell 1 _ rfl
   have z2:=u.out.vb.cell 2 _ rfl
   have z3:=u.out.vb.cell 3 _ rfl
   have z4:=u.out.vb.cell 4 _ rfl
   have z5:=u.out.vb.cell 5 _ rfl
   have z6:=u.out.vb.cell 6 _ rfl
   have z7:=u.out.vb.cell 7 _ rfl
   have J:=u.out.vb.cell 8 _ rfl
   have z9:=u.out.vb.cell 9 _ rfl
   have ac:=u.out.vb.cell 10 _ rfl
   have ad:=u.out.vb.cell 11 _ rfl
   go_wp2_with fail
   refine (ah.out _).mono ?_
   rintro e aE ⟨rfl,al⟩
   have u:=Lh (u.out.later al)
   clear al ah z0 z1 z2 z3 z4 z5 z6 z7 J z9 ac ad
   have c12:=u.out.wv.cells.c12
   go_wp2_with fail
   refine (a5.out _ _ u.out.wv).mono ?_
   rintro e aF ⟨rfl,rfl⟩
   clear a5 c12
   go_wp2_with fail
   go_ret
   exact⟨rfl,u.out.bl⟩
end Go.Proofs.YtoiklelghfckgaaGreatDoor.Wo
end
section
set_option maxRecDepth 100000
set_option maxHeartbeats 8000000
set_option linter.unusedVariables false
namespace Go.Proofs.YtoiklelghfckgaaGreatDoor.Wo
open Go Go.ChangeShapes Go.WideShapes Go.ChangeAt Go.RowKit Go.Maps Rw Hi Mt Ba
open Cn (Cf cfE)
theorem col8_hi {a b c d e f g h k:Nat} (z1:a<=b) (z2:b<=c) (z3:c<=d) (z4:d<=e) (z:e<=f) (F:f<=g) (u:col8 a b c d e f g h k≠0):k < g\/k=h:=by
 by_cases h2:k < g
 .exact .inl h2
 .by_cases h3:k=h
  .exact .inr h3
  .exact absurd (by unfold col8; rw[if_neg (by omega),if_neg (by omega),if_neg (by omega),if_neg (by omega),if_neg (by omega),if_neg (by omega),if_neg (by omega),if_neg h3]) u
section
variable {w w':World} {base:Nat} {col col':Nat->Nat} {x x':Wp} {s:Ws}
def dead (col:Nat->Nat) (g:Nat):Nat:=if col g=0 then 0 else 8
theorem wclone_any (w:World) (h:Wv base col w x s) (hD:s.D.length<=1000) (a7:s.sl.length<=1000) (hO:s.O.length<=1000) (hP:s.P.length<=1000) (a4:s.ev.length<=1000) :
  Calls Tryz.prog 26 #[ptr x.pw] w fun e w'=>∃ (x':Wp) (col':Nat->Nat),e=.returned (ptr x'.pw)/\Wv base col' w' x' s/\(∀ g,g < w.heap.size->col' g=dead col g)/\Below w.heap.size w w':=by
 have I:=Lh h
 have a0:=Lh h.base_le
 have a3:=Lh h.lo
 clear h
 go_enter Tryz.func26,Tryz.ntmps26
 go_wp2_with fail
 have u:Hid (Below w.heap.size w w.drew):=Lh (Below.refl _ _).drew
 refine rgS 49 (fun w'=>Below w.heap.size w w') (by kernel_rfl) (by kernel_rfl) ?_
 intro a1
 have z:=Lh a1
 clear a1
 refine rq 0 z.out u.out rfl ?_
 refine rq 1 z.out u.out rfl ?_
 refine rq 2 z.out u.out rfl ?_
 go_simp
 refine rq 3 z.out u.out rfl ?_ (hv:=fun w' hw=>by (have k:=(I.out.later hw).cells; have k0:=k.c0; have k1:=k.c1; have k2:=k.c2; have k3:=k.c3; have k4:=k.c4; have k5:=k.c5; have k6:=k.c6; go_simp; exact rfl))
 refine rq 4 z.out u.out rfl ?_
 refine rq 5 z.out u.out rfl ?_
 go_simp
 refine rq 6 z.out u.out rfl ?_
 refine rq 7 z.out u.out rfl ?_ (hv:=fun w' hw=>by (have k:=(I.out.later hw).cells; have k7:=k.c7; go_simp; exact rfl))
 refine rq 8 z.out u.out rfl ?_
 go_simp
 refine rq 9 z.out u.out rfl ?_
 refine rq 10 z.out u.out rfl ?_
 refine rq 11 z.out u.out rfl ?_ (hv:=fun w' hw=>by (have k:=(I.out.later hw).cells; have k8:=k.c8; go_simp; exact rfl))
 go_simp
 refine rq 13 z.out u.out rfl ?_
 refine rq 14 z.out u.out rfl ?_
 refine rq 15 z.out u.out rfl ?_
 go_simp
 refine rq 16 z.out u.out rfl ?_ (hv:=fun w' hw=>by (have k:=(I.out.later hw).cells; have k9:=k.c9; go_simp; exact rfl))
 refine rq 18 z.out u.out rfl ?_
 refine rq 19 z.out u.out rfl ?_
 go_simp
 refine rq 20 z.out u.out rfl ?_
 refine rq 21 z.out u.out rfl ?_ (hv:=fun w' hw=>by (have k:=(I.out.later hw).cells; have ak:=k.c10; go_simp; exact rfl))
 refine rq 23 z.out u.out rfl ?_
 go_simp
 refine rq 24 z.out u.out rfl ?_
 refine rq 25 z.out u.out rfl ?_
 refine rq 26 z.out u.out rfl ?_ (hv:=fun w' hw=>by (have k:=(I.out.later hw).cells; have al:=k.c11; go_simp; exact rfl))
 go_simp
 refine rq 28 z.out u.out rfl ?_
 refine rq 29 z.out u.out rfl ?_
 refine rq 30 z.out u.out rfl ?_
 go_simp
 refine rq 31 z.out u.out rfl ?_ (hv:=fun w' hw=>by (have k:=(I.out.later hw).cells; have an:=k.c12; go_simp; exact rfl))
 refine rq 33 z.out u.out rfl ?_
 refine rq 34 z.out u.out rfl ?_
 go_simp
 refine rq 35 z.out u.out rfl ?_
 refine rq 36 z.out u.out rfl ?_ (hv:=fun w' hw=>by (have k:=(I.out.later hw).cells; have ao:=k.c13; go_simp; exact rfl))
 refine rq 38 z.out u.out rfl ?_
 go_simp
 refine rq 39 z.out u.out rfl ?_
 refine rq 40 z.out u.out rfl ?_
 refine rq 41 z.out u.out rfl ?_ (hv:=fun w' hw=>by (have k:=(I.out.later hw).cells; have aq:=k.c14; go_simp; exact rfl))
 go_simp
 refine rq 42 z.out u.out rfl ?_
 refine rq 43 z.out u.out rfl ?_
 refine rq 44 z.out u.out rfl ?_
 go_simp
 refine rq 45 z.out u.out rfl ?_ (hv:=fun w' hw=>by (have k:=(I.out.later hw).cells; have ar:=k.c15; go_simp; exact rfl))
 refine rO 12 rfl (by kernel_rfl) rfl ?_
 unfold Oper.wp
 go_simp
 refine (bclone_any w.drew x.pb x.ab s.D s.S (I.out.later u.out).bag hD).mono ?_
 rintro e w3 ⟨pb,ab,rfl,h3,b3⟩
 have G:=u.out.trans (b3.mono u.out.size)
 refine⟨G,?_⟩
 have ad:=u
 clear u
 have u:=Lh G
 clear G
 refine rO 17 rfl (by kernel_rfl) rfl ?_
 unfold Oper.wp
 go_simp
 refine (Lc.clone_any (fun g=>g < w3.heap.size) _ w3 base x.pl s.loc (fun g F=>F) (I.out.later u.out).loc (Nat.le_trans a0.out u.out.size)).mono ?_
 rintro e w4 ⟨pl,rfl,h4,l4,b4⟩
 have G:=u.out.trans (b4.mono u.out.size)
 refine⟨G,?_⟩
 have ae:=u
 clear u
 have u:=Lh G
 clear G
 obtain⟨r0,a6⟩:=(I.out.later u.out).slots
 refine rO 22 rfl (by kernel_rfl) rfl ?_
 unfold Oper.wp
 go_simp
 refine (St.clone_any w4 base x.ps r0 s.sl a6 a7).mono ?_
 rintro e w5 ⟨ps,rs,rfl,h5,l5,a9,b5⟩
 have G:=u.out.trans (b5.mono u.out.size)
 refine⟨G,?_⟩
 have af:=u
 clear u
 have u:=Lh G
 clear G
 refine rO 27 rfl (by kernel_rfl) rfl ?_
 unfold Oper.wp
 go_simp
 refine (Le.clone_book w5 x.bk s.leak s.L s.M s.T (I.out.later u.out).book).mono ?_
 rintro e w6 ⟨Q,rfl,h6,b6,lp,la,lb,lq,lm⟩
 have G:=u.out.trans (b6.mono u.out.size)
 refine⟨G,?_⟩
 have ag:=u
 clear u
 have u:=Lh G
 clear G
 refine rO 32 rfl (by kernel_rfl) rfl ?_
 unfold Oper.wp
 go_simp
 refine (Fc.fclone_any x.pF x.bF x.mF s.n s.O s.P s.C w6 (I.out.later u.out).fact hO hP).mono ?_
 rintro e w7 ⟨mF,pF,rfl,h7,b7⟩
 have G:=u.out.trans (b7.mono u.out.size)
 refine⟨G,?_⟩
 have ah:=u
 clear u
 have u:=Lh G
 clear G
 obtain⟨q0,a5⟩:=(I.out.later u.out).hist
 refine rO 37 rfl (by kernel_rfl) rfl ?_
 unfold Oper.wp
 go_simp
 refine (Hi.clone_any w7 base x.ph q0 s.step s.ev a5 a4).mono ?_
 rintro e W ⟨ph,rh,rfl,h8,l8,aa,b8⟩
 have G:=u.out.trans (b8.mono u.out.size)
 refine⟨G,?_⟩
 have ai:=u
 clear u
 have u:=Lh G
 clear G
 refine rq 46 z.out u.out rfl ?_
 refine rO 47 rfl (by kernel_rfl) rfl ?_
 unfold Oper.wp
 go_simp
 have G:=u.out.alloc u.out.size (.cells #[.int .i64 s.conf.max,.int .i64 s.conf.min,.int .u64 s.conf.idle,.int .u64 s.conf.life,.int .u64 s.conf.keep,.int .u64 s.conf.leak,.float .f64 s.conf.var,.int .u64 s.now,ptr pb,ptr pl,ptr ps,ptr Q.p,ptr pF,ptr ph,.int .i64 s.live,.bool s.closed] 60)
 refine⟨G,?_⟩
 have ac:=u
 clear u
 have u:=Lh G
 clear G
 refine rq 48 z.out u.out rfl ?_
 refine rgD (by kernel_rfl) ?_
 go_wp2_with fail
 go_ret
 have t8:Below W.heap.size W (W.alloc (.cells #[.int .i64 s.conf.max,.int .i64 s.conf.min,.int .u64 s.conf.idle,.int .u64 s.conf.life,.int .u64 s.conf.keep,.int .u64 s.conf.leak,.float .f64 s.conf.var,.int .u64 s.now,ptr pb,ptr pl,ptr ps,ptr Q.p,ptr pF,ptr ph,.int .i64 s.live,.bool s.closed] 60)):=(Below.refl _ _).alloc (Nat.le_refl _) _
 have t7:=b8.trans (t8.mono b8.size)
 have t6:=b7.trans (t7.mono b7.size)
 have t5:=b6.trans (t6.mono b6.size)
 have t4:=b5.trans (t5.mono b5.size)
 have t3:=b4.trans (t4.mono b4.size)
 have z2:w.heap.size=w.drew.heap.size:=rfl
 have z3:=b3.size
 have z4:=b4.size
 have Y:=b5.size
 have z6:=b6.size
 have z7:=b7.size
 have z8:=b8.size
 have y4:=h4.lt
 have y5:=h5.lt
 have y6:=h6.lt
 have y7:=h7.in_
 have au:=h7.lo
 have av:=h7.lt
 have y8:=h8.lt
 obtain⟨col',a2⟩:∃ c:Nat->Nat,c=fun g=>if g < w.heap.size then dead col g else col8 w.drew.heap.size w3.heap.size w4.heap.size w5.heap.size w6.heap.size w7.heap.size W.heap.size W.heap.size g:=⟨_,rfl⟩
 have cO:∀ g,g < w.heap.size->col' g=dead col g:=fun g F=>by rw[a2]; exact if_pos F
 have J:∀ g,w.heap.size<=g->col' g=col8 w.drew.heap.size w3.heap.size w4.heap.size w5.heap.size w6.heap.size w7.heap.size W.heap.size W.heap.size g:=fun g F=>by rw[a2]; exact if_neg (by omega)
 have cD:∀ g,g < w.heap.size->col' g=0\/col' g=8:=fun g F=>by rw[cO g F]; unfold dead; split <;> simp
 have aj:=a0.out
 have hX:∀ g,((col' g≠0/\col' g≠2)\/g < base)->g < w3.heap.size\/w4.heap.size<=g:=fun g F=>by
  by_cases e:g < w.heap.size
  .exact .inl (by omega)
  .rw[J g (by omega)] at F
   rcases F with F | F
   .rcases col8_x z4 F with h | h
    .exact .inl h.2
    .exact .inr h
   .exact .inl (by omega)
 refine⟨⟨W.heap.size,pb,ab,pl,ps,none,Q,w6.heap.size,mF,pF,ph,none⟩,col',rfl,⟨rs,rh,⟨?_,?_,?_,?_,?_,?_,?_,?_,?_,?_,?_,?_,?_,?_⟩,?_⟩,cO,?_⟩
 .refine⟨?_,?_,?_,?_,?_,?_,?_,?_,?_,?_,?_,?_,?_,?_,?_,?_,?_⟩
  all_goals (first | (go_simp; done) | (intro o; simp[World.frozen?]))
 .exact (h3.mono (fun g F hc=>by rw[J g (by have h9:w.drew.heap.size<=g:=hc; omega)]; exact col8_1 hc F) (fun g F hc=>by
   have h9:g < w.drew.heap.size:=hc.1
   refine⟨?_,hc.2.2⟩
   rw[cO g (by omega)]
   unfold dead
   rw[if_pos hc.2.1]) (fun g h1 h2=>by rw[h1] at h2; cases h2.1)).later t3
 .exact (h4.shun hX).later t4
 .exact h5.later t5
 .exact h6.later t6
 .exact h7.later t7
 .exact h8.later t8
 .show col' pl=2; rw[J pl (by omega)]; exact col8_2 z3 l4 y4
 .exact⟨by show col' ps=3; rw[J ps (by omega)]; exact col8_3 z3 z4 l5 y5,fun g F=>by
   have h1:=a9 g F
   have h2:=(h5.rowlt g F).2
   rw[J g (by omega)]; exact col8_3 z3 z4 h1 h2⟩
 .exact⟨by show col' Q.p=4; rw[J Q.p (by omega)]; exact col8_4 z3 z4 Y lp y6.1,by show col' Q.a=4; rw[J Q.a (by omega)]; exact col8_4 z3 z4 Y la y6.2.1,by show col' Q.b=4; rw[J Q.b (by omega)]; exact col8_4 z3 z4 Y lb y6.2.2.1,by show col' Q.q=4; rw[J Q.q (by omega)]; exact col8_4 z3 z4 Y lq y6.2.2.2.1,by show col' Q.m=4; rw[J Q.m (by omega)]; exact col8_4 z3 z4 Y lm y6.2.2.2.2⟩
 .exact fun g h1 h2=>by
   have h1:w6.heap.size<=g:=h1
   have h2:g<=pF:=h2
   rw[J g (by omega)]; exact col8_5 z3 z4 Y z6 h1 (by omega)
 .exact⟨by show col' ph=6; rw[J ph (by omega)]; exact col8_6 z3 z4 Y z6 z7 l8 y8,fun g F=>by
   have h1:=aa g F
   have h2:=(h8.row g F).2
   rw[J g (by omega)]; exact col8_6 z3 z4 Y z6 z7 h1 h2⟩
 .show col' W.heap.size=7; rw[J W.heap.size (by omega)]; exact col8_7 z3 z4 Y z6 z7 z8 rfl rfl
 .exact fun g F=>by
   by_cases e:g < w.heap.size
   .rw[cO g e] at F
    unfold dead at F
    split at F
    .exact absurd rfl F
    .next h0=>exact a3.out g h0
   .omega
 .exact fun g F=>by
   by_cases e:g < w.heap.size
   .exact Nat.lt_of_lt_of_le (Nat.lt_of_lt_of_le e (show w.heap.size<=W.heap.size by omega)) t8.size
   .rw[J g (by omega)] at F
    have a8:(W.alloc (.cells #[.int .i64 s.conf.max,.int .i64 s.conf.min,.int .u64 s.conf.idle,.int .u64 s.conf.life,.int .u64 s.conf.keep,.int .u64 s.conf.leak,.float .f64 s.conf.var,.int .u64 s.now,ptr pb,ptr pl,ptr ps,ptr Q.p,ptr pF,ptr ph,.int .i64 s.live,.bool s.closed] 60)).heap.size=W.heap.size+1:=by simp
    rw[a8]
    rcases col8_hi z3 z4 Y z6 z7 z8 F with h | h <;> omega
 .exact u.out
end
end Go.Proofs.YtoiklelghfckgaaGreatDoor.Wo
end
