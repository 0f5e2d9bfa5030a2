/- A part of the claim: the texts EndsWalk. -/
import Derived.Test.YtoiklelghfckgaaGreatDoorZGKeeps
import Derived.Test.YtoiklelghfckgaaGreatDoorZAwake18
import Derived.Test.YtoiklelghfckgaaGreatDoorZBase1
set_option maxRecDepth 100000
set_option maxHeartbeats 8000000
set_option linter.unusedVariables false
namespace Go.Proofs.YtoiklelghfckgaaGreatDoor.Wo
open Go Go.ChangeShapes Go.WideShapes Go.ChangeAt Go.RowKit Go.Deep Go.Maps Rw Hi Mt Ba
open Cn (Cf cfE)
def oth (l:List Int):List Int:=l.map fun t=>t % 7+1
theorem oth_snoc {l:List Int} {k:Nat} {z:Int} (h:l[k]? = some z):oth (l.take k) ++ [z % 7+1] = oth (l.take (k+1)):=by
 unfold oth
 rw [List.take_add_one,h,List.map_append]; rfl
structure Rst (s:Ws):Prop where
 L:s.L=[]
 T:s.T=[]
 loc:∀ t,s.loc t=[]
 leak:s.leak=200
theorem Rst.play {s:Ws} (h:Rst s) {y:Ay} (u:y.do_ % 8≠5):Rst (playS s y):=by
 unfold playS
 split
 ·exact ⟨h.L,h.T,h.loc,h.leak⟩
 split
 ·exact ⟨h.L,h.T,h.loc,h.leak⟩
 split
 ·exact ⟨h.L,h.T,h.loc,h.leak⟩
 split
 ·exact ⟨h.L,h.T,h.loc,h.leak⟩
 split
 ·split
  ·exact h
  ·exact ⟨h.L,h.T,h.loc,h.leak⟩
 exact h
theorem Rst.plays:∀ (l:List Ay) {s:Ws},Rst s→(∀ y∈l,y.do_ % 8≠5)→Rst (l.foldl playS s)
 | [],_,h,_=>h
 | y :: l,_,h,hy=>Rst.plays l (h.play (hy y (List.mem_cons_self ..))) (fun z u=>hy z (List.mem_cons_of_mem _ u))
theorem acts1_no5 (l:List Int) (k:Nat):∀ y∈acts1 l k,y.do_ % 8≠5:=by
 intro y h
 obtain ⟨i,-,h⟩:=List.mem_flatMap.1 h
 have:y=⟨1,0,0,0,0⟩∨y=⟨3,0,0,0,l.getD i 0 % 4⟩∨y=⟨4,(i:Int)+1,0,0,0⟩:=by simpa [tri] using h
 rcases this with rfl | rfl | rfl
 ·decide
 ·show (3:Int) % 8≠5; decide
 ·show (4:Int) % 8≠5; decide
theorem park_sl:∀ (l:List Int) {s:Ws},(∀ x∈s.sl,x.2.2=0∧x.1≠0)→(∀ t∈l,t % 8≠0)→(∀ x∈(l.foldl parkW s).sl,x.2.2=0∧x.1≠0)
 | [],_,h,_=>h
 | t :: l,s,h,hl=>park_sl l (s:=parkW s t) (fun x hx=>by
   have hx:x∈St.parkL s.sl (t % 8) 9:=hx
   unfold St.parkL at hx
   split at hx
   ·exact h x hx
   ·rcases List.mem_append.1 hx with hx | hx
    ·exact h x hx
    ·simp at hx; subst hx; exact ⟨rfl,hl t (List.mem_cons_self ..)⟩) (fun z u=>hl z (List.mem_cons_of_mem _ u))
theorem park_rst:∀ (l:List Int) {s:Ws},Rst s→Rst (l.foldl parkW s)
 | [],_,h=>h
 | t :: l,_,h=>park_rst l ⟨h.L,h.T,h.loc,h.leak⟩
def endS (ss ws:List Int) (cl:Bool):Ws:={ bgnS ss ws [] cl with now:=Ck.cAdd (bgnS ss ws [] cl).now 5,conf:={ (bgnS ss ws [] cl).conf with max:=Cn.mx2 1 (ss.length:Int) } }
theorem oth_ne (u:List Int) (h:∀ z∈u,0≤z∧z≤255):∀ t∈oth u,(0≤t∧t≤255)∧t % 8≠0:=by
 intro t F
 obtain ⟨z,G,rfl⟩:=List.mem_map.1 F
 have:=h z G
 exact ⟨by omega,by omega⟩
theorem endS_rst (h z:List Int) (cl:Bool):Rst (bgnS h z [] cl):=by
 have G:Rst (bgn1 h []):=by
  unfold bgn1 bgnA
  refine Rst.plays _ ⟨rfl,rfl,fun _=>rfl,rfl⟩ (fun y F=>?_)
  simp at F
  exact acts1_no5 h h.length y F
 have u:Rst (bgn2 h z []):=park_rst z G
 exact ⟨u.L,u.T,u.loc,u.leak⟩
theorem play_sl (s:Ws) (y:Ay):(playS s y).sl=s.sl:=by
 unfold playS
 repeat' split
 all_goals rfl
theorem plays_sl:∀ (l:List Ay) (s:Ws),(l.foldl playS s).sl=s.sl
 | [],_=>rfl
 | y :: l,s=>(plays_sl l (playS s y)).trans (play_sl s y)
theorem endS_sl (u h:List Int) (cl:Bool) (hw:∀ t∈h,t % 8≠0):∀ x∈(bgnS u h [] cl).sl,x.2.2=0∧x.1≠0:=by
 show ∀ x∈(h.foldl parkW (bgn1 u [])).sl,x.2.2=0∧x.1≠0
 refine park_sl h ?_ hw
 intro x hx
 have e:(bgn1 u []).sl=[]:=by unfold bgn1; exact plays_sl _ _
 rw [e] at hx; cases hx
theorem mx2_is (n:Nat):Cn.mx2 1 (n:Int)=max 1 (n:Int):=by unfold Cn.mx2; split <;> omega
theorem endS_gz (h u:List Int) (cl:Bool) (z:h.length≤6):Gz (endS h u cl) (fS h) h.length:=by
 have g:=gs_bgn h u [] z cl
 have r:=endS_rst h u cl
 refine ⟨g.D,g.S,g.live,g.n_,g.C,g.O,?_,r.L,r.loc 0,?_⟩
 ·exact mx2_is _
 ·show Ck.cAdd (bgnS h u [] cl).now 5=5
  rw [g.now]; rfl
theorem endS_hit (u h:List Int) (cl:Bool) (hw:∀ t∈h,t % 8≠0):(endS u h cl).sl.findIdx? (St.hit 0)=none:=by
 rw [List.findIdx?_eq_none_iff]
 intro x hx
 have:=(endS_sl u h cl hw x hx).2
 show (x.1 == 0)=false
 simpa using this
theorem endS_wk (u h:List Int) (cl:Bool) (F:u.length≤6) (G:h.length≤5) (hw:∀ t∈h,t % 8≠0):Wk (endS u h cl) [] 20:=by
 have g:=gs_bgn u h [] F cl
 have r:=endS_rst u h cl
 have z:=endS_gz u h cl F
 refine ⟨bgn_mk u h [] cl F (by decide),by rw [z.now]; exact ⟨by decide,by decide⟩,by show U64 (bgnS u h [] cl).leak; rw [r.leak]; exact ⟨by decide,by decide⟩,?_,?_,?_,?_,?_,?_,?_,?_,?_,?_,g.ris,?_,?_⟩
 ·show (bgnS u h [] cl).ev.length≤20; rw [g.el]; exact Nat.zero_le _
 ·show (bgnS u h [] cl).L.length≤20; rw [r.L]; exact Nat.zero_le _
 ·show (bgnS u h [] cl).T.length≤20; rw [r.T]; exact Nat.zero_le _
 ·show (bgnS u h [] cl).sl.length≤20; have:=bgn_sl u h [] cl; omega
 ·rw [z.D]; simp; omega
 ·rw [z.S]; simp; omega
 ·rw [z.C]; exact Nat.zero_le _
 ·rw [z.n_]; omega
 ·rw [z.live]; omega
 ·rw [z.mx]; omega
 ·intro x hx; rw [(endS_sl u h cl hw x hx).1]; exact u64_0
 ·intro t i hi
  have e:(endS u h cl).loc t=[]:=r.loc t
  rw [e] at hi; cases hi
section
variable (w:World) {base:Nat} {col:Nat→Nat} {x:Wp} {s:Ws}
theorem Wc.at0 (h:Wc w x s) (m:Int):Wc (w.setCell ⟨x.pw,0,none⟩ (.int .i64 m)) x { s with conf:={ s.conf with max:=m } }:=by
 have k:∀ o u,o≠0→w.cell? ⟨x.pw,o,none⟩=some u→(w.setCell ⟨x.pw,0,none⟩ (.int .i64 m)).cell? ⟨x.pw,o,none⟩=some u:=fun o u F z=>(World.cell?_setCell_other _ _ _ _ (fun e=>by injection e with _ e _; omega)).trans z
 exact ⟨World.cell?_setCell_same _ _ _ h.c0,k 1 _ (by decide) h.c1,k 2 _ (by decide) h.c2,k 3 _ (by decide) h.c3,k 4 _ (by decide) h.c4,k 5 _ (by decide) h.c5,k 6 _ (by decide) h.c6,k 7 _ (by decide) h.c7,k 8 _ (by decide) h.c8,k 9 _ (by decide) h.c9,k 10 _ (by decide) h.c10,k 11 _ (by decide) h.c11,k 12 _ (by decide) h.c12,k 13 _ (by decide) h.c13,k 14 _ (by decide) h.c14,k 15 _ (by decide) h.c15,fun o=>by simpa using h.fz o⟩
theorem wset0 (h:Wv base col w x s) (m:Int):Wv base col (w.setCell ⟨x.pw,0,none⟩ (.int .i64 m)) x { s with conf:={ s.conf with max:=m } } ∧ Fw col w (w.setCell ⟨x.pw,0,none⟩ (.int .i64 m)):=
 h.ownT { s.conf with max:=m } s.now s.live s.closed (h.cells.at0 w m) (Fz.of_set _ h.kw)
end
theorem max2i_run (P:Program) (a b:Int) (w:World) (h:Array TypeId) (t:TypeId):(Builtin.max_ h t #[.int .i64 a,.int .i64 b]).run P w=.ok (.int .i64 (Cn.mx2 a b)) w:=by
 simp [Builtin.max_,Builtin.max2,Cn.mx2]
def Ge (n:Nat) (cl:Bool) (dl:Int) (m:Mg):Prop:=
 Hgot m∨(m.q.st=gDone∧m.q.got=0∧m.s.L=[] ∧ ((m.q.wish=6∧cl=true)∨(m.q.wish=7∧cl=false∧dl≤5)))∨(m.q.st=gWait∧cl=false∧5 < dl∧m.s.live=n∧m.s.conf.max=n)
theorem ge_of {u z:List Int} {cl:Bool} {dl:Int} (Q:u.length≤6) (hw:∀ t∈z,t % 8≠0) {m:Mg} (h:m.bare=itM dl (endS u z cl) 60):Ge u.length cl dl m:=by
 have e:=get_end (dl:=dl) (endS_gz u z cl Q) Q (fS_lt u) (endS_hit u z cl hw)
 rw [← h] at e
 rcases e with e | ⟨F,G,I,J⟩ | ⟨F,G,I,J,Y⟩
 ·exact .inl ⟨e.st,e.id,e.C,e.D,e.word,e.L⟩
 ·exact .inr (.inl ⟨F,G,I,J⟩)
 ·exact .inr (.inr ⟨F,G,I,J,Y⟩)
theorem got_no (q:Gt) (w:World) (Q:(q.st.toList == [100,111,110,101])=true) (hg:q.got=0):Calls Tryz.prog 12 #[q.val] w fun e w'=>e=.returned (.tuple #[.int .u64 0,.int .i64 q.wish])∧Below w.heap.size w w':=by
 obtain ⟨W1,Y,J,G,S1⟩:=box_gt q w
 have h:=Lh J
 have u:=Lh G
 have I:Hid (∀ w,Calls Tryz.prog 10 #[q.val] w fun e w'=>e=.returned (.bool true)∧Below w.heap.size w w'):=Lh (fun w=>by have e:=gdone_get q w; rw [Q] at e; exact e)
 clear J G Q
 go_enter Tryz.func12,Tryz.ntmps12
 go_upto_region 1 with (fail)
 clear Y
 go_wp2_with (first
  | (refine load_b rt_gt rfl _ rfl w.heap.size rfl q.cells h.out ?_))
 refine (I.out _).mono ?_
 rintro e w2 ⟨rfl,F⟩
 have h:=Lh (h.out.later F)
 have u:Hid (Below w.heap.size w w2):=Lh (u.out.trans (F.mono u.out.size))
 clear F I
 have z:=h.out.cell 10 _ rfl
 rw [hg] at z
 have z9:=h.out.cell 9 _ rfl
 go_upto_region 5 with (fail)
 go_quiet (fail)
 go_wp2_with fail
 go_ret2
 exact ⟨rfl,Rw.below_drewN u.out _⟩
structure Bg (W:World) (base:Nat) (col:Nat→Nat) (x:Wp) (n gb:Nat) (w:World) (s:Ws) (cs:List Value):Prop where
 wv:Wv base col w x s
 vb:Vb w gb (n+1) cs
 cb:col gb=8
 bl:Below W.heap.size W w
 gbl:W.heap.size≤gb
 bs:W.heap.size≤base
section
variable {W w w':World} {base:Nat} {col col':Nat→Nat} {x:Wp} {n gb:Nat} {s s':Ws} {cs cs':List Value}
theorem Bg.later (h:Bg W base col x n gb w s cs) (u:Below w.heap.size w w'):Bg W base col x n gb w' s cs:=⟨h.wv.later u,h.vb.later u,h.cb,h.bl.trans (u.mono h.bl.size),h.gbl,h.bs⟩
theorem Bg.call (h:Bg W base col x n gb w s cs) (z:Wv base col' w' x s') (u:Fw col w w') (G:El w col col'):Bg W base col' x n gb w' s' cs:=
 ⟨z,h.vb.blk (u.block gb h.vb.lt (fun e=>e.2 h.cb)),(G gb h.vb.lt).trans h.cb,h.bl.trans (u.below h.bl.size (fun g F=>Nat.le_trans h.bs (h.wv.lo g F.1))),h.gbl,h.bs⟩
theorem Bg.put (h:Bg W base col x n gb w s cs) (hv:Vb w' gb (n+1) cs') (u:Fz (fun k=>k=gb) w w'):Bg W base col x n gb w' s cs':=
 ⟨h.wv.aside u (fun g _ e=>e ▸ h.cb),hv,h.cb,h.bl.trans (u.below h.bl.size (fun g z=>z ▸ h.gbl)),h.gbl,h.bs⟩
end
theorem ends_long (W:World) (F:Tb.Tabs W) (I Aw:Option Addr) (h cs nw J:Nat) (hm:h≤9223372036854775807) (a0:nw≤9223372036854775807) (G:6 < h∨4 < nw) (cl:Bool) (dl:Int) :
  Calls Tryz.prog 3 #[.slice I h cs,.slice Aw nw J,.bool cl,.int .u8 dl] W fun e w'=>e=.returned (.bool true)∧Below W.heap.size W w':=by
 have z:=Lh F
 clear F
 by_cases h1:6 < h
 ·have Q:decide ((6:Int) < (h:Int))=true:=decide_eq_true (by omega)
  have Y:decide (6 < h)=true:=decide_eq_true (by omega)
  clear G h1
  go_enter Tryz.func3,Tryz.ntmps3
  go_wp2_with fail
  refine (awake18_any W z.out).mono ?_
  rintro e w1 ⟨rfl,b1⟩
  have u:=Lh b1
  clear b1
  go_wp2_with fail
  go_ret
  exact ⟨rfl,u.out⟩
 ·have Q:decide ((6:Int) < (h:Int))=false:=decide_eq_false (by omega)
  have Y:decide (6 < h)=false:=decide_eq_false (by omega)
  have t1:decide ((4:Int) < (nw:Int))=true:=decide_eq_true (by omega)
  have a1:decide (4 < nw)=true:=decide_eq_true (by omega)
  clear G h1
  go_enter Tryz.func3,Tryz.ntmps3
  go_wp2_with fail
  refine (awake18_any W z.out).mono ?_
  rintro e w1 ⟨rfl,b1⟩
  have u:=Lh b1
  clear b1
  go_wp2_with fail
  go_ret
  exact ⟨rfl,u.out⟩
theorem ends_any (W:World) (hT:Tb.Tabs W) (As Aw:Option Addr) (I cs nw cw:Nat) (Q ws:List Int)
  (hs:Rd (Value.int .u8) W W.heap.size As I cs Q) (hw:Rd (Value.int .u8) W W.heap.size Aw nw cw ws) (us:∀ z∈Q,0≤z∧z≤255) (uw:∀ z∈ws,0≤z∧z≤255) (bD:I≤6) (bP:nw≤4) (cl:Bool) (dl:Int) (bC:0≤dl∧dl≤255) :
  Calls Tryz.prog 3 #[.slice As I cs,.slice Aw nw cw,.bool cl,.int .u8 dl] W fun e w'=>e=.returned (.bool true)∧Below W.heap.size W w':=by
 obtain ⟨i0,hi,bH,bI,bJ⟩:=info_parts info_by
 have HT:=Lh hT
 have bA:=Lh hs
 have aj:=Lh hw
 have aW:=Lh us
 have aB:=Lh uw
 have a2:=Lh hs.len
 have ay:=Lh hw.len
 have a6:=Lh bD
 have aq:=Lh bC
 clear hT hs hw us uw
 have t0:decide ((6:Int) < (I:Int))=false:=decide_eq_false (by omega)
 have t1:decide ((4:Int) < (nw:Int))=false:=decide_eq_false (by omega)
 have bM:decide (6 < I)=false:=decide_eq_false (by omega)
 have bN:decide (4 < nw)=false:=decide_eq_false (by omega)
 have ak:∀ (w:World) (ts:Array TypeId) (t:TypeId),(Builtin.max_ ts t #[.int .i64 1,.int .i64 (I:Int)]).run Tryz.prog w=.ok (.int .i64 (Cn.mx2 1 (I:Int))) w:=fun w ts t=>max2i_run _ 1 (I:Int) w ts t
 have aT:=Lh ak
 clear ak
 go_enter Tryz.func3,Tryz.ntmps3
 go_wp2_with fail
 refine (awake18_any W HT.out).mono ?_
 rintro e w1 ⟨rfl,b1⟩
 have a0:=Lh b1
 clear b1 HT
 go_upto_region 6 with (fail)
 go_wp2_with fail
 clear t0 t1 bM bN
 go_loopw [9,34] (fun a i wr=>∃ (k:Nat) (A:Option Addr) (c:Nat),k≤nw∧a=.slice A k c∧i=.int .i64 k∧Hid (wr.ownsRow W.heap.size 5 1 (.slice A k c) k ((oth (ws.take k)).map (Value.int .u8)))∧Hid (Below W.heap.size W wr)) (fun _ i _=>nw - (intOf i).toNat)
 case atStart=>exact ⟨0,none,0,Nat.zero_le _,rfl,rfl,Lh (World.ownsRow_nil _ _ _ _),a0⟩
 case round=>
  clear a0
  obtain ⟨k,A,c,hk,rfl,rfl,HO,HB⟩:=hrel
  by_cases hlt:k < nw
  ·have q1:decide ((k:Int) < (nw:Int))=true:=decide_eq_true (by omega)
   obtain ⟨b,o,z,rfl,hb,hz,hc⟩:=(aj.out.later HB.out).get hlt
   have bj:=aB.out z (List.mem_of_getElem? hz)
   have t1:z.tmod 7=z % 7:=Int.tmod_eq_emod_of_nonneg bj.1
   have t2:IntKind.u8.wrap (z % 7)=z % 7:=by rw [IntKind.wrap_u8]; omega
   have t4:IntKind.u8.wrap (z % 7+1)=z % 7+1:=by rw [IntKind.wrap_u8]; omega
   have t3:IntKind.i64.wrap ((k:Int)+1)=(k:Int)+1:=by rw [IntKind.wrap_i64]; omega
   have aA:Hid ((oth (ws.take k)).map (Value.int .u8) ++ [z % 7+1].map (Value.int .u8)=(oth (ws.take (k+1))).map (Value.int .u8)):=Lh (by rw [← List.map_append,oth_snoc hz])
   have ba:Rd (Value.int .u8) (wr.alloc (.cells #[.int .u8 (z % 7+1)] 5)) (wr.heap.size+1) (some ⟨wr.heap.size,0,none⟩) 1 1 [z % 7+1]:=rd_one wr (z % 7+1) 5
   have a8:=Lh ba
   have aH:=HB.out.size
   have aU:=Lh (HO.out.alloc (.cells #[.int .u8 (z % 7+1)] 5))
   have bq:=Lh (HB.out.alloc aH (.cells #[.int .u8 (z % 7+1)] 5))
   clear hz ba HO HB bj
   go_wp2_with (
    at_builtin
    refine append_rd _ rfl _ _ 22 rfl W.heap.size 5 i0 (.int .u8 0) 1 Tryz.underlying22 hi bH bI bJ rfl (.slice A k c) k _ rfl aU.out _ _ 1 1 [z % 7+1] rfl a8.out (fun _=>rfl) (k+1) rfl _ aA.out (by unfold maxLen; omega) (by omega) (by simp; omega) ?_
    intro A' c' w' bb Y bB
    have bz:=Lh bb
    have a4:=Lh (bq.out.grown Y (by simp; omega) (fun j hj=>(aU.out.lt j hj).1))
    clear bb Y bB)
   go_roundw
   case rel=>exact ⟨k+1,A',c',by omega,rfl,by go_num,bz,a4⟩
   case measure=>simp [intOf]; omega
  ·obtain rfl:k=nw:=by omega
   clear hk hlt
   have q1:decide ((k:Int) < (k:Int))=false:=decide_eq_false (by omega)
   have a8:Hid (Rd (Value.int .u8) wr wr.heap.size A k c (oth ws)):=Lh (by
    have q:=Rd.own_rd HO.out
    rwa [List.take_of_length_le (by have:=ay.out; omega)] at q)
   have a7:=Lh (oth_ne ws aB.out)
   have ax:Hid ((oth ws).length=k):=Lh (by unfold oth; rw [List.length_map]; exact ay.out)
   have a0:=HB
   obtain ⟨os,b8⟩:∃ os,oth ws=os:=⟨_,rfl⟩
   rw [b8] at a8 a7 ax
   clear HO HB b8 aj aB ay
   go_wp2_with fail
   refine (begin_any wr As A none I cs k c 0 0 Q os [] (bA.out.later a0.out) a8.out Rd.nil_ aW.out (fun z hz=>(a7.out z hz).1) (fun z h=>by cases h) a6.out (by omega) (by decide) cl).mono ?_
   rintro e w3 ⟨base,x,col,v,rfl,aH,h3,-,b3⟩
   have af:Hid (W.heap.size≤base):=Lh (by have:=a0.out.size; omega)
   have a4:Hid (Below W.heap.size W w3):=Lh (a0.out.trans (b3.mono a0.out.size))
   have aC:=Lh h3
   have aQ:Hid (Gz (endS Q os cl) (fS Q) I):=Lh (by have e:=endS_gz Q os cl (by rw [a2.out]; exact a6.out); rw [a2.out] at e; exact e)
   have aE:Hid (Wk (endS Q os cl) [] 20):=Lh (endS_wk Q os cl (by rw [a2.out]; exact a6.out) (by rw [ax.out]; omega) (fun t ht=>(a7.out t ht).2))
   have ar:Hid (∀ m:Mg,m.bare=itM dl (endS Q os cl) 60→Ge I cl dl m):=Lh (fun m hm=>by have e:=ge_of (by rw [a2.out]; exact a6.out) (fun t ht=>(a7.out t ht).2) hm; rw [a2.out] at e; exact e)
   have ag:Hid (endS Q os cl = { bgnS Q os [] cl with now:=Ck.cAdd (bgnS Q os [] cl).now 5,conf:={ (bgnS Q os [] cl).conf with max:=Cn.mx2 1 (I:Int) } }):=Lh (by unfold endS; rw [a2.out])
   have az:Hid (U64 (bgnS Q os [] cl).now):=Lh (by rw [(gs_bgn Q os [] (by rw [a2.out]; exact a6.out) cl).now]; exact u64_0)
   obtain ⟨s0,aI⟩:∃ s0,bgnS Q os [] cl=s0:=⟨_,rfl⟩
   obtain ⟨s1,bc⟩:∃ s1,endS Q os cl=s1:=⟨_,rfl⟩
   rw [aI] at aC ag az
   rw [bc] at ag aQ aE ar
   rw [aI]
   clear h3 b3 aH a0 aI bc a8 a7 ax aW
   go_upto_region 12 with (first
    | (refine store_w rfl _ _ rfl w3.heap.size rfl v s0 rfl (th_zero w3) ?_; intro w4 bG bh; have a3:Hid (Below w3.heap.size w3 w4):=Lh (((Below.refl _ w3).alloc (Nat.le_refl _) _).trans (bh.below (by simp) (fun k hk=>by omega))); clear bG bh))
   have aD:=Lh (aC.out.later a3.out)
   have a3:Hid (Below W.heap.size W w4):=Lh (a4.out.trans (a3.out.mono a4.out.size))
   clear aC a4
   go_wp2_with fail
   refine (wtick_any w4 aD.out 5 az.out ⟨by decide,by decide⟩).mono ?_
   rintro e w5 ⟨rfl,h5,z5⟩
   have a9:=Lh h5
   have al:Hid (Below W.heap.size W w5):=Lh (a3.out.trans (z5.below a3.out.size (fun g Y=>Nat.le_trans af.out (aD.out.lo g Y.1))))
   clear h5 z5 aD a3
   have ak:=aT.out
   have c0:=a9.out.cells.c0
   have f0:=a9.out.cells.fz 0
   go_wp2_with fail
   obtain ⟨h6,z6⟩:=wset0 w5 a9.out (Cn.mx2 1 (I:Int))
   have an:Hid (Below W.heap.size W (w5.setCell ⟨x.pw,0,none⟩ (.int .i64 (Cn.mx2 1 (I:Int))))):=Lh (al.out.trans (z6.below al.out.size (fun g Y=>Nat.le_trans af.out (a9.out.lo g Y.1))))
   have aX:Hid (Wv base col (w5.setCell ⟨x.pw,0,none⟩ (.int .i64 (Cn.mx2 1 (I:Int)))) x s1):=Lh (by rw [ag.out]; exact h6)
   clear h6 z6 c0 f0 a9 al ak aT ag az
   generalize (w5.setCell ⟨x.pw,0,none⟩ (.int .i64 (Cn.mx2 1 (I:Int))))=w6 at *
   refine (gbegin_any 0 dl w6).mono ?_
   rintro e w7 ⟨rfl,b7⟩
   have aY:=Lh (aX.out.later b7)
   have ae:Hid (Below W.heap.size W w7):=Lh (an.out.trans (b7.mono an.out.size))
   clear b7 aX an
   obtain ⟨m0,ac⟩:∃ m0:Mg,(⟨⟨0,dl,gStart,0,0,false,none,0,0,[],0,false,0,0,zg⟩,s1,[]⟩:Mg)=m0:=⟨_,rfl⟩
   have aM:Hid (Gk m0 20):=Lh (by rw [← ac]; exact ⟨aE.out,u64_0,u64_0,by show U64 dl; exact ⟨by have:=aq.out; omega,by have:=aq.out; omega⟩,.inl gOk.Start⟩)
   go_upto_region 17 with (first
    | (refine store_b rt_gt rfl _ _ rfl w7.heap.size rfl (Gt.cells ⟨0,dl,gStart,0,0,false,none,0,0,[],0,false,0,0,zg⟩) rfl (there_alloc 68 [.int .i64 0,.int .u64 0,.string ⟨#[]⟩,.int .u64 0,.int .u64 0,.bool false,.slice none 0 0,.int .i64 0,.bool false,.int .i64 0,.int .u64 0,.int .i64 0,.int .i64 0,.int .u64 0,.int .u64 0,.string ⟨#[]⟩] w7) rfl (by kernel_rfl) ?_; intro w8 bd bi; have ai:=Lh bd; have ao:Hid (Below w7.heap.size w7 w8):=Lh (((Below.refl _ w7).alloc (Nat.le_refl _) _).trans (bi.below (by simp) (fun k hk=>by omega))); clear bd bi))
   obtain ⟨gb,b5⟩:∃ gb,w7.heap.size=gb:=⟨_,rfl⟩
   have aP:Hid (W.heap.size≤gb):=Lh (by have:=ae.out.size; omega)
   obtain ⟨col8,h8,l8,c8⟩:=aY.out.var8 ao.out
   rw [b5] at ai c8 ⊢
   have aL:Hid (Bg W base col8 x 15 gb w8 m0.s m0.q.cells):=Lh (by rw [← ac]; exact ⟨h8,ai.out,c8 gb (Nat.le_refl _) ai.out.lt,ae.out.trans (ao.out.mono ae.out.size),aP.out,af.out⟩)
   have aR:Hid (Lr base col8 w8 m0.q.A m0.q.n m0.q.c m0.q.S):=Lh (by rw [← ac]; exact Lr.nil_)
   have aN:Hid (m0.bare=itM dl s1 0):=Lh (by rw [← ac]; rfl)
   clear h8 l8 c8 ai ao ae aY b5 aP af aE aq ac
   go_upto_region 18 with (fail)
   go_loopw [67] (fun i wr=>∃ (k:Nat) (m:Mg) (col:Nat→Nat),k≤60∧i=.int .i64 k∧Hid (m.bare=itM dl s1 k)∧Hid (Bg W base col x 15 gb wr m.s m.q.cells)∧Hid (Lr base col wr m.q.A m.q.n m.q.c m.q.S)∧Hid (Gk m (20+k))) (fun i _=>60 - (intOf i).toNat)
   case atStart=>exact ⟨0,m0,col8,Nat.zero_le _,rfl,aN,aL,aR,aM⟩
   case round=>
    clear aL aR aN aM
    obtain ⟨k,m,col,hk,rfl,J,u,HL,HC⟩:=hrel
    by_cases hlt:k < 60
    ·have q1:decide ((k:Int) < 60)=true:=decide_eq_true (by omega)
     have t3:IntKind.i64.wrap ((k:Int)+1)=(k:Int)+1:=by rw [IntKind.wrap_i64]; omega
     have aV:Hid (Calls Tryz.prog 9 #[m.q.val,ptr x.pw] wr (Gpost base col x wr m (20+k))):=Lh (get_step wr u.out.wv HC.out (by omega) HL.out)
     clear HL HC
     go_wp2_with (first
      | (refine load_b rt_gt rfl _ rfl gb rfl m.q.cells u.out.vb ?_))
     refine aV.out.mono ?_
     rintro e w9 ⟨A',n',c',rfl,⟨b0,h9,z9,l9,aG⟩,aF⟩
     have u:=Lh (u.out.call h9 z9 l9)
     have aO:Hid ((stepM m A' n' c').bare=itM dl s1 (k+1)):=Lh (by rw [get_bare,J.out]; rfl)
     obtain ⟨m9,b6⟩:∃ m9,stepM m A' n' c'=m9:=⟨_,rfl⟩
     rw [b6] at u aO aG aF ⊢
     have bu:=Lh aG
     have br:=Lh aF
     clear h9 z9 l9 aG aF J aV b6
     go_wp2_with (first
      | (refine store_b rt_gt rfl _ _ rfl gb rfl m9.q.cells rfl u.out.vb.th rfl (by kernel_rfl) ?_; intro wa be aK; have bp:=Lh (u.out.put be aK); have bv:Hid (Lr base b0 wa m9.q.A m9.q.n m9.q.c m9.q.S):=Lh (bu.out.fz aK (fun g e=>by rw [e,u.out.cb]; decide)); clear be aK))
     go_roundw
     case rel=>exact ⟨k+1,m9,b0,by omega,by go_num,aO,bp,bv,br⟩
     case measure=>simp [intOf]; omega
    ·obtain rfl:k=60:=by omega
     have q1:decide (((60:Nat):Int) < 60)=false:=rfl
     have HG:Hid (Ge I cl dl m):=Lh (ar.out m J.out)
     clear J HL hk hlt aQ ar
     -- MORE2
     obtain ⟨q,s,N⟩:=m
     have u:Hid (Bg W base col x 15 gb wr s q.cells):=u
     have ah:Hid (s.n≤80):=Lh HC.out.w.n_
     have HU:∀ id,U64 (bW s.D id):=fun id=>bW_u64 wr x.pb x.ab s.S u.out.wv.bag id
     clear HC
     rcases HG.out with e | ⟨e1,e2,e3,e4⟩ | ⟨e1,e2,e3,e4,e5⟩
     ·have J:=Lh e
      have hu:=HU q.got
      clear e HG HU
      have a1:Hid (∀ w,Calls Tryz.prog 10 #[q.val] w fun e w'=>e=.returned (.bool true)∧Below w.heap.size w w'):=Lh (fun w=>by
       have e:=gdone_get q w
       rw [show (q.st.toList == [100,111,110,101])=true from by rw [show q.st=gDone from J.out.st]; kernel_rfl] at e
       exact e)
      have b4:(q.got != 0)=true:=by have:=J.out.id.1; simp only at this; simp; omega
      have a5:Hid (∀ w,Calls Tryz.prog 12 #[q.val] w fun e w'=>e=.returned (.tuple #[.int .u64 q.got,.int .i64 0])∧Below w.heap.size w w'):=Lh (fun w=>got_yes q w (by rw [show q.st=gDone from J.out.st]; kernel_rfl) b4)
      have hid:U64 q.got:=⟨by have:=J.out.id.1; simp only at this; omega,by have h1:=J.out.id.2; have h2:=ah.out; simp only at h1; omega⟩
      obtain ⟨wd,ad⟩:∃ wd,bW s.D q.got=wd:=⟨_,rfl⟩
      have aw:Hid (∀ (w:World) (col:Nat→Nat),Wv base col w x s→Calls Tryz.prog 13 #[ptr x.pb,.int .u64 q.got] w fun e w'=>e=.returned (.tuple #[.int .u64 wd,.bool true])∧w=w'):=Lh (fun w col h=>by
       have e:=load_any w x.pb x.ab s.D s.S q.got h.bag hid
       rw [ad,show (fnd s.D q.got).isSome=true from J.out.D] at e
       exact e)
      have au:Hid (∀ (w:World) (col:Nat→Nat),Wv base col w x s→Calls Tryz.prog 14 #[ptr x.bk.p,.int .u64 q.got] w fun e w'=>e=.returned (.tuple #[.int .i64 0,.bool true])∧Below w.heap.size w w'):=Lh (fun w col h=>Le.holder_any w x.bk _ _ _ _ q.got h.book hid 0 5 false true (by rw [show fnd s.L q.got=some ⟨0,5,false⟩ from J.out.L]; rfl) (by rw [show fnd s.L q.got=some ⟨0,5,false⟩ from J.out.L]; rfl))
      have aj:Hid (∀ w,Calls Tryz.prog 15 #[.int .u64 wd] w fun e w'=>e=.returned (.int .i64 1)∧w=w'):=Lh (fun w=>by
       have e:=Wd.state_any wd w (by rw [← ad]; exact hu.1) (by rw [← ad]; exact hu.2)
       rw [show wd % 4=1 from by rw [← ad]; exact J.out.word] at e
       exact e)
      have av:Hid (∀ (w:World) (col:Nat→Nat),Wv base col w x s→Calls Tryz.prog 16 #[ptr x.pF,.int .u64 q.got] w fun e w'=>e=.returned (.bool true)∧w=w'):=Lh (fun w col h=>by
       have e:=Fc.isopen_any x.pF x.bF x.mF s.n s.O s.P s.C q.got w h.fact hid
       have ek:(Fc.kn s.n s.C q.got 6 == 0)=true:=by
        have h1:=J.out.id
        simp only at h1
        unfold Fc.kn
        rw [show s.C=[] from J.out.C,if_neg (by omega),if_neg (by simp)]
        rfl
       rw [ek] at e
       exact e)
      clear ad hu hid J ah
      go_wp2_with (first
       | (refine load_b rt_gt rfl _ rfl gb rfl q.cells u.out.vb ?_))
      refine (a1.out _).mono ?_
      rintro e w9 ⟨rfl,b9⟩
      have u:=Lh (u.out.later b9)
      clear b9 a1
      go_wp2_with (first
       | (refine load_b rt_gt rfl _ rfl gb rfl q.cells u.out.vb ?_))
      refine (a5.out _).mono ?_
      rintro e bn ⟨rfl,aa⟩
      have u:=Lh (u.out.later aa)
      clear aa a5
      obtain ⟨g,Y⟩:∃ g,q.got=g:=⟨_,rfl⟩
      rw [Y] at aw au av b4 ⊢
      clear Y
      have c8:=u.out.wv.cells.c8
      go_wp2_with fail
      refine (aw.out _ _ u.out.wv).mono ?_
      rintro e bo ⟨rfl,rfl⟩
      clear c8 aw
      have c11:=u.out.wv.cells.c11
      go_wp2_with fail
      refine (au.out _ _ u.out.wv).mono ?_
      rintro e bQ ⟨rfl,aZ⟩
      have u:=Lh (u.out.later aZ)
      clear aZ c11 au
      go_wp2_with fail
      refine (aj.out _).mono ?_
      rintro e bO ⟨rfl,rfl⟩
      have c12:=u.out.wv.cells.c12
      go_wp2_with fail
      refine (av.out _ _ u.out.wv).mono ?_
      rintro e bO ⟨rfl,rfl⟩
      clear c12 av
      go_wp2_with fail
      go_ret
      exact ⟨rfl,u.out.bl⟩
     ·simp only at e1 e2 e3 e4
      clear HG HU
      have a1:Hid (∀ w,Calls Tryz.prog 10 #[q.val] w fun e w'=>e=.returned (.bool true)∧Below w.heap.size w w'):=Lh (fun w=>by
       have e:=gdone_get q w
       rw [show (q.st.toList == [100,111,110,101])=true from by rw [e1]; kernel_rfl] at e
       exact e)
      have a5:Hid (∀ w,Calls Tryz.prog 12 #[q.val] w fun e w'=>e=.returned (.tuple #[.int .u64 0,.int .i64 q.wish])∧Below w.heap.size w w'):=Lh (fun w=>got_no q w (by rw [e1]; kernel_rfl) e2)
      have aS:Hid (∀ (w:World) (col:Nat→Nat),Wv base col w x s→Calls Tryz.prog 17 #[ptr x.bk.p] w fun e w'=>e=.returned (.int .i64 0)∧w=w'):=Lh (fun w col h=>by
       have e:=Le.len_any w x.bk _ _ _ _ h.book
       rw [show s.L.length=0 by rw [e3]; rfl] at e
       exact e)
      clear e1 e2 e3 ah
      go_wp2_with (first
       | (refine load_b rt_gt rfl _ rfl gb rfl q.cells u.out.vb ?_))
      refine (a1.out _).mono ?_
      rintro e w9 ⟨rfl,b9⟩
      have u:=Lh (u.out.later b9)
      clear b9 a1
      go_wp2_with (first
       | (refine load_b rt_gt rfl _ rfl gb rfl q.cells u.out.vb ?_))
      refine (a5.out _).mono ?_
      rintro e bn ⟨rfl,aa⟩
      have u:=Lh (u.out.later aa)
      clear aa a5
      obtain ⟨g,Y⟩:∃ g,q.wish=g:=⟨_,rfl⟩
      rw [Y] at e4 ⊢
      clear Y
      have c11:=u.out.wv.cells.c11
      rcases e4 with ⟨rfl,rfl⟩ | ⟨rfl,rfl,e5⟩
      ·go_wp2_with fail
       refine (aS.out _ _ u.out.wv).mono ?_
       rintro e bo ⟨rfl,rfl⟩
       go_wp2_with fail
       go_ret
       exact ⟨rfl,u.out.bl⟩
      ·have d5:decide (dl≤5)=true:=decide_eq_true e5
       clear e5
       go_wp2_with fail
       refine (aS.out _ _ u.out.wv).mono ?_
       rintro e bo ⟨rfl,rfl⟩
       go_wp2_with fail
       go_ret
       exact ⟨rfl,u.out.bl⟩
     ·simp only at e1 e2 e3 e4 e5
      subst e2
      clear HG HU
      have a1:Hid (∀ w,Calls Tryz.prog 10 #[q.val] w fun e w'=>e=.returned (.bool false)∧Below w.heap.size w w'):=Lh (fun w=>by
       have e:=gdone_get q w
       rw [show (q.st.toList == [100,111,110,101])=false from by rw [e1]; kernel_rfl] at e
       exact e)
      obtain ⟨sv,aJ⟩:∃ sv,q.st=sv:=⟨_,rfl⟩
      have aA:Hid (∀ w,Calls Tryz.prog 11 #[q.val] w fun e w'=>e=.returned (.string sv)∧Below w.heap.size w w'):=Lh (fun w=>by have e:=gstate_any q w; rw [aJ] at e; exact e)
      have q2:(sv.toList == [119,97,105,116])=true:=by rw [← aJ,e1]; kernel_rfl
      have q3:decide (5 < dl)=true:=decide_eq_true e3
      have bt:=Lh e4
      have bw:=Lh e5
      clear e1 e3 e4 e5 aJ ah
      go_wp2_with (first
       | (refine load_b rt_gt rfl _ rfl gb rfl q.cells u.out.vb ?_))
      refine (a1.out _).mono ?_
      rintro e w9 ⟨rfl,b9⟩
      have u:=Lh (u.out.later b9)
      clear b9 a1
      go_wp2_with fail
      have u:=Lh (u.out.later (Below.refl _ _).drew)
      generalize bg:w9.drew=w8 at *
      have F:Hid (Below w8.heap.size w8 w8):=Lh (Below.refl _ _)
      refine reg_start 24 (fun w'=>Below w8.heap.size w8 w') (by kernel_rfl) (by kernel_rfl) ?_
      intro b2
      have G:=Lh b2
      clear b2
      rw [bg]
      clear bg
      refine rl 0 G.out F.out rfl ?_
      apply Exists.intro
      refine ⟨fun w' hw=>exec_load_b rt_gt _ _ _ rfl rfl (u.out.vb.later hw),?_⟩
      refine reg_only 1 rfl (by kernel_rfl) rfl ?_
      unfold Oper.wp
      go_simp
      refine (aA.out _).mono ?_
      rintro e9 bn ⟨rfl,b9⟩
      have F:=Lh (F.out.trans (b9.mono F.out.size))
      clear b9
      refine ⟨F.out,?_⟩
      refine rq 2 G.out F.out rfl ?_
      refine rq 3 G.out F.out rfl ?_
      refine reg_load 4 G.out rfl (by kernel_rfl) (by decide) (fun _ _ _ _ h=>h) F.out (wanted_yes (g:=3) (p:=true) (d:=79) rfl (by kernel_rfl) (at_eq (sz_put ((Nat.lt_of_lt_of_eq (m:=175) (by decide) rfl))))) ?_
      apply Exists.intro
      refine ⟨fun w' hw=>by (go_simp; exact rfl),?_⟩
      go_simp
      refine reg_load 5 G.out rfl (by kernel_rfl) (by decide) (fun _ _ _ _ h=>h) F.out (wanted_yes (g:=3) (p:=true) (d:=79) rfl (by kernel_rfl) (rfl)) ?_
      apply Exists.intro
      refine ⟨fun w' hw=>by (go_simp; exact rfl),?_⟩
      refine rq 6 G.out F.out rfl ?_
      refine rq 7 G.out F.out rfl ?_
      go_simp
      refine reg_load 8 G.out rfl (by kernel_rfl) (by decide) (fun _ _ _ _ h=>h) F.out (wanted_yes (g:=7) (p:=true) (d:=83) rfl (by kernel_rfl) (rfl)) ?_
      apply Exists.intro
      refine ⟨fun w' hw=>by (go_simp; exact rfl),?_⟩
      refine reg_load 9 G.out rfl (by kernel_rfl) (by decide) (fun _ _ _ _ h=>h) F.out (wanted_yes (g:=7) (p:=true) (d:=83) rfl (by kernel_rfl) (at_ne (by decide) (rfl))) ?_
      apply Exists.intro
      refine ⟨fun w' hw=>by (go_simp; exact rfl),?_⟩
      refine rq 10 G.out F.out rfl ?_
      go_simp
      refine rq 11 G.out F.out rfl ?_
      refine reg_load 12 G.out rfl (by kernel_rfl) (by decide) (fun _ _ _ _ h=>h) F.out (wanted_yes (g:=11) (p:=true) (d:=87) rfl (by kernel_rfl) (at_eq ((Nat.lt_of_lt_of_eq (m:=175) (by decide) rfl)))) ?_
      apply Exists.intro
      refine ⟨fun w' hw=>by (go_simp; exact rfl),?_⟩
      refine reg_load 13 G.out rfl (by kernel_rfl) (by decide) (fun _ _ _ _ h=>h) F.out (wanted_yes (g:=11) (p:=true) (d:=87) rfl (by kernel_rfl) (at_ne (by decide) (at_eq ((Nat.lt_of_lt_of_eq (m:=175) (by decide) rfl))))) ?_
      apply Exists.intro
      refine ⟨fun w' hw=>by (go_simp; exact rfl),?_⟩
      go_simp
      refine reg_load 14 G.out rfl (by kernel_rfl) (by decide) (fun _ _ _ _ h=>h) F.out (wanted_yes (g:=11) (p:=true) (d:=87) rfl (by kernel_rfl) (rfl)) ?_
      apply Exists.intro
      refine ⟨fun w' hw=>by (go_simp; exact rfl),?_⟩
      refine reg_load 15 G.out rfl (by kernel_rfl) (by decide) (fun _ _ _ _ h=>h) F.out (wanted_yes (g:=11) (p:=true) (d:=87) rfl (by kernel_rfl) (at_ne (by decide) (rfl))) ?_
      apply Exists.intro
      refine ⟨fun w' hw=>by (have c14:_=some (Value.int .i64 (I:Int)):=((u.out.wv.later hw).cells.c14).trans (by rw [bt.out]); go_simp; exact rfl),?_⟩
      refine reg_load 16 G.out rfl (by kernel_rfl) (by decide) (fun _ _ _ _ h=>h) F.out (wanted_yes (g:=11) (p:=true) (d:=87) rfl (by kernel_rfl) (at_ne (by decide) (at_ne (by decide) (rfl)))) ?_
      apply Exists.intro
      refine ⟨fun w' hw=>by (go_simp; exact rfl),?_⟩
      go_simp
      refine reg_load 17 G.out rfl (by kernel_rfl) (by decide) (fun _ _ _ _ h=>h) F.out (wanted_yes (g:=11) (p:=true) (d:=87) rfl (by kernel_rfl) (rfl)) ?_
      apply Exists.intro
      refine ⟨fun w' hw=>by (go_simp; exact rfl),?_⟩
      refine reg_load 18 G.out rfl (by kernel_rfl) (by decide) (fun _ _ _ _ h=>h) F.out (wanted_yes (g:=11) (p:=true) (d:=87) rfl (by kernel_rfl) (at_ne (by decide) (rfl))) ?_
      apply Exists.intro
      refine ⟨fun w' hw=>by (go_simp; exact rfl),?_⟩
      refine reg_load 19 G.out rfl (by kernel_rfl) (by decide) (fun _ _ _ _ h=>h) F.out (wanted_yes (g:=11) (p:=true) (d:=87) rfl (by kernel_rfl) (at_ne (by decide) (at_ne (by decide) (rfl)))) ?_
      apply Exists.intro
      refine ⟨fun w' hw=>by (go_simp; exact rfl),?_⟩
      go_simp
      refine reg_load 20 G.out rfl (by kernel_rfl) (by decide) (fun _ _ _ _ h=>h) F.out (wanted_yes (g:=11) (p:=true) (d:=87) rfl (by kernel_rfl) (rfl)) ?_
      apply Exists.intro
      refine ⟨fun w' hw=>by (have c0:_=some (Value.int .i64 (I:Int)):=((u.out.wv.later hw).cells.c0).trans (by rw [bw.out]); go_simp; exact rfl),?_⟩
      refine reg_load 21 G.out rfl (by kernel_rfl) (by decide) (fun _ _ _ _ h=>h) F.out (wanted_yes (g:=11) (p:=true) (d:=87) rfl (by kernel_rfl) (at_ne (by decide) (rfl))) ?_
      apply Exists.intro
      refine ⟨fun w' hw=>by (go_simp; exact rfl),?_⟩
      refine rq 22 G.out F.out rfl ?_
      go_simp
      refine rq 23 G.out F.out rfl ?_
      refine reg_done (by kernel_rfl) ?_
      have u:=Lh (u.out.later F.out)
      clear F G
      go_wp2_with fail
      go_ret
      exact ⟨rfl,u.out.bl⟩
end Go.Proofs.YtoiklelghfckgaaGreatDoor.Wo
