/- A part of the claim: the texts DocG DocGC DocGD. -/
import Derived.Test.YtaeemilldmhbnaaGreatDoorZDocR
import Derived.Test.YtaeemilldmhbnaaGreatDoorZGGive
set_option maxRecDepth 100000
set_option maxHeartbeats 8000000
set_option linter.unusedVariables false
namespace Go.Proofs.YtaeemilldmhbnaaGreatDoor.Wo
open Go Go.ChangeShapes Go.WideShapes Go.ChangeAt Go.RowKit Go.Deep Go.Maps Rw Hi Mt Ba
open Cn (Cf cfE)
theorem under_dg:Tryz.prog.underlying 87=some (Tryz.prog.underlying 87).get!:=by kernel_rfl
theorem row_dg:((Tryz.prog.underlying 87).get!).isRow=true:=by kernel_rfl
theorem info_dg:(Tryz.prog.info? 87).map (·.size)=some 5:=by kernel_rfl
theorem box_dg (g:Gv) (w:World):∃ W,w.alloc (.cells #[.int .i64 g.th,.int .i64 g.op,.int .u64 g.id,.int .u64 g.word,.string g.st] 87)=W∧Vg W w.heap.size g∧Below w.heap.size w W∧W.heap.size=w.heap.size+1:=by
 have h:(w.alloc (.cells g.cells.toArray 87)).heap[w.heap.size]? = some (.cells g.cells.toArray 87):=heap_alloc_last _ _
 refine ⟨w.alloc (.cells g.cells.toArray 87),rfl,⟨fun j u z=>?_,fun j z=>⟨?_,?_⟩⟩,(Below.refl _ _).alloc (Nat.le_refl _) _,by simp⟩
 ·rw [cell_of_row _ _ _ _ _ _ h]; simpa using z
 ·rw [cell_of_row _ _ _ _ _ _ h]; simp [Gv.cells]; omega
 ·unfold World.frozen?; simp only [h]; rfl
theorem boxes_wg (cs:List Value) (g:Gv) (w:World) (hl:cs.length=23):∃ W,(((w.alloc (.cells cs.toArray 53)).alloc (.cells #[.int .i64 g.th,.int .i64 g.op,.int .u64 g.id,.int .u64 g.word,.string g.st] 87)).alloc (.cells #[.int .i64 0,.int .i64 0,.int .u64 0,.int .u64 0,.int .u64 0,.int .u64 0,.float .f64 0,.int .u64 0,.slice none 0 0,.slice none 0 0,.slice none 0 0,.slice none 0 0,.int .u64 0,.slice none 0 0,.slice none 0 0,.slice none 0 0,.slice none 0 0,.slice none 0 0,.slice none 0 0,.int .u64 0,.slice none 0 0,.int .i64 0,.bool false] 53)).alloc (.cells #[.int .i64 0,.int .i64 0,.int .u64 0,.int .u64 0,.string ⟨#[]⟩] 87)=W ∧
  Vw W w.heap.size cs∧Vg W (w.heap.size+1) g∧W.there (w.heap.size+2) 0 23∧W.there (w.heap.size+3) 0 5∧Below w.heap.size w W∧W.heap.size=w.heap.size+4:=by
 obtain ⟨W1,e1,h1,b1,F⟩:=box_w cs w hl
 rw [e1]
 obtain ⟨W2,e2,h2,h,s2⟩:=box_dg g W1
 rw [e2]
 obtain ⟨G,z,h3,J,s3⟩:=box_w [.int .i64 0,.int .i64 0,.int .u64 0,.int .u64 0,.int .u64 0,.int .u64 0,.float .f64 0,.int .u64 0,.slice none 0 0,.slice none 0 0,.slice none 0 0,.slice none 0 0,.int .u64 0,.slice none 0 0,.slice none 0 0,.slice none 0 0,.slice none 0 0,.slice none 0 0,.slice none 0 0,.int .u64 0,.slice none 0 0,.int .i64 0,.bool false] W2 rfl
 have z:W2.alloc (.cells #[.int .i64 0,.int .i64 0,.int .u64 0,.int .u64 0,.int .u64 0,.int .u64 0,.float .f64 0,.int .u64 0,.slice none 0 0,.slice none 0 0,.slice none 0 0,.slice none 0 0,.int .u64 0,.slice none 0 0,.slice none 0 0,.slice none 0 0,.slice none 0 0,.slice none 0 0,.slice none 0 0,.int .u64 0,.slice none 0 0,.int .i64 0,.bool false] 53)=G:=z
 rw [z]
 obtain ⟨I,e4,h4,Y,s4⟩:=box_dg zg G
 rw [F] at h2
 rw [s2,F] at h3
 rw [s3,s2,F] at h4
 have u:Below W2.heap.size W2 I:=J.trans (Y.mono J.size)
 exact ⟨I,e4,(h1.later h).later u,h2.later u,th_later h3.th Y,h4.th,(b1.trans (h.mono b1.size)).trans (u.mono (Nat.le_trans b1.size h.size)),by omega⟩
theorem exec_load_dg (h:Oper) (ev:Operand→Value) (y:Operand) (u:h.op=.load 87 y) {b:Nat} (hx:ev y=.pointer (some ⟨b,0,none⟩)) {w:World} {g:Gv} (z:Vg w b g):(execOp ev h).run Tryz.prog w=.ok (.value g.val) w:=by
 unfold execOp
 simp only [u,hx,Instr.loadAt,Instr.sureAddr,Sem.run_bind,Sem.run_pure,Result.andThen_ok,run_loadVar_mid (P:=Tryz.prog) w b 0 87 _ _ z.at_ under_dg row_dg info_dg]
 rfl
theorem wp_store_dg {op:Oper} {a:Act} {w:World} {K:Act→World→Prop} {Q:Exit→Act→World→Prop} (y z:Operand) (F:op.op=.store 87 y z) (b:Nat) (hx:a.eval y=.pointer (some ⟨b,0,none⟩)) (g:Gv) (G:a.eval z=g.val) (u:w.there b 0 5)
  (h:∀ w',Vg w' b g→Fz (fun k=>k=b) w w'→K (a.put op.dst undef) w'):op.wp Tryz.prog a w K Q:=
 wp_store_mid 87 y z F b 0 g.cells.toArray hx G u info_dg (gcells_one g) (h _ ⟨World.rangeAt_setCells_same w b 0 _ u,World.there_setCells u b 0 _⟩ (fz_setCells _ _ _ _))
section
variable {ops:Array Oper} {rest:List Oper} {op:Oper} {a:Act} {w:World} {Q:Exit→Act→World→Prop}
theorem load_dg (u:op.guard=none) (x:Operand) (z:op.op=.load 87 x) (b:Nat) (hx:a.eval x=.pointer (some ⟨b,0,none⟩)) (g:Gv) (F:Vg w b g)
  (h:wpList Tryz.prog ops Q rest (a.put op.dst g.val) w):wpList Tryz.prog ops Q (op :: rest) a w:=
 wpList_load_mid u 87 x z b 0 hx _ _ F.at_ under_dg row_dg info_dg h
theorem store_dg (z:op.guard=none) (x y:Operand) (F:op.op=.store 87 x y) (b:Nat) (hx:a.eval x=.pointer (some ⟨b,0,none⟩)) (g:Gv) (G:a.eval y=g.val) (u:w.there b 0 5)
  (h:∀ w',Vg w' b g→Fz (fun k=>k=b) w w'→wpList Tryz.prog ops Q rest (a.put op.dst undef) w'):wpList Tryz.prog ops Q (op :: rest) a w:=
 wpList_store_mid z 87 x y F b 0 g.cells.toArray hx G u info_dg (gcells_one g) (h _ ⟨World.rangeAt_setCells_same w b 0 _ u,World.there_setCells u b 0 _⟩ (fz_setCells _ _ _ _))
end
theorem res_wg {fn:Func} {p u:Tmp} (z:Array Value) (w:World) (b c:Nat) (v:Dv) (s:Ws) (g:Gv) (h:fn.results=#[.cell p 53,.cell u 87]) (G:z.getD p undef=.pointer (some ⟨b,0,none⟩)) (hu:z.getD u undef=.pointer (some ⟨c,0,none⟩)) (hv:Vw w b (v.cells s)) (F:Vg w c g):(results fn z).run Tryz.prog w=.ok (.tuple #[v.val s,g.val]) w:=by
 have J:=run_loadVar_mid (P:=Tryz.prog) w b 0 53 _ _ hv.at_ under_w row_w info_w
 have Y:=run_loadVar_mid (P:=Tryz.prog) w c 0 87 _ _ F.at_ under_dg row_dg info_dg
 have I:z[p]?.getD undef=.pointer (some ⟨b,0,none⟩):=by simpa using G
 have a0:z[u]?.getD undef=.pointer (some ⟨c,0,none⟩):=by simpa using hu
 simp [results,h,I,a0,asAddr,J,Y]
 rfl
def Kb (K:Nat→Prop) (w:World) (n g:Nat):Prop:=K g∧(g < w.heap.size∨w.heap.size+n≤g)
abbrev Bb (w:World) (n k:Nat):Prop:=w.heap.size≤k∧k < w.heap.size+n
section
variable {K:Nat→Prop} {w w2 w3:World} {n g:Nat} {v:Dv} {s:Ws} {N:List Int}
theorem end_b (h:Dw (Kb K w n) w2 v s N) (z:Fz (Bb w n) w2 w3):Dw K w3 v s N:=(h.fz z (fun g _ hk e=>by rcases hk.2 with u | u <;> have:=e.1 <;> have:=e.2 <;> omega)).mono (fun g _ hk=>hk.1)
theorem fzb (z:Fz (fun k=>k=g) w2 w3) (h:w.heap.size≤g) (u:g < w.heap.size+n):Fz (Bb w n) w2 w3:=z.mono (fun k _ e=>by subst e; exact ⟨h,u⟩)
theorem fzb_low (h:Fz (Bb w n) w2 w3) (hb:Below w.heap.size w w2):Below w.heap.size w w3:=hb.trans (h.below hb.size (fun k hk=>hk.1))
end
theorem ba_ne {x:ByteArray} {l:List UInt8} (h:¬ x=⟨l.toArray⟩):(x.toList == l)=false:=by
 have:¬ x.toList=l:=fun e=>h (by
  have u:x.data.toList=l:=by rw [← e,ByteArray.toList_eq]
  cases x with | mk d=>simp only at u; rw [← u])
 simpa using this
structure Bs (K:Nat→Prop) (w W:World) (v:Dv) (s:Ws) (g:Gv) (N:List Int):Prop where
 vw:Vw W w.heap.size (v.cells s)
 vg:Vg W (w.heap.size+1) g
 th:W.there (w.heap.size+2) 0 23
 tg:W.there (w.heap.size+3) 0 5
 dw:Dw (Kb K w 4) W v s N
 bl:Below w.heap.size w W
 kk:∀ g,W.heap.size≤g→Kb K w 4 g
section
variable {K:Nat→Prop} {w W W' W2:World} {v v':Dv} {s s':Ws} {g g':Gv} {N N':List Int}
theorem Bs.later (h:Bs K w W v s g N) (hb:Below W.heap.size W W'):Bs K w W' v s g N:=
 ⟨h.vw.later hb,h.vg.later hb,th_later h.th hb,th5_later h.tg hb,h.dw.later hb,h.bl.trans (hb.mono h.bl.size),fun g u=>h.kk g (by have:=hb.size; omega)⟩
theorem Bs.put (h:Bs K w W v s g N) (hb:Below W.heap.size W W') (G:Dw (Kb K w 4) W' v' s' N') (I:Vw W2 w.heap.size (v'.cells s')) (z:Fz (fun k=>k=w.heap.size) W' W2):Bs K w W2 v' s' g N':=by
 have u:=h.later hb
 have Y:=z.size
 exact ⟨I,u.vg.blk (z.block _ u.vg.lt (by omega)),th_blk u.th (z.block _ (th_lt u.th) (by omega)),th5_blk u.tg (z.block _ (th5_lt u.tg) (by omega)),G.fz z (fun g _ hk e=>by rcases hk.2 with F | F <;> omega),u.bl.trans (z.below u.bl.size (fun k hk=>by omega)),fun g J=>u.kk g (by omega)⟩
theorem Bs.give (h:Bs K w W v s g N) (F:Vg W2 (w.heap.size+1) g') (u:Fz (fun k=>k=w.heap.size+1) W W2):Bs K w W2 v s g' N:=by
 have I:=u.size
 exact ⟨h.vw.blk (u.block _ h.vw.lt (by omega)),F,th_blk h.th (u.block _ (th_lt h.th) (by omega)),th5_blk h.tg (u.block _ (th5_lt h.tg) (by omega)),h.dw.fz u (fun g _ hk e=>by rcases hk.2 with z | z <;> omega),h.bl.trans (u.below h.bl.size (fun k hk=>by omega)),fun g G=>h.kk g (by omega)⟩
theorem Bs.st (h:Bs K w W v s g N) (t:ByteArray):Bs K w (W.setCell ⟨w.heap.size+1,4,none⟩ (.string t)) v s { g with st:=t } N:=h.give (h.vg.set4 t) (Fz.of_set (a:=⟨w.heap.size+1,4,none⟩) _ rfl)
theorem Bs.wd (h:Bs K w W v s g N) (t:Int):Bs K w (W.setCell ⟨w.heap.size+1,3,none⟩ (.int .u64 t)) v s { g with word:=t } N:=h.give (h.vg.set3 t) (Fz.of_set (a:=⟨w.heap.size+1,3,none⟩) _ rfl)
theorem Bs.start (h:Dw K w v s N) (Y:∀ g,w.heap.size≤g→K g) (g:Gv):∃ W,(((w.alloc (.cells (v.cells s).toArray 53)).alloc (.cells #[.int .i64 g.th,.int .i64 g.op,.int .u64 g.id,.int .u64 g.word,.string g.st] 87)).alloc (.cells #[.int .i64 0,.int .i64 0,.int .u64 0,.int .u64 0,.int .u64 0,.int .u64 0,.float .f64 0,.int .u64 0,.slice none 0 0,.slice none 0 0,.slice none 0 0,.slice none 0 0,.int .u64 0,.slice none 0 0,.slice none 0 0,.slice none 0 0,.slice none 0 0,.slice none 0 0,.slice none 0 0,.int .u64 0,.slice none 0 0,.int .i64 0,.bool false] 53)).alloc (.cells #[.int .i64 0,.int .i64 0,.int .u64 0,.int .u64 0,.string ⟨#[]⟩] 87)=W∧Bs K w W v s g N:=by
 obtain ⟨W,e,F,G,I,J,u,h6⟩:=boxes_wg (v.cells s) g w rfl
 exact ⟨W,e,⟨F,G,I,J,(h.mono (fun g z hk=>⟨hk,.inl z⟩)).later u,u,fun g z=>⟨Y g (by omega),.inr (by omega)⟩⟩⟩
theorem Bs.done (h:Bs K w W v s g N) (u:Fz (Bb w 4) W W2):Dw K W2 v s N∧Below w.heap.size w W2:=⟨end_b h.dw u,fzb_low u h.bl⟩
end
abbrev DDoes (w:World) (K:Nat→Prop) (v:Dv) (q r:Gw):Prop:=
 Calls Tryz.prog 27 #[v.val q.s,q.g.val] w fun e w'=>∃ v':Dv,e=.returned (.tuple #[v'.val r.s,r.g.val])∧Dw K w' v' r.s r.N∧Below w.heap.size w w'
section
variable (w:World) {K:Nat→Prop} {v:Dv} {g:Gv} {s:Ws} {N:List Int}
theorem rU15 {A A2:Option Addr} {n c n2 c2:Nat} {D:List (Int × Ex)} {S S2:List Int} (w:World) {K:Nat→Prop} (id:Int) (h:Dq K w ⟨A,n,c,A2,n2,c2⟩ D S) (F:∀ g,w.heap.size≤g→K g) (hn:D.length≤1000) (I:S.length≤1000) (G:unlS D S id=S2) :
  Calls Tryz.prog 101 #[.agg #[.slice A n c,.slice A2 n2 c2],.int .u64 id] w fun e w'=>∃ A' z u,e=.returned (.tuple #[.agg #[.slice A n c,.slice A' z u],.int .i64 (kn D id)])∧Dq K w' ⟨A,n,c,A',z,u⟩ D S2∧Below w.heap.size w w':=by
 subst G
 exact runlist_any A A2 n c n2 c2 D S w id h F (by have:=h.l.len; have:D.length=n:=this; omega) (by have:=h.s.len; have:S.length=n2:=this; omega)
end
section
variable (w:World) {K:Nat→Prop} {v:Dv} {g:Gv} {s:Ws} {N:List Int}
theorem dg_back_yes (h:Dw K w v s N) (af:∀ g,w.heap.size≤g→K g) (I:g.st=sBack) (ho:U64 g.word) (aw:Nd s.D) (hn:s.D.length≤1000) (hu:∀ q∈s.D,U64 q.2.word) (hk:bK s.D g.id g.word 1=true):DDoes w K v ⟨g,s,N⟩ ⟨{ g with word:=bV s.D g.id g.word 1,st:=sOffer },{ s with D:=up s.D g.id (exS g.word 1 s.now) },N⟩:=by
 unfold DDoes
 obtain ⟨F,a7⟩:∃ F,bV s.D g.id g.word 1=F:=⟨_,rfl⟩
 rw [a7]
 obtain ⟨W1,av,J⟩:=Bs.start h af g
 have G:=Lh J
 have k4:=J.vg.cell 4 _ rfl
 have e0:(g.st.toList == [111,102,102,101,114])=false:=by rw [I]; kernel_rfl
 have e1:(g.st.toList == [102,114,101,101])=false:=by rw [I]; kernel_rfl
 have e2:(g.st.toList == [115,116,97,115,104])=false:=by rw [I]; kernel_rfl
 have e3:(g.st.toList == [97,103,97,105,110])=false:=by rw [I]; kernel_rfl
 have e4:(g.st.toList == [98,97,99,107])=true:=by rw [I]; kernel_rfl
 have a8:=dswap_any (K:=Kb K w 4) W1 v s N J.dw J.kk g.id g.word 1 aw hn hu ho (by decide)
 rw [hk,a7] at a8
 have ac:=Lh a8
 clear hk hu a8 a7
 clear J h af I
 go_enter Tryz.func27,Tryz.ntmps27
 go_upto_region 1 with (fail)
 clear av
 go_upto_region 27 with (fail)
 clear k4 e0 e1 e2 e3 e4
 have k2:=G.out.vg.cell 2 _ rfl
 have k3:=G.out.vg.cell 3 _ rfl
 go_wp2_with (first | (refine load_w rfl _ rfl w.heap.size rfl v s G.out.vw ?_))
 refine ac.out.mono ?_
 rintro e w2 ⟨v2,rfl,ah,b2⟩
 clear ac k2 k3
 go_upto_region 28 with (first | (refine store_w rfl _ _ rfl w2.heap.size rfl v2 { s with D:=up s.D g.id (exS g.word 1 s.now) } rfl (th_zero w2) ?_; intro w3 ai an; have ae:=Lh ai; have a4:Hid (Below w2.heap.size w2 w3):=Lh (((Below.refl _ w2).alloc (Nat.le_refl _) _).trans (an.below (by simp) (fun k hk=>by omega))); clear ai an))
 have a5:Hid (Below W1.heap.size W1 w3):=Lh (b2.trans (a4.out.mono b2.size))
 have aa:=Lh (ah.later a4.out)
 have ad:=Lh (G.out.vw.later a5.out).th
 clear ah a4
 go_upto_region 29 with (first
  | (refine load_w rfl _ rfl w2.heap.size rfl v2 { s with D:=up s.D g.id (exS g.word 1 s.now) } ae.out ?_)
  | (refine store_w rfl _ _ rfl w.heap.size rfl v2 { s with D:=up s.D g.id (exS g.word 1 s.now) } rfl ad.out ?_; intro w5 aj ao; have a0:Hid (Bs K w w5 v2 { s with D:=up s.D g.id (exS g.word 1 s.now) } g N):=Lh (G.out.put a5.out aa.out aj ao); clear aj ao))
 clear ae a5 aa ad G b2
 have k4:=a0.out.vg.cell 4 _ rfl
 have l4:=th5_free a0.out.vg.th 4 (by decide)
 go_upto_region 30 with (fail)
 have a2:=Lh (a0.out.st ⟨#[100,111,110,101]⟩)
 clear k4 l4 a0
 generalize (w5.setCell ⟨w.heap.size+1,4,none⟩ (.string ⟨#[100,111,110,101]⟩))=W6 at *
 have k3:=a2.out.vg.cell 3 _ rfl
 have l3:=th5_free a2.out.vg.th 3 (by decide)
 go_upto_region 32 with (fail)
 have a3:=Lh (a2.out.wd F)
 clear k3 l3 a2
 generalize (W6.setCell ⟨w.heap.size+1,3,none⟩ (.int .u64 F))=W7 at *
 have k4:=a3.out.vg.cell 4 _ rfl
 have l4:=th5_free a3.out.vg.th 4 (by decide)
 go_upto_region 42 with (fail)
 have aq:=Lh (a3.out.st ⟨#[111,102,102,101,114]⟩)
 clear k4 l4 a3
 generalize (W7.setCell ⟨w.heap.size+1,4,none⟩ (.string ⟨#[111,102,102,101,114]⟩))=W8 at *
 refine reg_start 4 (fun w'=>Vw w' w.heap.size (Dv.cells v2 { s with D:=up s.D g.id (exS g.word 1 s.now) })∧Vg w' (w.heap.size+1) { g with word:=F,st:=sOffer }) (by kernel_rfl) (by kernel_rfl) ?_
 intro ag
 have a6:=Lh ag
 clear ag
 have u:=Lh (aq.out.later ((Below.refl _ _).drew))
 refine rl 0 a6.out ⟨u.out.vw,u.out.vg⟩ rfl ?_
 apply Exists.intro
 refine ⟨fun w' hw=>exec_load_w _ _ _ rfl rfl hw.1,?_⟩
 refine rl 1 a6.out ⟨u.out.vw,u.out.vg⟩ rfl ?_
 apply Exists.intro
 refine ⟨fun w' hw=>exec_load_dg _ _ _ rfl rfl hw.2,?_⟩
 refine reg_only 2 rfl (by kernel_rfl) rfl ?_
 refine wp_store_w _ _ rfl (w.heap.size+2) rfl v2 { s with D:=up s.D g.id (exS g.word 1 s.now) } rfl u.out.th ?_
 intro w8 a9 z
 refine ⟨fun _=>⟨u.out.vw.blk (z.block _ u.out.vw.lt (by omega)),u.out.vg.blk (z.block _ u.out.vg.lt (by omega))⟩,?_⟩
 refine reg_only 3 rfl (by kernel_rfl) rfl ?_
 refine wp_store_dg _ _ rfl (w.heap.size+3) rfl { g with word:=F,st:=sOffer } rfl (th5_blk u.out.tg (z.block _ (th5_lt u.out.tg) (by omega))) ?_
 intro w9 al Y
 have ak:=a9.blk (Y.block _ a9.lt (by omega))
 refine ⟨fun _=>⟨(u.out.vw.blk (z.block _ u.out.vw.lt (by omega))).blk (Y.block _ (by have:=u.out.vw.lt; have:=z.size; omega) (by omega)),(u.out.vg.blk (z.block _ u.out.vg.lt (by omega))).blk (Y.block _ (by have:=u.out.vg.lt; have:=z.size; omega) (by omega))⟩,?_⟩
 refine reg_done (by kernel_rfl) ?_
 have hE:=u.out.done ((fzb z (by omega) (by omega)).trans (fzb Y (by omega) (by omega)))
 have HE:=Lh hE
 have ar:=Lh ak
 have au:=Lh al
 clear hE ak al a9 z Y u a6
 go_wp2_with fail
 exact bodyPost_ret (v:=.tuple #[Dv.val v2 { s with D:=up s.D g.id (exS g.word 1 s.now) },Gv.val { g with word:=F,st:=sOffer }]) (res_wg _ _ (w.heap.size+2) (w.heap.size+3) v2 { s with D:=up s.D g.id (exS g.word 1 s.now) } { g with word:=F,st:=sOffer } Tryz.results27 rfl rfl ar.out au.out) rfl ⟨v2,rfl,HE.out.1,HE.out.2⟩
theorem dg_back_no (h:Dw K w v s N) (ac:∀ g,w.heap.size≤g→K g) (G:g.st=sBack) (ho:U64 g.word) (ar:Nd s.D) (hn:s.D.length≤1000) (hu:∀ q∈s.D,U64 q.2.word) (hk:bK s.D g.id g.word 1=false):DDoes w K v ⟨g,s,N⟩ ⟨{ g with st:=sDone },{ s with D:=up s.D g.id (exS g.word 1 s.now) },N⟩:=by
 unfold DDoes
 obtain ⟨bv,a4⟩:∃ bv,bV s.D g.id g.word 1=bv:=⟨_,rfl⟩
 have _:=a4
 obtain ⟨W1,aq,I⟩:=Bs.start h ac g
 have F:=Lh I
 have k4:=I.vg.cell 4 _ rfl
 have e0:(g.st.toList == [111,102,102,101,114])=false:=by rw [G]; kernel_rfl
 have e1:(g.st.toList == [102,114,101,101])=false:=by rw [G]; kernel_rfl
 have e2:(g.st.toList == [115,116,97,115,104])=false:=by rw [G]; kernel_rfl
 have e3:(g.st.toList == [97,103,97,105,110])=false:=by rw [G]; kernel_rfl
 have e4:(g.st.toList == [98,97,99,107])=true:=by rw [G]; kernel_rfl
 have a5:=dswap_any (K:=Kb K w 4) W1 v s N I.dw I.kk g.id g.word 1 ar hn hu ho (by decide)
 rw [hk,a4] at a5
 have a8:=Lh a5
 clear hk hu a5 a4
 clear I h ac G
 go_enter Tryz.func27,Tryz.ntmps27
 go_upto_region 1 with (fail)
 clear aq
 go_upto_region 27 with (fail)
 clear k4 e0 e1 e2 e3 e4
 have k2:=F.out.vg.cell 2 _ rfl
 have k3:=F.out.vg.cell 3 _ rfl
 go_wp2_with (first | (refine load_w rfl _ rfl w.heap.size rfl v s F.out.vw ?_))
 refine a8.out.mono ?_
 rintro e w2 ⟨v2,rfl,ae,b2⟩
 clear a8 k2 k3
 go_upto_region 28 with (first | (refine store_w rfl _ _ rfl w2.heap.size rfl v2 { s with D:=up s.D g.id (exS g.word 1 s.now) } rfl (th_zero w2) ?_; intro w3 af aj; have aa:=Lh af; have a0:Hid (Below w2.heap.size w2 w3):=Lh (((Below.refl _ w2).alloc (Nat.le_refl _) _).trans (aj.below (by simp) (fun k hk=>by omega))); clear af aj))
 have a2:Hid (Below W1.heap.size W1 w3):=Lh (b2.trans (a0.out.mono b2.size))
 have a7:=Lh (ae.later a0.out)
 have a9:=Lh (F.out.vw.later a2.out).th
 clear ae a0
 go_upto_region 29 with (first
  | (refine load_w rfl _ rfl w2.heap.size rfl v2 { s with D:=up s.D g.id (exS g.word 1 s.now) } aa.out ?_)
  | (refine store_w rfl _ _ rfl w.heap.size rfl v2 { s with D:=up s.D g.id (exS g.word 1 s.now) } rfl a9.out ?_; intro w5 ag ak; have Y:Hid (Bs K w w5 v2 { s with D:=up s.D g.id (exS g.word 1 s.now) } g N):=Lh (F.out.put a2.out a7.out ag ak); clear ag ak))
 clear aa a2 a7 a9 F b2
 have k4:=Y.out.vg.cell 4 _ rfl
 have l4:=th5_free Y.out.vg.th 4 (by decide)
 go_upto_region 30 with (fail)
 have al:=Lh (Y.out.st ⟨#[100,111,110,101]⟩)
 clear k4 l4 Y
 generalize (w5.setCell ⟨w.heap.size+1,4,none⟩ (.string ⟨#[100,111,110,101]⟩))=W6 at *
 go_upto_region 42 with (fail)
 refine reg_start 4 (fun w'=>Vw w' w.heap.size (Dv.cells v2 { s with D:=up s.D g.id (exS g.word 1 s.now) })∧Vg w' (w.heap.size+1) { g with st:=sDone }) (by kernel_rfl) (by kernel_rfl) ?_
 intro ad
 have a3:=Lh ad
 clear ad
 have u:=Lh (al.out.later ((Below.refl _ _).drew))
 refine rl 0 a3.out ⟨u.out.vw,u.out.vg⟩ rfl ?_
 apply Exists.intro
 refine ⟨fun w' hw=>exec_load_w _ _ _ rfl rfl hw.1,?_⟩
 refine rl 1 a3.out ⟨u.out.vw,u.out.vg⟩ rfl ?_
 apply Exists.intro
 refine ⟨fun w' hw=>exec_load_dg _ _ _ rfl rfl hw.2,?_⟩
 refine reg_only 2 rfl (by kernel_rfl) rfl ?_
 refine wp_store_w _ _ rfl (w.heap.size+2) rfl v2 { s with D:=up s.D g.id (exS g.word 1 s.now) } rfl u.out.th ?_
 intro w8 a6 z
 refine ⟨fun _=>⟨u.out.vw.blk (z.block _ u.out.vw.lt (by omega)),u.out.vg.blk (z.block _ u.out.vg.lt (by omega))⟩,?_⟩
 refine reg_only 3 rfl (by kernel_rfl) rfl ?_
 refine wp_store_dg _ _ rfl (w.heap.size+3) rfl { g with st:=sDone } rfl (th5_blk u.out.tg (z.block _ (th5_lt u.out.tg) (by omega))) ?_
 intro w9 ai J
 have ah:=a6.blk (J.block _ a6.lt (by omega))
 refine ⟨fun _=>⟨(u.out.vw.blk (z.block _ u.out.vw.lt (by omega))).blk (J.block _ (by have:=u.out.vw.lt; have:=z.size; omega) (by omega)),(u.out.vg.blk (z.block _ u.out.vg.lt (by omega))).blk (J.block _ (by have:=u.out.vg.lt; have:=z.size; omega) (by omega))⟩,?_⟩
 refine reg_done (by kernel_rfl) ?_
 have hE:=u.out.done ((fzb z (by omega) (by omega)).trans (fzb J (by omega) (by omega)))
 have HE:=Lh hE
 have an:=Lh ah
 have ao:=Lh ai
 clear hE ah ai a6 z J u a3
 go_wp2_with fail
 exact bodyPost_ret (v:=.tuple #[Dv.val v2 { s with D:=up s.D g.id (exS g.word 1 s.now) },Gv.val { g with st:=sDone }]) (res_wg _ _ (w.heap.size+2) (w.heap.size+3) v2 { s with D:=up s.D g.id (exS g.word 1 s.now) } { g with st:=sDone } Tryz.results27 rfl rfl an.out ao.out) rfl ⟨v2,rfl,HE.out.1,HE.out.2⟩
end
section
variable (w:World) {K:Nat→Prop} {v:Dv} {g:Gv} {s:Ws} {N:List Int}
theorem dg_offer_closed (h:Dw K w v s N) (a2:∀ g,w.heap.size≤g→K g) (he:g.st=sOffer) (hc:s.closed=true):DDoes w K v ⟨g,s,N⟩ ⟨{ g with st:=sClose },s,N⟩:=by
 unfold DDoes
 obtain ⟨W1,a9,I⟩:=Bs.start h a2 g
 have G:=Lh I
 have k4:=I.vg.cell 4 _ rfl
 have e0:(g.st.toList == [111,102,102,101,114])=true:=by rw [he]; kernel_rfl
 have a0:=I.vw.cell 22 _ rfl
 rw [hc] at a0
 clear hc
 clear I h a2 he
 go_enter Tryz.func27,Tryz.ntmps27
 go_upto_region 1 with (fail)
 clear a9
 go_upto_region 5 with (fail)
 clear k4 e0 a0
 have k4:=G.out.vg.cell 4 _ rfl
 have l4:=th5_free G.out.vg.th 4 (by decide)
 go_upto_region 6 with (fail)
 have a6:=Lh (G.out.st ⟨#[99,108,111,115,101]⟩)
 clear k4 l4 G
 generalize (W1.setCell ⟨w.heap.size+1,4,none⟩ (.string ⟨#[99,108,111,115,101]⟩))=W2 at *
 refine reg_start 4 (fun w'=>Vw w' w.heap.size (Dv.cells v s)∧Vg w' (w.heap.size+1) { g with st:=sClose }) (by kernel_rfl) (by kernel_rfl) ?_
 intro a3
 have J:=Lh a3
 clear a3
 have u:=Lh (a6.out.later ((Below.refl _ _).drew))
 refine rl 0 J.out ⟨u.out.vw,u.out.vg⟩ rfl ?_
 apply Exists.intro
 refine ⟨fun w' hw=>exec_load_w _ _ _ rfl rfl hw.1,?_⟩
 refine rl 1 J.out ⟨u.out.vw,u.out.vg⟩ rfl ?_
 apply Exists.intro
 refine ⟨fun w' hw=>exec_load_dg _ _ _ rfl rfl hw.2,?_⟩
 refine reg_only 2 rfl (by kernel_rfl) rfl ?_
 refine wp_store_w _ _ rfl (w.heap.size+2) rfl v s rfl u.out.th ?_
 intro w8 Y z
 refine ⟨fun _=>⟨u.out.vw.blk (z.block _ u.out.vw.lt (by omega)),u.out.vg.blk (z.block _ u.out.vg.lt (by omega))⟩,?_⟩
 refine reg_only 3 rfl (by kernel_rfl) rfl ?_
 refine wp_store_dg _ _ rfl (w.heap.size+3) rfl { g with st:=sClose } rfl (th5_blk u.out.tg (z.block _ (th5_lt u.out.tg) (by omega))) ?_
 intro w9 a5 F
 have a4:=Y.blk (F.block _ Y.lt (by omega))
 refine ⟨fun _=>⟨(u.out.vw.blk (z.block _ u.out.vw.lt (by omega))).blk (F.block _ (by have:=u.out.vw.lt; have:=z.size; omega) (by omega)),(u.out.vg.blk (z.block _ u.out.vg.lt (by omega))).blk (F.block _ (by have:=u.out.vg.lt; have:=z.size; omega) (by omega))⟩,?_⟩
 refine reg_done (by kernel_rfl) ?_
 have hE:=u.out.done ((fzb z (by omega) (by omega)).trans (fzb F (by omega) (by omega)))
 have HE:=Lh hE
 have a7:=Lh a4
 have a8:=Lh a5
 clear hE a4 a5 Y z F u J
 go_wp2_with fail
 exact bodyPost_ret (v:=.tuple #[Dv.val v s,Gv.val { g with st:=sClose }]) (res_wg _ _ (w.heap.size+2) (w.heap.size+3) v s { g with st:=sClose } Tryz.results27 rfl rfl a7.out a8.out) rfl ⟨v,rfl,HE.out.1,HE.out.2⟩
theorem dg_offer_marked (h:Dw K w v s N) (a5:∀ g,w.heap.size≤g→K g) (he:g.st=sOffer) (hN:N.length≤1000) (hc:s.closed=false) (hm:g.id∈N):DDoes w K v ⟨g,s,N⟩ ⟨{ g with st:=sClose },s,N⟩:=by
 unfold DDoes
 obtain ⟨W1,ah,z⟩:=Bs.start h a5 g
 have a2:=Lh z
 have k4:=z.vg.cell 4 _ rfl
 have e0:(g.st.toList == [111,102,102,101,114])=true:=by rw [he]; kernel_rfl
 have a4:=z.vw.cell 22 _ rfl
 rw [hc] at a4
 clear hc
 have ad:=z.vw.cell 12 _ rfl
 have ae:=z.vw.cell 13 _ rfl
 have af:=z.vw.cell 14 _ rfl
 have ag:=z.vw.cell 15 _ rfl
 have k2:=z.vg.cell 2 _ rfl
 have Y:=Le.rmarked_any s.leak v.k.A v.k.A2 v.k.A3 v.k.n v.k.c v.k.n2 v.k.c2 v.k.n3 v.k.c3 W1.heap.size W1 g.id N z.dw.book.m (Nat.le_refl _) (by have:=z.dw.book.m.len; omega)
 rw [decide_eq_true hm] at Y
 have a3:=Lh Y
 clear Y hm
 clear z h a5 he
 go_enter Tryz.func27,Tryz.ntmps27
 go_upto_region 1 with (fail)
 clear ah
 go_wp2_with fail
 refine a3.out.mono ?_
 rintro e w2 ⟨rfl,b2⟩
 have I:=Lh (a2.out.later b2)
 clear k4 e0 a4 ad ae af ag k2 a3 b2 a2
 go_upto_region 5 with (fail)
 have k4:=I.out.vg.cell 4 _ rfl
 have l4:=th5_free I.out.vg.th 4 (by decide)
 go_upto_region 6 with (fail)
 have a9:=Lh (I.out.st ⟨#[99,108,111,115,101]⟩)
 clear k4 l4 I
 generalize (w2.setCell ⟨w.heap.size+1,4,none⟩ (.string ⟨#[99,108,111,115,101]⟩))=W3 at *
 refine reg_start 4 (fun w'=>Vw w' w.heap.size (Dv.cells v s)∧Vg w' (w.heap.size+1) { g with st:=sClose }) (by kernel_rfl) (by kernel_rfl) ?_
 intro a6
 have J:=Lh a6
 clear a6
 have u:=Lh (a9.out.later ((Below.refl _ _).drew))
 refine rl 0 J.out ⟨u.out.vw,u.out.vg⟩ rfl ?_
 apply Exists.intro
 refine ⟨fun w' hw=>exec_load_w _ _ _ rfl rfl hw.1,?_⟩
 refine rl 1 J.out ⟨u.out.vw,u.out.vg⟩ rfl ?_
 apply Exists.intro
 refine ⟨fun w' hw=>exec_load_dg _ _ _ rfl rfl hw.2,?_⟩
 refine reg_only 2 rfl (by kernel_rfl) rfl ?_
 refine wp_store_w _ _ rfl (w.heap.size+2) rfl v s rfl u.out.th ?_
 intro w8 a0 F
 refine ⟨fun _=>⟨u.out.vw.blk (F.block _ u.out.vw.lt (by omega)),u.out.vg.blk (F.block _ u.out.vg.lt (by omega))⟩,?_⟩
 refine reg_only 3 rfl (by kernel_rfl) rfl ?_
 refine wp_store_dg _ _ rfl (w.heap.size+3) rfl { g with st:=sClose } rfl (th5_blk u.out.tg (F.block _ (th5_lt u.out.tg) (by omega))) ?_
 intro w9 a8 G
 have a7:=a0.blk (G.block _ a0.lt (by omega))
 refine ⟨fun _=>⟨(u.out.vw.blk (F.block _ u.out.vw.lt (by omega))).blk (G.block _ (by have:=u.out.vw.lt; have:=F.size; omega) (by omega)),(u.out.vg.blk (F.block _ u.out.vg.lt (by omega))).blk (G.block _ (by have:=u.out.vg.lt; have:=F.size; omega) (by omega))⟩,?_⟩
 refine reg_done (by kernel_rfl) ?_
 have hE:=u.out.done ((fzb F (by omega) (by omega)).trans (fzb G (by omega) (by omega)))
 have HE:=Lh hE
 have aa:=Lh a7
 have ac:=Lh a8
 clear hE a7 a8 a0 F G u J
 go_wp2_with fail
 exact bodyPost_ret (v:=.tuple #[Dv.val v s,Gv.val { g with st:=sClose }]) (res_wg _ _ (w.heap.size+2) (w.heap.size+3) v s { g with st:=sClose } Tryz.results27 rfl rfl aa.out ac.out) rfl ⟨v,rfl,HE.out.1,HE.out.2⟩
theorem dg_offer_true (h:Dw K w v s N) (aj:∀ g,w.heap.size≤g→K g) (he:g.st=sOffer) (hN:N.length≤1000) (aG:s.sl.length≤1000) (hc:s.closed=false) (hm:¬ g.id∈N) (hf:(St.fillR s.sl g.id).2.2=true):DDoes w K v ⟨g,s,N⟩ ⟨{ g with st:=sDone },{ s with sl:=(St.fillR s.sl g.id).1 },N⟩:=by
 unfold DDoes
 obtain ⟨J,a7⟩:∃ J,(St.fillR s.sl g.id).1=J:=⟨_,rfl⟩
 obtain ⟨tt,ao⟩:∃ tt,(St.fillR s.sl g.id).2.1=tt:=⟨_,rfl⟩
 rw [a7]
 have av:=Lh hf
 have aw:=Lh a7
 have ax:=Lh ao
 clear hf a7 ao
 obtain ⟨W1,aF,G⟩:=Bs.start h aj g
 have ac:=Lh G
 have k4:=G.vg.cell 4 _ rfl
 have e0:(g.st.toList == [111,102,102,101,114])=true:=by rw [he]; kernel_rfl
 have ai:=G.vw.cell 22 _ rfl
 rw [hc] at ai
 clear hc
 have aA:=G.vw.cell 12 _ rfl
 have aB:=G.vw.cell 13 _ rfl
 have aC:=G.vw.cell 14 _ rfl
 have aD:=G.vw.cell 15 _ rfl
 have k2:=G.vg.cell 2 _ rfl
 have a9:=Le.rmarked_any s.leak v.k.A v.k.A2 v.k.A3 v.k.n v.k.c v.k.n2 v.k.c2 v.k.n3 v.k.c3 W1.heap.size W1 g.id N G.dw.book.m (Nat.le_refl _) (by have:=G.dw.book.m.len; omega)
 rw [decide_eq_false hm] at a9
 have ag:=Lh a9
 clear a9 hm
 clear G h aj he
 go_enter Tryz.func27,Tryz.ntmps27
 go_upto_region 1 with (fail)
 clear aF
 go_wp2_with fail
 refine ag.out.mono ?_
 rintro e w2 ⟨rfl,b2⟩
 have I:=Lh (ac.out.later b2)
 clear k4 e0 ai aA aB aC aD k2 ag b2 ac
 have a8:=rfillK_any (K:=Kb K w 4) w2 I.out.kk v.sA v.sn v.sc s.sl g.id I.out.dw.sk I.out.dw.sl (by have:=I.out.dw.sl.len; omega)
 rw [av.out,aw.out,ax.out] at a8
 have af:=Lh a8
 clear a8
 have a6:=I.out.vw.cell 11 _ rfl
 have k2:=I.out.vg.cell 2 _ rfl
 go_wp2_with fail
 refine af.out.mono ?_
 rintro e w3 ⟨A',F,z,rfl,an,al,b3⟩
 clear a6 k2 af
 have a4:=I.out.vw.later b3
 have a6:=a4.cell 11 _ rfl
 have aE:=a4.free 11 (by decide)
 have ae:Hid (Dw (Kb K w 4) w3 { v with sA:=A',sn:=F,sc:=z } { s with sl:=J } N):=Lh (by
  have h2:=I.out.dw.later b3
  exact ⟨h2.bag,h2.loc,an,al,h2.book,h2.fact,h2.hist,h2.hk,h2.l8⟩)
 have ah:Hid (Vw (w3.setCell ⟨w.heap.size,11,none⟩ (.slice A' F z)) w.heap.size (Dv.cells { v with sA:=A',sn:=F,sc:=z } { s with sl:=J })):=Lh (a4.set 11 (by simp [cells_len]) (.slice A' F z))
 have ad:=Lh b3
 clear an al b3 a4
 go_upto_region 9 with (fail)
 have a2:Hid (Bs K w (w3.setCell ⟨w.heap.size,11,none⟩ (.slice A' F z)) { v with sA:=A',sn:=F,sc:=z } { s with sl:=J } g N):=Lh (I.out.put ad.out ae.out ah.out (Fz.of_set (a:=⟨w.heap.size,11,none⟩) _ rfl))
 clear a6 aE ae ah ad I
 generalize (w3.setCell ⟨w.heap.size,11,none⟩ (.slice A' F z))=W4 at *
 have k4:=a2.out.vg.cell 4 _ rfl
 have l4:=th5_free a2.out.vg.th 4 (by decide)
 go_upto_region 10 with (fail)
 have a3:=Lh (a2.out.st ⟨#[102,114,101,101]⟩)
 clear k4 l4 a2
 generalize (W4.setCell ⟨w.heap.size+1,4,none⟩ (.string ⟨#[102,114,101,101]⟩))=W5 at *
 go_upto_region 11 with (fail)
 have k4:=a3.out.vg.cell 4 _ rfl
 have l4:=th5_free a3.out.vg.th 4 (by decide)
 go_upto_region 42 with (fail)
 have au:=Lh (a3.out.st ⟨#[100,111,110,101]⟩)
 clear k4 l4 a3
 generalize (W5.setCell ⟨w.heap.size+1,4,none⟩ (.string ⟨#[100,111,110,101]⟩))=W6 at *
 refine reg_start 4 (fun w'=>Vw w' w.heap.size (Dv.cells { v with sA:=A',sn:=F,sc:=z } { s with sl:=J })∧Vg w' (w.heap.size+1) { g with st:=sDone }) (by kernel_rfl) (by kernel_rfl) ?_
 intro ak
 have a5:=Lh ak
 clear ak
 have u:=Lh (au.out.later ((Below.refl _ _).drew))
 refine rl 0 a5.out ⟨u.out.vw,u.out.vg⟩ rfl ?_
 apply Exists.intro
 refine ⟨fun w' hw=>exec_load_w _ _ _ rfl rfl hw.1,?_⟩
 refine rl 1 a5.out ⟨u.out.vw,u.out.vg⟩ rfl ?_
 apply Exists.intro
 refine ⟨fun w' hw=>exec_load_dg _ _ _ rfl rfl hw.2,?_⟩
 refine reg_only 2 rfl (by kernel_rfl) rfl ?_
 refine wp_store_w _ _ rfl (w.heap.size+2) rfl { v with sA:=A',sn:=F,sc:=z } { s with sl:=J } rfl u.out.th ?_
 intro w8 aa Y
 refine ⟨fun _=>⟨u.out.vw.blk (Y.block _ u.out.vw.lt (by omega)),u.out.vg.blk (Y.block _ u.out.vg.lt (by omega))⟩,?_⟩
 refine reg_only 3 rfl (by kernel_rfl) rfl ?_
 refine wp_store_dg _ _ rfl (w.heap.size+3) rfl { g with st:=sDone } rfl (th5_blk u.out.tg (Y.block _ (th5_lt u.out.tg) (by omega))) ?_
 intro w9 ar a0
 have aq:=aa.blk (a0.block _ aa.lt (by omega))
 refine ⟨fun _=>⟨(u.out.vw.blk (Y.block _ u.out.vw.lt (by omega))).blk (a0.block _ (by have:=u.out.vw.lt; have:=Y.size; omega) (by omega)),(u.out.vg.blk (Y.block _ u.out.vg.lt (by omega))).blk (a0.block _ (by have:=u.out.vg.lt; have:=Y.size; omega) (by omega))⟩,?_⟩
 refine reg_done (by kernel_rfl) ?_
 have hE:=u.out.done ((fzb Y (by omega) (by omega)).trans (fzb a0 (by omega) (by omega)))
 have HE:=Lh hE
 have ay:=Lh aq
 have az:=Lh ar
 clear hE aq ar aa Y a0 u a5
 go_wp2_with fail
 exact bodyPost_ret (v:=.tuple #[Dv.val { v with sA:=A',sn:=F,sc:=z } { s with sl:=J },Gv.val { g with st:=sDone }]) (res_wg _ _ (w.heap.size+2) (w.heap.size+3) { v with sA:=A',sn:=F,sc:=z } { s with sl:=J } { g with st:=sDone } Tryz.results27 rfl rfl ay.out az.out) rfl ⟨{ v with sA:=A',sn:=F,sc:=z },rfl,HE.out.1,HE.out.2⟩
theorem dg_offer_false (h:Dw K w v s N) (ai:∀ g,w.heap.size≤g→K g) (he:g.st=sOffer) (hN:N.length≤1000) (aF:s.sl.length≤1000) (hc:s.closed=false) (hm:¬ g.id∈N) (hf:(St.fillR s.sl g.id).2.2=false):DDoes w K v ⟨g,s,N⟩ ⟨{ g with st:=sFree },{ s with sl:=(St.fillR s.sl g.id).1 },N⟩:=by
 unfold DDoes
 obtain ⟨J,a6⟩:∃ J,(St.fillR s.sl g.id).1=J:=⟨_,rfl⟩
 obtain ⟨tt,an⟩:∃ tt,(St.fillR s.sl g.id).2.1=tt:=⟨_,rfl⟩
 rw [a6]
 have au:=Lh hf
 have av:=Lh a6
 have aw:=Lh an
 clear hf a6 an
 obtain ⟨W1,aE,G⟩:=Bs.start h ai g
 have aa:=Lh G
 have k4:=G.vg.cell 4 _ rfl
 have e0:(g.st.toList == [111,102,102,101,114])=true:=by rw [he]; kernel_rfl
 have ah:=G.vw.cell 22 _ rfl
 rw [hc] at ah
 clear hc
 have az:=G.vw.cell 12 _ rfl
 have aA:=G.vw.cell 13 _ rfl
 have aB:=G.vw.cell 14 _ rfl
 have aC:=G.vw.cell 15 _ rfl
 have k2:=G.vg.cell 2 _ rfl
 have a8:=Le.rmarked_any s.leak v.k.A v.k.A2 v.k.A3 v.k.n v.k.c v.k.n2 v.k.c2 v.k.n3 v.k.c3 W1.heap.size W1 g.id N G.dw.book.m (Nat.le_refl _) (by have:=G.dw.book.m.len; omega)
 rw [decide_eq_false hm] at a8
 have af:=Lh a8
 clear a8 hm
 clear G h ai he
 go_enter Tryz.func27,Tryz.ntmps27
 go_upto_region 1 with (fail)
 clear aE
 go_wp2_with fail
 refine af.out.mono ?_
 rintro e w2 ⟨rfl,b2⟩
 have I:=Lh (aa.out.later b2)
 clear k4 e0 ah az aA aB aC k2 af b2 aa
 have a7:=rfillK_any (K:=Kb K w 4) w2 I.out.kk v.sA v.sn v.sc s.sl g.id I.out.dw.sk I.out.dw.sl (by have:=I.out.dw.sl.len; omega)
 rw [au.out,av.out,aw.out] at a7
 have ae:=Lh a7
 clear a7
 have a5:=I.out.vw.cell 11 _ rfl
 have k2:=I.out.vg.cell 2 _ rfl
 go_wp2_with fail
 refine ae.out.mono ?_
 rintro e w3 ⟨A',F,z,rfl,al,ak,b3⟩
 clear a5 k2 ae
 have a3:=I.out.vw.later b3
 have a5:=a3.cell 11 _ rfl
 have aD:=a3.free 11 (by decide)
 have ad:Hid (Dw (Kb K w 4) w3 { v with sA:=A',sn:=F,sc:=z } { s with sl:=J } N):=Lh (by
  have h2:=I.out.dw.later b3
  exact ⟨h2.bag,h2.loc,al,ak,h2.book,h2.fact,h2.hist,h2.hk,h2.l8⟩)
 have ag:Hid (Vw (w3.setCell ⟨w.heap.size,11,none⟩ (.slice A' F z)) w.heap.size (Dv.cells { v with sA:=A',sn:=F,sc:=z } { s with sl:=J })):=Lh (a3.set 11 (by simp [cells_len]) (.slice A' F z))
 have ac:=Lh b3
 clear al ak b3 a3
 go_upto_region 9 with (fail)
 have a2:Hid (Bs K w (w3.setCell ⟨w.heap.size,11,none⟩ (.slice A' F z)) { v with sA:=A',sn:=F,sc:=z } { s with sl:=J } g N):=Lh (I.out.put ac.out ad.out ag.out (Fz.of_set (a:=⟨w.heap.size,11,none⟩) _ rfl))
 clear a5 aD ad ag ac I
 generalize (w3.setCell ⟨w.heap.size,11,none⟩ (.slice A' F z))=W4 at *
 have k4:=a2.out.vg.cell 4 _ rfl
 have l4:=th5_free a2.out.vg.th 4 (by decide)
 go_upto_region 10 with (fail)
 have ar:=Lh (a2.out.st ⟨#[102,114,101,101]⟩)
 clear k4 l4 a2
 generalize (W4.setCell ⟨w.heap.size+1,4,none⟩ (.string ⟨#[102,114,101,101]⟩))=W5 at *
 go_upto_region 42 with (fail)
 refine reg_start 4 (fun w'=>Vw w' w.heap.size (Dv.cells { v with sA:=A',sn:=F,sc:=z } { s with sl:=J })∧Vg w' (w.heap.size+1) { g with st:=sFree }) (by kernel_rfl) (by kernel_rfl) ?_
 intro aj
 have a4:=Lh aj
 clear aj
 have u:=Lh (ar.out.later ((Below.refl _ _).drew))
 refine rl 0 a4.out ⟨u.out.vw,u.out.vg⟩ rfl ?_
 apply Exists.intro
 refine ⟨fun w' hw=>exec_load_w _ _ _ rfl rfl hw.1,?_⟩
 refine rl 1 a4.out ⟨u.out.vw,u.out.vg⟩ rfl ?_
 apply Exists.intro
 refine ⟨fun w' hw=>exec_load_dg _ _ _ rfl rfl hw.2,?_⟩
 refine reg_only 2 rfl (by kernel_rfl) rfl ?_
 refine wp_store_w _ _ rfl (w.heap.size+2) rfl { v with sA:=A',sn:=F,sc:=z } { s with sl:=J } rfl u.out.th ?_
 intro w8 a9 Y
 refine ⟨fun _=>⟨u.out.vw.blk (Y.block _ u.out.vw.lt (by omega)),u.out.vg.blk (Y.block _ u.out.vg.lt (by omega))⟩,?_⟩
 refine reg_only 3 rfl (by kernel_rfl) rfl ?_
 refine wp_store_dg _ _ rfl (w.heap.size+3) rfl { g with st:=sFree } rfl (th5_blk u.out.tg (Y.block _ (th5_lt u.out.tg) (by omega))) ?_
 intro w9 aq a0
 have ao:=a9.blk (a0.block _ a9.lt (by omega))
 refine ⟨fun _=>⟨(u.out.vw.blk (Y.block _ u.out.vw.lt (by omega))).blk (a0.block _ (by have:=u.out.vw.lt; have:=Y.size; omega) (by omega)),(u.out.vg.blk (Y.block _ u.out.vg.lt (by omega))).blk (a0.block _ (by have:=u.out.vg.lt; have:=Y.size; omega) (by omega))⟩,?_⟩
 refine reg_done (by kernel_rfl) ?_
 have hE:=u.out.done ((fzb Y (by omega) (by omega)).trans (fzb a0 (by omega) (by omega)))
 have HE:=Lh hE
 have ax:=Lh ao
 have ay:=Lh aq
 clear hE ao aq a9 Y a0 u a4
 go_wp2_with fail
 exact bodyPost_ret (v:=.tuple #[Dv.val { v with sA:=A',sn:=F,sc:=z } { s with sl:=J },Gv.val { g with st:=sFree }]) (res_wg _ _ (w.heap.size+2) (w.heap.size+3) { v with sA:=A',sn:=F,sc:=z } { s with sl:=J } { g with st:=sFree } Tryz.results27 rfl rfl ax.out ay.out) rfl ⟨{ v with sA:=A',sn:=F,sc:=z },rfl,HE.out.1,HE.out.2⟩
end
end Go.Proofs.YtaeemilldmhbnaaGreatDoor.Wo
