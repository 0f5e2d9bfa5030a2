/- A part of the claim: the texts DocGA. -/
import Derived.Test.YtaeemilldmhbnaaGreatDoorZGDocGx
set_option maxRecDepth 100000
set_option maxHeartbeats 8000000
set_option linter.unusedVariables false
namespace Go.Proofs.YtaeemilldmhbnaaGreatDoor.Wo
open Go Go.ChangeShapes Go.WideShapes Go.ChangeAt Go.RowKit Go.Deep Go.Maps Rw Hi Mt Ba
open Cn (Cf cfE)
section
variable (w:World) {K:Nat→Prop} {v:Dv} {g:Gv} {s:Ws} {N:List Int}
theorem dg_none (h:Dw K w v s N) (a0:∀ g,w.heap.size≤g→K g) (a3:(g.st.toList == [111,102,102,101,114])=false) (a4:(g.st.toList == [102,114,101,101])=false) (a5:(g.st.toList == [115,116,97,115,104])=false) (a6:(g.st.toList == [97,103,97,105,110])=false) (a7:(g.st.toList == [98,97,99,107])=false) (a8:(g.st.toList == [99,108,111,115,101])=false) (a9:(g.st.toList == [117,110,108,105,115,116])=false) (aa:(g.st.toList == [115,104,114,105,110,107])=false):DDoes w K v ⟨g,s,N⟩ ⟨{ g with st:=sDone },s,N⟩:=by
 unfold DDoes
 obtain ⟨W1,ah,J⟩:=Bs.start h a0 g
 have G:=Lh J
 have W:=J.vg.cell 4 _ rfl
 have e0:(g.st.toList == [111,102,102,101,114])=false:=a3
 have e1:(g.st.toList == [102,114,101,101])=false:=a4
 have e2:(g.st.toList == [115,116,97,115,104])=false:=a5
 have e3:(g.st.toList == [97,103,97,105,110])=false:=a6
 have e4:(g.st.toList == [98,97,99,107])=false:=a7
 have e5:(g.st.toList == [99,108,111,115,101])=false:=a8
 have e6:(g.st.toList == [117,110,108,105,115,116])=false:=a9
 have e7:(g.st.toList == [115,104,114,105,110,107])=false:=aa
 clear J h a0 a3 a4 a5 a6 a7 a8 a9 aa
 go_enter Tryz.func27,Tryz.ntmps27
 go_upto_region 1 with (fail)
 clear ah
 go_upto_region 2 with (fail)
 clear W e0 e1 e2 e3 e4 e5 e6 e7
 have W:=G.out.vg.cell 4 _ rfl
 have l4:=th5_free G.out.vg.th 4 (by decide)
 go_upto_region 42 with (fail)
 have ae:=Lh (G.out.st ⟨#[100,111,110,101]⟩)
 clear W l4 G
 generalize (W1.setCell ⟨w.heap.size+1,4,none⟩ (.string ⟨#[100,111,110,101]⟩))=W2 at *
 refine reg_start 4 (fun w'=>Vw w' w.heap.size (Dv.cells v s)∧Vg w' (w.heap.size+1) { g with st:=sDone }) (by kernel_rfl) (by kernel_rfl) ?_
 intro a2
 have I:=Lh a2
 clear a2
 have u:=Lh (ae.out.later ((Below.refl _ _).drew))
 refine rl 0 I.out ⟨u.out.vw,u.out.vg⟩ rfl ?_
 apply Exists.intro
 refine ⟨fun w' hw=>exec_load_w _ _ _ rfl rfl hw.1,?_⟩
 refine rl 1 I.out ⟨u.out.vw,u.out.vg⟩ rfl ?_
 apply Exists.intro
 refine ⟨fun w' hw=>exec_load_dg _ _ _ rfl rfl hw.2,?_⟩
 refine reg_only 2 rfl (by kernel_rfl) rfl ?_
 refine wp_store_w _ _ rfl (w.heap.size+2) rfl v s rfl u.out.th ?_
 intro w8 Q z
 refine ⟨fun _=>⟨u.out.vw.blk (z.block _ u.out.vw.lt (by omega)),u.out.vg.blk (z.block _ u.out.vg.lt (by omega))⟩,?_⟩
 refine reg_only 3 rfl (by kernel_rfl) rfl ?_
 refine wp_store_dg _ _ rfl (w.heap.size+3) rfl { g with st:=sDone } rfl (th5_blk u.out.tg (z.block _ (th5_lt u.out.tg) (by omega))) ?_
 intro w9 ad F
 have ac:=Q.blk (F.block _ Q.lt (by omega))
 refine ⟨fun _=>⟨(u.out.vw.blk (z.block _ u.out.vw.lt (by omega))).blk (F.block _ (by have:=u.out.vw.lt; have:=z.size; omega) (by omega)),(u.out.vg.blk (z.block _ u.out.vg.lt (by omega))).blk (F.block _ (by have:=u.out.vg.lt; have:=z.size; omega) (by omega))⟩,?_⟩
 refine reg_done (by kernel_rfl) ?_
 have hE:=u.out.done ((fzb z (by omega) (by omega)).trans (fzb F (by omega) (by omega)))
 have Y:=Lh hE
 have af:=Lh ac
 have ag:=Lh ad
 clear hE ac ad Q z F u I
 go_wp2_with fail
 exact bodyPost_ret (v:=.tuple #[Dv.val v s,Gv.val { g with st:=sDone }]) (res_wg _ _ (w.heap.size+2) (w.heap.size+3) v s { g with st:=sDone } Tryz.results27 rfl rfl af.out ag.out) rfl ⟨v,rfl,Y.out.1,Y.out.2⟩
theorem dg_shrink (h:Dw K w v s N) (a3:∀ g,w.heap.size≤g→K g) (z:g.st=sShrink) (h0:0≤s.live) (hm:s.live≤1000000):DDoes w K v ⟨g,s,N⟩ ⟨{ g with st:=sDone },{ s with live:=shrV s.live },N⟩:=by
 unfold DDoes
 obtain ⟨W1,ae,Y⟩:=Bs.start h a3 g
 have G:=Lh Y
 have k4:=Y.vg.cell 4 _ rfl
 have e0:(g.st.toList == [111,102,102,101,114])=false:=by rw [z]; kernel_rfl
 have e1:(g.st.toList == [102,114,101,101])=false:=by rw [z]; kernel_rfl
 have e2:(g.st.toList == [115,116,97,115,104])=false:=by rw [z]; kernel_rfl
 have e3:(g.st.toList == [97,103,97,105,110])=false:=by rw [z]; kernel_rfl
 have e4:(g.st.toList == [98,97,99,107])=false:=by rw [z]; kernel_rfl
 have e5:(g.st.toList == [99,108,111,115,101])=false:=by rw [z]; kernel_rfl
 have e6:(g.st.toList == [117,110,108,105,115,116])=false:=by rw [z]; kernel_rfl
 have e7:(g.st.toList == [115,104,114,105,110,107])=true:=by rw [z]; kernel_rfl
 have a5:=dshrink_any W1 v s h0 hm
 have a2:=Lh a5
 clear a5 h0 hm
 clear Y h a3 z
 go_enter Tryz.func27,Tryz.ntmps27
 go_upto_region 1 with (fail)
 clear ae
 go_upto_region 40 with (fail)
 clear k4 e0 e1 e2 e3 e4 e5 e6 e7
 go_wp2_with (first | (refine load_w rfl _ rfl w.heap.size rfl v s G.out.vw ?_))
 refine a2.out.mono ?_
 rintro e w2 ⟨rfl,Q⟩
 clear a2
 go_upto_region 41 with (first | (refine store_w rfl _ _ rfl w.heap.size rfl v { s with live:=shrV s.live } rfl (G.out.vw.later Q).th ?_; intro w3 a6 a9; have J:Hid (Bs K w w3 v { s with live:=shrV s.live } g N):=Lh (G.out.put Q ((G.out.dw.later Q).own_ s.conf s.now _ s.closed) a6 a9); clear a6 a9 Q G))
 have k4:=J.out.vg.cell 4 _ rfl
 have l4:=th5_free J.out.vg.th 4 (by decide)
 go_upto_region 42 with (fail)
 have aa:=Lh (J.out.st ⟨#[100,111,110,101]⟩)
 clear k4 l4 J
 generalize (w3.setCell ⟨w.heap.size+1,4,none⟩ (.string ⟨#[100,111,110,101]⟩))=W4 at *
 refine reg_start 4 (fun w'=>Vw w' w.heap.size (Dv.cells v { s with live:=shrV s.live })∧Vg w' (w.heap.size+1) { g with st:=sDone }) (by kernel_rfl) (by kernel_rfl) ?_
 intro a4
 have W:=Lh a4
 clear a4
 have u:=Lh (aa.out.later ((Below.refl _ _).drew))
 refine rl 0 W.out ⟨u.out.vw,u.out.vg⟩ rfl ?_
 apply Exists.intro
 refine ⟨fun w' hw=>exec_load_w _ _ _ rfl rfl hw.1,?_⟩
 refine rl 1 W.out ⟨u.out.vw,u.out.vg⟩ rfl ?_
 apply Exists.intro
 refine ⟨fun w' hw=>exec_load_dg _ _ _ rfl rfl hw.2,?_⟩
 refine reg_only 2 rfl (by kernel_rfl) rfl ?_
 refine wp_store_w _ _ rfl (w.heap.size+2) rfl v { s with live:=shrV s.live } rfl u.out.th ?_
 intro w8 a0 F
 refine ⟨fun _=>⟨u.out.vw.blk (F.block _ u.out.vw.lt (by omega)),u.out.vg.blk (F.block _ u.out.vg.lt (by omega))⟩,?_⟩
 refine reg_only 3 rfl (by kernel_rfl) rfl ?_
 refine wp_store_dg _ _ rfl (w.heap.size+3) rfl { g with st:=sDone } rfl (th5_blk u.out.tg (F.block _ (th5_lt u.out.tg) (by omega))) ?_
 intro w9 a8 I
 have a7:=a0.blk (I.block _ a0.lt (by omega))
 refine ⟨fun _=>⟨(u.out.vw.blk (F.block _ u.out.vw.lt (by omega))).blk (I.block _ (by have:=u.out.vw.lt; have:=F.size; omega) (by omega)),(u.out.vg.blk (F.block _ u.out.vg.lt (by omega))).blk (I.block _ (by have:=u.out.vg.lt; have:=F.size; omega) (by omega))⟩,?_⟩
 refine reg_done (by kernel_rfl) ?_
 have hE:=u.out.done ((fzb F (by omega) (by omega)).trans (fzb I (by omega) (by omega)))
 have HE:=Lh hE
 have ac:=Lh a7
 have ad:=Lh a8
 clear hE a7 a8 a0 F I u W
 go_wp2_with fail
 exact bodyPost_ret (v:=.tuple #[Dv.val v { s with live:=shrV s.live },Gv.val { g with st:=sDone }]) (res_wg _ _ (w.heap.size+2) (w.heap.size+3) v { s with live:=shrV s.live } { g with st:=sDone } Tryz.results27 rfl rfl ac.out ad.out) rfl ⟨v,rfl,HE.out.1,HE.out.2⟩
theorem dg_again_true (h:Dw K w v s N) (a4:∀ g,w.heap.size≤g→K g) (F:g.st=sAgain) (hl:s.sl.length≤1000) (hw:(s.closed || decide (0 < St.waitN s.sl))=true):DDoes w K v ⟨g,s,N⟩ ⟨{ g with st:=sBack },s,N⟩:=by
 unfold DDoes
 obtain ⟨W1,ac,a1⟩:=Bs.start h a4 g
 have J:=Lh a1
 have I:=a1.vg.cell 4 _ rfl
 have e0:(g.st.toList == [111,102,102,101,114])=false:=by rw [F]; kernel_rfl
 have e1:(g.st.toList == [102,114,101,101])=false:=by rw [F]; kernel_rfl
 have e2:(g.st.toList == [115,116,97,115,104])=false:=by rw [F]; kernel_rfl
 have e3:(g.st.toList == [97,103,97,105,110])=true:=by rw [F]; kernel_rfl
 clear a1 h a4 F
 go_enter Tryz.func27,Tryz.ntmps27
 go_upto_region 1 with (fail)
 clear ac
 go_upto_region 23 with (fail)
 clear I e0 e1 e2 e3
 have I:=J.out.vg.cell 4 _ rfl
 have l4:=th5_free J.out.vg.th 4 (by decide)
 go_upto_region 24 with (fail)
 have Q:=Lh (J.out.st ⟨#[100,111,110,101]⟩)
 clear I l4 J
 generalize (W1.setCell ⟨w.heap.size+1,4,none⟩ (.string ⟨#[100,111,110,101]⟩))=W2 at *
 have a2:=dwanted_any (K:=Kb K w 4) W2 v s N Q.out.dw hl
 rw [hw] at a2
 have a3:=Lh a2
 clear a2 hw hl
 go_wp2_with (first | (refine load_w rfl _ rfl w.heap.size rfl v s Q.out.vw ?_))
 refine a3.out.mono ?_
 rintro e w3 ⟨rfl,b3⟩
 have W:=Lh (Q.out.later b3)
 clear b3 a3 Q
 go_upto_region 25 with (fail)
 have I:=W.out.vg.cell 4 _ rfl
 have l4:=th5_free W.out.vg.th 4 (by decide)
 go_upto_region 42 with (fail)
 have a8:=Lh (W.out.st ⟨#[98,97,99,107]⟩)
 clear I l4 W
 generalize (w3.setCell ⟨w.heap.size+1,4,none⟩ (.string ⟨#[98,97,99,107]⟩))=W4 at *
 refine reg_start 4 (fun w'=>Vw w' w.heap.size (Dv.cells v s)∧Vg w' (w.heap.size+1) { g with st:=sBack }) (by kernel_rfl) (by kernel_rfl) ?_
 intro a5
 have Y:=Lh a5
 clear a5
 have u:=Lh (a8.out.later ((Below.refl _ _).drew))
 refine rl 0 Y.out ⟨u.out.vw,u.out.vg⟩ rfl ?_
 apply Exists.intro
 refine ⟨fun w' hw=>exec_load_w _ _ _ rfl rfl hw.1,?_⟩
 refine rl 1 Y.out ⟨u.out.vw,u.out.vg⟩ rfl ?_
 apply Exists.intro
 refine ⟨fun w' hw=>exec_load_dg _ _ _ rfl rfl hw.2,?_⟩
 refine reg_only 2 rfl (by kernel_rfl) rfl ?_
 refine wp_store_w _ _ rfl (w.heap.size+2) rfl v s rfl u.out.th ?_
 intro w8 a0 z
 refine ⟨fun _=>⟨u.out.vw.blk (z.block _ u.out.vw.lt (by omega)),u.out.vg.blk (z.block _ u.out.vg.lt (by omega))⟩,?_⟩
 refine reg_only 3 rfl (by kernel_rfl) rfl ?_
 refine wp_store_dg _ _ rfl (w.heap.size+3) rfl { g with st:=sBack } rfl (th5_blk u.out.tg (z.block _ (th5_lt u.out.tg) (by omega))) ?_
 intro w9 a7 G
 have a6:=a0.blk (G.block _ a0.lt (by omega))
 refine ⟨fun _=>⟨(u.out.vw.blk (z.block _ u.out.vw.lt (by omega))).blk (G.block _ (by have:=u.out.vw.lt; have:=z.size; omega) (by omega)),(u.out.vg.blk (z.block _ u.out.vg.lt (by omega))).blk (G.block _ (by have:=u.out.vg.lt; have:=z.size; omega) (by omega))⟩,?_⟩
 refine reg_done (by kernel_rfl) ?_
 have hE:=u.out.done ((fzb z (by omega) (by omega)).trans (fzb G (by omega) (by omega)))
 have HE:=Lh hE
 have a9:=Lh a6
 have aa:=Lh a7
 clear hE a6 a7 a0 z G u Y
 go_wp2_with fail
 exact bodyPost_ret (v:=.tuple #[Dv.val v s,Gv.val { g with st:=sBack }]) (res_wg _ _ (w.heap.size+2) (w.heap.size+3) v s { g with st:=sBack } Tryz.results27 rfl rfl a9.out aa.out) rfl ⟨v,rfl,HE.out.1,HE.out.2⟩
theorem dg_again_false (h:Dw K w v s N) (a3:∀ g,w.heap.size≤g→K g) (F:g.st=sAgain) (hl:s.sl.length≤1000) (hw:(s.closed || decide (0 < St.waitN s.sl))=false):DDoes w K v ⟨g,s,N⟩ ⟨{ g with st:=sDone },s,N⟩:=by
 unfold DDoes
 obtain ⟨W1,aa,W⟩:=Bs.start h a3 g
 have I:=Lh W
 have k4:=W.vg.cell 4 _ rfl
 have e0:(g.st.toList == [111,102,102,101,114])=false:=by rw [F]; kernel_rfl
 have e1:(g.st.toList == [102,114,101,101])=false:=by rw [F]; kernel_rfl
 have e2:(g.st.toList == [115,116,97,115,104])=false:=by rw [F]; kernel_rfl
 have e3:(g.st.toList == [97,103,97,105,110])=true:=by rw [F]; kernel_rfl
 clear W h a3 F
 go_enter Tryz.func27,Tryz.ntmps27
 go_upto_region 1 with (fail)
 clear aa
 go_upto_region 23 with (fail)
 clear k4 e0 e1 e2 e3
 have k4:=I.out.vg.cell 4 _ rfl
 have l4:=th5_free I.out.vg.th 4 (by decide)
 go_upto_region 24 with (fail)
 have J:=Lh (I.out.st ⟨#[100,111,110,101]⟩)
 clear k4 l4 I
 generalize (W1.setCell ⟨w.heap.size+1,4,none⟩ (.string ⟨#[100,111,110,101]⟩))=W2 at *
 have a0:=dwanted_any (K:=Kb K w 4) W2 v s N J.out.dw hl
 rw [hw] at a0
 have a2:=Lh a0
 clear a0 hw hl
 go_wp2_with (first | (refine load_w rfl _ rfl w.heap.size rfl v s J.out.vw ?_))
 refine a2.out.mono ?_
 rintro e w3 ⟨rfl,b3⟩
 have a7:=Lh (J.out.later b3)
 clear b3 a2 J
 go_upto_region 42 with (fail)
 refine reg_start 4 (fun w'=>Vw w' w.heap.size (Dv.cells v s)∧Vg w' (w.heap.size+1) { g with st:=sDone }) (by kernel_rfl) (by kernel_rfl) ?_
 intro a4
 have Q:=Lh a4
 clear a4
 have u:=Lh (a7.out.later ((Below.refl _ _).drew))
 refine rl 0 Q.out ⟨u.out.vw,u.out.vg⟩ rfl ?_
 apply Exists.intro
 refine ⟨fun w' hw=>exec_load_w _ _ _ rfl rfl hw.1,?_⟩
 refine rl 1 Q.out ⟨u.out.vw,u.out.vg⟩ rfl ?_
 apply Exists.intro
 refine ⟨fun w' hw=>exec_load_dg _ _ _ rfl rfl hw.2,?_⟩
 refine reg_only 2 rfl (by kernel_rfl) rfl ?_
 refine wp_store_w _ _ rfl (w.heap.size+2) rfl v s rfl u.out.th ?_
 intro w8 Y z
 refine ⟨fun _=>⟨u.out.vw.blk (z.block _ u.out.vw.lt (by omega)),u.out.vg.blk (z.block _ u.out.vg.lt (by omega))⟩,?_⟩
 refine reg_only 3 rfl (by kernel_rfl) rfl ?_
 refine wp_store_dg _ _ rfl (w.heap.size+3) rfl { g with st:=sDone } rfl (th5_blk u.out.tg (z.block _ (th5_lt u.out.tg) (by omega))) ?_
 intro w9 a6 G
 have a5:=Y.blk (G.block _ Y.lt (by omega))
 refine ⟨fun _=>⟨(u.out.vw.blk (z.block _ u.out.vw.lt (by omega))).blk (G.block _ (by have:=u.out.vw.lt; have:=z.size; omega) (by omega)),(u.out.vg.blk (z.block _ u.out.vg.lt (by omega))).blk (G.block _ (by have:=u.out.vg.lt; have:=z.size; omega) (by omega))⟩,?_⟩
 refine reg_done (by kernel_rfl) ?_
 have hE:=u.out.done ((fzb z (by omega) (by omega)).trans (fzb G (by omega) (by omega)))
 have HE:=Lh hE
 have a8:=Lh a5
 have a9:=Lh a6
 clear hE a5 a6 Y z G u Q
 go_wp2_with fail
 exact bodyPost_ret (v:=.tuple #[Dv.val v s,Gv.val { g with st:=sDone }]) (res_wg _ _ (w.heap.size+2) (w.heap.size+3) v s { g with st:=sDone } Tryz.results27 rfl rfl a8.out a9.out) rfl ⟨v,rfl,HE.out.1,HE.out.2⟩
theorem dg_stash (h:Dw K w v s N) (a8:∀ g,w.heap.size≤g→K g) (he:g.st=sStash)  : DDoes w K v ⟨g,s,N⟩ ⟨{ g with st:=sAgain },{ s with loc:=Lc.putR s.loc g.th [g.id] },N⟩:=by
 unfold DDoes
 obtain ⟨W1,ah,a1⟩:=Bs.start h a8 g
 have z:=Lh a1
 have k4:=a1.vg.cell 4 _ rfl
 have e0:(g.st.toList == [111,102,102,101,114])=false:=by rw [he]; kernel_rfl
 have e1:(g.st.toList == [102,114,101,101])=false:=by rw [he]; kernel_rfl
 have e2:(g.st.toList == [115,116,97,115,104])=true:=by rw [he]; kernel_rfl
 clear a1 h a8 he
 go_enter Tryz.func27,Tryz.ntmps27
 go_upto_region 1 with (fail)
 clear ah
 go_upto_region 20 with (fail)
 clear k4 e0 e1 e2
 have k0:=z.out.vg.cell 0 _ rfl
 have k2:=z.out.vg.cell 2 _ rfl
 have Y:=z.out.vw.cell 10 _ rfl
 rw [z.out.dw.l8] at Y
 have a3:=z.out.vw.free 10 (by decide)
 go_wp2_with fail
 refine (Lk.rputU (K:=Kb K w 4) W1 v.lA v.lc v.vs s.loc g.th g.id z.out.dw.loc z.out.kk).mono ?_
 rintro e w2 ⟨A2,c2,G,rfl,aa,W⟩
 clear k0 k2 Y a3
 have a0:=z.out.vw.later W
 have Y:=a0.cell 10 _ rfl
 have a3:=a0.free 10 (by decide)
 have a6:Hid (Dw (Kb K w 4) w2 { v with lA:=A2,ln:=8,lc:=c2,vs:=G } { s with loc:=Lc.putR s.loc g.th [g.id] } N):=Lh (by
  have I:=z.out.dw.later W
  exact ⟨I.bag,aa,I.sl,I.sk,I.book,I.fact,I.hist,I.hk,rfl⟩)
 have a7:Hid (Vw (w2.setCell ⟨w.heap.size,10,none⟩ (.slice A2 8 c2)) w.heap.size (Dv.cells { v with lA:=A2,ln:=8,lc:=c2,vs:=G } { s with loc:=Lc.putR s.loc g.th [g.id] })):=Lh (a0.set 10 (by simp [cells_len]) (.slice A2 8 c2))
 have a5:=Lh W
 clear aa W a0
 go_upto_region 21 with (fail)
 have Q:Hid (Bs K w (w2.setCell ⟨w.heap.size,10,none⟩ (.slice A2 8 c2)) { v with lA:=A2,ln:=8,lc:=c2,vs:=G } { s with loc:=Lc.putR s.loc g.th [g.id] } g N):=Lh (z.out.put a5.out a6.out a7.out (Fz.of_set (a:=⟨w.heap.size,10,none⟩) _ rfl))
 clear Y a3 a6 a7 a5 z
 generalize (w2.setCell ⟨w.heap.size,10,none⟩ (.slice A2 8 c2))=W3 at *
 have k4:=Q.out.vg.cell 4 _ rfl
 have l4:=th5_free Q.out.vg.th 4 (by decide)
 go_upto_region 42 with (fail)
 have ae:=Lh (Q.out.st ⟨#[97,103,97,105,110]⟩)
 clear k4 l4 Q
 generalize (W3.setCell ⟨w.heap.size+1,4,none⟩ (.string ⟨#[97,103,97,105,110]⟩))=W4 at *
 refine reg_start 4 (fun w'=>Vw w' w.heap.size (Dv.cells { v with lA:=A2,ln:=8,lc:=c2,vs:=G } { s with loc:=Lc.putR s.loc g.th [g.id] })∧Vg w' (w.heap.size+1) { g with st:=sAgain }) (by kernel_rfl) (by kernel_rfl) ?_
 intro a9
 have a2:=Lh a9
 clear a9
 have u:=Lh (ae.out.later ((Below.refl _ _).drew))
 refine rl 0 a2.out ⟨u.out.vw,u.out.vg⟩ rfl ?_
 apply Exists.intro
 refine ⟨fun w' hw=>exec_load_w _ _ _ rfl rfl hw.1,?_⟩
 refine rl 1 a2.out ⟨u.out.vw,u.out.vg⟩ rfl ?_
 apply Exists.intro
 refine ⟨fun w' hw=>exec_load_dg _ _ _ rfl rfl hw.2,?_⟩
 refine reg_only 2 rfl (by kernel_rfl) rfl ?_
 refine wp_store_w _ _ rfl (w.heap.size+2) rfl { v with lA:=A2,ln:=8,lc:=c2,vs:=G } { s with loc:=Lc.putR s.loc g.th [g.id] } rfl u.out.th ?_
 intro w8 a4 F
 refine ⟨fun _=>⟨u.out.vw.blk (F.block _ u.out.vw.lt (by omega)),u.out.vg.blk (F.block _ u.out.vg.lt (by omega))⟩,?_⟩
 refine reg_only 3 rfl (by kernel_rfl) rfl ?_
 refine wp_store_dg _ _ rfl (w.heap.size+3) rfl { g with st:=sAgain } rfl (th5_blk u.out.tg (F.block _ (th5_lt u.out.tg) (by omega))) ?_
 intro w9 ad J
 have ac:=a4.blk (J.block _ a4.lt (by omega))
 refine ⟨fun _=>⟨(u.out.vw.blk (F.block _ u.out.vw.lt (by omega))).blk (J.block _ (by have:=u.out.vw.lt; have:=F.size; omega) (by omega)),(u.out.vg.blk (F.block _ u.out.vg.lt (by omega))).blk (J.block _ (by have:=u.out.vg.lt; have:=F.size; omega) (by omega))⟩,?_⟩
 refine reg_done (by kernel_rfl) ?_
 have hE:=u.out.done ((fzb F (by omega) (by omega)).trans (fzb J (by omega) (by omega)))
 have HE:=Lh hE
 have af:=Lh ac
 have ag:=Lh ad
 clear hE ac ad a4 F J u a2
 go_wp2_with fail
 exact bodyPost_ret (v:=.tuple #[Dv.val { v with lA:=A2,ln:=8,lc:=c2,vs:=G } { s with loc:=Lc.putR s.loc g.th [g.id] },Gv.val { g with st:=sAgain }]) (res_wg _ _ (w.heap.size+2) (w.heap.size+3) { v with lA:=A2,ln:=8,lc:=c2,vs:=G } { s with loc:=Lc.putR s.loc g.th [g.id] } { g with st:=sAgain } Tryz.results27 rfl rfl af.out ag.out) rfl ⟨{ v with lA:=A2,ln:=8,lc:=c2,vs:=G },rfl,HE.out.1,HE.out.2⟩
theorem dg_unlist (h:Dw K w v s N) (aa:∀ g,w.heap.size≤g→K g) (J:g.st=sUnlist) (hn:s.D.length≤1000) (ae:s.S.length≤1000):DDoes w K v ⟨g,s,N⟩ ⟨{ g with st:=sShrink },{ s with S:=unlS s.D s.S g.id },N⟩:=by
 unfold DDoes
 obtain ⟨S2,a4⟩:∃ S2,unlS s.D s.S g.id=S2:=⟨_,rfl⟩
 rw [a4]
 have aj:=Lh a4
 clear a4
 obtain ⟨W1,an,a1⟩:=Bs.start h aa g
 have Q:=Lh a1
 have k4:=a1.vg.cell 4 _ rfl
 have e0:(g.st.toList == [111,102,102,101,114])=false:=by rw [J]; kernel_rfl
 have e1:(g.st.toList == [102,114,101,101])=false:=by rw [J]; kernel_rfl
 have e2:(g.st.toList == [115,116,97,115,104])=false:=by rw [J]; kernel_rfl
 have e3:(g.st.toList == [97,103,97,105,110])=false:=by rw [J]; kernel_rfl
 have e4:(g.st.toList == [98,97,99,107])=false:=by rw [J]; kernel_rfl
 have e5:(g.st.toList == [99,108,111,115,101])=false:=by rw [J]; kernel_rfl
 have e6:(g.st.toList == [117,110,108,105,115,116])=true:=by rw [J]; kernel_rfl
 have af:=rU15 W1 g.id a1.dw.bag a1.kk hn ae aj.out
 have a8:=Lh af
 clear af hn ae
 clear a1 h aa J
 go_enter Tryz.func27,Tryz.ntmps27
 go_upto_region 1 with (fail)
 clear an
 go_upto_region 37 with (fail)
 clear k4 e0 e1 e2 e3 e4 e5 e6
 have k2:=Q.out.vg.cell 2 _ rfl
 have f8:=Q.out.vw.cell 8 _ rfl
 have f9:=Q.out.vw.cell 9 _ rfl
 go_wp2_with fail
 refine a8.out.mono ?_
 rintro e W ⟨A',F,z,rfl,ad,b2⟩
 clear k2 f8 f9 a8
 have Y:=Q.out.vw.later b2
 have f8:=Y.cell 8 _ rfl
 have g8:=Y.free 8 (by decide)
 have f9:=Y.cell 9 _ rfl
 have g9:=Y.free 9 (by decide)
 have a7:Hid (Dw (Kb K w 4) W { v with b:=⟨v.b.A,v.b.n,v.b.c,A',F,z⟩ } { s with S:=S2 } N):=Lh (by
  have I:=Q.out.dw.later b2
  exact ⟨ad,I.loc,I.sl,I.sk,I.book,I.fact,I.hist,I.hk,I.l8⟩)
 have a9:Hid (Vw ((W.setCell ⟨w.heap.size,8,none⟩ (.slice v.b.A v.b.n v.b.c)).setCell ⟨w.heap.size,9,none⟩ (.slice A' F z)) w.heap.size (Dv.cells { v with b:=⟨v.b.A,v.b.n,v.b.c,A',F,z⟩ } { s with S:=S2 })):=Lh ((Y.set 8 (by simp [cells_len]) (.slice v.b.A v.b.n v.b.c)).set 9 (by simp [cells_len]) (.slice A' F z))
 have a6:=Lh b2
 clear ad b2 Y
 go_upto_region 38 with (fail)
 have a2:Hid (Bs K w ((W.setCell ⟨w.heap.size,8,none⟩ (.slice v.b.A v.b.n v.b.c)).setCell ⟨w.heap.size,9,none⟩ (.slice A' F z)) { v with b:=⟨v.b.A,v.b.n,v.b.c,A',F,z⟩ } { s with S:=S2 } g N):=Lh (Q.out.put a6.out a7.out a9.out (((Fz.refl _ W:Fz (fun k=>k=w.heap.size) W W).trans (Fz.of_set (a:=⟨w.heap.size,8,none⟩) _ rfl)).trans (Fz.of_set (a:=⟨w.heap.size,9,none⟩) _ rfl)))
 clear f8 g8 f9 g9 a7 a9 a6 Q
 generalize ((W.setCell ⟨w.heap.size,8,none⟩ (.slice v.b.A v.b.n v.b.c)).setCell ⟨w.heap.size,9,none⟩ (.slice A' F z))=W3 at *
 have k4:=a2.out.vg.cell 4 _ rfl
 have l4:=th5_free a2.out.vg.th 4 (by decide)
 go_upto_region 42 with (fail)
 have ai:=Lh (a2.out.st ⟨#[115,104,114,105,110,107]⟩)
 clear k4 l4 a2
 generalize (W3.setCell ⟨w.heap.size+1,4,none⟩ (.string ⟨#[115,104,114,105,110,107]⟩))=W4 at *
 refine reg_start 4 (fun w'=>Vw w' w.heap.size (Dv.cells { v with b:=⟨v.b.A,v.b.n,v.b.c,A',F,z⟩ } { s with S:=S2 })∧Vg w' (w.heap.size+1) { g with st:=sShrink }) (by kernel_rfl) (by kernel_rfl) ?_
 intro ac
 have a3:=Lh ac
 clear ac
 have u:=Lh (ai.out.later ((Below.refl _ _).drew))
 refine rl 0 a3.out ⟨u.out.vw,u.out.vg⟩ rfl ?_
 apply Exists.intro
 refine ⟨fun w' hw=>exec_load_w _ _ _ rfl rfl hw.1,?_⟩
 refine rl 1 a3.out ⟨u.out.vw,u.out.vg⟩ rfl ?_
 apply Exists.intro
 refine ⟨fun w' hw=>exec_load_dg _ _ _ rfl rfl hw.2,?_⟩
 refine reg_only 2 rfl (by kernel_rfl) rfl ?_
 refine wp_store_w _ _ rfl (w.heap.size+2) rfl { v with b:=⟨v.b.A,v.b.n,v.b.c,A',F,z⟩ } { s with S:=S2 } rfl u.out.th ?_
 intro w8 a5 G
 refine ⟨fun _=>⟨u.out.vw.blk (G.block _ u.out.vw.lt (by omega)),u.out.vg.blk (G.block _ u.out.vg.lt (by omega))⟩,?_⟩
 refine reg_only 3 rfl (by kernel_rfl) rfl ?_
 refine wp_store_dg _ _ rfl (w.heap.size+3) rfl { g with st:=sShrink } rfl (th5_blk u.out.tg (G.block _ (th5_lt u.out.tg) (by omega))) ?_
 intro w9 ah a0
 have ag:=a5.blk (a0.block _ a5.lt (by omega))
 refine ⟨fun _=>⟨(u.out.vw.blk (G.block _ u.out.vw.lt (by omega))).blk (a0.block _ (by have:=u.out.vw.lt; have:=G.size; omega) (by omega)),(u.out.vg.blk (G.block _ u.out.vg.lt (by omega))).blk (a0.block _ (by have:=u.out.vg.lt; have:=G.size; omega) (by omega))⟩,?_⟩
 refine reg_done (by kernel_rfl) ?_
 have hE:=u.out.done ((fzb G (by omega) (by omega)).trans (fzb a0 (by omega) (by omega)))
 have HE:=Lh hE
 have ak:=Lh ag
 have al:=Lh ah
 clear hE ag ah a5 G a0 u a3
 go_wp2_with fail
 exact bodyPost_ret (v:=.tuple #[Dv.val { v with b:=⟨v.b.A,v.b.n,v.b.c,A',F,z⟩ } { s with S:=S2 },Gv.val { g with st:=sShrink }]) (res_wg _ _ (w.heap.size+2) (w.heap.size+3) { v with b:=⟨v.b.A,v.b.n,v.b.c,A',F,z⟩ } { s with S:=S2 } { g with st:=sShrink } Tryz.results27 rfl rfl ak.out al.out) rfl ⟨{ v with b:=⟨v.b.A,v.b.n,v.b.c,A',F,z⟩ },rfl,HE.out.1,HE.out.2⟩
end
end Go.Proofs.YtaeemilldmhbnaaGreatDoor.Wo
