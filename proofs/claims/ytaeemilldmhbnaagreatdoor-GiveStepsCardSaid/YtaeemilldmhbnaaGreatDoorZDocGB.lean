/- A part of the claim: the texts DocGB. -/
import Derived.Test.YtaeemilldmhbnaaGreatDoorZGDocGx
set_option maxRecDepth 100000
set_option maxHeartbeats 8000000
set_option linter.unusedVariables false
namespace Go.Proofs.YtaeemilldmhbnaaGreatDoor.Wo
open Go Go.ChangeShapes Go.WideShapes Go.ChangeAt Go.RowKit Go.Deep Go.Maps Rw Hi Mt Ba
open Cn (Cf cfE)
section
variable (w:World) {K:Nat→Prop} {v:Dv} {g:Gv} {s:Ws} {N:List Int}
theorem dg_close_yes (h:Dw K w v s N) (a3:∀ g,w.heap.size≤g→K g) (G:g.st=sClose) (hid:U64 g.id) (ho:U64 g.word) (ag:Nd s.D) (hn:s.D.length≤1000) (hu:∀ q∈s.D,U64 q.2.word) (ah:s.n≤1000) (hN:N.length≤1000) (af:s.ev.length≤1000) (hk:bK s.D g.id g.word 3=true):DDoes w K v ⟨g,s,N⟩ ⟨{ g with st:=sUnlist },remS s N g.id g.word g.th g.op,N.filter (· != g.id)⟩:=by
 unfold DDoes
 obtain ⟨W1,ae,I⟩:=Bs.start h a3 g
 have F:=Lh I
 have k4:=I.vg.cell 4 _ rfl
 have e0:(g.st.toList == [111,102,102,101,114])=false:=by rw [G]; kernel_rfl
 have e1:(g.st.toList == [102,114,101,101])=false:=by rw [G]; kernel_rfl
 have e2:(g.st.toList == [115,116,97,115,104])=false:=by rw [G]; kernel_rfl
 have e3:(g.st.toList == [97,103,97,105,110])=false:=by rw [G]; kernel_rfl
 have e4:(g.st.toList == [98,97,99,107])=false:=by rw [G]; kernel_rfl
 have e5:(g.st.toList == [99,108,111,115,101])=true:=by rw [G]; kernel_rfl
 have a2:=Lh (drem_yes (K:=Kb K w 4) W1 v s N I.dw I.kk g.id g.word g.th g.op hid ag hn hu ho ah hN af hk)
 clear hk hu
 clear I h a3 G
 go_enter Tryz.func27,Tryz.ntmps27
 go_upto_region 1 with (fail)
 clear ae
 go_upto_region 34 with (fail)
 clear k4 e0 e1 e2 e3 e4 e5
 have k0:=F.out.vg.cell 0 _ rfl
 have k1:=F.out.vg.cell 1 _ rfl
 have k2:=F.out.vg.cell 2 _ rfl
 have k3:=F.out.vg.cell 3 _ rfl
 go_wp2_with (first | (refine load_w rfl _ rfl w.heap.size rfl v s F.out.vw ?_))
 refine a2.out.mono ?_
 rintro e w2 ⟨v2,rfl,a5,Y⟩
 clear a2 k0 k1 k2 k3
 go_upto_region 35 with (first | (refine store_w rfl _ _ rfl w.heap.size rfl v2 (remS s N g.id g.word g.th g.op) rfl (F.out.vw.later Y).th ?_; intro w3 a6 a9; have Q:Hid (Bs K w w3 v2 (remS s N g.id g.word g.th g.op) g (N.filter (· != g.id))):=Lh (F.out.put Y a5 a6 a9); clear a6 a9 Y a5 F))
 have k4:=Q.out.vg.cell 4 _ rfl
 have l4:=th5_free Q.out.vg.th 4 (by decide)
 go_upto_region 42 with (fail)
 have aa:=Lh (Q.out.st ⟨#[117,110,108,105,115,116]⟩)
 clear k4 l4 Q
 generalize (w3.setCell ⟨w.heap.size+1,4,none⟩ (.string ⟨#[117,110,108,105,115,116]⟩))=W4 at *
 refine reg_start 4 (fun w'=>Vw w' w.heap.size (Dv.cells v2 (remS s N g.id g.word g.th g.op))∧Vg w' (w.heap.size+1) { g with st:=sUnlist }) (by kernel_rfl) (by kernel_rfl) ?_
 intro a4
 have W:=Lh a4
 clear a4
 have u:=Lh (aa.out.later ((Below.refl _ _).drew))
 refine rl 0 W.out ⟨u.out.vw,u.out.vg⟩ rfl ?_
 apply Exists.intro
 refine ⟨fun w' hw=>exec_load_w _ _ _ rfl rfl hw.1,?_⟩
 refine rl 1 W.out ⟨u.out.vw,u.out.vg⟩ rfl ?_
 apply Exists.intro
 refine ⟨fun w' hw=>exec_load_dg _ _ _ rfl rfl hw.2,?_⟩
 refine reg_only 2 rfl (by kernel_rfl) rfl ?_
 refine wp_store_w _ _ rfl (w.heap.size+2) rfl v2 (remS s N g.id g.word g.th g.op) rfl u.out.th ?_
 intro w8 a0 z
 refine ⟨fun _=>⟨u.out.vw.blk (z.block _ u.out.vw.lt (by omega)),u.out.vg.blk (z.block _ u.out.vg.lt (by omega))⟩,?_⟩
 refine reg_only 3 rfl (by kernel_rfl) rfl ?_
 refine wp_store_dg _ _ rfl (w.heap.size+3) rfl { g with st:=sUnlist } rfl (th5_blk u.out.tg (z.block _ (th5_lt u.out.tg) (by omega))) ?_
 intro w9 a8 J
 have a7:=a0.blk (J.block _ a0.lt (by omega))
 refine ⟨fun _=>⟨(u.out.vw.blk (z.block _ u.out.vw.lt (by omega))).blk (J.block _ (by have:=u.out.vw.lt; have:=z.size; omega) (by omega)),(u.out.vg.blk (z.block _ u.out.vg.lt (by omega))).blk (J.block _ (by have:=u.out.vg.lt; have:=z.size; omega) (by omega))⟩,?_⟩
 refine reg_done (by kernel_rfl) ?_
 have hE:=u.out.done ((fzb z (by omega) (by omega)).trans (fzb J (by omega) (by omega)))
 have HE:=Lh hE
 have ac:=Lh a7
 have ad:=Lh a8
 clear hE a7 a8 a0 z J u W
 go_wp2_with fail
 exact bodyPost_ret (v:=.tuple #[Dv.val v2 (remS s N g.id g.word g.th g.op),Gv.val { g with st:=sUnlist }]) (res_wg _ _ (w.heap.size+2) (w.heap.size+3) v2 (remS s N g.id g.word g.th g.op) { g with st:=sUnlist } Tryz.results27 rfl rfl ac.out ad.out) rfl ⟨v2,rfl,HE.out.1,HE.out.2⟩
theorem dg_close_no (h:Dw K w v s N) (a3:∀ g,w.heap.size≤g→K g) (G:g.st=sClose) (hid:U64 g.id) (ho:U64 g.word) (af:Nd s.D) (hn:s.D.length≤1000) (hu:∀ q∈s.D,U64 q.2.word) (hk:bK s.D g.id g.word 3=false):DDoes w K v ⟨g,s,N⟩ ⟨{ g with st:=sUnlist },s,N⟩:=by
 unfold DDoes
 obtain ⟨W1,ae,I⟩:=Bs.start h a3 g
 have F:=Lh I
 have k4:=I.vg.cell 4 _ rfl
 have e0:(g.st.toList == [111,102,102,101,114])=false:=by rw [G]; kernel_rfl
 have e1:(g.st.toList == [102,114,101,101])=false:=by rw [G]; kernel_rfl
 have e2:(g.st.toList == [115,116,97,115,104])=false:=by rw [G]; kernel_rfl
 have e3:(g.st.toList == [97,103,97,105,110])=false:=by rw [G]; kernel_rfl
 have e4:(g.st.toList == [98,97,99,107])=false:=by rw [G]; kernel_rfl
 have e5:(g.st.toList == [99,108,111,115,101])=true:=by rw [G]; kernel_rfl
 have a2:=Lh (drem_no (K:=Kb K w 4) W1 v s N I.dw I.kk g.id g.word g.th g.op hid af hn hu ho hk)
 clear hk hu
 clear I h a3 G
 go_enter Tryz.func27,Tryz.ntmps27
 go_upto_region 1 with (fail)
 clear ae
 go_upto_region 34 with (fail)
 clear k4 e0 e1 e2 e3 e4 e5
 have k0:=F.out.vg.cell 0 _ rfl
 have k1:=F.out.vg.cell 1 _ rfl
 have k2:=F.out.vg.cell 2 _ rfl
 have k3:=F.out.vg.cell 3 _ rfl
 go_wp2_with (first | (refine load_w rfl _ rfl w.heap.size rfl v s F.out.vw ?_))
 refine a2.out.mono ?_
 rintro e w2 ⟨rfl,a5,Y⟩
 clear a2 k0 k1 k2 k3
 go_upto_region 35 with (first | (refine store_w rfl _ _ rfl w.heap.size rfl v s rfl (F.out.vw.later Y).th ?_; intro w3 a6 a9; have Q:Hid (Bs K w w3 v s g N):=Lh (F.out.put Y a5 a6 a9); clear a6 a9 Y a5 F))
 have k4:=Q.out.vg.cell 4 _ rfl
 have l4:=th5_free Q.out.vg.th 4 (by decide)
 go_upto_region 42 with (fail)
 have aa:=Lh (Q.out.st ⟨#[117,110,108,105,115,116]⟩)
 clear k4 l4 Q
 generalize (w3.setCell ⟨w.heap.size+1,4,none⟩ (.string ⟨#[117,110,108,105,115,116]⟩))=W4 at *
 refine reg_start 4 (fun w'=>Vw w' w.heap.size (Dv.cells v s)∧Vg w' (w.heap.size+1) { g with st:=sUnlist }) (by kernel_rfl) (by kernel_rfl) ?_
 intro a4
 have W:=Lh a4
 clear a4
 have u:=Lh (aa.out.later ((Below.refl _ _).drew))
 refine rl 0 W.out ⟨u.out.vw,u.out.vg⟩ rfl ?_
 apply Exists.intro
 refine ⟨fun w' hw=>exec_load_w _ _ _ rfl rfl hw.1,?_⟩
 refine rl 1 W.out ⟨u.out.vw,u.out.vg⟩ rfl ?_
 apply Exists.intro
 refine ⟨fun w' hw=>exec_load_dg _ _ _ rfl rfl hw.2,?_⟩
 refine reg_only 2 rfl (by kernel_rfl) rfl ?_
 refine wp_store_w _ _ rfl (w.heap.size+2) rfl v s rfl u.out.th ?_
 intro w8 a0 z
 refine ⟨fun _=>⟨u.out.vw.blk (z.block _ u.out.vw.lt (by omega)),u.out.vg.blk (z.block _ u.out.vg.lt (by omega))⟩,?_⟩
 refine reg_only 3 rfl (by kernel_rfl) rfl ?_
 refine wp_store_dg _ _ rfl (w.heap.size+3) rfl { g with st:=sUnlist } rfl (th5_blk u.out.tg (z.block _ (th5_lt u.out.tg) (by omega))) ?_
 intro w9 a8 J
 have a7:=a0.blk (J.block _ a0.lt (by omega))
 refine ⟨fun _=>⟨(u.out.vw.blk (z.block _ u.out.vw.lt (by omega))).blk (J.block _ (by have:=u.out.vw.lt; have:=z.size; omega) (by omega)),(u.out.vg.blk (z.block _ u.out.vg.lt (by omega))).blk (J.block _ (by have:=u.out.vg.lt; have:=z.size; omega) (by omega))⟩,?_⟩
 refine reg_done (by kernel_rfl) ?_
 have hE:=u.out.done ((fzb z (by omega) (by omega)).trans (fzb J (by omega) (by omega)))
 have HE:=Lh hE
 have ac:=Lh a7
 have ad:=Lh a8
 clear hE a7 a8 a0 z J u W
 go_wp2_with fail
 exact bodyPost_ret (v:=.tuple #[Dv.val v s,Gv.val { g with st:=sUnlist }]) (res_wg _ _ (w.heap.size+2) (w.heap.size+3) v s { g with st:=sUnlist } Tryz.results27 rfl rfl ac.out ad.out) rfl ⟨v,rfl,HE.out.1,HE.out.2⟩
theorem dg_free_yes (h:Dw K w v s N) (ae:∀ g,w.heap.size≤g→K g) (he:g.st=sFree) (ho:U64 g.word) (av:Nd s.D) (hn:s.D.length≤1000) (hu:∀ q∈s.D,U64 q.2.word) (hk:bK s.D g.id g.word 0=true):DDoes w K v ⟨g,s,N⟩ ⟨{ g with word:=bV s.D g.id g.word 0,st:=sStash },{ s with D:=up s.D g.id (exS g.word 0 s.now) },N⟩:=by
 unfold DDoes
 obtain ⟨F,a6⟩:∃ F,bV s.D g.id g.word 0=F:=⟨_,rfl⟩
 rw [a6]
 obtain ⟨W1,au,J⟩:=Bs.start h ae g
 have G:=Lh J
 have W:=J.vg.cell 4 _ rfl
 have e0:(g.st.toList == [111,102,102,101,114])=false:=by rw [he]; kernel_rfl
 have e1:(g.st.toList == [102,114,101,101])=true:=by rw [he]; kernel_rfl
 have a7:=dswap_any (K:=Kb K w 4) W1 v s N J.dw J.kk g.id g.word 0 av hn hu ho (by decide)
 rw [hk,a6] at a7
 have aa:=Lh a7
 clear hk hu a7 a6
 clear J h ae he
 go_enter Tryz.func27,Tryz.ntmps27
 go_upto_region 1 with (fail)
 clear au
 go_upto_region 13 with (fail)
 clear W e0 e1
 have k2:=G.out.vg.cell 2 _ rfl
 have k3:=G.out.vg.cell 3 _ rfl
 go_wp2_with (first | (refine load_w rfl _ rfl w.heap.size rfl v s G.out.vw ?_))
 refine aa.out.mono ?_
 rintro e I ⟨v2,rfl,ag,b2⟩
 clear aa k2 k3
 go_upto_region 14 with (first | (refine store_w rfl _ _ rfl I.heap.size rfl v2 { s with D:=up s.D g.id (exS g.word 0 s.now) } rfl (th_zero I) ?_; intro w3 ah al; have ad:=Lh ah; have a3:Hid (Below I.heap.size I w3):=Lh (((Below.refl _ I).alloc (Nat.le_refl _) _).trans (al.below (by simp) (fun k hk=>by omega))); clear ah al))
 have a4:Hid (Below W1.heap.size W1 w3):=Lh (b2.trans (a3.out.mono b2.size))
 have a9:=Lh (ag.later a3.out)
 have ac:=Lh (G.out.vw.later a4.out).th
 clear ag a3
 go_upto_region 15 with (first
  | (refine load_w rfl _ rfl I.heap.size rfl v2 { s with D:=up s.D g.id (exS g.word 0 s.now) } ad.out ?_)
  | (refine store_w rfl _ _ rfl w.heap.size rfl v2 { s with D:=up s.D g.id (exS g.word 0 s.now) } rfl ac.out ?_; intro w5 ai an; have Y:Hid (Bs K w w5 v2 { s with D:=up s.D g.id (exS g.word 0 s.now) } g N):=Lh (G.out.put a4.out a9.out ai an); clear ai an))
 clear ad a4 a9 ac G b2
 have W:=Y.out.vg.cell 4 _ rfl
 have l4:=th5_free Y.out.vg.th 4 (by decide)
 go_upto_region 16 with (fail)
 have a0:=Lh (Y.out.st ⟨#[100,111,110,101]⟩)
 clear W l4 Y
 generalize (w5.setCell ⟨w.heap.size+1,4,none⟩ (.string ⟨#[100,111,110,101]⟩))=W6 at *
 have k3:=a0.out.vg.cell 3 _ rfl
 have l3:=th5_free a0.out.vg.th 3 (by decide)
 go_upto_region 18 with (fail)
 have a2:=Lh (a0.out.wd F)
 clear k3 l3 a0
 generalize (W6.setCell ⟨w.heap.size+1,3,none⟩ (.int .u64 F))=W7 at *
 have W:=a2.out.vg.cell 4 _ rfl
 have l4:=th5_free a2.out.vg.th 4 (by decide)
 go_upto_region 42 with (fail)
 have ao:=Lh (a2.out.st ⟨#[115,116,97,115,104]⟩)
 clear W l4 a2
 generalize (W7.setCell ⟨w.heap.size+1,4,none⟩ (.string ⟨#[115,116,97,115,104]⟩))=W8 at *
 refine reg_start 4 (fun w'=>Vw w' w.heap.size (Dv.cells v2 { s with D:=up s.D g.id (exS g.word 0 s.now) })∧Vg w' (w.heap.size+1) { g with word:=F,st:=sStash }) (by kernel_rfl) (by kernel_rfl) ?_
 intro af
 have a5:=Lh af
 clear af
 have u:=Lh (ao.out.later ((Below.refl _ _).drew))
 refine rl 0 a5.out ⟨u.out.vw,u.out.vg⟩ rfl ?_
 apply Exists.intro
 refine ⟨fun w' hw=>exec_load_w _ _ _ rfl rfl hw.1,?_⟩
 refine rl 1 a5.out ⟨u.out.vw,u.out.vg⟩ rfl ?_
 apply Exists.intro
 refine ⟨fun w' hw=>exec_load_dg _ _ _ rfl rfl hw.2,?_⟩
 refine reg_only 2 rfl (by kernel_rfl) rfl ?_
 refine wp_store_w _ _ rfl (w.heap.size+2) rfl v2 { s with D:=up s.D g.id (exS g.word 0 s.now) } rfl u.out.th ?_
 intro w8 a8 z
 refine ⟨fun _=>⟨u.out.vw.blk (z.block _ u.out.vw.lt (by omega)),u.out.vg.blk (z.block _ u.out.vg.lt (by omega))⟩,?_⟩
 refine reg_only 3 rfl (by kernel_rfl) rfl ?_
 refine wp_store_dg _ _ rfl (w.heap.size+3) rfl { g with word:=F,st:=sStash } rfl (th5_blk u.out.tg (z.block _ (th5_lt u.out.tg) (by omega))) ?_
 intro w9 ak Q
 have aj:=a8.blk (Q.block _ a8.lt (by omega))
 refine ⟨fun _=>⟨(u.out.vw.blk (z.block _ u.out.vw.lt (by omega))).blk (Q.block _ (by have:=u.out.vw.lt; have:=z.size; omega) (by omega)),(u.out.vg.blk (z.block _ u.out.vg.lt (by omega))).blk (Q.block _ (by have:=u.out.vg.lt; have:=z.size; omega) (by omega))⟩,?_⟩
 refine reg_done (by kernel_rfl) ?_
 have hE:=u.out.done ((fzb z (by omega) (by omega)).trans (fzb Q (by omega) (by omega)))
 have HE:=Lh hE
 have aq:=Lh aj
 have ar:=Lh ak
 clear hE aj ak a8 z Q u a5
 go_wp2_with fail
 exact bodyPost_ret (v:=.tuple #[Dv.val v2 { s with D:=up s.D g.id (exS g.word 0 s.now) },Gv.val { g with word:=F,st:=sStash }]) (res_wg _ _ (w.heap.size+2) (w.heap.size+3) v2 { s with D:=up s.D g.id (exS g.word 0 s.now) } { g with word:=F,st:=sStash } Tryz.results27 rfl rfl aq.out ar.out) rfl ⟨v2,rfl,HE.out.1,HE.out.2⟩
theorem dg_free_no (h:Dw K w v s N) (a9:∀ g,w.heap.size≤g→K g) (he:g.st=sFree) (ho:U64 g.word) (ao:Nd s.D) (hn:s.D.length≤1000) (hu:∀ q∈s.D,U64 q.2.word) (hk:bK s.D g.id g.word 0=false):DDoes w K v ⟨g,s,N⟩ ⟨{ g with st:=sDone },{ s with D:=up s.D g.id (exS g.word 0 s.now) },N⟩:=by
 unfold DDoes
 obtain ⟨bv,a2⟩:∃ bv,bV s.D g.id g.word 0=bv:=⟨_,rfl⟩
 have _:=a2
 obtain ⟨W1,an,I⟩:=Bs.start h a9 g
 have F:=Lh I
 have k4:=I.vg.cell 4 _ rfl
 have e0:(g.st.toList == [111,102,102,101,114])=false:=by rw [he]; kernel_rfl
 have e1:(g.st.toList == [102,114,101,101])=true:=by rw [he]; kernel_rfl
 have a3:=dswap_any (K:=Kb K w 4) W1 v s N I.dw I.kk g.id g.word 0 ao hn hu ho (by decide)
 rw [hk,a2] at a3
 have a6:=Lh a3
 clear hk hu a3 a2
 clear I h a9 he
 go_enter Tryz.func27,Tryz.ntmps27
 go_upto_region 1 with (fail)
 clear an
 go_upto_region 13 with (fail)
 clear k4 e0 e1
 have k2:=F.out.vg.cell 2 _ rfl
 have k3:=F.out.vg.cell 3 _ rfl
 go_wp2_with (first | (refine load_w rfl _ rfl w.heap.size rfl v s F.out.vw ?_))
 refine a6.out.mono ?_
 rintro e G ⟨v2,rfl,ac,b2⟩
 clear a6 k2 k3
 go_upto_region 14 with (first | (refine store_w rfl _ _ rfl G.heap.size rfl v2 { s with D:=up s.D g.id (exS g.word 0 s.now) } rfl (th_zero G) ?_; intro w3 ad ah; have a8:=Lh ad; have W:Hid (Below G.heap.size G w3):=Lh (((Below.refl _ G).alloc (Nat.le_refl _) _).trans (ah.below (by simp) (fun k hk=>by omega))); clear ad ah))
 have Y:Hid (Below W1.heap.size W1 w3):=Lh (b2.trans (W.out.mono b2.size))
 have a5:=Lh (ac.later W.out)
 have a7:=Lh (F.out.vw.later Y.out).th
 clear ac W
 go_upto_region 15 with (first
  | (refine load_w rfl _ rfl G.heap.size rfl v2 { s with D:=up s.D g.id (exS g.word 0 s.now) } a8.out ?_)
  | (refine store_w rfl _ _ rfl w.heap.size rfl v2 { s with D:=up s.D g.id (exS g.word 0 s.now) } rfl a7.out ?_; intro w5 ae ai; have Q:Hid (Bs K w w5 v2 { s with D:=up s.D g.id (exS g.word 0 s.now) } g N):=Lh (F.out.put Y.out a5.out ae ai); clear ae ai))
 clear a8 Y a5 a7 F b2
 have k4:=Q.out.vg.cell 4 _ rfl
 have l4:=th5_free Q.out.vg.th 4 (by decide)
 go_upto_region 16 with (fail)
 have aj:=Lh (Q.out.st ⟨#[100,111,110,101]⟩)
 clear k4 l4 Q
 generalize (w5.setCell ⟨w.heap.size+1,4,none⟩ (.string ⟨#[100,111,110,101]⟩))=W6 at *
 go_upto_region 42 with (fail)
 refine reg_start 4 (fun w'=>Vw w' w.heap.size (Dv.cells v2 { s with D:=up s.D g.id (exS g.word 0 s.now) })∧Vg w' (w.heap.size+1) { g with st:=sDone }) (by kernel_rfl) (by kernel_rfl) ?_
 intro aa
 have a0:=Lh aa
 clear aa
 have u:=Lh (aj.out.later ((Below.refl _ _).drew))
 refine rl 0 a0.out ⟨u.out.vw,u.out.vg⟩ rfl ?_
 apply Exists.intro
 refine ⟨fun w' hw=>exec_load_w _ _ _ rfl rfl hw.1,?_⟩
 refine rl 1 a0.out ⟨u.out.vw,u.out.vg⟩ rfl ?_
 apply Exists.intro
 refine ⟨fun w' hw=>exec_load_dg _ _ _ rfl rfl hw.2,?_⟩
 refine reg_only 2 rfl (by kernel_rfl) rfl ?_
 refine wp_store_w _ _ rfl (w.heap.size+2) rfl v2 { s with D:=up s.D g.id (exS g.word 0 s.now) } rfl u.out.th ?_
 intro w8 a4 z
 refine ⟨fun _=>⟨u.out.vw.blk (z.block _ u.out.vw.lt (by omega)),u.out.vg.blk (z.block _ u.out.vg.lt (by omega))⟩,?_⟩
 refine reg_only 3 rfl (by kernel_rfl) rfl ?_
 refine wp_store_dg _ _ rfl (w.heap.size+3) rfl { g with st:=sDone } rfl (th5_blk u.out.tg (z.block _ (th5_lt u.out.tg) (by omega))) ?_
 intro w9 ag J
 have af:=a4.blk (J.block _ a4.lt (by omega))
 refine ⟨fun _=>⟨(u.out.vw.blk (z.block _ u.out.vw.lt (by omega))).blk (J.block _ (by have:=u.out.vw.lt; have:=z.size; omega) (by omega)),(u.out.vg.blk (z.block _ u.out.vg.lt (by omega))).blk (J.block _ (by have:=u.out.vg.lt; have:=z.size; omega) (by omega))⟩,?_⟩
 refine reg_done (by kernel_rfl) ?_
 have hE:=u.out.done ((fzb z (by omega) (by omega)).trans (fzb J (by omega) (by omega)))
 have HE:=Lh hE
 have ak:=Lh af
 have al:=Lh ag
 clear hE af ag a4 z J u a0
 go_wp2_with fail
 exact bodyPost_ret (v:=.tuple #[Dv.val v2 { s with D:=up s.D g.id (exS g.word 0 s.now) },Gv.val { g with st:=sDone }]) (res_wg _ _ (w.heap.size+2) (w.heap.size+3) v2 { s with D:=up s.D g.id (exS g.word 0 s.now) } { g with st:=sDone } Tryz.results27 rfl rfl ak.out al.out) rfl ⟨v2,rfl,HE.out.1,HE.out.2⟩
end
end Go.Proofs.YtaeemilldmhbnaaGreatDoor.Wo
