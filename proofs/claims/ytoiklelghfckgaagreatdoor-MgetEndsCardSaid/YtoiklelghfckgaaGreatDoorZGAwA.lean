/- A part of the claim: the texts Awake13 Awake13B. -/
import Derived.Test.YtoiklelghfckgaaGreatDoorZGFltE
import Derived.Test.YtoiklelghfckgaaGreatDoorZBase3
import Derived.Test.YtoiklelghfckgaaGreatDoorZGStab
import Derived.Test.YtoiklelghfckgaaGreatDoorZBase5
set_option maxRecDepth 100000
set_option maxHeartbeats 8000000
set_option linter.unusedVariables false
namespace Go.Proofs.YtoiklelghfckgaaGreatDoor.Cn
open Go.ChangeShapes Go.WideShapes Go.ChangeAt Go.RowKit Rw Go.Shelf Go.Sort Tx
abbrev dflt:Value:=.agg #[.int .i64 4,.int .i64 1,.int .u64 100,.int .u64 1000,.int .u64 50,.int .u64 200,.float .f64 4598175219545276416]
theorem default_any (w:World):Calls Tryz.prog 30 #[] w fun e w'=>e=.returned dflt∧Below w.heap.size w w':=by
 go_enter Tryz.func30,Tryz.ntmps30
 have rs:∀ (w:World) (a:Addr) (b:Nat),(store a (.float .f64 b)).run Tryz.prog w=stored Tryz.prog w a (.float .f64 b) .plain:=fun w a b=>run_store Tryz.prog w a _ .plain rfl
 go_wp2_with fail
 refine bodyPost_ret (v:=dflt) ?_ rfl ⟨rfl,(Below.refl _ _).alloc (Nat.le_refl _) _⟩
 simp [results,Tryz.results30,go_sem]
 trace_state
def wds:List (List UInt8):=[[52],[49],[49,48,48],[49,48,48,48],[53,48],[50,48,48],[48,46,50,53]]
def box7 (g:Nat) (w:World):Prop:=w.cell? ⟨g,0,none⟩=some (.int .i64 4)∧w.cell? ⟨g,1,none⟩=some (.int .i64 1)∧w.cell? ⟨g,2,none⟩=some (.int .u64 100)∧w.cell? ⟨g,3,none⟩=some (.int .u64 1000)∧w.cell? ⟨g,4,none⟩=some (.int .u64 50) ∧
 w.cell? ⟨g,5,none⟩=some (.int .u64 200)∧w.cell? ⟨g,6,none⟩=some (.float .f64 4598175219545276416)
theorem box7.below {g:Nat} {w w':World} (h:box7 g w) (u:Below w.heap.size w w'):box7 g w':=by
 obtain ⟨z,F,G,I,J,Q,W⟩:=h
 exact ⟨(u.cell (p:=⟨g,0,none⟩) (Lw.lt_heap z)).trans z,(u.cell (p:=⟨g,1,none⟩) (Lw.lt_heap F)).trans F,(u.cell (p:=⟨g,2,none⟩) (Lw.lt_heap G)).trans G,(u.cell (p:=⟨g,3,none⟩) (Lw.lt_heap I)).trans I,(u.cell (p:=⟨g,4,none⟩) (Lw.lt_heap J)).trans J,(u.cell (p:=⟨g,5,none⟩) (Lw.lt_heap Q)).trans Q,(u.cell (p:=⟨g,6,none⟩) (Lw.lt_heap W)).trans W⟩
theorem dflt_box (w:World) (t:TypeId):box7 w.heap.size (w.alloc (.cells #[.int .i64 4,.int .i64 1,.int .u64 100,.int .u64 1000,.int .u64 50,.int .u64 200,.float .f64 4598175219545276416] t)):=by
 refine ⟨?_,?_,?_,?_,?_,?_,?_⟩ <;> simp
def empty7 (B g:Nat) (w:World):Prop:=B≤g∧g < w.heap.size∧w.heap[g]? = some (.cells #[.string ⟨#[]⟩,.string ⟨#[]⟩,.string ⟨#[]⟩,.string ⟨#[]⟩,.string ⟨#[]⟩,.string ⟨#[]⟩,.string ⟨#[]⟩] 346 (0,0))
def tD (B:Nat):Nat→Value→World→Prop
 | 2,v,_=>v=.string (bts [52])
 | 5,v,_=>v=.string (bts [49])
 | 8,v,_=>v=.string (bts [49,48,48])
 | 11,v,_=>v=.string (bts [49,48,48,48])
 | 14,v,_=>v=.string (bts [53,48])
 | 17,v,_=>v=.string (bts [50,48,48])
 | 20,v,_=>v=.float .f64 4598175219545276416
 | 21,v,_=>v=.string (bts [48,46,50,53])
 | 22,v,_=>v=.agg #[.string (bts [52]),.string (bts [49]),.string (bts [49,48,48]),.string (bts [49,48,48,48]),.string (bts [53,48]),.string (bts [50,48,48]),.string (bts [48,46,50,53])]
 | 23,v,w=>∃ g,v=.pointer (some ⟨g,0,none⟩)∧empty7 B g w
 | _,_,_=>True
theorem tD_mono (B:Nat) (i:Nat) (v:Value) (w w':World) (h:tD B i v w) (z:Below w.heap.size w w'):tD B i v w':=by
 unfold tD at *
 split at h
 all_goals first
  | exact h
  | (obtain ⟨g,F,G,u,I⟩:=h; exact ⟨g,F,G,Nat.lt_of_lt_of_le u z.size,(z.block g u).trans I⟩)
def Words (L:Nat→List UInt8) (g:Nat) (w:World):Prop:=∀ j,j < 7→w.cell? ⟨g,j,none⟩=some (.string (bts (L j)))∧w.frozen? ⟨g,j,none⟩=false
def upd (L:Nat→List UInt8) (i:Nat) (s:List UInt8):Nat→List UInt8:=fun j=>if j=i then s else L j
theorem Words.set {L:Nat→List UInt8} {g:Nat} {w:World} (h:Words L g w) (i:Nat) (hi:i < 7) (s:List UInt8):Words (upd L i s) g (w.setCell ⟨g,i,none⟩ (.string (bts s))):=by
 intro j u
 unfold upd
 by_cases e:j=i
 ·subst e
  rw [if_pos rfl]
  exact ⟨World.cell?_setCell_same _ _ _ (h j u).1,by simpa using (h j u).2⟩
 ·rw [if_neg e]
  exact ⟨(World.cell?_setCell_other _ _ _ _ (fun z=>e (by injection z with _ z; exact z.symm))).trans (h j u).1,by simpa using (h j u).2⟩
theorem Words.same {L u:Nat→List UInt8} {g:Nat} {w:World} (h:Words L g w) (F:∀ j,j < 7→u j=L j):Words u g w:=fun j z=>by rw [F j z]; exact h j z
def word (i j:Nat):List UInt8:=if j < i then Tb.keyT.getD j [] ++ wds.getD j [] else wds.getD j []
theorem word_next (i:Nat):upd (word i) i (Tb.keyT.getD i [] ++ wds.getD i [])=word (i+1):=by
 funext j
 unfold upd word
 by_cases e:j=i
 ·subst e; rw [if_pos rfl,if_pos (by omega)]
 ·rw [if_neg e]
  by_cases h:j < i
  ·rw [if_pos h,if_pos (by omega)]
  ·rw [if_neg h,if_neg (by omega)]
theorem empty_words {B g:Nat} {w:World} (h:empty7 B g w):Words (fun _=>[]) g w:=by
 intro j u
 unfold World.cell? World.frozen?
 simp only [h.2.2]
 match j,u with
 | 0,_=>exact ⟨rfl,rfl⟩
 | 1,_=>exact ⟨rfl,rfl⟩
 | 2,_=>exact ⟨rfl,rfl⟩
 | 3,_=>exact ⟨rfl,rfl⟩
 | 4,_=>exact ⟨rfl,rfl⟩
 | 5,_=>exact ⟨rfl,rfl⟩
 | 6,_=>exact ⟨rfl,rfl⟩
 | i+7,h=>exact absurd h (by omega)
theorem words0 {g:Nat} {w:World} (h:Words (fun _=>[]) g w) :
  Words (word 0) g (((((((w.setCell ⟨g,0,none⟩ (.string (bts [52]))).setCell ⟨g,1,none⟩ (.string (bts [49]))).setCell ⟨g,2,none⟩ (.string (bts [49,48,48]))).setCell ⟨g,3,none⟩ (.string (bts [49,48,48,48]))).setCell ⟨g,4,none⟩ (.string (bts [53,48]))).setCell ⟨g,5,none⟩ (.string (bts [50,48,48]))).setCell ⟨g,6,none⟩ (.string (bts [48,46,50,53]))):=by
 refine (((((((h.set 0 (by omega) _).set 1 (by omega) _).set 2 (by omega) _).set 3 (by omega) _).set 4 (by omega) _).set 5 (by omega) _).set 6 (by omega) _).same ?_
 intro j u
 match j,u with
 | 0,_=>rfl
 | 1,_=>rfl
 | 2,_=>rfl
 | 3,_=>rfl
 | 4,_=>rfl
 | 5,_=>rfl
 | 6,_=>rfl
 | i+7,h=>exact absurd h (by omega)
def dtext:List UInt8:=[109,97,120,61,52,32,109,105,110,61,49,32,105,100,108,101,61,49,48,48,32,108,105,102,101,61,49,48,48,48,32,107,101,101,112,61,53,48,32,108,101,97,107,61,50,48,48,32,118,97,114,105,97,110,99,101,61,48,46,50,53]
def dws:List ByteArray:=[bts [109,97,120,61,52],bts [109,105,110,61,49],bts [105,100,108,101,61,49,48,48],bts [108,105,102,101,61,49,48,48,48],bts [107,101,101,112,61,53,48],bts [108,101,97,107,61,50,48,48],bts [118,97,114,105,97,110,99,101,61,48,46,50,53]]
theorem join_dtext:Lib.join (dws.map (·.data.toList)) [32] = dtext:=by decide +kernel
theorem join_dflt (g:Nat) (w:World) (h:Words (word 7) g w) (F:g < w.heap.size) :
  Calls Tryz.prog 300 #[.slice (some ⟨g,0,none⟩) 7 7,.string ⟨#[32]⟩] w fun e w'=>e=.returned (.string (bts dtext))∧Below w.heap.size w w':=by
 have J:=Any.strings_Join (P:=Tryz.prog) (ρ:=txRen) txJoin txExtra g 0 7 dws (bts [32]) w (fun j x hx=>by
  rw [Nat.zero_add]
  match j,hx with
  | 0,hx=>injection hx with hx; subst hx; exact (h 0 (by omega)).1
  | 1,hx=>injection hx with hx; subst hx; exact (h 1 (by omega)).1
  | 2,hx=>injection hx with hx; subst hx; exact (h 2 (by omega)).1
  | 3,hx=>injection hx with hx; subst hx; exact (h 3 (by omega)).1
  | 4,hx=>injection hx with hx; subst hx; exact (h 4 (by omega)).1
  | 5,hx=>injection hx with hx; subst hx; exact (h 5 (by omega)).1
  | 6,hx=>injection hx with hx; subst hx; exact (h 6 (by omega)).1) F (by simp [dws]) (by simp [dws]) (by rw [show (bts [32]).data.toList=[32] from rfl,join_dtext]; decide)
 exact J.mono fun e w' ⟨u,z⟩=>⟨by rw [u,show (bts [32]).data.toList=[32] from rfl,join_dtext]; rfl,z⟩
theorem it_small:Lib.itoa 4=[52] ∧ Lib.itoa 1=[49] ∧ Lib.itoa 100=[49,48,48] ∧ Lib.itoa 1000=[49,48,48,48] ∧ Lib.itoa 50=[53,48] ∧ Lib.itoa 200=[50,48,48]:=by
 refine ⟨?_,?_,?_,?_,?_,?_⟩ <;> simp [Lib.itoa,Lib.decDigits]
theorem text_dflt (w:World) (hT:Tb.Tabs w) :
  Calls Tryz.prog 289 #[dflt] w fun e w'=>e=.returned (.tuple #[.string (bts dtext),.int .i64 0])∧Below w.heap.size w w':=by
 have HT:=Lh hT
 clear hT
 unfold dflt
 go_enter Tryz.func289,Tryz.ntmps289
 go_wp2_with fail
 refine (Ff.ccheck_q _).mono ?_
 rintro e W ⟨rfl,a7⟩
 have bx:box7 w.heap.size W:=(dflt_box w _).below a7
 have bW:Below w.heap.size w W:=((Below.refl _ w).alloc (Nat.le_refl _) _).trans (a7.mono (by simp))
 have ac:=Lh bx
 have I:=Lh bW
 have aP:w.heap.size < W.heap.size:=by have:=a7.size; simp at this; omega
 clear a7 bx bW
 go_wp2_with fail
 have Q:box7 w.heap.size W.drew:=ac.out
 have HD:=Lh (show Below W.heap.size W W.drew from (Below.refl _ _).drew)
 refine reg_start 25 (box7 w.heap.size) (by kernel_rfl) (by kernel_rfl) ?_
 intro ae
 have HA:=Lh ae
 clear ae
 refine rq 0 HA.out Q rfl ?_ (hv:=fun w' hw=>by (obtain ⟨h0,J,Y,h3,h4,h5,h6⟩:=hw; go_simp; exact rfl))
 refine rq 1 HA.out Q rfl ?_ (hv:=fun w' hw=>by (obtain ⟨h0,J,Y,h3,h4,h5,h6⟩:=hw; go_simp; exact rfl))
 refine rq 3 HA.out Q rfl ?_ (hv:=fun w' hw=>by (obtain ⟨h0,J,Y,h3,h4,h5,h6⟩:=hw; go_simp; exact rfl))
 refine rq 4 HA.out Q rfl ?_ (hv:=fun w' hw=>by (obtain ⟨h0,J,Y,h3,h4,h5,h6⟩:=hw; go_simp; exact rfl))
 refine rq 6 HA.out Q rfl ?_ (hv:=fun w' hw=>by (obtain ⟨h0,J,Y,h3,h4,h5,h6⟩:=hw; go_simp; exact rfl))
 refine rq 7 HA.out Q rfl ?_ (hv:=fun w' hw=>by (obtain ⟨h0,J,Y,h3,h4,h5,h6⟩:=hw; go_simp; exact rfl))
 refine rq 9 HA.out Q rfl ?_ (hv:=fun w' hw=>by (obtain ⟨h0,J,Y,h3,h4,h5,h6⟩:=hw; go_simp; exact rfl))
 refine rq 10 HA.out Q rfl ?_ (hv:=fun w' hw=>by (obtain ⟨h0,J,Y,h3,h4,h5,h6⟩:=hw; go_simp; exact rfl))
 refine rq 12 HA.out Q rfl ?_ (hv:=fun w' hw=>by (obtain ⟨h0,J,Y,h3,h4,h5,h6⟩:=hw; go_simp; exact rfl))
 refine rq 13 HA.out Q rfl ?_ (hv:=fun w' hw=>by (obtain ⟨h0,J,Y,h3,h4,h5,h6⟩:=hw; go_simp; exact rfl))
 refine rq 15 HA.out Q rfl ?_ (hv:=fun w' hw=>by (obtain ⟨h0,J,Y,h3,h4,h5,h6⟩:=hw; go_simp; exact rfl))
 refine rq 16 HA.out Q rfl ?_ (hv:=fun w' hw=>by (obtain ⟨h0,J,Y,h3,h4,h5,h6⟩:=hw; go_simp; exact rfl))
 refine rq 18 HA.out Q rfl ?_ (hv:=fun w' hw=>by (obtain ⟨h0,J,Y,h3,h4,h5,h6⟩:=hw; go_simp; exact rfl))
 refine rq 19 HA.out Q rfl ?_ (hv:=fun w' hw=>by (obtain ⟨h0,J,Y,h3,h4,h5,h6⟩:=hw; go_simp; exact rfl))
 refine reg_stable_z 24 [2,5,8,11,14,17,20,21,22,23] (fun w w'=>Below w.heap.size w w') (tD W.heap.size) ?_ ?_ ?_ ?_ ?_ ?_ ?_ (fun _=>Below.refl _ _) (fun _ _ _ J Y=>J.trans (Y.mono J.size)) (tD_mono W.heap.size) (fun _ h=>Q.below h) ?_ ?_
 ·kernel_rfl
 ·kernel_rfl
 ·kernel_rfl
 ·kernel_rfl
 ·kernel_rfl
 ·kernel_rfl
 ·kernel_rfl
 ·refine ⟨?_,?_,?_,?_,?_,?_,?_,?_,?_,?_,trivial⟩
  ·intro a' w' val G z u
   have e1:a'.tmps[14]?.getD undef=.int .i64 4:=(z 14 (by kernel_rfl)).trans (by kernel_rfl)
   clear z u
   refine ⟨_,rfl,?_⟩
   unfold Oper.wp
   go_simp
   refine (itoa_any 4 (by omega) (by omega) w' (HT.out.tab.below (I.out.trans ((HD.out.trans G).mono I.out.size)))).mono ?_
   rintro x w2 ⟨rfl,a1⟩
   exact ⟨_,rfl,by rw [it_small.1]; rfl,a1⟩
  ·intro a' w' val G z u
   have e1:a'.tmps[17]?.getD undef=.int .i64 1:=(z 17 (by kernel_rfl)).trans (by kernel_rfl)
   clear z u
   refine ⟨_,rfl,?_⟩
   unfold Oper.wp
   go_simp
   refine (itoa_any 1 (by omega) (by omega) w' (HT.out.tab.below (I.out.trans ((HD.out.trans G).mono I.out.size)))).mono ?_
   rintro x w2 ⟨rfl,a1⟩
   exact ⟨_,rfl,by rw [it_small.2.1]; rfl,a1⟩
  ·intro a' w' val G z u
   have e1:a'.tmps[20]?.getD undef=.int .u64 100:=(z 20 (by kernel_rfl)).trans (by kernel_rfl)
   clear z u
   refine ⟨_,rfl,?_⟩
   unfold Oper.wp
   go_simp
   refine (funit_any 100 (by omega) (by omega) w' (HT.out.tab.below (I.out.trans ((HD.out.trans G).mono I.out.size)))).mono ?_
   rintro x w2 ⟨rfl,a1⟩
   exact ⟨_,rfl,by rw [it_small.2.2.1]; rfl,a1⟩
  ·intro a' w' val G z u
   have e1:a'.tmps[23]?.getD undef=.int .u64 1000:=(z 23 (by kernel_rfl)).trans (by kernel_rfl)
   clear z u
   refine ⟨_,rfl,?_⟩
   unfold Oper.wp
   go_simp
   refine (funit_any 1000 (by omega) (by omega) w' (HT.out.tab.below (I.out.trans ((HD.out.trans G).mono I.out.size)))).mono ?_
   rintro x w2 ⟨rfl,a1⟩
   exact ⟨_,rfl,by rw [it_small.2.2.2.1]; rfl,a1⟩
  ·intro a' w' val G z u
   have e1:a'.tmps[26]?.getD undef=.int .u64 50:=(z 26 (by kernel_rfl)).trans (by kernel_rfl)
   clear z u
   refine ⟨_,rfl,?_⟩
   unfold Oper.wp
   go_simp
   refine (funit_any 50 (by omega) (by omega) w' (HT.out.tab.below (I.out.trans ((HD.out.trans G).mono I.out.size)))).mono ?_
   rintro x w2 ⟨rfl,a1⟩
   exact ⟨_,rfl,by rw [it_small.2.2.2.2.1]; rfl,a1⟩
  ·intro a' w' val G z u
   have e1:a'.tmps[29]?.getD undef=.int .u64 200:=(z 29 (by kernel_rfl)).trans (by kernel_rfl)
   clear z u
   refine ⟨_,rfl,?_⟩
   unfold Oper.wp
   go_simp
   refine (funit_any 200 (by omega) (by omega) w' (HT.out.tab.below (I.out.trans ((HD.out.trans G).mono I.out.size)))).mono ?_
   rintro x w2 ⟨rfl,a1⟩
   exact ⟨_,rfl,by rw [it_small.2.2.2.2.2]; rfl,a1⟩
  ·intro a' w' val G z u
   have e1:a'.tmps[32]?.getD undef=.float .f64 4598175219545276416:=(z 32 (by kernel_rfl)).trans (by kernel_rfl)
   clear z u
   refine ⟨_,rfl,?_⟩
   unfold Oper.wp
   go_simp
   refine (Ff.clean_q w').mono ?_
   rintro x w2 ⟨rfl,rfl⟩
   exact ⟨_,rfl,rfl,Below.refl _ _⟩
  ·intro a' w' val G z u
   obtain ⟨q1,s1⟩:=u 20 (by decide) (by kernel_rfl)
   have e1:=s1 33 (by kernel_rfl)
   clear z u
   rw [show val 20=.float .f64 4598175219545276416 from q1] at e1
   refine ⟨_,rfl,?_⟩
   unfold Oper.wp
   go_simp
   refine (Ff.rtext_q w' (HT.out.below (I.out.trans ((HD.out.trans G).mono I.out.size)))).mono ?_
   rintro x w2 ⟨rfl,a1⟩
   exact ⟨_,rfl,rfl,a1⟩
  ·intro a' w' val G z u
   obtain ⟨q2,s2⟩:=u 2 (by decide) (by kernel_rfl)
   have e2:=s2 15 (by kernel_rfl)
   rw [show val 2=.string (bts [52]) from q2] at e2
   obtain ⟨q5,s5⟩:=u 5 (by decide) (by kernel_rfl)
   have e5:=s5 18 (by kernel_rfl)
   rw [show val 5=.string (bts [49]) from q5] at e5
   obtain ⟨q8,s8⟩:=u 8 (by decide) (by kernel_rfl)
   have e8:=s8 21 (by kernel_rfl)
   rw [show val 8=.string (bts [49,48,48]) from q8] at e8
   obtain ⟨aH,aL⟩:=u 11 (by decide) (by kernel_rfl)
   have ak:=aL 24 (by kernel_rfl)
   rw [show val 11=.string (bts [49,48,48,48]) from aH] at ak
   obtain ⟨aI,aM⟩:=u 14 (by decide) (by kernel_rfl)
   have al:=aM 27 (by kernel_rfl)
   rw [show val 14=.string (bts [53,48]) from aI] at al
   obtain ⟨aJ,aN⟩:=u 17 (by decide) (by kernel_rfl)
   have an:=aN 30 (by kernel_rfl)
   rw [show val 17=.string (bts [50,48,48]) from aJ] at an
   obtain ⟨aK,aO⟩:=u 21 (by decide) (by kernel_rfl)
   have ao:=aO 34 (by kernel_rfl)
   rw [show val 21=.string (bts [48,46,50,53]) from aK] at ao
   clear z u
   refine ⟨_,rfl,?_⟩
   unfold Oper.wp
   go_simp
   exact ⟨_,rfl,rfl,Below.refl _ _⟩
  ·intro a' w' val G z u
   clear z u
   refine ⟨_,rfl,?_⟩
   unfold Oper.wp
   go_simp
   exact ⟨_,rfl,⟨w'.heap.size,rfl,(HD.out.trans G).size,by simp,(Go.MapKept.heap_alloc w' _).1⟩,(Below.refl _ _).alloc (Nat.le_refl _) _⟩
 ·intro val w' hE G
  have af:Below W.heap.size W w':=HD.out.trans G
  obtain ⟨p2,p5,p8,aB,aC,aD,aE,aF,aj,aG,-⟩:=hE
  have aq:val 22=.agg #[.string (bts [52]),.string (bts [49]),.string (bts [49,48,48]),.string (bts [49,48,48,48]),.string (bts [53,48]),.string (bts [50,48,48]),.string (bts [48,46,50,53])]:=aj
  obtain ⟨g,ar,a0,a8,ag⟩:∃ g,val 23=.pointer (some ⟨g,0,none⟩)∧empty7 W.heap.size g w':=aG
  clear p2 p5 p8 aB aC aD aE aF aj
  simp only [puts,dstOf]
  have hc:=empty_words ⟨a0,a8,ag⟩
  have HC:=Lh hc
  obtain ⟨c0,f0⟩:=hc 0 (by omega)
  obtain ⟨c1,f1⟩:=hc 1 (by omega)
  obtain ⟨c2,f2⟩:=hc 2 (by omega)
  obtain ⟨c3,f3⟩:=hc 3 (by omega)
  obtain ⟨c4,f4⟩:=hc 4 (by omega)
  obtain ⟨c5,f5⟩:=hc 5 (by omega)
  obtain ⟨c6,f6⟩:=hc 6 (by omega)
  clear hc
  refine reg_only 24 rfl (by kernel_rfl) rfl ?_
  unfold Oper.wp
  go_simp
  obtain ⟨W9,a6⟩:∃ W9,W9=((((((w'.setCell ⟨g,0,none⟩ (.string (bts [52]))).setCell ⟨g,1,none⟩ (.string (bts [49]))).setCell ⟨g,2,none⟩ (.string (bts [49,48,48]))).setCell ⟨g,3,none⟩ (.string (bts [49,48,48,48]))).setCell ⟨g,4,none⟩ (.string (bts [53,48]))).setCell ⟨g,5,none⟩ (.string (bts [50,48,48]))).setCell ⟨g,6,none⟩ (.string (bts [48,46,50,53])):=⟨_,rfl⟩
  have a4:Below W.heap.size W W9:=by
   rw [a6]
   exact ((((((af.setCell a0 _).setCell a0 _).setCell a0 _).setCell a0 _).setCell a0 _).setCell a0 _).setCell a0 _
  have ai:Words (word 0) g W9:=by rw [a6]; exact words0 HC.out
  rw [← a6]
  refine ⟨ac.out.below a4,?_⟩
  have aa:=Lh a4
  have ad:=Lh ai
  have hk:=(HT.out.below (I.out.trans (a4.mono I.out.size))).keys
  have ah:g < W9.heap.size:=by rw [a6]; simpa using a8
  obtain ⟨k0,au⟩:=hk 0 _ rfl
  obtain ⟨-,av⟩:=hk 1 _ rfl
  obtain ⟨-,aw⟩:=hk 2 _ rfl
  obtain ⟨-,ax⟩:=hk 3 _ rfl
  obtain ⟨-,ay⟩:=hk 4 _ rfl
  obtain ⟨-,az⟩:=hk 5 _ rfl
  obtain ⟨-,aA⟩:=hk 6 _ rfl
  clear a6 a4 ai G af c0 c1 c2 c3 c4 c5 c6 f0 f1 f2 f3 f4 f5 f6 aq ar hk a8 ag
  refine reg_done (by kernel_rfl) ?_
  go_wp2_with fail
  clear au av aw ax ay az aA
  go_loopw [37] (fun a9 wr=>∃ i:Nat,i≤7∧a9=.int .i64 i∧g < wr.heap.size∧Hid (Words (word i) g wr∧Below W.heap.size W wr)) (fun a9 _=>7 - (intOf a9).toNat)
  case atStart=>exact ⟨0,by omega,rfl,ah,ad.out,aa.out⟩
  case round=>
   clear ad aa ah
   obtain ⟨i,hi,rfl,a2,F⟩:=hrel
   rcases (show i=0∨i=1∨i=2∨i=3∨i=4∨i=5∨i=6∨i=7 by omega) with rfl | rfl | rfl | rfl | rfl | rfl | rfl | rfl
   ·have a5:∀ w,(Instr.index 346 (.agg #[.string (bts [109,97,120,61]),.string (bts [109,105,110,61]),.string (bts [105,100,108,101,61]),.string (bts [108,105,102,101,61]),.string (bts [107,101,101,112,61]),.string (bts [108,101,97,107,61]),.string (bts [118,97,114,105,97,110,99,101,61])]) (.int .i64 0)).run Tryz.prog w=.ok (.string (bts [109,97,120,61])) w:=fun w=>by kernel_rfl
    have a3:∀ w,(binOp .add 9 (.string (bts [109,97,120,61])) (.string (bts [52]))).run Tryz.prog w=.ok (.string (bts [109,97,120,61,52])) w:=fun w=>by kernel_rfl
    obtain ⟨cc,ff⟩:wr.cell? ⟨g,0,none⟩=some (.string (bts [52]))∧wr.frozen? ⟨g,0,none⟩=false:=F.out.1 0 (by omega)
    go_wp2_with fail
    go_roundw
    case rel=>exact ⟨1,by omega,rfl,by simpa using a2,word_next 0 ▸ F.out.1.set 0 (by omega) _,F.out.2.setCell a0 _⟩
    case measure=>simp [intOf]
   ·have a5:∀ w,(Instr.index 346 (.agg #[.string (bts [109,97,120,61]),.string (bts [109,105,110,61]),.string (bts [105,100,108,101,61]),.string (bts [108,105,102,101,61]),.string (bts [107,101,101,112,61]),.string (bts [108,101,97,107,61]),.string (bts [118,97,114,105,97,110,99,101,61])]) (.int .i64 1)).run Tryz.prog w=.ok (.string (bts [109,105,110,61])) w:=fun w=>by kernel_rfl
    have a3:∀ w,(binOp .add 9 (.string (bts [109,105,110,61])) (.string (bts [49]))).run Tryz.prog w=.ok (.string (bts [109,105,110,61,49])) w:=fun w=>by kernel_rfl
    obtain ⟨cc,ff⟩:wr.cell? ⟨g,1,none⟩=some (.string (bts [49]))∧wr.frozen? ⟨g,1,none⟩=false:=F.out.1 1 (by omega)
    go_wp2_with fail
    go_roundw
    case rel=>exact ⟨2,by omega,rfl,by simpa using a2,word_next 1 ▸ F.out.1.set 1 (by omega) _,F.out.2.setCell a0 _⟩
    case measure=>simp [intOf]
   ·have a5:∀ w,(Instr.index 346 (.agg #[.string (bts [109,97,120,61]),.string (bts [109,105,110,61]),.string (bts [105,100,108,101,61]),.string (bts [108,105,102,101,61]),.string (bts [107,101,101,112,61]),.string (bts [108,101,97,107,61]),.string (bts [118,97,114,105,97,110,99,101,61])]) (.int .i64 2)).run Tryz.prog w=.ok (.string (bts [105,100,108,101,61])) w:=fun w=>by kernel_rfl
    have a3:∀ w,(binOp .add 9 (.string (bts [105,100,108,101,61])) (.string (bts [49,48,48]))).run Tryz.prog w=.ok (.string (bts [105,100,108,101,61,49,48,48])) w:=fun w=>by kernel_rfl
    obtain ⟨cc,ff⟩:wr.cell? ⟨g,2,none⟩=some (.string (bts [49,48,48]))∧wr.frozen? ⟨g,2,none⟩=false:=F.out.1 2 (by omega)
    go_wp2_with fail
    go_roundw
    case rel=>exact ⟨3,by omega,rfl,by simpa using a2,word_next 2 ▸ F.out.1.set 2 (by omega) _,F.out.2.setCell a0 _⟩
    case measure=>simp [intOf]
   ·have a5:∀ w,(Instr.index 346 (.agg #[.string (bts [109,97,120,61]),.string (bts [109,105,110,61]),.string (bts [105,100,108,101,61]),.string (bts [108,105,102,101,61]),.string (bts [107,101,101,112,61]),.string (bts [108,101,97,107,61]),.string (bts [118,97,114,105,97,110,99,101,61])]) (.int .i64 3)).run Tryz.prog w=.ok (.string (bts [108,105,102,101,61])) w:=fun w=>by kernel_rfl
    have a3:∀ w,(binOp .add 9 (.string (bts [108,105,102,101,61])) (.string (bts [49,48,48,48]))).run Tryz.prog w=.ok (.string (bts [108,105,102,101,61,49,48,48,48])) w:=fun w=>by kernel_rfl
    obtain ⟨cc,ff⟩:wr.cell? ⟨g,3,none⟩=some (.string (bts [49,48,48,48]))∧wr.frozen? ⟨g,3,none⟩=false:=F.out.1 3 (by omega)
    go_wp2_with fail
    go_roundw
    case rel=>exact ⟨4,by omega,rfl,by simpa using a2,word_next 3 ▸ F.out.1.set 3 (by omega) _,F.out.2.setCell a0 _⟩
    case measure=>simp [intOf]
   ·have a5:∀ w,(Instr.index 346 (.agg #[.string (bts [109,97,120,61]),.string (bts [109,105,110,61]),.string (bts [105,100,108,101,61]),.string (bts [108,105,102,101,61]),.string (bts [107,101,101,112,61]),.string (bts [108,101,97,107,61]),.string (bts [118,97,114,105,97,110,99,101,61])]) (.int .i64 4)).run Tryz.prog w=.ok (.string (bts [107,101,101,112,61])) w:=fun w=>by kernel_rfl
    have a3:∀ w,(binOp .add 9 (.string (bts [107,101,101,112,61])) (.string (bts [53,48]))).run Tryz.prog w=.ok (.string (bts [107,101,101,112,61,53,48])) w:=fun w=>by kernel_rfl
    obtain ⟨cc,ff⟩:wr.cell? ⟨g,4,none⟩=some (.string (bts [53,48]))∧wr.frozen? ⟨g,4,none⟩=false:=F.out.1 4 (by omega)
    go_wp2_with fail
    go_roundw
    case rel=>exact ⟨5,by omega,rfl,by simpa using a2,word_next 4 ▸ F.out.1.set 4 (by omega) _,F.out.2.setCell a0 _⟩
    case measure=>simp [intOf]
   ·have a5:∀ w,(Instr.index 346 (.agg #[.string (bts [109,97,120,61]),.string (bts [109,105,110,61]),.string (bts [105,100,108,101,61]),.string (bts [108,105,102,101,61]),.string (bts [107,101,101,112,61]),.string (bts [108,101,97,107,61]),.string (bts [118,97,114,105,97,110,99,101,61])]) (.int .i64 5)).run Tryz.prog w=.ok (.string (bts [108,101,97,107,61])) w:=fun w=>by kernel_rfl
    have a3:∀ w,(binOp .add 9 (.string (bts [108,101,97,107,61])) (.string (bts [50,48,48]))).run Tryz.prog w=.ok (.string (bts [108,101,97,107,61,50,48,48])) w:=fun w=>by kernel_rfl
    obtain ⟨cc,ff⟩:wr.cell? ⟨g,5,none⟩=some (.string (bts [50,48,48]))∧wr.frozen? ⟨g,5,none⟩=false:=F.out.1 5 (by omega)
    go_wp2_with fail
    go_roundw
    case rel=>exact ⟨6,by omega,rfl,by simpa using a2,word_next 5 ▸ F.out.1.set 5 (by omega) _,F.out.2.setCell a0 _⟩
    case measure=>simp [intOf]
   ·have a5:∀ w,(Instr.index 346 (.agg #[.string (bts [109,97,120,61]),.string (bts [109,105,110,61]),.string (bts [105,100,108,101,61]),.string (bts [108,105,102,101,61]),.string (bts [107,101,101,112,61]),.string (bts [108,101,97,107,61]),.string (bts [118,97,114,105,97,110,99,101,61])]) (.int .i64 6)).run Tryz.prog w=.ok (.string (bts [118,97,114,105,97,110,99,101,61])) w:=fun w=>by kernel_rfl
    have a3:∀ w,(binOp .add 9 (.string (bts [118,97,114,105,97,110,99,101,61])) (.string (bts [48,46,50,53]))).run Tryz.prog w=.ok (.string (bts [118,97,114,105,97,110,99,101,61,48,46,50,53])) w:=fun w=>by kernel_rfl
    obtain ⟨cc,ff⟩:wr.cell? ⟨g,6,none⟩=some (.string (bts [48,46,50,53]))∧wr.frozen? ⟨g,6,none⟩=false:=F.out.1 6 (by omega)
    go_wp2_with fail
    go_roundw
    case rel=>exact ⟨7,by omega,rfl,by simpa using a2,word_next 6 ▸ F.out.1.set 6 (by omega) _,F.out.2.setCell a0 _⟩
    case measure=>simp [intOf]
   ·go_wp2_with fail
    refine (join_dflt g wr F.out.1 a2).mono ?_
    rintro e w9 ⟨rfl,a4⟩
    go_wp2_with fail
    go_ret2
    exact ⟨rfl,I.out.trans ((F.out.2.trans (a4.mono F.out.2.size)).mono I.out.size)⟩
theorem awake13_any (w:World) (G:Tb.Tabs w) :
  Calls Tryz.prog 278 #[] w fun e w'=>e=.returned (.bool true)∧Below w.heap.size w w':=by
 have u:=Lh G
 clear G
 go_enter Tryz.func278,Tryz.ntmps278
 go_wp2_with fail
 refine (default_any _).mono ?_
 rintro e Q ⟨rfl,b1⟩
 go_wp2_with fail
 refine (text_dflt _ (u.out.below b1)).mono ?_
 rintro e W ⟨rfl,z⟩
 have h:=Lh (b1.trans (z.mono b1.size))
 clear b1 z
 go_wp2_with fail
 refine (Lc.Awake12_any _ (u.out.below h.out).tab).mono ?_
 rintro e Y ⟨rfl,F⟩
 have I:=Lh (h.out.trans (F.mono h.out.size))
 clear F
 have J:((bts dtext).toList == [109,97,120,61,52,32,109,105,110,61,49,32,105,100,108,101,61,49,48,48,32,108,105,102,101,61,49,48,48,48,32,107,101,101,112,61,53,48,32,108,101,97,107,61,50,48,48,32,118,97,114,105,97,110,99,101,61,48,46,50,53])=true:=by decide +kernel
 go_wp2_with fail
 go_ret
 exact ⟨rfl,I.out⟩
theorem Awake13_any (w:World) (h:Tb.Tabs w) :
  Calls Tryz.prog 269 #[] w fun e w'=>e=.returned (.bool true)∧Below w.heap.size w w':=by
 go_enter Tryz.func269,Tryz.ntmps269
 go_wp2_with fail
 refine (awake13_any _ h).mono ?_
 rintro e u ⟨rfl,b1⟩
 go_wp2_with fail
 go_ret
 exact ⟨rfl,b1⟩
end Go.Proofs.YtoiklelghfckgaaGreatDoor.Cn
