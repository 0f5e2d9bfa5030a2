/- A part of the claim: the texts Tabs FltE ShareMath RatioB FltF RatioC RatioD FltH FltI RatioE ConfCheck. -/
import Derived.Test.YtoiklelghfckgaaGreatDoorZBase3
import Derived.Test.YtoiklelghfckgaaGreatDoorZGFlt
import Derived.Test.YtoiklelghfckgaaGreatDoorZBase2
import Derived.Lib.LaidU8
import GoSem.PinnedTables
import Derived.Laws.MakeOwn
import Derived.Laws.Bits64b
import Derived.Deep.CutRange
import Derived.Deep.CutBlock
set_option maxRecDepth 100000
set_option maxHeartbeats 8000000
set_option linter.unusedVariables false
namespace Go.Proofs.YtoiklelghfckgaaGreatDoor.Tb
open Go.ChangeShapes Go.WideShapes Go.ChangeAt Go.RowKit Rw
set_option maxRecDepth 100000
def hiT (i:Nat):Nat:=(Pinned.pow10Rows.getD i (0,0)).1
def loT (i:Nat):Nat:=(Pinned.pow10Rows.getD i (0,0)).2
theorem rows_ok:(Pinned.pow10Rows.all fun x=>decide (x.1 < 18446744073709551616) && decide (x.2 < 18446744073709551616))=true:=by kernel_rfl
theorem pow_of_reads {w:World} (h4:Lib.VarReads Tryz.prog w "internal/strconv.pow10Tab" Pinned.pow10Tab):Ff.Pw hiT loT w:=by
 intro i hi
 obtain ⟨g,t,cs,a2,p,z,a1,a0,hd⟩:=h4
 obtain rfl:=Option.some.inj ((show Tryz.prog.globalNamed "internal/strconv.pow10Tab" = some 7 by kernel_rfl).symm.trans z)
 obtain rfl:=Option.some.inj ((show (Tryz.prog.globals[7]?).map (·.type)=some 408 by kernel_rfl).symm.trans a1)
 obtain ⟨a3,d,q,J,W⟩:=Lib.array_elem Tryz.underlying408 hd i hi
 rw [List.getElem?_map] at J
 obtain ⟨x,hx,rfl⟩:=Option.map_eq_some_iff.1 J
 have c2:Tryz.prog.cellsOf 407=2:=by kernel_rfl
 have c1:Tryz.prog.cellsOf 25=1:=by kernel_rfl
 rw [c2] at W
 have I:=Lib.ints_of_struct (k:=.u64) (zs:=[(x.1:Int),(x.2:Int)]) Tryz.underlying407 (fun j f h=>by
  match j,h with
  | 0,h=>simp at h; subst h; exact ⟨Tryz.underlying25,rfl,c1⟩
  | 1,h=>simp at h; subst h; exact ⟨Tryz.underlying25,rfl,c1⟩
  | j+2,h=>simp at h) (by rw [c2]; rfl) W
 have F:=congrArg (·[0]?) I
 have G:=congrArg (·[1]?) I
 simp only [List.getElem?_take,List.getElem?_drop] at F G
 have u:=List.all_eq_true.1 rows_ok x (List.mem_of_getElem? hx)
 simp only [Bool.and_eq_true,decide_eq_true_eq] at u
 have Y:hiT i=x.1:=by unfold hiT; rw [List.getD_eq_getElem?_getD,hx]; rfl
 have hl:loT i=x.2:=by unfold loT; rw [List.getD_eq_getElem?_getD,hx]; rfl
 have q0:w.cell? ⟨7,i * 2,none⟩=some (.int .u64 (hiT i)):=by
  rw [World.var?_cell z a0 (i * 2),← Array.getElem?_toList,Y]
  simpa using F
 have q1:w.cell? ⟨7,i * 2+1,none⟩=some (.int .u64 (loT i)):=by
  rw [World.var?_cell z a0 (i * 2+1),← Array.getElem?_toList,hl]
  simpa using G
 exact ⟨by rw [Y]; exact u.1,by rw [hl]; exact u.2,Lw.lt_heap q0,q0,q1⟩
theorem tab_of_reads {w:World} (h:Lib.VarReads Tryz.prog w "internal/strconv.uint64pow10" (Lib.tabData .u64 Lib.pow10Tab)):Tx.Tab w:=by
 obtain ⟨g,t,cs,I,p,z,F,G,u⟩:=h
 obtain rfl:=Option.some.inj ((show Tryz.prog.globalNamed "internal/strconv.uint64pow10" = some 2 by kernel_rfl).symm.trans z)
 obtain rfl:=Option.some.inj ((show (Tryz.prog.globals[2]?).map (·.type)=some 368 by kernel_rfl).symm.trans F)
 unfold Tx.Tab Lib.TabIs
 rw [G,← Lib.cells_of_tab Tryz.underlying368 Tryz.underlying25 (by kernel_rfl) (by kernel_rfl) u]
def keyT:List (List UInt8):=[[109,97,120,61],[109,105,110,61],[105,100,108,101,61],[108,105,102,101,61],[107,101,101,112,61],[108,101,97,107,61],[118,97,114,105,97,110,99,101,61]]
def keyD:DataW Unit:=.agg (keyT.map fun s=>.lit (.string s))
def Keys (w:World):Prop:=∀ i s,keyT[i]? = some s→1 < w.heap.size∧w.cell? ⟨1,i,none⟩=some (.string (Tx.bts s))
theorem Keys.below {w w':World} (h:Keys w) (u:Below w.heap.size w w'):Keys w':=fun i s z=>by
 obtain ⟨a,b⟩:=h i s z
 exact ⟨Nat.lt_of_lt_of_le a u.size,(u.cell (p:=⟨1,i,none⟩) a).trans b⟩
theorem keys_of_reads {w:World} (h:Lib.VarReads Tryz.prog w "hackney/conf.keys" keyD):Keys w:=by
 intro i s J
 obtain ⟨g,t,cs,a2,p,I,a0,a1,Y⟩:=h
 obtain rfl:=Option.some.inj ((show Tryz.prog.globalNamed "hackney/conf.keys" = some 1 by kernel_rfl).symm.trans I)
 obtain rfl:=Option.some.inj ((show (Tryz.prog.globals[1]?).map (·.type)=some 346 by kernel_rfl).symm.trans a0)
 have hi:i < 7:=(List.getElem?_eq_some_iff.1 J).1
 obtain ⟨a3,d,q,z,G⟩:=Lib.array_elem Tryz.underlying346 Y i hi
 rw [List.getElem?_map,J] at z
 injection z with z
 subst z
 have c1:Tryz.prog.cellsOf 9=1:=by kernel_rfl
 rw [c1] at G
 obtain ⟨b,W,u,_⟩:=DataW.trod_string Tryz.underlying9 G
 injection u with u _
 injection u with u
 injection u with u
 have F:=congrArg (·[0]?) W
 simp only [List.getElem?_take,List.getElem?_drop] at F
 have q0:w.cell? ⟨1,i,none⟩=some (.string (Tx.bts s)):=by
  rw [World.var?_cell I a1 i,← Array.getElem?_toList]
  have:Tx.bts s=b:=by unfold Tx.bts; rw [u]
  rw [this]
  simpa using F
 exact ⟨Lw.lt_heap q0,q0⟩
structure Tabs (w:World):Prop where
 tab:Tx.Tab w
 pow:Ff.Pw hiT loT w
 keys:Keys w
theorem Tabs.below {w w':World} (h:Tabs w) (u:Below w.heap.size w w'):Tabs w':=⟨h.tab.below u,h.pow.below u,h.keys.below u⟩
theorem tabs_of {l:List (String × DataW Unit)} {W:World} (h:laidMet Tryz.prog l W) (u:("internal/strconv.uint64pow10",Lib.tabData .u64 Lib.pow10Tab)∈l) (z:("internal/strconv.pow10Tab",Pinned.pow10Tab)∈l) (F:("hackney/conf.keys",keyD)∈l):Tabs W:=
 ⟨tab_of_reads (Lib.laidMet.reads h u),pow_of_reads (Lib.laidMet.reads h z),keys_of_reads (Lib.laidMet.reads h F)⟩
end Go.Proofs.YtoiklelghfckgaaGreatDoor.Tb
namespace Go.Proofs.YtoiklelghfckgaaGreatDoor.Ff
open Go.ChangeShapes Go.WideShapes Go.ChangeAt Go.RowKit Rw Go.Shelf Go.Sort
theorem sbits_run (w:World) (x:Nat):(callFunc 336 #[.float .f64 x]).run Tryz.prog w=.ok (.value (.int .u64 x)) w:=by
 rw [run_callFunc_extern Tryz.func336 (by kernel_rfl) (by kernel_rfl) (by kernel_rfl) (e:=Extern.MathFloatBits.float64bits) (by kernel_rfl)]
 rfl
theorem len_q (w:World):Calls Tryz.prog 288 #[.int .u64 4503599627370496] w fun e w'=>e=.returned (.int .i64 53)∧w=w':=by
 go_enter Tryz.func288,Tryz.ntmps288
 go_wp2
 refine bodyPost_ret (v:=.int .i64 53) ?_ rfl ⟨rfl,rfl⟩
 simp [results,Tryz.results288,go_sem]
 decide +kernel
theorem tl_q:tl Tb.hiT Tb.loT 9223372036854775808 (-65) 9223372036854775296 9223372036854776832 0 17=(2500000000000000,-16):=by decide +kernel
theorem short_q (w:World) (u:Pw Tb.hiT Tb.loT w) :
  Calls Tryz.prog 346 #[.int .u64 9223372036854775808,.int .i64 (-65)] w fun e w'=>e=.returned (.tuple #[.int .u64 2500000000000000,.int .i64 (-16)])∧Below w.heap.size w w':=by
 have h:=shortA Tb.hiT Tb.loT 9223372036854775808 (-65) w u (by omega) (by omega) (by omega) (by decide) (by decide) 17 0 9223372036854775296 9223372036854776832 (by decide) (by decide) (by decide) (by decide +kernel) (by omega) (by omega)
 rw [tl_q] at h
 exact h
theorem nd_q:Lib.nDigits 2500000000000000=16:=by simp [Lib.nDigits]
theorem dd_q:Lib.decDigits 2500000000000000=[50,53,48,48,48,48,48,48,48,48,48,48,48,48,48,48]:=by simp [Lib.decDigits]
theorem trl_q:trl (Lib.decDigits 2500000000000000) 16=2:=by rw [dd_q]; decide +kernel
theorem setDigits_q (h:Nat) (w:World) (z:∀ j,j < 32→w.cell? ⟨h,j,none⟩=some (.int .u8 0)∧w.frozen? ⟨h,j,none⟩=false) :
  Calls Tryz.prog 341 #[.slice (some ⟨h,0,none⟩) 32 32,.int .u64 2500000000000000,.int .i64 (-16),.int .i64 16] w fun e w'=>e=.returned (.tuple #[.int .i64 0,.int .i64 2]) ∧
   (∀ j x,(Lib.decDigits 2500000000000000)[j]? = some x→w'.cell? ⟨h,j,none⟩=some (e8 x))∧w.grownBy w' (some h):=by
 have u:=setDigits_any h 2500000000000000 (-16) w z (by omega) (by omega) (by omega) 16 nd_q
 rw [trl_q] at u
 exact u
theorem numDigits_q (w:World) (u:Tx.Tab w):Calls Tryz.prog 314 #[.int .u64 2500000000000000] w fun e w'=>e=.returned (.int .i64 16)∧w=w':=by
 have h:=Any.internal_strconv_numDigits (P:=Tryz.prog) (ρ:=Tx.txRen) { Tx.txItoa with } 2500000000000000 (by omega) (by omega) w u
 rw [nd_q] at h
 exact h.mono fun e w' ⟨a,b⟩=>⟨a,b.symm⟩
theorem ftoa_q (base:Nat) (Y w:World) (A:Option Addr) (c:Nat) (a2:w.ownsRow base 5 1 (.slice A 0 c) 0 []) (a8:Below base Y w) (ah:base≤w.heap.size) (hT:Tb.Tabs w) :
  Calls Tryz.prog 329 #[.slice A 0 c,.float .f64 4598175219545276416,.int .u8 103,.int .i64 (-1)] w fun e w'=>∃ A' c' hb ds,e=.returned (.slice A' 4 c')∧Ap base hb ds Y [48,46,50,53] A' 4 c' w':=by
 have sb:=fun w=>sbits_run w 4598175219545276416
 have HT:=Lh hT
 have I:=Lh a2
 have HB:=Lh a8
 have ak:=a2.lt
 clear hT a2 a8
 go_enter Tryz.func329,Tryz.ntmps329
 go_wp2_with fail
 go_quiet (fail)
 go_wp2_with fail
 refine (len_q _).mono ?_
 rintro e w1 ⟨rfl,rfl⟩
 go_wp2_with fail
 rw [show IntKind.u64.wrap (bits BinOp.or IntKind.u64 (bits BinOp.and IntKind.u64 4598175219545276416 4503599627370495) 4503599627370496 * 2048)=9223372036854775808 from by decide +kernel,
  show wrap64 (wrap64 (wrap64 (bits BinOp.and IntKind.i64 1021 2047 + -1023) - 11) - 52) = -65 from by decide +kernel]
 generalize a6:(w.drewN nq).alloc (.cells zeros32 382)=J
 have F:=a6.symm
 clear a6
 have a9:Below w.heap.size w J:=by rw [F]; exact (Rw.below_drewN (RowKit.Below.refl _ _) nq).alloc (by simp) _
 have hz:∀ j,j < 32→J.cell? ⟨w.heap.size,j,none⟩=some (.int .u8 0)∧J.frozen? ⟨w.heap.size,j,none⟩=false:=fun j hj=>by
  rw [F]
  refine ⟨?_,?_⟩
  ·have:w.heap.size=(w.drewN nq).heap.size:=rfl
   rw [this,World.cell?_alloc_new]; exact zeros32_at j hj
  ·have:w.heap.size=(w.drewN nq).heap.size:=rfl
   rw [this]; exact World.frozen?_alloc_new _ _ _ _
 have al:J.heap.size=w.heap.size+1:=by rw [F]; simp
 have a3:=Lh a9
 have HZ:=Lh hz
 have HW:=Lh F
 clear a9 hz F
 refine (short_q _ (HT.out.pow.below a3.out)).mono ?_
 rintro e u ⟨rfl,G⟩
 have an:=G.size
 have ad:∀ j,j < 32→u.cell? ⟨w.heap.size,j,none⟩=some (.int .u8 0)∧u.frozen? ⟨w.heap.size,j,none⟩=false:=fun j hj=>by
  obtain ⟨a,b⟩:=HZ.out j hj
  exact ⟨(G.cell (p:=⟨w.heap.size,j,none⟩) (by show w.heap.size < _; omega)).trans a,(G.frozen (p:=⟨w.heap.size,j,none⟩) (by show w.heap.size < _; omega)).trans b⟩
 have a4:=Lh ad
 have a0:=Lh (a3.out.trans (G.mono (by omega)))
 clear ad G HZ
 go_wp2_with fail
 refine reg_start 11 (fun _=>Hid True) (by kernel_rfl) (by kernel_rfl) ?_
 intro a5
 have z:=Lh a5
 clear a5
 refine reg_pure 0 z.out rfl (by kernel_rfl) (fun _ _ _ _ h=>h) (fun _=>Lh trivial) rfl ?_
 apply Exists.intro
 refine ⟨fun w'=>by (go_simp; exact rfl),?_⟩
 refine reg_pure 1 z.out rfl (by kernel_rfl) (fun _ _ _ _ h=>h) (fun _=>Lh trivial) rfl ?_
 apply Exists.intro
 refine ⟨fun w'=>by (go_simp; exact rfl),?_⟩
 refine reg_pure 2 z.out rfl (by kernel_rfl) (fun _ _ _ _ h=>h) (fun _=>Lh trivial) rfl ?_
 apply Exists.intro
 refine ⟨fun w'=>by (go_simp; exact rfl),?_⟩
 refine reg_pure 3 z.out rfl (by kernel_rfl) (fun _ _ _ _ h=>h) (fun _=>Lh trivial) rfl ?_
 apply Exists.intro
 refine ⟨fun w'=>by (go_simp; exact rfl),?_⟩
 refine reg_only 4 rfl (by kernel_rfl) rfl ?_
 unfold Oper.wp
 go_simp
 refine (numDigits_q u.drew (show Tx.Tab u.drew from HT.out.tab.below a0.out.drew)).mono ?_
 rintro e W3 ⟨rfl,rfl⟩
 refine ⟨Lh trivial,?_⟩
 refine reg_only 5 rfl (by kernel_rfl) rfl ?_
 unfold Oper.wp
 go_simp
 refine (setDigits_q w.heap.size u.drew a4.out).mono ?_
 rintro e W4 ⟨rfl,aa,ac⟩
 have af:=Lh aa
 have a1:=Lh ac
 clear aa ac a4
 refine ⟨Lh trivial,?_⟩
 refine reg_pure 6 z.out rfl (by kernel_rfl) (fun _ _ _ _ h=>h) (fun _=>Lh trivial) rfl ?_
 apply Exists.intro
 refine ⟨fun w'=>by (go_simp; exact rfl),?_⟩
 refine reg_pure 7 z.out rfl (by kernel_rfl) (fun _ _ _ _ h=>h) (fun _=>Lh trivial) rfl ?_
 apply Exists.intro
 refine ⟨fun w'=>by (go_simp; exact rfl),?_⟩
 refine reg_pure 8 z.out rfl (by kernel_rfl) (fun _ _ _ _ h=>h) (fun _=>Lh trivial) rfl ?_
 apply Exists.intro
 refine ⟨fun w'=>by (go_simp; exact rfl),?_⟩
 refine reg_pure 9 z.out rfl (by kernel_rfl) (fun _ _ _ _ h=>h) (fun _=>Lh trivial) rfl ?_
 apply Exists.intro
 refine ⟨fun w'=>by (go_simp; exact rfl),?_⟩
 refine reg_pure 10 z.out rfl (by kernel_rfl) (fun _ _ _ _ h=>h) (fun _=>Lh trivial) rfl ?_
 apply Exists.intro
 refine ⟨fun w'=>by (go_simp; exact rfl),?_⟩
 refine reg_done (by kernel_rfl) ?_
 have aj:=a1.out.size
 simp at aj
 have a7:Ap base w.heap.size ((Lib.decDigits 2500000000000000).map (fun x=>(x.toNat:Int))) Y [] A 0 c W4:=by
  have ai:W4.ownsRow base 5 1 (.slice A 0 c) 0 []:=by
   have h2:u.ownsRow base 5 1 (.slice A 0 c) 0 []:=Hi.own_same I.out (fun g W=>a0.out.block g (I.out.lt g W).2)
   have h3:u.drew.ownsRow base 5 1 (.slice A 0 c) 0 []:=h2
   refine h3.kept a1.out (Or.inr ?_)
   intro e
   have:=(I.out.lt _ e).2
   omega
  refine ⟨ai,?_,by omega,?_,?_,by omega,by omega⟩
  ·intro e
   have:=(I.out.lt _ e).2
   omega
  ·intro j x hx
   rw [List.getElem?_map] at hx
   obtain ⟨y,hy,rfl⟩:=Option.map_eq_some_iff.1 hx
   exact af.out j y hy
  ·exact (HB.out.trans (a0.out.mono ah)).trans ((show Below base u u.drew from ((RowKit.Below.refl _ _).drew)).grown a1.out (by show base≤u.heap.size; omega) (fun g W=>by injection W with W; omega))
 have ae:=Lh a7
 clear a7
 go_wp2_with fail
 refine (efg_quarter base w.heap.size _ Y W4 A c ae.out (by rw [dd_q]; rfl) (by rw [dd_q]; rfl)).mono ?_
 rintro e w5 ⟨A5,c5,rfl,ag⟩
 go_wp2_with fail
 go_ret
 exact ⟨A5,c5,_,_,rfl,ag⟩
end Go.Proofs.YtoiklelghfckgaaGreatDoor.Ff
namespace Go.Proofs.YtoiklelghfckgaaGreatDoor.Fl
open Ieee
def p2 (L:Nat):Nat:=double.nearest false 1 L
def cl (x:Nat):Nat:=if rg x=0 then 0 else x
end Go.Proofs.YtoiklelghfckgaaGreatDoor.Fl
namespace Go.Proofs.YtoiklelghfckgaaGreatDoor.Fl
open Go.ChangeShapes Go.WideShapes Go.ChangeAt Go.RowKit Rw Ck
theorem ord_self {x:Nat} (hx:x < 18446744073709551616):(FloatKind.f64.format.order x x != some Ordering.eq)=isN x:=by
 rw [format_eq,order_eq hx hx,Bool.or_self]
 cases isN x
 ·simp only [Bool.false_eq_true,if_false]
  have:compare (Ko x) (Ko x)=.eq:=by simp only [compare,compareOfLessAndEq]; simp
  rw [this]
  rfl
 ·rfl
theorem isnan_any (x:Nat) (w:World) (hx:x < 18446744073709551616):Calls Tryz.prog 175 #[.float .f64 x] w fun e w'=>e=.returned (.bool (isN x))∧w=w':=by
 have h:=ord_self hx
 generalize isN x=b at *
 go_enter Tryz.func175,Tryz.ntmps175
 go_wp2
 go_ret
 exact ⟨rfl,rfl⟩
def isI (x:Nat):Bool:=FloatKind.f64.format.order x 9218868437227405311 == some Ordering.gt
theorem isinf_any (x:Nat) (w:World):Calls Tryz.prog 305 #[.float .f64 x,.int .i64 1] w fun e w'=>e=.returned (.bool (isI x))∧w=w':=by
 go_enter Tryz.func305,Tryz.ntmps305
 go_wp2
 go_ret
 exact ⟨rfl,rfl⟩
end Go.Proofs.YtoiklelghfckgaaGreatDoor.Fl
namespace Go.Proofs.YtoiklelghfckgaaGreatDoor.Ff
open Go.ChangeShapes Go.WideShapes Go.ChangeAt Go.RowKit Rw Go.Shelf Go.Sort
theorem iformat_q (w:World) (J:Tb.Tabs w) :
  Calls Tryz.prog 318 #[.float .f64 4598175219545276416,.int .u8 103,.int .i64 (-1),.int .i64 64] w fun e w'=>e=.returned (.string (Tx.bts [48,46,50,53]))∧Below w.heap.size w w':=by
 have m1:max (3:Int) 24=24:=by decide
 obtain ⟨i0,hi,a3,a4,a5⟩:=info_parts info_u8
 obtain ⟨G,a0,a2,Y⟩:=run_make_own (P:=Tryz.prog) w w.heap.size 22 5 i0 (.int .u8 0) 1 Tryz.underlying22 hi a3 a4 .i64 .i64 24 (by rw [a5]; omega) (by unfold maxLen; omega) (Nat.le_refl _)
 have a8:(Instr.makeSlice 22 (.int .i64 0) (.int .i64 24)).run Tryz.prog w=.ok (.slice (some ⟨w.heap.size,0,none⟩) 0 24) G:=a0
 clear a0
 have z:Below w.heap.size w G:=(RowKit.Below.refl _ w).grown Y (Nat.le_refl _) (fun g hg=>by cases hg)
 have HT:=Lh (J.below z)
 have HR:=Lh a2
 have HB:=Lh z
 have a9:=z.size
 clear J a2 Y z
 go_enter Tryz.func318,Tryz.ntmps318
 go_wp2_with fail
 refine (ftoa_q w.heap.size w G _ 24 HR.out HB.out (by omega) HT.out).mono ?_
 rintro e I ⟨A2,c2,hb,ds,rfl,F⟩
 have a1:=Rd.own_rd F.own
 obtain ⟨b,o,hA,a6,W⟩:=a1.at_ (by omega)
 subst hA
 have u:=Lh W
 have HA:=Lh F
 clear F W a1
 have a7:(convert 22 9 (.slice (some ⟨b,o,none⟩) 4 c2)).run Tryz.prog I=.ok (.string ⟨#[48,46,50,53]⟩) I:=by
  have h:=run_convert_bytes_back (P:=Tryz.prog) I 22 9 5 ⟨b,o,none⟩ c2 [48,46,50,53] Tryz.underlying22 Tryz.underlying5 Tryz.underlying9 (fun j hj=>by
   rw [Lib.add_plain]
   match j,hj with
   | 0,_=>exact u.out 0 48 rfl
   | 1,_=>exact u.out 1 46 rfl
   | 2,_=>exact u.out 2 50 rfl
   | 3,_=>exact u.out 3 53 rfl
   | j+4,h=>exact absurd h (by simp))
  exact h
 go_wp2_with fail
 go_ret
 exact ⟨rfl,HA.out.bel⟩
theorem format_q (w:World) (h:Tb.Tabs w) :
  Calls Tryz.prog 306 #[.float .f64 4598175219545276416,.int .u8 103,.int .i64 (-1),.int .i64 64] w fun e w'=>e=.returned (.string (Tx.bts [48,46,50,53]))∧Below w.heap.size w w':=by
 go_enter Tryz.func306,Tryz.ntmps306
 go_wp2_with fail
 refine (iformat_q _ h).mono ?_
 rintro e w' ⟨rfl,u⟩
 go_wp2_with fail
 go_ret
 exact ⟨rfl,u⟩
theorem nan_q (w:World):Calls Tryz.prog 175 #[.float .f64 4598175219545276416] w fun e w'=>e=.returned (.bool false)∧w=w':=by
 have h:(FloatKind.f64.format.order 4598175219545276416 4598175219545276416 == some Ordering.eq)=true:=by decide +kernel
 go_enter Tryz.func175,Tryz.ntmps175
 go_wp2
 go_ret
 exact ⟨rfl,rfl⟩
theorem inf_q1 (w:World):Calls Tryz.prog 305 #[.float .f64 4598175219545276416,.int .i64 1] w fun e w'=>e=.returned (.bool false)∧w=w':=by
 have h:=Fl.isinf_any 4598175219545276416 w
 rw [show Fl.isI 4598175219545276416=false from by decide +kernel] at h
 exact h
theorem inf_qm (w:World):Calls Tryz.prog 305 #[.float .f64 4598175219545276416,.int .i64 (-1)] w fun e w'=>e=.returned (.bool false)∧w=w':=by
 have h:(FloatKind.f64.format.order 13821547256400052224 9218868437227405311 == some Ordering.gt)=false:=by decide +kernel
 have u:∀ w,(Op.unary UnOp.neg (Value.float FloatKind.f64 4598175219545276416)).run Tryz.prog w=.ok (.float .f64 13821547256400052224) w:=fun w=>by kernel_rfl
 go_enter Tryz.func305,Tryz.ntmps305
 go_wp2
 go_ret
 exact ⟨rfl,rfl⟩
theorem clean_q (w:World):Calls Tryz.prog 299 #[.float .f64 4598175219545276416] w fun e w'=>e=.returned (.float .f64 4598175219545276416)∧w=w':=by
 have h:(FloatKind.f64.format.order 4598175219545276416 0 == some Ordering.eq)=false:=by decide +kernel
 go_enter Tryz.func299,Tryz.ntmps299
 go_wp2
 go_ret
 exact ⟨rfl,rfl⟩
theorem rtext_q (w:World) (u:Tb.Tabs w):Calls Tryz.prog 298 #[.float .f64 4598175219545276416] w fun e w'=>e=.returned (.string (Tx.bts [48,46,50,53]))∧Below w.heap.size w w':=by
 have z:=Lh u
 clear u
 go_enter Tryz.func298,Tryz.ntmps298
 go_wp2_with fail
 refine (nan_q _).mono ?_
 rintro e h ⟨rfl,rfl⟩
 go_wp2_with fail
 refine (inf_q1 _).mono ?_
 rintro e h ⟨rfl,rfl⟩
 go_wp2_with fail
 refine (inf_qm _).mono ?_
 rintro e h ⟨rfl,rfl⟩
 go_wp2_with fail
 refine (format_q _ z.out).mono ?_
 rintro e h ⟨rfl,F⟩
 go_wp2_with fail
 go_ret
 exact ⟨rfl,F⟩
theorem check_q (w:World):Calls Tryz.prog 118 #[.float .f64 4598175219545276416,.float .f64 0,.float .f64 4607182418800017408] w fun e w'=>e=.returned (.int .i64 0)∧w=w':=by
 have G:(FloatKind.f64.format.order 0 0 == some Ordering.eq)=true:=by decide +kernel
 have I:(FloatKind.f64.format.order 4607182418800017408 4607182418800017408 == some Ordering.eq)=true:=by decide +kernel
 have J:(FloatKind.f64.format.order 4598175219545276416 0 == some Ordering.lt)=false:=by decide +kernel
 have W:(FloatKind.f64.format.order 4598175219545276416 4607182418800017408 == some Ordering.gt)=false:=by decide +kernel
 have z:∀ (w:World),Calls Tryz.prog 175 #[.float .f64 0] w fun e w'=>e=.returned (.bool false)∧w=w':=fun w=>by
  have h:=Fl.isnan_any 0 w (by omega)
  rw [show Fl.isN 0=false from by decide +kernel] at h
  exact h
 have F:∀ (w:World),Calls Tryz.prog 175 #[.float .f64 4607182418800017408] w fun e w'=>e=.returned (.bool false)∧w=w':=fun w=>by
  have h:=Fl.isnan_any 4607182418800017408 w (by omega)
  rw [show Fl.isN 4607182418800017408=false from by decide +kernel] at h
  exact h
 go_enter Tryz.func118,Tryz.ntmps118
 go_wp2_with fail
 refine (nan_q _).mono ?_
 rintro e u ⟨rfl,rfl⟩
 go_wp2_with fail
 refine (z _).mono ?_
 rintro e u ⟨rfl,rfl⟩
 go_wp2_with fail
 refine (F _).mono ?_
 rintro e u ⟨rfl,rfl⟩
 go_wp2_with fail
 go_ret
 exact ⟨rfl,rfl⟩
theorem ccheck_q (w:World) :
  Calls Tryz.prog 55 #[.agg #[.int .i64 4,.int .i64 1,.int .u64 100,.int .u64 1000,.int .u64 50,.int .u64 200,.float .f64 4598175219545276416]] w fun e w'=>e=.returned (.int .i64 0)∧Below w.heap.size w w':=by
 have u:∀ (w:World) (h:Array TypeId) (t:TypeId),(Builtin.max_ h t #[.int .u64 100,.int .u64 1000,.int .u64 50,.int .u64 200]).run Tryz.prog w=.ok (.int .u64 1000) w:=by
  intro w h t
  simp [Builtin.max_,Builtin.max2]
 go_enter Tryz.func55,Tryz.ntmps55
 go_wp2_with fail
 refine (check_q _).mono ?_
 rintro e z ⟨rfl,rfl⟩
 go_wp2_with fail
 go_ret
 exact ⟨rfl,(RowKit.Below.refl _ _).alloc (Nat.le_refl _) _⟩
end Go.Proofs.YtoiklelghfckgaaGreatDoor.Ff
namespace Go.Proofs.YtoiklelghfckgaaGreatDoor.Fl
open Go.ChangeShapes Go.WideShapes Go.ChangeAt Go.RowKit Rw Ck
def pl (x:Nat):Nat:=if isN x then 18446744073709551615 else if SG≤x then 18446744073709551615 - x else x+SG
theorem and63 (x:Nat):x &&& 2 ^ 63=(x.testBit 63).toNat * 2 ^ 63:=by
 apply Nat.eq_of_testBit_eq
 intro i
 rw [Nat.testBit_and,Nat.testBit_two_pow]
 by_cases h:63=i
 ·subst h
  cases hx:x.testBit 63
  ·simp
  ·decide
 ·cases hx:x.testBit 63
  ·simp [h]
  ·simp only [h,decide_false,Bool.and_false,Bool.toNat_true,Nat.one_mul]
   rw [Nat.testBit_two_pow]; simp [h]
end Go.Proofs.YtoiklelghfckgaaGreatDoor.Fl
namespace Go.Proofs.YtoiklelghfckgaaGreatDoor.Fl
open Go.ChangeShapes Go.WideShapes Go.ChangeAt Go.RowKit Rw Ck Ieee
section
variable {x y:Nat} (hx:x < 18446744073709551616) (hy:y < 18446744073709551616)
include hx hy
theorem o_gt:(FloatKind.f64.format.order x y == some Ordering.gt)=(!(isN x || isN y) && decide (Ko y < Ko x)):=by
 rw [format_eq,order_eq hx hy]
 cases isN x || isN y
 ·rw [if_neg (by decide),cmp_gt]; rfl
 ·rfl
theorem o_lt:(FloatKind.f64.format.order x y == some Ordering.lt)=(!(isN x || isN y) && decide (Ko x < Ko y)):=by
 rw [format_eq,order_eq hx hy]
 cases isN x || isN y
 ·rw [if_neg (by decide),cmp_lt]; rfl
 ·rfl
end
end Go.Proofs.YtoiklelghfckgaaGreatDoor.Fl
namespace Go.Proofs.YtoiklelghfckgaaGreatDoor.Ff
open Go.ChangeShapes Go.WideShapes Go.ChangeAt Go.RowKit Rw Go.Shelf Go.Sort
def pk (a b c p:Int):Int × Int:=if a≤b / 10 * 10 then (b / 10,-(p - 1)) else if a < b then (c,-p) else (a,-p)
end Go.Proofs.YtoiklelghfckgaaGreatDoor.Ff
namespace Go.Proofs.YtoiklelghfckgaaGreatDoor.Ff
open Go.ChangeShapes Go.WideShapes Go.ChangeAt Go.RowKit Go.Deep Rw Go.Shelf Go.Sort
theorem Ap.alloc {base z:Nat} {u:List Int} {F:World} {l:List Int} {A:Option Addr} {n c:Nat} {w:World} (h:Ap base z u F l A n c w) (o:Obj):Ap base z u F l A n c (w.alloc o):=
 ⟨h.own.alloc _,h.ne,by have:=h.lt; simp; omega,fun j x hx=>alloc_cell (h.dig j x hx) _,h.bel.alloc h.bs _,by have:=h.bs; simp; omega,h.few⟩
section
variable {ops:Array Oper} {rest:List Oper} {o:Oper} {a:Act} {Q:Exit→Act→World→Prop}
end
def sg (neg:Bool):List Int:=if neg=true then [45] else []
def f0 (neg:Bool):List Int:=sg neg ++ [48]
def ex (nd:Nat) (dp:Int):Int:=if nd=0 then 0 else dp - 1
def es (X:Int):Int:=if X < 0 then 45 else 43
def en (k:Nat):List Int:=if k < 10 then [48,(k:Int)+48] else if k < 100 then [(k / 10:Nat)+48,(k % 10:Nat)+48] else [(k / 100:Nat)+48,(k / 10 % 10:Nat)+48,(k % 10:Nat)+48]
end Go.Proofs.YtoiklelghfckgaaGreatDoor.Ff
namespace Go.Proofs.YtoiklelghfckgaaGreatDoor.Fl
open Go.ChangeShapes Go.WideShapes Go.ChangeAt Go.RowKit Rw Ck
def ck (x y z:Nat):Int:=if isN x=true∨isN y=true∨isN z=true then 3 else if Ko x < Ko y∨Ko z < Ko x then 2 else 0
theorem check_any (x y z:Nat) (w:World) (hx:x < 18446744073709551616) (hy:y < 18446744073709551616) (Y:z < 18446744073709551616):Calls Tryz.prog 118 #[.float .f64 x,.float .f64 y,.float .f64 z] w fun e w'=>e=.returned (.int .i64 (ck x y z))∧w=w':=by
 have F:=o_lt hx hy
 have u:=o_gt hx Y
 have sx:=ord_self hx
 have sy:=ord_self hy
 have sz:=ord_self Y
 have G:=Lh hx
 have I:=Lh hy
 have J:=Lh Y
 clear hx hy Y
 cases nx:isN x with
 | true=>
  have e:ck x y z=3:=by unfold ck; rw [if_pos (.inl nx)]
  rw [e]
  rw [nx] at sx
  clear e F u sy sz
  go_enter Tryz.func118,Tryz.ntmps118
  go_wp2_with fail
  refine (isnan_any x _ G.out).mono ?_
  rintro e w' ⟨rfl,rfl⟩
  rw [nx]
  go_wp2_with fail
  go_ret
  exact ⟨rfl,rfl⟩
 | false=>
  rw [nx] at sx
  cases ny:isN y with
  | true=>
   have e:ck x y z=3:=by unfold ck; rw [if_pos (.inr (.inl ny))]
   rw [e]
   rw [ny] at sy
   clear e F u sz
   go_enter Tryz.func118,Tryz.ntmps118
   go_wp2_with fail
   refine (isnan_any x _ G.out).mono ?_
   rintro e w' ⟨rfl,rfl⟩
   rw [nx]
   go_wp2_with fail
   refine (isnan_any y _ I.out).mono ?_
   rintro e w' ⟨rfl,rfl⟩
   rw [ny]
   go_wp2_with fail
   go_ret
   exact ⟨rfl,rfl⟩
  | false=>
   rw [ny] at sy
   cases nz:isN z with
   | true=>
    have e:ck x y z=3:=by unfold ck; rw [if_pos (.inr (.inr nz))]
    rw [e]
    rw [nz] at sz
    clear e F u
    go_enter Tryz.func118,Tryz.ntmps118
    go_wp2_with fail
    refine (isnan_any x _ G.out).mono ?_
    rintro e w' ⟨rfl,rfl⟩
    rw [nx]
    go_wp2_with fail
    refine (isnan_any y _ I.out).mono ?_
    rintro e w' ⟨rfl,rfl⟩
    rw [ny]
    go_wp2_with fail
    refine (isnan_any z _ J.out).mono ?_
    rintro e w' ⟨rfl,rfl⟩
    rw [nz]
    go_wp2_with fail
    go_ret
    exact ⟨rfl,rfl⟩
   | false=>
    rw [nz] at sz
    rw [nx,ny] at F
    rw [nx,nz] at u
    have W:ck x y z=if Ko x < Ko y∨Ko z < Ko x then 2 else 0:=by unfold ck; rw [if_neg (by rw [nx,ny,nz]; decide)]
    rw [W]
    by_cases h1:Ko x < Ko y
    ·have e1:(FloatKind.f64.format.order x y == some Ordering.lt)=true:=by rw [F,decide_eq_true h1]; rfl
     rw [if_pos (.inl h1)]
     clear W F u h1
     go_enter Tryz.func118,Tryz.ntmps118
     go_wp2_with fail
     refine (isnan_any x _ G.out).mono ?_
     rintro e w' ⟨rfl,rfl⟩
     rw [nx]
     go_wp2_with fail
     refine (isnan_any y _ I.out).mono ?_
     rintro e w' ⟨rfl,rfl⟩
     rw [ny]
     go_wp2_with fail
     refine (isnan_any z _ J.out).mono ?_
     rintro e w' ⟨rfl,rfl⟩
     rw [nz]
     go_wp2_with fail
     go_ret
     exact ⟨rfl,rfl⟩
    ·have e1:(FloatKind.f64.format.order x y == some Ordering.lt)=false:=by rw [F,decide_eq_false h1]; rfl
     by_cases h2:Ko z < Ko x
     ·have e2:(FloatKind.f64.format.order x z == some Ordering.gt)=true:=by rw [u,decide_eq_true h2]; rfl
      rw [if_pos (.inr h2)]
      clear W F u h1 h2
      go_enter Tryz.func118,Tryz.ntmps118
      go_wp2_with fail
      refine (isnan_any x _ G.out).mono ?_
      rintro e w' ⟨rfl,rfl⟩
      rw [nx]
      go_wp2_with fail
      refine (isnan_any y _ I.out).mono ?_
      rintro e w' ⟨rfl,rfl⟩
      rw [ny]
      go_wp2_with fail
      refine (isnan_any z _ J.out).mono ?_
      rintro e w' ⟨rfl,rfl⟩
      rw [nz]
      go_wp2_with fail
      go_ret
      exact ⟨rfl,rfl⟩
     ·have e2:(FloatKind.f64.format.order x z == some Ordering.gt)=false:=by rw [u,decide_eq_false h2]; rfl
      rw [if_neg (by rintro (h | h); exact h1 h; exact h2 h)]
      clear W F u h1 h2
      go_enter Tryz.func118,Tryz.ntmps118
      go_wp2_with fail
      refine (isnan_any x _ G.out).mono ?_
      rintro e w' ⟨rfl,rfl⟩
      rw [nx]
      go_wp2_with fail
      refine (isnan_any y _ I.out).mono ?_
      rintro e w' ⟨rfl,rfl⟩
      rw [ny]
      go_wp2_with fail
      refine (isnan_any z _ J.out).mono ?_
      rintro e w' ⟨rfl,rfl⟩
      rw [nz]
      go_wp2_with fail
      go_ret
      exact ⟨rfl,rfl⟩
theorem rcheck_any (x y z:Nat) (w:World) (hx:x < 18446744073709551616) (hy:y < 18446744073709551616) (I:z < 18446744073709551616):Calls Tryz.prog 126 #[.float .f64 x,.float .f64 y,.float .f64 z] w fun e w'=>e=.returned (.int .i64 (ck x y z))∧w=w':=by
 have F:=o_lt hx hy
 have u:=o_lt I hx
 have Y:=ord_self hx
 have W:=ord_self hy
 have J:=ord_self I
 have HX:=Lh hx
 have HY:=Lh hy
 have HZ:=Lh I
 clear hx hy I
 cases nx:isN x with
 | true=>
  have e:ck x y z=3:=by unfold ck; rw [if_pos (.inl nx)]
  rw [e]
  rw [nx] at Y
  clear e F u W J
  go_enter Tryz.func126,Tryz.ntmps126
  go_wp2_with fail
  go_ret
  exact ⟨rfl,rfl⟩
 | false=>
  rw [nx] at Y
  cases ny:isN y with
  | true=>
   have e:ck x y z=3:=by unfold ck; rw [if_pos (.inr (.inl ny))]
   rw [e]
   rw [ny] at W
   clear e F u J
   go_enter Tryz.func126,Tryz.ntmps126
   go_wp2_with fail
   go_ret
   exact ⟨rfl,rfl⟩
  | false=>
   rw [ny] at W
   cases nz:isN z with
   | true=>
    have e:ck x y z=3:=by unfold ck; rw [if_pos (.inr (.inr nz))]
    rw [e]
    rw [nz] at J
    clear e F u
    go_enter Tryz.func126,Tryz.ntmps126
    go_wp2_with fail
    go_ret
    exact ⟨rfl,rfl⟩
   | false=>
    rw [nz] at J
    rw [nx,ny] at F
    rw [nz,nx] at u
    have G:ck x y z=if Ko x < Ko y∨Ko z < Ko x then 2 else 0:=by unfold ck; rw [if_neg (by rw [nx,ny,nz]; decide)]
    rw [G]
    by_cases h1:Ko x < Ko y
    ·have e1:(FloatKind.f64.format.order x y == some Ordering.lt)=true:=by rw [F,decide_eq_true h1]; rfl
     rw [if_pos (.inl h1)]
     clear G F u h1
     go_enter Tryz.func126,Tryz.ntmps126
     go_wp2_with fail
     go_ret
     exact ⟨rfl,rfl⟩
    ·have e1:(FloatKind.f64.format.order x y == some Ordering.lt)=false:=by rw [F,decide_eq_false h1]; rfl
     by_cases h2:Ko z < Ko x
     ·have e2:(FloatKind.f64.format.order z x == some Ordering.lt)=true:=by rw [u,decide_eq_true h2]; rfl
      rw [if_pos (.inr h2)]
      clear G F u h1 h2
      go_enter Tryz.func126,Tryz.ntmps126
      go_wp2_with fail
      go_ret
      exact ⟨rfl,rfl⟩
     ·have e2:(FloatKind.f64.format.order z x == some Ordering.lt)=false:=by rw [u,decide_eq_false h2]; rfl
      rw [if_neg (by rintro (h | h); exact h1 h; exact h2 h)]
      clear G F u h1 h2
      go_enter Tryz.func126,Tryz.ntmps126
      go_wp2_with fail
      go_ret
      exact ⟨rfl,rfl⟩
end Go.Proofs.YtoiklelghfckgaaGreatDoor.Fl
namespace Go.Proofs.YtoiklelghfckgaaGreatDoor.Cn
open Go Go.ChangeShapes Go.WideShapes Go.ChangeAt Go.RowKit Rw
structure Cf where
 max:Int
 min:Int
 idle:Int
 life:Int
 keep:Int
 leak:Int
 var:Nat
abbrev U64 (k:Int):Prop:=0≤k∧k≤18446744073709551615
structure Cf.ok (c:Cf):Prop where
 idle:U64 c.idle
 life:U64 c.life
 keep:U64 c.keep
 leak:U64 c.leak
 var:c.var < 18446744073709551616
abbrev Cf.v (c:Cf):Value:=.agg #[.int .i64 c.max,.int .i64 c.min,.int .u64 c.idle,.int .u64 c.life,.int .u64 c.keep,.int .u64 c.leak,.float .f64 c.var]
def mx2 (a b:Int):Int:=if a < b then b else a
def Cf.hi (c:Cf):Int:=mx2 (mx2 (mx2 c.idle c.life) c.keep) c.leak
def hiE (M:Int) (v:Nat):Int:=if 1152921504606846976 < M then 2 else Fl.ck v 0 4607182418800017408
def cfE (c:Cf):Int:=if c.max < 1∨16 < c.max∨c.min < 0∨c.max < c.min then 2 else hiE c.hi c.var
theorem max_run (P:Program) (a b c d:Int) (w:World) (h:Array TypeId) (t:TypeId):(Builtin.max_ h t #[.int .u64 a,.int .u64 b,.int .u64 c,.int .u64 d]).run P w=.ok (.int .u64 (mx2 (mx2 (mx2 a b) c) d)) w:=by
 simp [Builtin.max_,Builtin.max2,mx2]
 rfl
theorem ccheck_any (c:Cf) (h:c.ok) (w:World) :
  Calls Tryz.prog 55 #[c.v] w fun e w'=>e=.returned (.int .i64 (cfE c))∧Below w.heap.size w w':=by
 obtain ⟨mx,u,F,I,G,lk,W⟩:=c
 have a0:=max_run Tryz.prog F I G lk
 have Y:=Lh (fun w=>Fl.check_any W 0 4607182418800017408 w h.var (by decide) (by decide))
 unfold cfE
 obtain ⟨M,z⟩:∃ M,mx2 (mx2 (mx2 F I) G) lk=M:=⟨_,rfl⟩
 have J:Cf.hi ⟨mx,u,F,I,G,lk,W⟩=M:=z
 rw [z] at a0
 simp only [J]
 clear h z J
 by_cases h1:mx < 1
 ·have q1:decide (mx < 1)=true:=decide_eq_true h1
  rw [if_pos (.inl h1)]
  clear h1
  go_enter Tryz.func55,Tryz.ntmps55
  go_wp2_with fail
  go_ret
  exact ⟨rfl,(Below.refl _ _).alloc (Nat.le_refl _) _⟩
 have q1:decide (mx < 1)=false:=decide_eq_false h1
 by_cases h2:16 < mx
 ·have q2:decide (16 < mx)=true:=decide_eq_true h2
  rw [if_pos (.inr (.inl h2))]
  clear h1 h2
  go_enter Tryz.func55,Tryz.ntmps55
  go_wp2_with fail
  go_ret
  exact ⟨rfl,(Below.refl _ _).alloc (Nat.le_refl _) _⟩
 have q2:decide (16 < mx)=false:=decide_eq_false h2
 by_cases h3:u < 0
 ·have q3:decide (u < 0)=true:=decide_eq_true h3
  rw [if_pos (.inr (.inr (.inl h3)))]
  clear h1 h2 h3
  go_enter Tryz.func55,Tryz.ntmps55
  go_wp2_with fail
  go_ret
  exact ⟨rfl,(Below.refl _ _).alloc (Nat.le_refl _) _⟩
 have q3:decide (u < 0)=false:=decide_eq_false h3
 by_cases h4:mx < u
 ·have q4:decide (mx < u)=true:=decide_eq_true h4
  rw [if_pos (.inr (.inr (.inr h4)))]
  clear h1 h2 h3 h4
  go_enter Tryz.func55,Tryz.ntmps55
  go_wp2_with fail
  go_ret
  exact ⟨rfl,(Below.refl _ _).alloc (Nat.le_refl _) _⟩
 have q4:decide (mx < u)=false:=decide_eq_false h4
 rw [if_neg (by omega)]
 clear h1 h2 h3 h4
 unfold hiE
 by_cases h5:1152921504606846976 < M
 ·have q5:decide (1152921504606846976 < M)=true:=decide_eq_true h5
  rw [if_pos h5]
  clear h5
  go_enter Tryz.func55,Tryz.ntmps55
  go_wp2_with fail
  go_ret
  exact ⟨rfl,(Below.refl _ _).alloc (Nat.le_refl _) _⟩
 have q5:decide (1152921504606846976 < M)=false:=decide_eq_false h5
 rw [if_neg h5]
 clear h5
 go_enter Tryz.func55,Tryz.ntmps55
 go_wp2_with fail
 refine (Y.out _).mono ?_
 rintro e w1 ⟨rfl,rfl⟩
 go_wp2_with fail
 go_ret
 exact ⟨rfl,(Below.refl _ _).alloc (Nat.le_refl _) _⟩
end Go.Proofs.YtoiklelghfckgaaGreatDoor.Cn
