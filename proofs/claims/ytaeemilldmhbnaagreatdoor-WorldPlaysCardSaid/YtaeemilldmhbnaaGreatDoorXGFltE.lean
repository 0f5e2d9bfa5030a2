/- A part of the claim: the texts Tabs FltE ShareMath RatioB FltF RatioC RatioD FltH FltI RatioE ConfCheck. -/
import Derived.Test.YtaeemilldmhbnaaGreatDoorXBase3
import Derived.Test.YtaeemilldmhbnaaGreatDoorXGFlt
import Derived.Test.YtaeemilldmhbnaaGreatDoorXBase2
import Derived.Lib.LaidU8
import GoSem.PinnedTables
import Derived.Laws.MakeOwn
import Derived.Laws.Bits64b
import Derived.Deep.CutRange
import Derived.Deep.CutBlock
set_option maxRecDepth 100000
set_option maxHeartbeats 8000000
set_option linter.unusedVariables false
namespace Go.Proofs.YtaeemilldmhbnaaGreatDoor.Tb
open Go.ChangeShapes Go.WideShapes Go.ChangeAt Go.RowKit Rw
set_option maxRecDepth 100000
def hiT (i:Nat):Nat:=(Pinned.pow10Rows.getD i (0,0)).1
def loT (i:Nat):Nat:=(Pinned.pow10Rows.getD i (0,0)).2
theorem rows_ok:(Pinned.pow10Rows.all fun x=>decide (x.1 < 18446744073709551616) && decide (x.2 < 18446744073709551616))=true:=by kernel_rfl
theorem pow_of_reads {w:World} (h4:Lib.VarReads Tryz.prog w "internal/strconv.pow10Tab" Pinned.pow10Tab):Ff.Pw hiT loT w:=by
 intro i hi
 obtain ⟨g,t,cs,a2,p,z,a1,a0,hd⟩:=h4
 obtain rfl:=Option.some.inj ((show Tryz.prog.globalNamed "internal/strconv.pow10Tab" = some 7 by kernel_rfl).symm.trans z)
 obtain rfl:=Option.some.inj ((show (Tryz.prog.globals[7]?).map (·.type)=some 413 by kernel_rfl).symm.trans a1)
 obtain ⟨a3,d,q,J,N⟩:=Lib.array_elem Tryz.underlying413 hd i hi
 rw [List.getElem?_map] at J
 obtain ⟨x,hx,rfl⟩:=Option.map_eq_some_iff.1 J
 have c2:Tryz.prog.cellsOf 412=2:=by kernel_rfl
 have c1:Tryz.prog.cellsOf 22=1:=by kernel_rfl
 rw [c2] at N
 have I:=Lib.ints_of_struct (k:=.u64) (zs:=[(x.1:Int),(x.2:Int)]) Tryz.underlying412 (fun j f h=>by
  match j,h with
  | 0,h=>simp at h; subst h; exact ⟨Tryz.underlying22,rfl,c1⟩
  | 1,h=>simp at h; subst h; exact ⟨Tryz.underlying22,rfl,c1⟩
  | j+2,h=>simp at h) (by rw [c2]; rfl) N
 have F:=congrArg (·[0]?) I
 have G:=congrArg (·[1]?) I
 simp only [List.getElem?_take,List.getElem?_drop] at F G
 have u:=List.all_eq_true.1 rows_ok x (List.mem_of_getElem? hx)
 simp only [Bool.and_eq_true,decide_eq_true_eq] at u
 have W:hiT i=x.1:=by unfold hiT; rw [List.getD_eq_getElem?_getD,hx]; rfl
 have Y:loT i=x.2:=by unfold loT; rw [List.getD_eq_getElem?_getD,hx]; rfl
 have q0:w.cell? ⟨7,i * 2,none⟩=some (.int .u64 (hiT i)):=by
  rw [World.var?_cell z a0 (i * 2),← Array.getElem?_toList,W]
  simpa using F
 have q1:w.cell? ⟨7,i * 2+1,none⟩=some (.int .u64 (loT i)):=by
  rw [World.var?_cell z a0 (i * 2+1),← Array.getElem?_toList,Y]
  simpa using G
 exact ⟨by rw [W]; exact u.1,by rw [Y]; exact u.2,Lw.lt_heap q0,q0,q1⟩
theorem tab_of_reads {w:World} (h:Lib.VarReads Tryz.prog w "internal/strconv.uint64pow10" (Lib.tabData .u64 Lib.pow10Tab)):Tx.Tab w:=by
 obtain ⟨g,t,cs,I,p,z,F,G,u⟩:=h
 obtain rfl:=Option.some.inj ((show Tryz.prog.globalNamed "internal/strconv.uint64pow10" = some 2 by kernel_rfl).symm.trans z)
 obtain rfl:=Option.some.inj ((show (Tryz.prog.globals[2]?).map (·.type)=some 374 by kernel_rfl).symm.trans F)
 unfold Tx.Tab Lib.TabIs
 rw [G,← Lib.cells_of_tab Tryz.underlying374 Tryz.underlying22 (by kernel_rfl) (by kernel_rfl) u]
def keyT:List (List UInt8):=[[109,97,120,61],[109,105,110,61],[105,100,108,101,61],[108,105,102,101,61],[107,101,101,112,61],[108,101,97,107,61],[118,97,114,105,97,110,99,101,61]]
def keyD:DataW Unit:=.agg (keyT.map fun s=>.lit (.string s))
def Keys (w:World):Prop:=∀ i s,keyT[i]? = some s→1 < w.heap.size∧w.cell? ⟨1,i,none⟩=some (.string (Tx.bts s))
theorem Keys.below {w w':World} (h:Keys w) (u:Below w.heap.size w w'):Keys w':=fun i s z=>by
 obtain ⟨a,b⟩:=h i s z
 exact ⟨Nat.lt_of_lt_of_le a u.size,(u.cell (p:=⟨1,i,none⟩) a).trans b⟩
theorem keys_of_reads {w:World} (h:Lib.VarReads Tryz.prog w "hackney/conf.keys" keyD):Keys w:=by
 intro i s J
 obtain ⟨g,t,cs,a2,p,I,a0,a1,Y⟩:=h
 obtain rfl:=Option.some.inj ((show Tryz.prog.globalNamed "hackney/conf.keys" = some 1 by kernel_rfl).symm.trans I)
 obtain rfl:=Option.some.inj ((show (Tryz.prog.globals[1]?).map (·.type)=some 340 by kernel_rfl).symm.trans a0)
 have hi:i < 7:=(List.getElem?_eq_some_iff.1 J).1
 obtain ⟨a3,d,q,z,G⟩:=Lib.array_elem Tryz.underlying340 Y i hi
 rw [List.getElem?_map,J] at z
 injection z with z
 subst z
 have c1:Tryz.prog.cellsOf 9=1:=by kernel_rfl
 rw [c1] at G
 obtain ⟨b,W,u,_⟩:=DataW.trod_string Tryz.underlying9 G
 injection u with u _
 injection u with u
 injection u with u
 have F:=congrArg (·[0]?) W
 simp only [List.getElem?_take,List.getElem?_drop] at F
 have N:w.cell? ⟨1,i,none⟩=some (.string (Tx.bts s)):=by
  rw [World.var?_cell I a1 i,← Array.getElem?_toList]
  have:Tx.bts s=b:=by unfold Tx.bts; rw [u]
  rw [this]
  simpa using F
 exact ⟨Lw.lt_heap N,N⟩
structure Tabs (w:World):Prop where
 tab:Tx.Tab w
 pow:Ff.Pw hiT loT w
 keys:Keys w
theorem Tabs.below {w w':World} (h:Tabs w) (u:Below w.heap.size w w'):Tabs w':=⟨h.tab.below u,h.pow.below u,h.keys.below u⟩
theorem tabs_of {l:List (String × DataW Unit)} {W:World} (h:laidMet Tryz.prog l W) (u:("internal/strconv.uint64pow10",Lib.tabData .u64 Lib.pow10Tab)∈l) (z:("internal/strconv.pow10Tab",Pinned.pow10Tab)∈l) (F:("hackney/conf.keys",keyD)∈l):Tabs W:=
 ⟨tab_of_reads (Lib.laidMet.reads h u),pow_of_reads (Lib.laidMet.reads h z),keys_of_reads (Lib.laidMet.reads h F)⟩
end Go.Proofs.YtaeemilldmhbnaaGreatDoor.Tb
namespace Go.Proofs.YtaeemilldmhbnaaGreatDoor.Ff
open Go.ChangeShapes Go.WideShapes Go.ChangeAt Go.RowKit Rw Go.Shelf Go.Sort
theorem sbits_run (w:World) (x:Nat):(callFunc 319 #[.float .f64 x]).run Tryz.prog w=.ok (.value (.int .u64 x)) w:=by
 rw [run_callFunc_extern Tryz.func319 (by kernel_rfl) (by kernel_rfl) (by kernel_rfl) (e:=Extern.MathFloatBits.float64bits) (by kernel_rfl)]
 rfl
theorem len_q (w:World):Calls Tryz.prog 249 #[.int .u64 4503599627370496] w fun e w'=>e=.returned (.int .i64 53)∧w=w':=by
 go_enter Tryz.func249,Tryz.ntmps249
 go_wp2
 refine bodyPost_ret (v:=.int .i64 53) ?_ rfl ⟨rfl,rfl⟩
 simp [results,Tryz.results249,go_sem]
 decide +kernel
theorem tl_q:tl Tb.hiT Tb.loT 9223372036854775808 (-65) 9223372036854775296 9223372036854776832 0 17=(2500000000000000,-16):=by decide +kernel
theorem short_q (w:World) (u:Pw Tb.hiT Tb.loT w) :
  Calls Tryz.prog 329 #[.int .u64 9223372036854775808,.int .i64 (-65)] w fun e w'=>e=.returned (.tuple #[.int .u64 2500000000000000,.int .i64 (-16)])∧Below w.heap.size w w':=by
 have h:=shortA Tb.hiT Tb.loT 9223372036854775808 (-65) w u (by omega) (by omega) (by omega) (by decide) (by decide) 17 0 9223372036854775296 9223372036854776832 (by decide) (by decide) (by decide) (by decide +kernel) (by omega) (by omega)
 rw [tl_q] at h
 exact h
theorem nd_q:Lib.nDigits 2500000000000000=16:=by simp [Lib.nDigits]
theorem dd_q:Lib.decDigits 2500000000000000=[50,53,48,48,48,48,48,48,48,48,48,48,48,48,48,48]:=by simp [Lib.decDigits]
theorem trl_q:trl (Lib.decDigits 2500000000000000) 16=2:=by rw [dd_q]; decide +kernel
theorem setDigits_q (h:Nat) (w:World) (z:∀ j,j < 32→w.cell? ⟨h,j,none⟩=some (.int .u8 0)∧w.frozen? ⟨h,j,none⟩=false) :
  Calls Tryz.prog 324 #[.slice (some ⟨h,0,none⟩) 32 32,.int .u64 2500000000000000,.int .i64 (-16),.int .i64 16] w fun e w'=>e=.returned (.tuple #[.int .i64 0,.int .i64 2]) ∧
   (∀ j x,(Lib.decDigits 2500000000000000)[j]? = some x→w'.cell? ⟨h,j,none⟩=some (e8 x))∧w.grownBy w' (some h):=by
 have u:=setDigits_any h 2500000000000000 (-16) w z (by omega) (by omega) (by omega) 16 nd_q
 rw [trl_q] at u
 exact u
theorem numDigits_q (w:World) (u:Tx.Tab w):Calls Tryz.prog 296 #[.int .u64 2500000000000000] w fun e w'=>e=.returned (.int .i64 16)∧w=w':=by
 have h:=Any.internal_strconv_numDigits (P:=Tryz.prog) (ρ:=Tx.txRen) { Tx.txItoa with } 2500000000000000 (by omega) (by omega) w u
 rw [nd_q] at h
 exact h.mono fun e w' ⟨a,b⟩=>⟨a,b.symm⟩
theorem ftoa_q (base:Nat) (W w:World) (A:Option Addr) (c:Nat) (a1:w.ownsRow base 5 1 (.slice A 0 c) 0 []) (a7:Below base W w) (ag:base≤w.heap.size) (hT:Tb.Tabs w) :
  Calls Tryz.prog 311 #[.slice A 0 c,.float .f64 4598175219545276416,.int .u8 103,.int .i64 (-1)] w fun e w'=>∃ A' c' hb ds,e=.returned (.slice A' 4 c')∧Ap base hb ds W [48,46,50,53] A' 4 c' w':=by
 have sb:=fun w=>sbits_run w 4598175219545276416
 have HT:=Lh hT
 have I:=Lh a1
 have HB:=Lh a7
 have aj:=a1.lt
 clear hT a1 a7
 go_enter Tryz.func311,Tryz.ntmps311
 go_wp2_with fail
 go_quiet (fail)
 go_wp2_with fail
 refine (len_q _).mono ?_
 rintro e w1 ⟨rfl,rfl⟩
 go_wp2_with fail
 rw [show IntKind.u64.wrap (bits BinOp.or IntKind.u64 (bits BinOp.and IntKind.u64 4598175219545276416 4503599627370495) 4503599627370496 * 2048)=9223372036854775808 from by decide +kernel,
  show wrap64 (wrap64 (wrap64 (bits BinOp.and IntKind.i64 1021 2047 + -1023) - 11) - 52) = -65 from by decide +kernel]
 generalize a5:(w.drewN nq).alloc (.cells zeros32 387)=J
 have F:=a5.symm
 clear a5
 have a8:Below w.heap.size w J:=by rw [F]; exact (Rw.below_drewN (RowKit.Below.refl _ _) nq).alloc (by simp) _
 have hz:∀ j,j < 32→J.cell? ⟨w.heap.size,j,none⟩=some (.int .u8 0)∧J.frozen? ⟨w.heap.size,j,none⟩=false:=fun j hj=>by
  rw [F]
  refine ⟨?_,?_⟩
  ·have:w.heap.size=(w.drewN nq).heap.size:=rfl
   rw [this,World.cell?_alloc_new]; exact zeros32_at j hj
  ·have:w.heap.size=(w.drewN nq).heap.size:=rfl
   rw [this]; exact World.frozen?_alloc_new _ _ _ _
 have ak:J.heap.size=w.heap.size+1:=by rw [F]; simp
 have a2:=Lh a8
 have HZ:=Lh hz
 have HW:=Lh F
 clear a8 hz F
 refine (short_q _ (HT.out.pow.below a2.out)).mono ?_
 rintro e u ⟨rfl,G⟩
 have al:=G.size
 have ac:∀ j,j < 32→u.cell? ⟨w.heap.size,j,none⟩=some (.int .u8 0)∧u.frozen? ⟨w.heap.size,j,none⟩=false:=fun j hj=>by
  obtain ⟨a,b⟩:=HZ.out j hj
  exact ⟨(G.cell (p:=⟨w.heap.size,j,none⟩) (by show w.heap.size < _; omega)).trans a,(G.frozen (p:=⟨w.heap.size,j,none⟩) (by show w.heap.size < _; omega)).trans b⟩
 have a3:=Lh ac
 have Y:=Lh (a2.out.trans (G.mono (by omega)))
 clear ac G HZ
 go_wp2_with fail
 refine reg_start 11 (fun _=>Hid True) (by kernel_rfl) (by kernel_rfl) ?_
 intro a4
 have z:=Lh a4
 clear a4
 refine reg_pure 0 z.out rfl (by kernel_rfl) (fun _ _ _ _ h=>h) (fun _=>Lh trivial) rfl ?_
 apply Exists.intro
 refine ⟨fun w'=>by (go_simp; exact rfl),?_⟩
 refine reg_pure 1 z.out rfl (by kernel_rfl) (fun _ _ _ _ h=>h) (fun _=>Lh trivial) rfl ?_
 apply Exists.intro
 refine ⟨fun w'=>by (go_simp; exact rfl),?_⟩
 refine reg_pure 2 z.out rfl (by kernel_rfl) (fun _ _ _ _ h=>h) (fun _=>Lh trivial) rfl ?_
 apply Exists.intro
 refine ⟨fun w'=>by (go_simp; exact rfl),?_⟩
 refine reg_pure 3 z.out rfl (by kernel_rfl) (fun _ _ _ _ h=>h) (fun _=>Lh trivial) rfl ?_
 apply Exists.intro
 refine ⟨fun w'=>by (go_simp; exact rfl),?_⟩
 refine reg_only 4 rfl (by kernel_rfl) rfl ?_
 unfold Oper.wp
 go_simp
 refine (numDigits_q u.drew (show Tx.Tab u.drew from HT.out.tab.below Y.out.drew)).mono ?_
 rintro e W3 ⟨rfl,rfl⟩
 refine ⟨Lh trivial,?_⟩
 refine reg_only 5 rfl (by kernel_rfl) rfl ?_
 unfold Oper.wp
 go_simp
 refine (setDigits_q w.heap.size u.drew a3.out).mono ?_
 rintro e W4 ⟨rfl,a9,aa⟩
 have ae:=Lh a9
 have a0:=Lh aa
 clear a9 aa a3
 refine ⟨Lh trivial,?_⟩
 refine reg_pure 6 z.out rfl (by kernel_rfl) (fun _ _ _ _ h=>h) (fun _=>Lh trivial) rfl ?_
 apply Exists.intro
 refine ⟨fun w'=>by (go_simp; exact rfl),?_⟩
 refine reg_pure 7 z.out rfl (by kernel_rfl) (fun _ _ _ _ h=>h) (fun _=>Lh trivial) rfl ?_
 apply Exists.intro
 refine ⟨fun w'=>by (go_simp; exact rfl),?_⟩
 refine reg_pure 8 z.out rfl (by kernel_rfl) (fun _ _ _ _ h=>h) (fun _=>Lh trivial) rfl ?_
 apply Exists.intro
 refine ⟨fun w'=>by (go_simp; exact rfl),?_⟩
 refine reg_pure 9 z.out rfl (by kernel_rfl) (fun _ _ _ _ h=>h) (fun _=>Lh trivial) rfl ?_
 apply Exists.intro
 refine ⟨fun w'=>by (go_simp; exact rfl),?_⟩
 refine reg_pure 10 z.out rfl (by kernel_rfl) (fun _ _ _ _ h=>h) (fun _=>Lh trivial) rfl ?_
 apply Exists.intro
 refine ⟨fun w'=>by (go_simp; exact rfl),?_⟩
 refine reg_done (by kernel_rfl) ?_
 have ai:=a0.out.size
 simp at ai
 have a6:Ap base w.heap.size ((Lib.decDigits 2500000000000000).map (fun x=>(x.toNat:Int))) W [] A 0 c W4:=by
  have ah:W4.ownsRow base 5 1 (.slice A 0 c) 0 []:=by
   have h2:u.ownsRow base 5 1 (.slice A 0 c) 0 []:=Hi.own_same I.out (fun g N=>Y.out.block g (I.out.lt g N).2)
   have h3:u.drew.ownsRow base 5 1 (.slice A 0 c) 0 []:=h2
   refine h3.kept a0.out (Or.inr ?_)
   intro e
   have:=(I.out.lt _ e).2
   omega
  refine ⟨ah,?_,by omega,?_,?_,by omega,by omega⟩
  ·intro e
   have:=(I.out.lt _ e).2
   omega
  ·intro j x hx
   rw [List.getElem?_map] at hx
   obtain ⟨y,hy,rfl⟩:=Option.map_eq_some_iff.1 hx
   exact ae.out j y hy
  ·exact (HB.out.trans (Y.out.mono ag)).trans ((show Below base u u.drew from ((RowKit.Below.refl _ _).drew)).grown a0.out (by show base≤u.heap.size; omega) (fun g N=>by injection N with N; omega))
 have ad:=Lh a6
 clear a6
 go_wp2_with fail
 refine (efg_quarter base w.heap.size _ W W4 A c ad.out (by rw [dd_q]; rfl) (by rw [dd_q]; rfl)).mono ?_
 rintro e w5 ⟨A5,c5,rfl,af⟩
 go_wp2_with fail
 go_ret
 exact ⟨A5,c5,_,_,rfl,af⟩
end Go.Proofs.YtaeemilldmhbnaaGreatDoor.Ff
namespace Go.Proofs.YtaeemilldmhbnaaGreatDoor.Fl
open Ieee
def p2 (L:Nat):Nat:=double.nearest false 1 L
def cl (x:Nat):Nat:=if rg x=0 then 0 else x
end Go.Proofs.YtaeemilldmhbnaaGreatDoor.Fl
namespace Go.Proofs.YtaeemilldmhbnaaGreatDoor.Fl
open Go.ChangeShapes Go.WideShapes Go.ChangeAt Go.RowKit Rw Ck
theorem ord_self {x:Nat} (hx:x < 18446744073709551616):(FloatKind.f64.format.order x x != some Ordering.eq)=isN x:=by
 rw [format_eq,order_eq hx hx,Bool.or_self]
 cases isN x
 ·simp only [Bool.false_eq_true,if_false]
  have:compare (Ko x) (Ko x)=.eq:=by simp only [compare,compareOfLessAndEq]; simp
  rw [this]
  rfl
 ·rfl
theorem isnan_any (x:Nat) (w:World) (hx:x < 18446744073709551616):Calls Tryz.prog 173 #[.float .f64 x] w fun e w'=>e=.returned (.bool (isN x))∧w=w':=by
 have h:=ord_self hx
 generalize isN x=b at *
 go_enter Tryz.func173,Tryz.ntmps173
 go_wp2
 go_ret
 exact ⟨rfl,rfl⟩
def isI (x:Nat):Bool:=FloatKind.f64.format.order x 9218868437227405311 == some Ordering.gt
theorem isinf_any (x:Nat) (w:World):Calls Tryz.prog 250 #[.float .f64 x,.int .i64 1] w fun e w'=>e=.returned (.bool (isI x))∧w=w':=by
 go_enter Tryz.func250,Tryz.ntmps250
 go_wp2
 go_ret
 exact ⟨rfl,rfl⟩
end Go.Proofs.YtaeemilldmhbnaaGreatDoor.Fl
namespace Go.Proofs.YtaeemilldmhbnaaGreatDoor.Ff
open Go.ChangeShapes Go.WideShapes Go.ChangeAt Go.RowKit Rw Go.Shelf Go.Sort
theorem iformat_q (w:World) (J:Tb.Tabs w) :
  Calls Tryz.prog 299 #[.float .f64 4598175219545276416,.int .u8 103,.int .i64 (-1),.int .i64 64] w fun e w'=>e=.returned (.string (Tx.bts [48,46,50,53]))∧Below w.heap.size w w':=by
 have m1:max (3:Int) 24=24:=by decide
 obtain ⟨i0,hi,a2,a3,a4⟩:=info_parts info_u8
 obtain ⟨G,Y,a1,W⟩:=run_make_own (P:=Tryz.prog) w w.heap.size 80 5 i0 (.int .u8 0) 1 Tryz.underlying80 hi a2 a3 .i64 .i64 24 (by rw [a4]; omega) (by unfold maxLen; omega) (Nat.le_refl _)
 have a7:(Instr.makeSlice 80 (.int .i64 0) (.int .i64 24)).run Tryz.prog w=.ok (.slice (some ⟨w.heap.size,0,none⟩) 0 24) G:=Y
 clear Y
 have z:Below w.heap.size w G:=(RowKit.Below.refl _ w).grown W (Nat.le_refl _) (fun g hg=>by cases hg)
 have HT:=Lh (J.below z)
 have HR:=Lh a1
 have HB:=Lh z
 have a8:=z.size
 clear J a1 W z
 go_enter Tryz.func299,Tryz.ntmps299
 go_wp2_with fail
 refine (ftoa_q w.heap.size w G _ 24 HR.out HB.out (by omega) HT.out).mono ?_
 rintro e I ⟨A2,c2,hb,ds,rfl,F⟩
 have a0:=Rd.own_rd F.own
 obtain ⟨b,o,hA,a5,N⟩:=a0.at_ (by omega)
 subst hA
 have u:=Lh N
 have HA:=Lh F
 clear F N a0
 have a6:(convert 80 9 (.slice (some ⟨b,o,none⟩) 4 c2)).run Tryz.prog I=.ok (.string ⟨#[48,46,50,53]⟩) I:=by
  have h:=run_convert_bytes_back (P:=Tryz.prog) I 80 9 5 ⟨b,o,none⟩ c2 [48,46,50,53] Tryz.underlying80 Tryz.underlying5 Tryz.underlying9 (fun j hj=>by
   rw [Lib.add_plain]
   match j,hj with
   | 0,_=>exact u.out 0 48 rfl
   | 1,_=>exact u.out 1 46 rfl
   | 2,_=>exact u.out 2 50 rfl
   | 3,_=>exact u.out 3 53 rfl
   | j+4,h=>exact absurd h (by simp))
  exact h
 go_wp2_with fail
 go_ret
 exact ⟨rfl,HA.out.bel⟩
theorem format_q (w:World) (h:Tb.Tabs w) :
  Calls Tryz.prog 280 #[.float .f64 4598175219545276416,.int .u8 103,.int .i64 (-1),.int .i64 64] w fun e w'=>e=.returned (.string (Tx.bts [48,46,50,53]))∧Below w.heap.size w w':=by
 go_enter Tryz.func280,Tryz.ntmps280
 go_wp2_with fail
 refine (iformat_q _ h).mono ?_
 rintro e w' ⟨rfl,u⟩
 go_wp2_with fail
 go_ret
 exact ⟨rfl,u⟩
theorem nan_q (w:World):Calls Tryz.prog 173 #[.float .f64 4598175219545276416] w fun e w'=>e=.returned (.bool false)∧w=w':=by
 have h:(FloatKind.f64.format.order 4598175219545276416 4598175219545276416 == some Ordering.eq)=true:=by decide +kernel
 go_enter Tryz.func173,Tryz.ntmps173
 go_wp2
 go_ret
 exact ⟨rfl,rfl⟩
theorem inf_q1 (w:World):Calls Tryz.prog 250 #[.float .f64 4598175219545276416,.int .i64 1] w fun e w'=>e=.returned (.bool false)∧w=w':=by
 have h:=Fl.isinf_any 4598175219545276416 w
 rw [show Fl.isI 4598175219545276416=false from by decide +kernel] at h
 exact h
theorem inf_qm (w:World):Calls Tryz.prog 250 #[.float .f64 4598175219545276416,.int .i64 (-1)] w fun e w'=>e=.returned (.bool false)∧w=w':=by
 have h:(FloatKind.f64.format.order 13821547256400052224 9218868437227405311 == some Ordering.gt)=false:=by decide +kernel
 have u:∀ w,(Op.unary UnOp.neg (Value.float FloatKind.f64 4598175219545276416)).run Tryz.prog w=.ok (.float .f64 13821547256400052224) w:=fun w=>by kernel_rfl
 go_enter Tryz.func250,Tryz.ntmps250
 go_wp2
 go_ret
 exact ⟨rfl,rfl⟩
theorem clean_q (w:World):Calls Tryz.prog 270 #[.float .f64 4598175219545276416] w fun e w'=>e=.returned (.float .f64 4598175219545276416)∧w=w':=by
 have h:(FloatKind.f64.format.order 4598175219545276416 0 == some Ordering.eq)=false:=by decide +kernel
 go_enter Tryz.func270,Tryz.ntmps270
 go_wp2
 go_ret
 exact ⟨rfl,rfl⟩
theorem rtext_q (w:World) (u:Tb.Tabs w):Calls Tryz.prog 269 #[.float .f64 4598175219545276416] w fun e w'=>e=.returned (.string (Tx.bts [48,46,50,53]))∧Below w.heap.size w w':=by
 have z:=Lh u
 clear u
 go_enter Tryz.func269,Tryz.ntmps269
 go_wp2_with fail
 refine (nan_q _).mono ?_
 rintro e h ⟨rfl,rfl⟩
 go_wp2_with fail
 refine (inf_q1 _).mono ?_
 rintro e h ⟨rfl,rfl⟩
 go_wp2_with fail
 refine (inf_qm _).mono ?_
 rintro e h ⟨rfl,rfl⟩
 go_wp2_with fail
 refine (format_q _ z.out).mono ?_
 rintro e h ⟨rfl,F⟩
 go_wp2_with fail
 go_ret
 exact ⟨rfl,F⟩
theorem check_q (w:World):Calls Tryz.prog 103 #[.float .f64 4598175219545276416,.float .f64 0,.float .f64 4607182418800017408] w fun e w'=>e=.returned (.int .i64 0)∧w=w':=by
 have G:(FloatKind.f64.format.order 0 0 == some Ordering.eq)=true:=by decide +kernel
 have I:(FloatKind.f64.format.order 4607182418800017408 4607182418800017408 == some Ordering.eq)=true:=by decide +kernel
 have J:(FloatKind.f64.format.order 4598175219545276416 0 == some Ordering.lt)=false:=by decide +kernel
 have N:(FloatKind.f64.format.order 4598175219545276416 4607182418800017408 == some Ordering.gt)=false:=by decide +kernel
 have z:∀ (w:World),Calls Tryz.prog 173 #[.float .f64 0] w fun e w'=>e=.returned (.bool false)∧w=w':=fun w=>by
  have h:=Fl.isnan_any 0 w (by omega)
  rw [show Fl.isN 0=false from by decide +kernel] at h
  exact h
 have F:∀ (w:World),Calls Tryz.prog 173 #[.float .f64 4607182418800017408] w fun e w'=>e=.returned (.bool false)∧w=w':=fun w=>by
  have h:=Fl.isnan_any 4607182418800017408 w (by omega)
  rw [show Fl.isN 4607182418800017408=false from by decide +kernel] at h
  exact h
 go_enter Tryz.func103,Tryz.ntmps103
 go_wp2_with fail
 refine (nan_q _).mono ?_
 rintro e u ⟨rfl,rfl⟩
 go_wp2_with fail
 refine (z _).mono ?_
 rintro e u ⟨rfl,rfl⟩
 go_wp2_with fail
 refine (F _).mono ?_
 rintro e u ⟨rfl,rfl⟩
 go_wp2_with fail
 go_ret
 exact ⟨rfl,rfl⟩
theorem ccheck_q (w:World) :
  Calls Tryz.prog 31 #[.agg #[.int .i64 4,.int .i64 1,.int .u64 100,.int .u64 1000,.int .u64 50,.int .u64 200,.float .f64 4598175219545276416]] w fun e w'=>e=.returned (.int .i64 0)∧Below w.heap.size w w':=by
 have u:∀ (w:World) (h:Array TypeId) (t:TypeId),(Builtin.max_ h t #[.int .u64 100,.int .u64 1000,.int .u64 50,.int .u64 200]).run Tryz.prog w=.ok (.int .u64 1000) w:=by
  intro w h t
  simp [Builtin.max_,Builtin.max2]
 go_enter Tryz.func31,Tryz.ntmps31
 go_wp2_with fail
 refine (check_q _).mono ?_
 rintro e z ⟨rfl,rfl⟩
 go_wp2_with fail
 go_ret
 exact ⟨rfl,(RowKit.Below.refl _ _).alloc (Nat.le_refl _) _⟩
end Go.Proofs.YtaeemilldmhbnaaGreatDoor.Ff
namespace Go.Proofs.YtaeemilldmhbnaaGreatDoor.Fl
open Go.ChangeShapes Go.WideShapes Go.ChangeAt Go.RowKit Rw Ck
def pl (x:Nat):Nat:=if isN x then 18446744073709551615 else if SG≤x then 18446744073709551615 - x else x+SG
end Go.Proofs.YtaeemilldmhbnaaGreatDoor.Fl
namespace Go.Proofs.YtaeemilldmhbnaaGreatDoor.Fl
open Go.ChangeShapes Go.WideShapes Go.ChangeAt Go.RowKit Rw Ck Ieee
section
variable {x y:Nat} (hx:x < 18446744073709551616) (hy:y < 18446744073709551616)
include hx hy
theorem o_gt:(FloatKind.f64.format.order x y == some Ordering.gt)=(!(isN x || isN y) && decide (Ko y < Ko x)):=by
 rw [format_eq,order_eq hx hy]
 cases isN x || isN y
 ·rw [if_neg (by decide),cmp_gt]; rfl
 ·rfl
theorem o_lt:(FloatKind.f64.format.order x y == some Ordering.lt)=(!(isN x || isN y) && decide (Ko x < Ko y)):=by
 rw [format_eq,order_eq hx hy]
 cases isN x || isN y
 ·rw [if_neg (by decide),cmp_lt]; rfl
 ·rfl
theorem o_eq:(FloatKind.f64.format.order x y == some Ordering.eq)=(!(isN x || isN y) && decide (Ko x=Ko y)):=by
 rw [format_eq,order_eq hx hy]
 cases isN x || isN y
 ·rw [if_neg (by decide),cmp_eq]; rfl
 ·rfl
end
theorem tr_0:tr 0=0:=by
 show V 0 / 2 ^ Z=0
 rw [show V 0=0 from rfl]
 exact Nat.zero_div _
theorem whole_V {t:Nat} (W:0 < t) (h:t < 2 * B):∃ r,r < INF∧0 < r∧V r=t * 2 ^ Z:=by
 have hB:=B_is
 have hI:=INF_is
 have hl:t.log2≤52:=by
  have:t.log2 < 53:=by (rw [Nat.log2_lt (by omega)]; have:(2:Nat) ^ 53=2 * B:=by decide); omega
  omega
 have z:=pow_log W
 have F:=lt_log t
 obtain ⟨l,a0⟩:∃ l,t.log2=l:=⟨_,rfl⟩
 rw [a0] at hl z F
 obtain ⟨k,hk⟩:∃ k,52 - l=k:=⟨_,rfl⟩
 have I:B≤t * 2 ^ k:=by
  have e:B=2 ^ l * 2 ^ k:=by rw [← Nat.pow_add,show l+k=52 by omega]
  rw [e]; exact Nat.mul_le_mul_right _ z
 have J:t * 2 ^ k < 2 * B:=by
  have e:2 * B=2 ^ (l+1) * 2 ^ k:=by rw [← Nat.pow_add,show l+1+k=53 by omega]; decide
  rw [e]; exact Nat.mul_lt_mul_of_pos_right F (Nat.two_pow_pos _)
 obtain ⟨M,G⟩:∃ M,t * 2 ^ k=M:=⟨_,rfl⟩
 rw [G] at I J
 obtain ⟨a,ha⟩:∃ a,l+1022=a:=⟨_,rfl⟩
 have u:(a+1) * B=a * B+B:=Nat.succ_mul a B
 have e2:(a+1+1) * B=a * B+B+B:=(Nat.succ_mul (a+1) B).trans (by rw [u])
 have e3:a * B≤1074 * B:=Nat.mul_le_mul_right B (show a≤1074 by omega)
 have e4:B≤a * B:=by
  have:=Nat.mul_le_mul_right B (show 1≤a by omega)
  rw [Nat.one_mul] at this
  exact this
 have lo:(a+1) * B≤a * B+M:=Nat.le_trans (Nat.le_of_eq u) (Nat.add_le_add_left I _)
 have hi:a * B+M < (a+1+1) * B:=Nat.lt_of_lt_of_le (Nat.add_lt_add_left J (a * B)) (Nat.le_of_eq (Nat.add_mul a 2 B).symm)
 have N:(a * B+M) / B=a+1:=Nat.div_eq_of_lt_le lo hi
 have hr:(a * B+M) % B=M - B:=by
  have Y:=Nat.div_add_mod (a * B+M) B
  rw [N,Nat.mul_comm,u] at Y
  omega
 have hv:V (a * B+M)=(B+(M - B)) * 2 ^ (a+1 - 1):=by
  show (if a * B+M < B then _ else (B+(a * B+M) % B) * 2 ^ ((a * B+M) / B - 1))=_
  rw [if_neg (show ¬ a * B+M < B by omega),N,hr]
 refine ⟨a * B+M,by omega,by omega,?_⟩
 rw [hv,show B+(M - B)=M by omega,← G,Nat.mul_assoc,← Nat.pow_add,show k+(a+1 - 1)=Z by rw [Z_is]; omega]
theorem fl_of_V {t r:Nat} (h:V r=t * 2 ^ Z) (F:0 < t) (u:r≤INF) (z:0 < r):fl t=r:=by
 have e:fl t=rung 0 (t * 2 ^ Z):=if_neg (show ¬ t=0 by omega)
 rw [e,← h]
 exact rung_V u z
theorem fl_tr {y:Nat} (hy:y < INF):∃ r,fl (tr y)=r∧r≤y∧r < INF∧tr r=tr y:=by
 have iS:=INF_SG
 have a2:=SG_is
 have hI:=INF_is
 by_cases h0:tr y=0
 ·exact ⟨0,by rw [h0]; rfl,Nat.zero_le _,by omega,by rw [h0]; exact tr_0⟩
 ·have I:0 < tr y:=by omega
  have a1:0 < y:=by
   rcases Nat.eq_zero_or_pos y with e | e
   ·subst e; exact absurd tr_0 h0
   ·exact e
  obtain ⟨sx,z⟩:=sg_small (x:=y) (by omega)
  rcases read_eq (x:=y) (by omega) with ⟨-,m,e,ex,hi,a3,h,-,a4⟩ | ⟨u,-⟩ | ⟨u,-⟩
  ·rw [z] at h
   have F:∀ r,V r=tr y * 2 ^ Z→r≤INF→0 < r→r≤y → ∃ r,fl (tr y)=r∧r≤y∧r < INF∧tr r=tr y:=fun r G W Y h4=>
    ⟨r,fl_of_V G I W Y,h4,by omega,by show V r / 2 ^ Z=_; rw [G,Nat.mul_div_cancel _ (Nat.two_pow_pos _)]⟩
   by_cases he:0≤e
   ·refine F y ?_ (by omega) a1 (Nat.le_refl _)
    show V y=V y / 2 ^ Z * 2 ^ Z
    rw [← h,show (e+1074).toNat=e.toNat+Z by rw [Z_is]; omega,Nat.pow_add,← Nat.mul_assoc,Nat.mul_div_cancel _ (Nat.two_pow_pos _)]
   ·have ht:tr y≤m:=by
     show V y / 2 ^ Z≤m
     rw [← h]
     have N:(2:Nat) ^ Z=2 ^ (-e).toNat * 2 ^ (e+1074).toNat:=by rw [← Nat.pow_add]; congr 1; rw [Z_is]; omega
     rw [N,Nat.mul_div_mul_right _ _ (Nat.two_pow_pos _)]
     exact Nat.div_le_self _ _
    obtain ⟨r,a5,a0,J⟩:=whole_V I (by omega)
    refine F r J (by omega) a0 ?_
    rw [← V_le (r:=r) (r':=y) (by omega) (by omega),J]
    exact Nat.div_mul_le_self _ _
  ·rw [z] at u; omega
  ·rw [z] at u; omega
theorem cut_down (n h:Nat):Toward.down.cut false n h=Toward.zero.cut false n h:=rfl
theorem floor_run (w:World) {y:Nat} (hy:y < INF):(callFunc 234 #[.float .f64 y]).run Tryz.prog w=.ok (.value (.float .f64 (fl (tr y)))) w:=by
 have iS:=INF_SG
 have N:=SG_is
 obtain ⟨J,u⟩:=sg_small (x:=y) (by omega)
 rw [run_callFunc_extern Tryz.func234 (by kernel_rfl) (by kernel_rfl) (by kernel_rfl) (e:=Extern.MathFloor.toIntegral "math.archFloor" .down) (by kernel_rfl)]
 rcases read_eq (x:=y) (by omega) with ⟨-,m,e,ex,hi,W,z,-,Y⟩ | ⟨h,-⟩ | ⟨h,-⟩
 ·rw [u] at z
  rw [J] at ex
  have G:FloatKind.f64.decode y=.number false m e:=ex
  have I:Toward.down.cut false (m <<< e.toNat) (-e).toNat=tr y:=by
   rw [cut_down,cut_zero,Nat.shiftLeft_eq]
   unfold tr
   rw [← z]
   by_cases he:0≤e
   ·rw [show (-e).toNat=0 by omega,Nat.pow_zero,Nat.div_one,show (e+1074).toNat=e.toNat+Z by rw [Z_is]; omega,Nat.pow_add,← Nat.mul_assoc,Nat.mul_div_cancel _ (Nat.two_pow_pos _)]
   ·have F:(2:Nat) ^ Z=2 ^ (-e).toNat * 2 ^ (e+1074).toNat:=by rw [← Nat.pow_add]; congr 1; rw [Z_is]; omega
    rw [show e.toNat=0 by omega,Nat.pow_zero,Nat.mul_one,F,Nat.mul_div_mul_right _ _ (Nat.two_pow_pos _)]
  have hw:FloatKind.f64.encode (Datum.integral .down (.number false m e))=fl (tr y):=by
   rw [← near_fl,← I]
   rfl
  have hk:Extern.MathFloor.toIntegral "math.archFloor" .down #[.float .f64 y] = pure (.float .f64 (FloatKind.f64.encode (Datum.integral .down (.number false m e)))):=by
   conv=>lhs; unfold Extern.MathFloor.toIntegral
   conv=>lhs; whnf
   rw [G]
  rw [hk,hw]
  rfl
 ·rw [u] at h; omega
 ·rw [u] at h; omega
theorem rpart_any (n x:Nat) (w:World) (hn:n≤18446744073709551615) (hx:x < 18446744073709551616) :
  Calls Tryz.prog 202 #[.int .u64 (n:Int),.float .f64 x] w fun e w'=>e=.returned (.int .u64 (part n x:Nat))∧w=w':=by
 have i1:=INF_is
 have i4:=ONE_is
 have a1:=ord_self hx
 have N:(0:Nat) < 18446744073709551616:=by omega
 have G:=o_lt hx N
 have F:=o_eq hx N
 have u:=o_gt hx N
 have W:Ko 0=0:=by decide
 have Y:isN 0=false:=by decide
 rw [Y,W,Bool.or_false] at G F u
 cases hp:pos x with
 | false=>
  have z:part n x=0:=by unfold part; rw [hp]; rfl
  rw [z]
  have J:(FloatKind.f64.format.order x 0 == some Ordering.gt)=false:=hp
  rw [J] at u
  cases I:isN x with
  | true=>
   rw [I] at a1
   clear z hp i1 i4 N G F u W Y J I
   go_enter Tryz.func202,Tryz.ntmps202
   go_wp2
   go_ret
   exact ⟨rfl,rfl⟩
  | false=>
   rw [I] at a1 G F u
   have h2:(FloatKind.f64.format.order x 0 == some Ordering.lt || FloatKind.f64.format.order x 0 == some Ordering.eq)=true:=by
    rw [G,F]
    simp at u ⊢
    omega
   clear z hp i1 i4 N G F u W Y J I
   go_enter Tryz.func202,Tryz.ntmps202
   go_wp2
   go_ret
   exact ⟨rfl,rfl⟩
 | true=>
  obtain ⟨x0,x1⟩:=(pos_iff hx).1 hp
  have J:(FloatKind.f64.format.order x 0 == some Ordering.gt)=true:=hp
  rw [J] at u
  have I:isN x=false:=by
   cases hh:isN x with
   | false=>rfl
   | true=>rw [hh] at u; cases u
  rw [I] at a1 G F u
  have h0:(FloatKind.f64.format.order x 0 == some Ordering.lt || FloatKind.f64.format.order x 0 == some Ordering.eq)=false:=by
   rw [G,F]
   simp at u ⊢
   omega
  clear G F u W Y N J
  cases hg:ge1 x with
  | true=>
   have z:part n x=n:=by unfold part; rw [hp,hg]; rfl
   rw [z]
   have h2:(FloatKind.f64.format.order x 4607182418800017408 == some Ordering.gt || FloatKind.f64.format.order x 4607182418800017408 == some Ordering.eq)=true:=hg
   clear z hp hg x0 x1 i1 i4 I
   go_enter Tryz.func202,Tryz.ntmps202
   go_wp2
   go_ret
   exact ⟨rfl,rfl⟩
  | false=>
   have z:part n x=min n (tr (pr (fl n) x)):=by unfold part; rw [hp,hg]; rfl
   have h2:(FloatKind.f64.format.order x 4607182418800017408 == some Ordering.gt || FloatKind.f64.format.order x 4607182418800017408 == some Ordering.eq)=false:=hg
   have a0:x < ONE:=by
    have:=ge1_iff x0 x1
    rw [hg] at this
    have:¬ ONE≤x:=fun h=>by simp [h] at this
    omega
   have a7:=fl_lt hn
   have a9:=pr_lt hn a0
   have ad:=part_fits hn a0
   have hf:=floatOf n
   have hm:floatBits .mul .f64 (floatOfInt .f64 (n:Int)) x=some (pr (fl n) x):=by
    rw [hf]
    exact mul_eq (by omega) (by omega)
   obtain ⟨r,a2,aa,a3,a4⟩:=fl_tr (y:=pr (fl n) x) (by omega)
   have hc:floatToIntVal .f64 r .u64=some (tr (pr (fl n) x):Int):=by
    unfold floatToIntVal
    have:(FloatKind.decode .f64 r).toInt .zero=some (tr r:Int):=toInt_eq a3
    rw [this,a4]
    simp only []
    rw [if_pos]
    simp [IntKind.min,IntKind.max,IntKind.bits,IntKind.signed]
    omega
   have ae:(FloatKind.f64.format.order r 4895412794951729152 == some Ordering.gt || FloatKind.f64.format.order r 4895412794951729152 == some Ordering.eq)=false:=by
    have a5:r < 18446744073709551616:=by omega
    have iS:=INF_SG
    have ac:=SG_is
    rw [o_gt a5 (by omega),o_eq a5 (by omega),isN_small (x:=r) (by omega),isN_small (x:=4895412794951729152) (by omega),Ko_small (x:=r) (by omega),Ko_small (x:=4895412794951729152) (by omega)]
    simp
    omega
   have a6:=fun w=>floor_run w (y:=pr (fl n) x) (by omega)
   rw [a2] at a6
   have r1:=fun w=>run_float_arith (P:=Tryz.prog) w .mul 28 .f64 _ _ _ hm
   have r2:=fun w=>run_convert_float_int (P:=Tryz.prog) w 28 22 .f64 .u64 _ _ (by kernel_rfl) Tryz.underlying22 hc
   have R3:Hid (part n x=min n (tr (pr (fl n) x))):=z
   generalize pr (fl n) x=q at *
   generalize tr q=t at *
   clear hm hc z hp hg x0 x1 a0 i1 i4 a7 a9 hf a2 aa a3 a4 I
   have a8:∀ w,Calls Tryz.prog 223 #[.float .f64 q] w fun e w'=>e=.returned (.float .f64 r)∧w=w':=by
    intro w
    go_enter Tryz.func223,Tryz.ntmps223
    go_wp2
    go_ret
    exact ⟨rfl,rfl⟩
   clear a6
   go_enter Tryz.func202,Tryz.ntmps202
   go_wp2_with fail
   refine (a8 _).mono ?_
   rintro e w' ⟨rfl,rfl⟩
   go_wp2_with fail
   go_ret
   refine ⟨?_,rfl⟩
   rw [R3.out]
   simp
   omega
end Go.Proofs.YtaeemilldmhbnaaGreatDoor.Fl
namespace Go.Proofs.YtaeemilldmhbnaaGreatDoor.Ff
open Go.ChangeShapes Go.WideShapes Go.ChangeAt Go.RowKit Rw Go.Shelf Go.Sort
def pk (a b c p:Int):Int × Int:=if a≤b / 10 * 10 then (b / 10,-(p - 1)) else if a < b then (c,-p) else (a,-p)
end Go.Proofs.YtaeemilldmhbnaaGreatDoor.Ff
namespace Go.Proofs.YtaeemilldmhbnaaGreatDoor.Ff
open Go.ChangeShapes Go.WideShapes Go.ChangeAt Go.RowKit Go.Deep Rw Go.Shelf Go.Sort
section
variable {ops:Array Oper} {rest:List Oper} {o:Oper} {a:Act} {Q:Exit→Act→World→Prop}
end
def sg (neg:Bool):List Int:=if neg=true then [45] else []
def f0 (neg:Bool):List Int:=sg neg ++ [48]
def ex (nd:Nat) (dp:Int):Int:=if nd=0 then 0 else dp - 1
def es (X:Int):Int:=if X < 0 then 45 else 43
def en (k:Nat):List Int:=if k < 10 then [48,(k:Int)+48] else if k < 100 then [(k / 10:Nat)+48,(k % 10:Nat)+48] else [(k / 100:Nat)+48,(k / 10 % 10:Nat)+48,(k % 10:Nat)+48]
end Go.Proofs.YtaeemilldmhbnaaGreatDoor.Ff
namespace Go.Proofs.YtaeemilldmhbnaaGreatDoor.Fl
open Go.ChangeShapes Go.WideShapes Go.ChangeAt Go.RowKit Rw Ck
def ck (x y z:Nat):Int:=if isN x=true∨isN y=true∨isN z=true then 3 else if Ko x < Ko y∨Ko z < Ko x then 2 else 0
theorem check_any (x y z:Nat) (w:World) (hx:x < 18446744073709551616) (hy:y < 18446744073709551616) (W:z < 18446744073709551616):Calls Tryz.prog 103 #[.float .f64 x,.float .f64 y,.float .f64 z] w fun e w'=>e=.returned (.int .i64 (ck x y z))∧w=w':=by
 have F:=o_lt hx hy
 have u:=o_gt hx W
 have sx:=ord_self hx
 have sy:=ord_self hy
 have Y:=ord_self W
 have G:=Lh hx
 have I:=Lh hy
 have J:=Lh W
 clear hx hy W
 cases nx:isN x with
 | true=>
  have e:ck x y z=3:=by unfold ck; rw [if_pos (.inl nx)]
  rw [e]
  rw [nx] at sx
  clear e F u sy Y
  go_enter Tryz.func103,Tryz.ntmps103
  go_wp2_with fail
  refine (isnan_any x _ G.out).mono ?_
  rintro e w' ⟨rfl,rfl⟩
  rw [nx]
  go_wp2_with fail
  go_ret
  exact ⟨rfl,rfl⟩
 | false=>
  rw [nx] at sx
  cases ny:isN y with
  | true=>
   have e:ck x y z=3:=by unfold ck; rw [if_pos (.inr (.inl ny))]
   rw [e]
   rw [ny] at sy
   clear e F u Y
   go_enter Tryz.func103,Tryz.ntmps103
   go_wp2_with fail
   refine (isnan_any x _ G.out).mono ?_
   rintro e w' ⟨rfl,rfl⟩
   rw [nx]
   go_wp2_with fail
   refine (isnan_any y _ I.out).mono ?_
   rintro e w' ⟨rfl,rfl⟩
   rw [ny]
   go_wp2_with fail
   go_ret
   exact ⟨rfl,rfl⟩
  | false=>
   rw [ny] at sy
   cases nz:isN z with
   | true=>
    have e:ck x y z=3:=by unfold ck; rw [if_pos (.inr (.inr nz))]
    rw [e]
    rw [nz] at Y
    clear e F u
    go_enter Tryz.func103,Tryz.ntmps103
    go_wp2_with fail
    refine (isnan_any x _ G.out).mono ?_
    rintro e w' ⟨rfl,rfl⟩
    rw [nx]
    go_wp2_with fail
    refine (isnan_any y _ I.out).mono ?_
    rintro e w' ⟨rfl,rfl⟩
    rw [ny]
    go_wp2_with fail
    refine (isnan_any z _ J.out).mono ?_
    rintro e w' ⟨rfl,rfl⟩
    rw [nz]
    go_wp2_with fail
    go_ret
    exact ⟨rfl,rfl⟩
   | false=>
    rw [nz] at Y
    rw [nx,ny] at F
    rw [nx,nz] at u
    have N:ck x y z=if Ko x < Ko y∨Ko z < Ko x then 2 else 0:=by unfold ck; rw [if_neg (by rw [nx,ny,nz]; decide)]
    rw [N]
    by_cases h1:Ko x < Ko y
    ·have e1:(FloatKind.f64.format.order x y == some Ordering.lt)=true:=by rw [F,decide_eq_true h1]; rfl
     rw [if_pos (.inl h1)]
     clear N F u h1
     go_enter Tryz.func103,Tryz.ntmps103
     go_wp2_with fail
     refine (isnan_any x _ G.out).mono ?_
     rintro e w' ⟨rfl,rfl⟩
     rw [nx]
     go_wp2_with fail
     refine (isnan_any y _ I.out).mono ?_
     rintro e w' ⟨rfl,rfl⟩
     rw [ny]
     go_wp2_with fail
     refine (isnan_any z _ J.out).mono ?_
     rintro e w' ⟨rfl,rfl⟩
     rw [nz]
     go_wp2_with fail
     go_ret
     exact ⟨rfl,rfl⟩
    ·have e1:(FloatKind.f64.format.order x y == some Ordering.lt)=false:=by rw [F,decide_eq_false h1]; rfl
     by_cases h2:Ko z < Ko x
     ·have e2:(FloatKind.f64.format.order x z == some Ordering.gt)=true:=by rw [u,decide_eq_true h2]; rfl
      rw [if_pos (.inr h2)]
      clear N F u h1 h2
      go_enter Tryz.func103,Tryz.ntmps103
      go_wp2_with fail
      refine (isnan_any x _ G.out).mono ?_
      rintro e w' ⟨rfl,rfl⟩
      rw [nx]
      go_wp2_with fail
      refine (isnan_any y _ I.out).mono ?_
      rintro e w' ⟨rfl,rfl⟩
      rw [ny]
      go_wp2_with fail
      refine (isnan_any z _ J.out).mono ?_
      rintro e w' ⟨rfl,rfl⟩
      rw [nz]
      go_wp2_with fail
      go_ret
      exact ⟨rfl,rfl⟩
     ·have e2:(FloatKind.f64.format.order x z == some Ordering.gt)=false:=by rw [u,decide_eq_false h2]; rfl
      rw [if_neg (by rintro (h | h); exact h1 h; exact h2 h)]
      clear N F u h1 h2
      go_enter Tryz.func103,Tryz.ntmps103
      go_wp2_with fail
      refine (isnan_any x _ G.out).mono ?_
      rintro e w' ⟨rfl,rfl⟩
      rw [nx]
      go_wp2_with fail
      refine (isnan_any y _ I.out).mono ?_
      rintro e w' ⟨rfl,rfl⟩
      rw [ny]
      go_wp2_with fail
      refine (isnan_any z _ J.out).mono ?_
      rintro e w' ⟨rfl,rfl⟩
      rw [nz]
      go_wp2_with fail
      go_ret
      exact ⟨rfl,rfl⟩
theorem rcheck_any (x y z:Nat) (w:World) (hx:x < 18446744073709551616) (hy:y < 18446744073709551616) (I:z < 18446744073709551616):Calls Tryz.prog 106 #[.float .f64 x,.float .f64 y,.float .f64 z] w fun e w'=>e=.returned (.int .i64 (ck x y z))∧w=w':=by
 have F:=o_lt hx hy
 have u:=o_lt I hx
 have W:=ord_self hx
 have N:=ord_self hy
 have J:=ord_self I
 have HX:=Lh hx
 have HY:=Lh hy
 have HZ:=Lh I
 clear hx hy I
 cases nx:isN x with
 | true=>
  have e:ck x y z=3:=by unfold ck; rw [if_pos (.inl nx)]
  rw [e]
  rw [nx] at W
  clear e F u N J
  go_enter Tryz.func106,Tryz.ntmps106
  go_wp2_with fail
  go_ret
  exact ⟨rfl,rfl⟩
 | false=>
  rw [nx] at W
  cases ny:isN y with
  | true=>
   have e:ck x y z=3:=by unfold ck; rw [if_pos (.inr (.inl ny))]
   rw [e]
   rw [ny] at N
   clear e F u J
   go_enter Tryz.func106,Tryz.ntmps106
   go_wp2_with fail
   go_ret
   exact ⟨rfl,rfl⟩
  | false=>
   rw [ny] at N
   cases nz:isN z with
   | true=>
    have e:ck x y z=3:=by unfold ck; rw [if_pos (.inr (.inr nz))]
    rw [e]
    rw [nz] at J
    clear e F u
    go_enter Tryz.func106,Tryz.ntmps106
    go_wp2_with fail
    go_ret
    exact ⟨rfl,rfl⟩
   | false=>
    rw [nz] at J
    rw [nx,ny] at F
    rw [nz,nx] at u
    have G:ck x y z=if Ko x < Ko y∨Ko z < Ko x then 2 else 0:=by unfold ck; rw [if_neg (by rw [nx,ny,nz]; decide)]
    rw [G]
    by_cases h1:Ko x < Ko y
    ·have Y:(FloatKind.f64.format.order x y == some Ordering.lt)=true:=by rw [F,decide_eq_true h1]; rfl
     rw [if_pos (.inl h1)]
     clear G F u h1
     go_enter Tryz.func106,Tryz.ntmps106
     go_wp2_with fail
     go_ret
     exact ⟨rfl,rfl⟩
    ·have Y:(FloatKind.f64.format.order x y == some Ordering.lt)=false:=by rw [F,decide_eq_false h1]; rfl
     by_cases h2:Ko z < Ko x
     ·have e2:(FloatKind.f64.format.order z x == some Ordering.lt)=true:=by rw [u,decide_eq_true h2]; rfl
      rw [if_pos (.inr h2)]
      clear G F u h1 h2
      go_enter Tryz.func106,Tryz.ntmps106
      go_wp2_with fail
      go_ret
      exact ⟨rfl,rfl⟩
     ·have e2:(FloatKind.f64.format.order z x == some Ordering.lt)=false:=by rw [u,decide_eq_false h2]; rfl
      rw [if_neg (by rintro (h | h); exact h1 h; exact h2 h)]
      clear G F u h1 h2
      go_enter Tryz.func106,Tryz.ntmps106
      go_wp2_with fail
      go_ret
      exact ⟨rfl,rfl⟩
end Go.Proofs.YtaeemilldmhbnaaGreatDoor.Fl
namespace Go.Proofs.YtaeemilldmhbnaaGreatDoor.Cn
open Go Go.ChangeShapes Go.WideShapes Go.ChangeAt Go.RowKit Rw
structure Cf where
 max:Int
 min:Int
 idle:Int
 life:Int
 keep:Int
 leak:Int
 var:Nat
abbrev U64 (k:Int):Prop:=0≤k∧k≤18446744073709551615
structure Cf.ok (c:Cf):Prop where
 idle:U64 c.idle
 life:U64 c.life
 keep:U64 c.keep
 leak:U64 c.leak
 var:c.var < 18446744073709551616
abbrev Cf.v (c:Cf):Value:=.agg #[.int .i64 c.max,.int .i64 c.min,.int .u64 c.idle,.int .u64 c.life,.int .u64 c.keep,.int .u64 c.leak,.float .f64 c.var]
def mx2 (a b:Int):Int:=if a < b then b else a
def Cf.hi (c:Cf):Int:=mx2 (mx2 (mx2 c.idle c.life) c.keep) c.leak
def hiE (M:Int) (v:Nat):Int:=if 1152921504606846976 < M then 2 else Fl.ck v 0 4607182418800017408
def cfE (c:Cf):Int:=if c.max < 1∨16 < c.max∨c.min < 0∨c.max < c.min then 2 else hiE c.hi c.var
theorem cfE_zero {c:Cf} (h:cfE c=0):1≤c.max∧c.max≤16∧0≤c.min∧c.min≤c.max∧c.hi≤1152921504606846976∧Fl.ck c.var 0 4607182418800017408=0:=by
 unfold cfE at h
 split at h
 ·cases h
 ·unfold hiE at h
  split at h
  ·cases h
  ·next u z=>exact ⟨by omega,by omega,by omega,by omega,by omega,h⟩
theorem max_run (P:Program) (a b c d:Int) (w:World) (h:Array TypeId) (t:TypeId):(Builtin.max_ h t #[.int .u64 a,.int .u64 b,.int .u64 c,.int .u64 d]).run P w=.ok (.int .u64 (mx2 (mx2 (mx2 a b) c) d)) w:=by
 simp [Builtin.max_,Builtin.max2,mx2]
 rfl
theorem ccheck_any (c:Cf) (h:c.ok) (w:World) :
  Calls Tryz.prog 31 #[c.v] w fun e w'=>e=.returned (.int .i64 (cfE c))∧Below w.heap.size w w':=by
 obtain ⟨mx,u,F,lf,G,lk,vr⟩:=c
 have N:=max_run Tryz.prog F lf G lk
 have J:=Lh (fun w=>Fl.check_any vr 0 4607182418800017408 w h.var (by decide) (by decide))
 unfold cfE
 obtain ⟨M,z⟩:∃ M,mx2 (mx2 (mx2 F lf) G) lk=M:=⟨_,rfl⟩
 have I:Cf.hi ⟨mx,u,F,lf,G,lk,vr⟩=M:=z
 rw [z] at N
 simp only [I]
 clear h z I
 by_cases h1:mx < 1
 ·have W:decide (mx < 1)=true:=decide_eq_true h1
  rw [if_pos (.inl h1)]
  clear h1
  go_enter Tryz.func31,Tryz.ntmps31
  go_wp2_with fail
  go_ret
  exact ⟨rfl,(Below.refl _ _).alloc (Nat.le_refl _) _⟩
 have W:decide (mx < 1)=false:=decide_eq_false h1
 by_cases h2:16 < mx
 ·have Y:decide (16 < mx)=true:=decide_eq_true h2
  rw [if_pos (.inr (.inl h2))]
  clear h1 h2
  go_enter Tryz.func31,Tryz.ntmps31
  go_wp2_with fail
  go_ret
  exact ⟨rfl,(Below.refl _ _).alloc (Nat.le_refl _) _⟩
 have Y:decide (16 < mx)=false:=decide_eq_false h2
 by_cases h3:u < 0
 ·have q3:decide (u < 0)=true:=decide_eq_true h3
  rw [if_pos (.inr (.inr (.inl h3)))]
  clear h1 h2 h3
  go_enter Tryz.func31,Tryz.ntmps31
  go_wp2_with fail
  go_ret
  exact ⟨rfl,(Below.refl _ _).alloc (Nat.le_refl _) _⟩
 have q3:decide (u < 0)=false:=decide_eq_false h3
 by_cases h4:mx < u
 ·have q4:decide (mx < u)=true:=decide_eq_true h4
  rw [if_pos (.inr (.inr (.inr h4)))]
  clear h1 h2 h3 h4
  go_enter Tryz.func31,Tryz.ntmps31
  go_wp2_with fail
  go_ret
  exact ⟨rfl,(Below.refl _ _).alloc (Nat.le_refl _) _⟩
 have q4:decide (mx < u)=false:=decide_eq_false h4
 rw [if_neg (by omega)]
 clear h1 h2 h3 h4
 unfold hiE
 by_cases h5:1152921504606846976 < M
 ·have q5:decide (1152921504606846976 < M)=true:=decide_eq_true h5
  rw [if_pos h5]
  clear h5
  go_enter Tryz.func31,Tryz.ntmps31
  go_wp2_with fail
  go_ret
  exact ⟨rfl,(Below.refl _ _).alloc (Nat.le_refl _) _⟩
 have q5:decide (1152921504606846976 < M)=false:=decide_eq_false h5
 rw [if_neg h5]
 clear h5
 go_enter Tryz.func31,Tryz.ntmps31
 go_wp2_with fail
 refine (J.out _).mono ?_
 rintro e w1 ⟨rfl,rfl⟩
 go_wp2_with fail
 go_ret
 exact ⟨rfl,(Below.refl _ _).alloc (Nat.le_refl _) _⟩
end Go.Proofs.YtaeemilldmhbnaaGreatDoor.Cn
