/- A part of the claim: the texts HistCount HistAdd. -/
import Derived.Test.YtoiklelghfckgaaGreatDoorZBase3
import Derived.RegionTactic
set_option maxRecDepth 100000
set_option maxHeartbeats 8000000
set_option linter.unusedVariables false
namespace Go.Proofs.YtoiklelghfckgaaGreatDoor.Hi
open Go.ChangeShapes Go.WideShapes Go.ChangeAt Go.RowKit Rw Tx
theorem info_rev:(Tryz.prog.info? 272).map (fun i=>(i.zero,i.size,i.bytes))=some (some (.agg #[.int .u64 0,.int .i64 0,.int .i64 0,.int .i64 0,.int .u64 0,.int .i64 0]),6,48):=by kernel_rfl
def dl (t:Int) (e:Ev):Int:=if e.thread=t then (if e.kind=0 then 1 else if e.kind=2 then -1 else 0) else 0
def cnt (l:List Ev) (t:Int):Int:=(l.map (dl t)).sum
def V2 (w:World) (g:Nat) (a b:Value):Prop:=(w.cell? ⟨g,0,none⟩=some a∧w.cell? ⟨g,1,none⟩=some b)∧w.frozen? ⟨g,0,none⟩=false∧w.frozen? ⟨g,1,none⟩=false
theorem V2.below {w w':World} {g B:Nat} {a b:Value} (h:V2 w g a b) (u:Below B w w') (z:g < B):V2 w' g a b:=
 ⟨⟨(u.cell (p:=⟨g,0,none⟩) z).trans h.1.1,(u.cell (p:=⟨g,1,none⟩) z).trans h.1.2⟩,(u.frozen (p:=⟨g,0,none⟩) z).trans h.2.1,(u.frozen (p:=⟨g,1,none⟩) z).trans h.2.2⟩
theorem V2.new (w:World) (a b:Value) (t:TypeId):V2 (w.alloc (.cells #[a,b] t)) w.heap.size a b:=by
 refine ⟨⟨?_,?_⟩,?_,?_⟩ <;> simp
theorem radd_any (A:Option Addr) (n c:Nat) (l:List Ev) (s th F op id z:Int) (w:World) (h:Rs encE 6 w w.heap.size A n c l) (hn:n≤1000) :
  Calls Tryz.prog 140 #[.agg #[.int .u64 s,.slice A n c],.int .i64 th,.int .i64 F,.int .i64 op,.int .u64 id,.int .i64 z] w fun e w'=>∃ A' c',e=.returned (.agg #[.int .u64 s,.slice A' (n+1) c']) ∧
   w'.ownsRow w.heap.size 272 6 (.slice A' (n+1) c') (n+1) (flat encE (l ++ [⟨s,th,F,op,id,z⟩]))∧Below w.heap.size w w':=by
 obtain ⟨i0,hi,ao,aq,ar⟩:=info_parts info_rev
 have a8:Below w.heap.size w (w.alloc (.cells #[.int .u64 s,.slice A n c] 44)):=(Below.refl _ _).alloc (Nat.le_refl _) _
 have a0:Below w.heap.size w ((w.alloc (.cells #[.int .u64 s,.slice A n c] 44)).alloc (.cells #[.int .u64 0,.slice none 0 0] 44)):=a8.alloc (by simp) _
 have al:V2 ((w.alloc (.cells #[.int .u64 s,.slice A n c] 44)).alloc (.cells #[.int .u64 0,.slice none 0 0] 44)) w.heap.size (.int .u64 s) (.slice A n c):=(V2.new w _ _ _).below ((Below.refl (w.heap.size+1) _).alloc (by simp) _) (by omega)
 have an:V2 ((w.alloc (.cells #[.int .u64 s,.slice A n c] 44)).alloc (.cells #[.int .u64 0,.slice none 0 0] 44)) (w.heap.size+1) (.int .u64 0) (.slice none 0 0):=by have:=V2.new (w.alloc (.cells #[.int .u64 s,.slice A n c] 44)) (.int .u64 0) (.slice none 0 0) 44; rw [show (w.alloc (.cells #[.int .u64 s,.slice A n c] 44)).heap.size=w.heap.size+1 by simp] at this; exact this
 have ak:((w.alloc (.cells #[.int .u64 s,.slice A n c] 44)).alloc (.cells #[.int .u64 0,.slice none 0 0] 44)).heap.size=w.heap.size+2:=by simp
 have ai:=h.later a0
 have ad:l.length=n:=h.len
 have a4:=Lh ai
 have a6:=Lh al
 have a7:=Lh an
 have a2:=Lh a0
 have Y:=Lh ak
 have aA:=Lh ad
 clear h a8 a0 al an ak ai ad
 go_enter Tryz.func140,Tryz.ntmps140
 go_wp2_with (
  at_builtin
  refine append_rs encE_len rfl _ _ 42 rfl (w.heap.size+2) 272 i0 _ 48 Tryz.underlying42 hi ao aq ar rfl (by decide) _ 0 [] rfl (World.ownsRow_nil _ _ _ _) _ A n c l rfl a4.out encE_one n (Nat.zero_add _) (flat encE l) rfl (by unfold maxLen; omega) (by omega) (by simp) ?_
  intro A5 c5 G ae aa ax
  refine Hid.out ?_)
 refine Lh ?_
 have J:Below (w.heap.size+2) ((w.alloc (.cells #[.int .u64 s,.slice A n c] 44)).alloc (.cells #[.int .u64 0,.slice none 0 0] 44)) G:=(Below.refl _ _).grown aa (by rw [Y.out]; omega) (fun j hj=>by cases hj)
 obtain ⟨⟨f0,f1⟩,g0,g1⟩:=a6.out.below J (by omega)
 obtain ⟨⟨r0,r1⟩,e0,e1⟩:=a7.out.below J (by omega)
 have a1:=Lh (a2.out.trans (J.mono (by omega)))
 have az:w.heap.size+2≤G.heap.size:=by have:=J.size; have:=Y.out; omega
 have W:=Lh ae
 have aj:Rs encE 6 (G.alloc (.cells #[.int .u64 s,.int .i64 th,.int .i64 F,.int .i64 op,.int .u64 id,.int .i64 z] 272)) (G.heap.size+1) (some ⟨G.heap.size,0,none⟩) 1 1 [(⟨s,th,F,op,id,z⟩:Ev)]:=rs_one encE_len G (⟨s,th,F,op,id,z⟩:Ev) 272 (cs:=#[.int .u64 s,.int .i64 th,.int .i64 F,.int .i64 op,.int .u64 id,.int .i64 z]) rfl
 have a5:=Lh aj
 clear J a6 a7 a2 Y ae aa ax a4 aj
 go_wp2_with (
  at_builtin
  refine append_rs encE_len rfl _ _ 42 rfl (w.heap.size+2) 272 i0 _ 48 Tryz.underlying42 hi ao aq ar rfl (by decide) _ n _ rfl (W.out.alloc _) _ _ 1 1 [(⟨s,th,F,op,id,z⟩:Ev)] rfl a5.out encE_one (n+1) rfl (flat encE (l ++ [⟨s,th,F,op,id,z⟩])) (flat_append _ _).symm (by unfold maxLen; omega) (by omega) (by simp; omega) ?_
  intro I c6 Q af ac ay
  refine Hid.out ?_)
 refine Lh ?_
 have u:Below (w.heap.size+2) G Q:=((Below.refl _ _).alloc (by omega) _).grown ac (by simp; omega) (fun j hj=>(W.out.lt j hj).1)
 have aD:=(u.cell (p:=⟨w.heap.size,0,none⟩) (by simp)).trans f0
 have aE:=(u.cell (p:=⟨w.heap.size,1,none⟩) (by simp)).trans f1
 have aF:=(u.frozen (p:=⟨w.heap.size,0,none⟩) (by simp)).trans g0
 have aG:=(u.frozen (p:=⟨w.heap.size,1,none⟩) (by simp)).trans g1
 have aI:=(u.cell (p:=⟨w.heap.size+1,0,none⟩) (by simp)).trans r0
 have aJ:=(u.cell (p:=⟨w.heap.size+1,1,none⟩) (by simp)).trans r1
 have aB:=(u.frozen (p:=⟨w.heap.size+1,0,none⟩) (by simp)).trans e0
 have aC:=(u.frozen (p:=⟨w.heap.size+1,1,none⟩) (by simp)).trans e1
 have av:=Lh (a1.out.trans (u.mono (by omega)))
 have aH:w.heap.size+2≤Q.heap.size:=by have:=u.size; omega
 have a3:=Lh af
 clear f0 f1 g0 g1 r0 r1 e0 e1 u a1 af ac ay W az a5
 go_wp2_with fail
 have a9:Below w.heap.size w (((Q.setCell ⟨w.heap.size,1,none⟩ (.slice I (n+1) c6)).setCell ⟨w.heap.size+1,0,none⟩ (.int .u64 s)).setCell ⟨w.heap.size+1,1,none⟩ (.slice I (n+1) c6)):=by
  repeat' (first | exact av.out | apply Below.setCell)
  all_goals (first | (simp; done) | (simp; omega))
 have ag:=own_same a3.out (w':=(((Q.setCell ⟨w.heap.size,1,none⟩ (.slice I (n+1) c6)).setCell ⟨w.heap.size+1,0,none⟩ (.int .u64 s)).setCell ⟨w.heap.size+1,1,none⟩ (.slice I (n+1) c6))) (fun g hg=>by
  have hl:=(a3.out.lt g hg).1
  rw [heap_setCell_other _ _ g _ (by simp; omega),heap_setCell_other _ _ g _ (by simp; omega),heap_setCell_other _ _ g _ (by simp; omega)])
 have ah:=own_mono ag (base':=w.heap.size) (by omega)
 have aw:=Lh ah
 have au:=Lh a9
 clear ah a9 ag
 exact bodyPost_ret (v:=.agg #[.int .u64 s,.slice I (n+1) c6]) (by simp [results,Tryz.results140,go_sem, *]) rfl ⟨I,c6,rfl,aw.out,au.out⟩
end Go.Proofs.YtoiklelghfckgaaGreatDoor.Hi
