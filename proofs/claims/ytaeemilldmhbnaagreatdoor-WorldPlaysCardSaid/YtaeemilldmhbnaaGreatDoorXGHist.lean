/- A part of the claim: the texts HistCount HistAdd. -/
import Derived.Test.YtaeemilldmhbnaaGreatDoorXHistEq
set_option maxRecDepth 100000
set_option maxHeartbeats 8000000
set_option linter.unusedVariables false
namespace Go.Proofs.YtaeemilldmhbnaaGreatDoor.Hi
open Go.ChangeShapes Go.WideShapes Go.ChangeAt Go.RowKit Rw Tx
theorem info_rev:(Tryz.prog.info? 145).map (fun i=>(i.zero,i.size,i.bytes))=some (some (.agg #[.int .u64 0,.int .i64 0,.int .i64 0,.int .i64 0,.int .u64 0,.int .i64 0]),6,48):=by kernel_rfl
theorem rs_six {w:World} {B:Nat} {A:Option Addr} {n c:Nat} {l:List Ev} (h:Rs encE 6 w B A n c l) {k:Nat} (hk:k < n) :
  ∃ b o e,A=some ⟨b,o,none⟩∧b < B∧l[k]? = some e∧w.cell? ⟨b,o+k * 6,none⟩=some (.int .u64 e.step)∧w.cell? ⟨b,o+k * 6+1,none⟩=some (.int .i64 e.thread) ∧
   w.cell? ⟨b,o+k * 6+2,none⟩=some (.int .i64 e.kind)∧w.cell? ⟨b,o+k * 6+3,none⟩=some (.int .i64 e.op)∧w.cell? ⟨b,o+k * 6+4,none⟩=some (.int .u64 e.id)∧w.cell? ⟨b,o+k * 6+5,none⟩=some (.int .i64 e.err):=by
 obtain ⟨b,o,x,hA,u,hx,hc⟩:=h.get hk
 exact ⟨b,o,x,hA,u,hx,by simpa using hc 0 _ (by omega) rfl,hc 1 _ (by omega) rfl,hc 2 _ (by omega) rfl,hc 3 _ (by omega) rfl,hc 4 _ (by omega) rfl,hc 5 _ (by omega) rfl⟩
def dl (t:Int) (e:Ev):Int:=if e.thread=t then (if e.kind=0 then 1 else if e.kind=2 then -1 else 0) else 0
def cnt (l:List Ev) (t:Int):Int:=(l.map (dl t)).sum
theorem of_any (A:Option Addr) (n c B:Nat) (l:List Ev) (w:World) (h:Rs encE 6 w B A n c l) (hB:B≤w.heap.size) (hn:n≤1000) :
  Calls Tryz.prog 72 #[.slice A n c] w fun e w'=>∃ A' z,e=.returned (.slice A' n z)∧w'.ownsRow w.heap.size 145 6 (.slice A' n z) n (flat encE l)∧Below w.heap.size w w':=by
 obtain ⟨i0,hi,ag,ah,ai⟩:=info_parts info_rev
 have HR:=Lh h
 have a9:=Lh h.len
 clear h
 go_enter Tryz.func72,Tryz.ntmps72
 go_wp2_with fail
 go_loopw [3,8] (fun v i wr=>∃ (k z:Nat) (A':Option Addr),k≤n∧i=.int .i64 k∧v=.slice A' k z ∧
   wr.ownsRow w.heap.size 145 6 (.slice A' k z) k (flat encE (l.take k))∧Below w.heap.size w wr) (fun _ i _=>n - (intOf i).toNat)
 case atStart=>exact ⟨0,0,none,Nat.zero_le _,rfl,rfl,World.ownsRow_nil _ _ _ _,Below.refl _ _⟩
 case round=>
  obtain ⟨k,z,A',hk,rfl,rfl,F,u⟩:=hrel
  have I:=Lh F
  clear F
  by_cases hlt:k < n
  ·obtain ⟨b,o,a,rfl,hb,ha,N,W,Y,a0,a1,a2⟩:=rs_six HR.out hlt
   have d0:=(u.cell (p:=⟨b,o+k * 6,none⟩) (by simp only; omega)).trans N
   have d1:=(u.cell (p:=⟨b,o+k * 6+1,none⟩) (by simp only; omega)).trans W
   have d2:=(u.cell (p:=⟨b,o+k * 6+2,none⟩) (by simp only; omega)).trans Y
   have d3:=(u.cell (p:=⟨b,o+k * 6+3,none⟩) (by simp only; omega)).trans a0
   have d4:=(u.cell (p:=⟨b,o+k * 6+4,none⟩) (by simp only; omega)).trans a1
   have d5:=(u.cell (p:=⟨b,o+k * 6+5,none⟩) (by simp only; omega)).trans a2
   have af:=u.size
   have J:=u.alloc af (.cells #[.int .u64 a.step,.int .i64 a.thread,.int .i64 a.kind,.int .i64 a.op,.int .u64 a.id,.int .i64 a.err] 215)
   have a7:=Lh (J.alloc (by simp; omega) (.cells #[.int .u64 a.step,.int .i64 a.thread,.int .i64 a.kind,.int .i64 a.op,.int .u64 a.id,.int .i64 a.err] 145))
   have a6:Rs encE 6 ((wr.alloc (.cells #[.int .u64 a.step,.int .i64 a.thread,.int .i64 a.kind,.int .i64 a.op,.int .u64 a.id,.int .i64 a.err] 215)).alloc (.cells #[.int .u64 a.step,.int .i64 a.thread,.int .i64 a.kind,.int .i64 a.op,.int .u64 a.id,.int .i64 a.err] 145)) (wr.heap.size+1+1) (some ⟨wr.heap.size+1,0,none⟩) 1 1 [a]:=by
    have:=rs_one encE_len (wr.alloc (.cells #[.int .u64 a.step,.int .i64 a.thread,.int .i64 a.kind,.int .i64 a.op,.int .u64 a.id,.int .i64 a.err] 215)) a 145 (cs:=#[.int .u64 a.step,.int .i64 a.thread,.int .i64 a.kind,.int .i64 a.op,.int .u64 a.id,.int .i64 a.err]) rfl
    simpa using this
   have ad:=Lh a6
   have a4:flat encE (l.take k) ++ flat encE [a] = flat encE (l.take (k+1)):=by rw [← flat_append,List.take_add_one,ha]; rfl
   have aa:=Lh a4
   have G:=Lh ((I.out.alloc (.cells #[.int .u64 a.step,.int .i64 a.thread,.int .i64 a.kind,.int .i64 a.op,.int .u64 a.id,.int .i64 a.err] 215)).alloc (.cells #[.int .u64 a.step,.int .i64 a.thread,.int .i64 a.kind,.int .i64 a.op,.int .u64 a.id,.int .i64 a.err] 145))
   clear ha u J a6 a4 N W Y a0 a1 a2
   go_wp2_with (
    at_builtin
    refine append_rs encE_len rfl _ _ 49 rfl w.heap.size 145 i0 _ 48 Tryz.underlying49 hi ag ah ai rfl (by decide) _ k _ rfl G.out _ _ 1 1 [a] rfl ad.out encE_one (k+1) rfl _ aa.out (by unfold maxLen; omega) (by omega) (by simp; omega) ?_
    intro A3 c3 w3 a5 a3 ae
    have ac:=Lh a5
    have a8:=Lh (a7.out.grown a3 (by simp; omega) (fun j hj=>(G.out.lt j hj).1))
    clear a5 a3 ae)
   go_roundw
   case rel=>exact ⟨k+1,c3,A3,by omega,by go_num,rfl,ac.out,a8.out⟩
   case measure=>simp [intOf]; omega
  ·obtain rfl:k=n:=by omega
   have ht:l.take k=l:=List.take_of_length_le (by have:=a9.out; omega)
   have F:=I.out
   rw [ht] at F
   have G:=Lh F
   clear F I ht
   go_wp2_with fail
   go_ret
   exact ⟨A',z,rfl,G.out,u⟩
def V2 (w:World) (g:Nat) (a b:Value):Prop:=(w.cell? ⟨g,0,none⟩=some a∧w.cell? ⟨g,1,none⟩=some b)∧w.frozen? ⟨g,0,none⟩=false∧w.frozen? ⟨g,1,none⟩=false
theorem V2.below {w w':World} {g B:Nat} {a b:Value} (h:V2 w g a b) (u:Below B w w') (z:g < B):V2 w' g a b:=
 ⟨⟨(u.cell (p:=⟨g,0,none⟩) z).trans h.1.1,(u.cell (p:=⟨g,1,none⟩) z).trans h.1.2⟩,(u.frozen (p:=⟨g,0,none⟩) z).trans h.2.1,(u.frozen (p:=⟨g,1,none⟩) z).trans h.2.2⟩
theorem V2.new (w:World) (a b:Value) (t:TypeId):V2 (w.alloc (.cells #[a,b] t)) w.heap.size a b:=by
 refine ⟨⟨?_,?_⟩,?_,?_⟩ <;> simp
theorem radd_any (A:Option Addr) (n c:Nat) (l:List Ev) (s th F op id z:Int) (w:World) (h:Rs encE 6 w w.heap.size A n c l) (hn:n≤1000) :
  Calls Tryz.prog 131 #[.agg #[.int .u64 s,.slice A n c],.int .i64 th,.int .i64 F,.int .i64 op,.int .u64 id,.int .i64 z] w fun e w'=>∃ A' c',e=.returned (.agg #[.int .u64 s,.slice A' (n+1) c']) ∧
   w'.ownsRow w.heap.size 145 6 (.slice A' (n+1) c') (n+1) (flat encE (l ++ [⟨s,th,F,op,id,z⟩]))∧Below w.heap.size w w':=by
 obtain ⟨i0,hi,ao,aq,ar⟩:=info_parts info_rev
 have a8:Below w.heap.size w (w.alloc (.cells #[.int .u64 s,.slice A n c] 51)):=(Below.refl _ _).alloc (Nat.le_refl _) _
 have a0:Below w.heap.size w ((w.alloc (.cells #[.int .u64 s,.slice A n c] 51)).alloc (.cells #[.int .u64 0,.slice none 0 0] 51)):=a8.alloc (by simp) _
 have al:V2 ((w.alloc (.cells #[.int .u64 s,.slice A n c] 51)).alloc (.cells #[.int .u64 0,.slice none 0 0] 51)) w.heap.size (.int .u64 s) (.slice A n c):=(V2.new w _ _ _).below ((Below.refl (w.heap.size+1) _).alloc (by simp) _) (by omega)
 have an:V2 ((w.alloc (.cells #[.int .u64 s,.slice A n c] 51)).alloc (.cells #[.int .u64 0,.slice none 0 0] 51)) (w.heap.size+1) (.int .u64 0) (.slice none 0 0):=by have:=V2.new (w.alloc (.cells #[.int .u64 s,.slice A n c] 51)) (.int .u64 0) (.slice none 0 0) 51; rw [show (w.alloc (.cells #[.int .u64 s,.slice A n c] 51)).heap.size=w.heap.size+1 by simp] at this; exact this
 have ak:((w.alloc (.cells #[.int .u64 s,.slice A n c] 51)).alloc (.cells #[.int .u64 0,.slice none 0 0] 51)).heap.size=w.heap.size+2:=by simp
 have ai:=h.later a0
 have ad:l.length=n:=h.len
 have a4:=Lh ai
 have a6:=Lh al
 have a7:=Lh an
 have a2:=Lh a0
 have Y:=Lh ak
 have aA:=Lh ad
 clear h a8 a0 al an ak ai ad
 go_enter Tryz.func131,Tryz.ntmps131
 go_wp2_with (
  at_builtin
  refine append_rs encE_len rfl _ _ 49 rfl (w.heap.size+2) 145 i0 _ 48 Tryz.underlying49 hi ao aq ar rfl (by decide) _ 0 [] rfl (World.ownsRow_nil _ _ _ _) _ A n c l rfl a4.out encE_one n (Nat.zero_add _) (flat encE l) rfl (by unfold maxLen; omega) (by omega) (by simp) ?_
  intro A5 c5 G ae aa ax
  refine Hid.out ?_)
 refine Lh ?_
 have J:Below (w.heap.size+2) ((w.alloc (.cells #[.int .u64 s,.slice A n c] 51)).alloc (.cells #[.int .u64 0,.slice none 0 0] 51)) G:=(Below.refl _ _).grown aa (by rw [Y.out]; omega) (fun j hj=>by cases hj)
 obtain ⟨⟨f0,f1⟩,g0,g1⟩:=a6.out.below J (by omega)
 obtain ⟨⟨r0,r1⟩,e0,e1⟩:=a7.out.below J (by omega)
 have a1:=Lh (a2.out.trans (J.mono (by omega)))
 have az:w.heap.size+2≤G.heap.size:=by have:=J.size; have:=Y.out; omega
 have W:=Lh ae
 have aj:Rs encE 6 (G.alloc (.cells #[.int .u64 s,.int .i64 th,.int .i64 F,.int .i64 op,.int .u64 id,.int .i64 z] 145)) (G.heap.size+1) (some ⟨G.heap.size,0,none⟩) 1 1 [(⟨s,th,F,op,id,z⟩:Ev)]:=rs_one encE_len G (⟨s,th,F,op,id,z⟩:Ev) 145 (cs:=#[.int .u64 s,.int .i64 th,.int .i64 F,.int .i64 op,.int .u64 id,.int .i64 z]) rfl
 have a5:=Lh aj
 clear J a6 a7 a2 Y ae aa ax a4 aj
 go_wp2_with (
  at_builtin
  refine append_rs encE_len rfl _ _ 49 rfl (w.heap.size+2) 145 i0 _ 48 Tryz.underlying49 hi ao aq ar rfl (by decide) _ n _ rfl (W.out.alloc _) _ _ 1 1 [(⟨s,th,F,op,id,z⟩:Ev)] rfl a5.out encE_one (n+1) rfl (flat encE (l ++ [⟨s,th,F,op,id,z⟩])) (flat_append _ _).symm (by unfold maxLen; omega) (by omega) (by simp; omega) ?_
  intro I c6 N af ac ay
  refine Hid.out ?_)
 refine Lh ?_
 have u:Below (w.heap.size+2) G N:=((Below.refl _ _).alloc (by omega) _).grown ac (by simp; omega) (fun j hj=>(W.out.lt j hj).1)
 have aD:=(u.cell (p:=⟨w.heap.size,0,none⟩) (by simp)).trans f0
 have aE:=(u.cell (p:=⟨w.heap.size,1,none⟩) (by simp)).trans f1
 have aF:=(u.frozen (p:=⟨w.heap.size,0,none⟩) (by simp)).trans g0
 have aG:=(u.frozen (p:=⟨w.heap.size,1,none⟩) (by simp)).trans g1
 have aI:=(u.cell (p:=⟨w.heap.size+1,0,none⟩) (by simp)).trans r0
 have aJ:=(u.cell (p:=⟨w.heap.size+1,1,none⟩) (by simp)).trans r1
 have aB:=(u.frozen (p:=⟨w.heap.size+1,0,none⟩) (by simp)).trans e0
 have aC:=(u.frozen (p:=⟨w.heap.size+1,1,none⟩) (by simp)).trans e1
 have av:=Lh (a1.out.trans (u.mono (by omega)))
 have aH:w.heap.size+2≤N.heap.size:=by have:=u.size; omega
 have a3:=Lh af
 clear f0 f1 g0 g1 r0 r1 e0 e1 u a1 af ac ay W az a5
 go_wp2_with fail
 have a9:Below w.heap.size w (((N.setCell ⟨w.heap.size,1,none⟩ (.slice I (n+1) c6)).setCell ⟨w.heap.size+1,0,none⟩ (.int .u64 s)).setCell ⟨w.heap.size+1,1,none⟩ (.slice I (n+1) c6)):=by
  repeat' (first | exact av.out | apply Below.setCell)
  all_goals (first | (simp; done) | (simp; omega))
 have ag:=own_same a3.out (w':=(((N.setCell ⟨w.heap.size,1,none⟩ (.slice I (n+1) c6)).setCell ⟨w.heap.size+1,0,none⟩ (.int .u64 s)).setCell ⟨w.heap.size+1,1,none⟩ (.slice I (n+1) c6))) (fun g hg=>by
  have hl:=(a3.out.lt g hg).1
  rw [heap_setCell_other _ _ g _ (by simp; omega),heap_setCell_other _ _ g _ (by simp; omega),heap_setCell_other _ _ g _ (by simp; omega)])
 have ah:=own_mono ag (base':=w.heap.size) (by omega)
 have aw:=Lh ah
 have au:=Lh a9
 clear ah a9 ag
 exact bodyPost_ret (v:=.agg #[.int .u64 s,.slice I (n+1) c6]) (by simp [results,Tryz.results131,go_sem, *]) rfl ⟨I,c6,rfl,aw.out,au.out⟩
end Go.Proofs.YtaeemilldmhbnaaGreatDoor.Hi
