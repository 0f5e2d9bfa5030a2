/- A part of the claim: the texts BagRefE BagPlaysKit. -/
import Derived.Test.YtoiklelghfckgaaGreatDoorZGBagRef
import Derived.Test.YtoiklelghfckgaaGreatDoorZGBagG
import Derived.Test.YtoiklelghfckgaaGreatDoorZGSort
import Derived.Test.YtoiklelghfckgaaGreatDoorZBase1
import Derived.Test.YtoiklelghfckgaaGreatDoorZGClone
import Derived.Deep.CutRange
import Derived.Deep.CutBlock
set_option maxRecDepth 100000
set_option maxHeartbeats 8000000
set_option linter.unusedVariables false
namespace Go.Proofs.YtoiklelghfckgaaGreatDoor.Ba
open Go.ChangeShapes Go.WideShapes Go.ChangeAt Go.RowKit Go.Deep Go.Maps Rw Hi Mt
section
variable {β:Type} {D:List (Int × β)} {id:Int} {k:Nat}
theorem ris_rest (h:Ris D) (hk:∀ a,D[k]? = some a→id < a.1):∀ a∈D.drop k,id < a.1:=by
 intro a ha
 obtain ⟨j,z,rfl⟩:=List.mem_iff_getElem.1 ha
 rw [List.getElem_drop]
 rw [List.length_drop] at z
 have u:=hk _ (List.getElem?_eq_getElem (show k < D.length by omega))
 rcases Nat.eq_zero_or_pos j with e | e
 ·subst e; exact u
 ·have:=List.pairwise_iff_getElem.1 h k (k+j) (by omega) (by omega) (by omega)
  exact Int.lt_trans u this
theorem take_below {a:Int × β} (h:∀ a∈D.take k,a.1 < id) (hk:D[k]? = some a) (F:a.1 < id):∀ a∈D.take (k+1),a.1 < id:=by
 obtain ⟨z,rfl⟩:=List.getElem?_eq_some_iff.1 hk
 intro b u
 rw [List.take_succ_eq_append_getElem z] at u
 rcases List.mem_append.1 u with u | u
 ·exact h b u
 ·rw [List.mem_singleton.1 u]; exact F
theorem ins_at (x:β) (u:∀ a∈D.take k,a.1 < id) (h:∀ a∈D.drop k,id < a.1):D.take k ++ (id,x) :: D.drop k=ins D id x:=by
 have z:D.filter (fun q=>decide (q.1 < id))=D.take k:=by
  conv=>lhs; rw [← List.take_append_drop k D,List.filter_append]
  rw [List.filter_eq_self.2 (fun a ha=>by simpa using u a ha),List.filter_eq_nil_iff.2 (fun a ha=>by have:=h a ha; simp; omega),List.append_nil]
 have F:D.filter (fun q=>decide (id < q.1))=D.drop k:=by
  conv=>lhs; rw [← List.take_append_drop k D,List.filter_append]
  rw [List.filter_eq_nil_iff.2 (fun a ha=>by have:=u a ha; simp; omega),List.filter_eq_self.2 (fun a ha=>by simpa using h a ha),List.nil_append]
 show _=D.filter (fun q=>decide (q.1 < id)) ++ (id,x) :: D.filter (fun q=>decide (id < q.1))
 rw [z,F]
end
section
variable {K:Nat→Prop} (A A2:Option Addr) (n c n2 c2:Nat) (D:List (Int × Ex)) (S:List Int) (w:World)
theorem renter_any (id st now:Int) (h:Dq K w ⟨A,n,c,A2,n2,c2⟩ D S) (aQ:∀ g,w.heap.size≤g→K g) (hs:Ris D) (hid:U64 id) (aX:-9223372036854775808≤st∧st≤9223372036854775807) (bi:U64 now) (hn:n≤1000) :
  Calls Tryz.prog 75 #[.agg #[.slice A n c,.slice A2 n2 c2],.int .u64 id,.int .i64 st,.int .u64 now] w fun e w'=>∃ A' n' c',e=.returned (.tuple #[.agg #[.slice A' n' c',.slice A2 n2 c2],.int .i64 (eE D id st)]) ∧
   Dq K w' ⟨A',n',c',A2,n2,c2⟩ (if eE D id st=0 then ins D id ⟨Wd.wOf st 0,now,now,now⟩ else D) S∧Below w.heap.size w w':=by
 obtain ⟨i0,hi,ar,au,av⟩:=info_parts info_entry
 obtain ⟨a3,a4,a5,aq⟩:=two_boxes A A2 n c n2 c2 w
 have u:=Lh h
 have aZ:=Lh aQ
 clear aQ
 have b3:=Lh hs
 have aB:Hid (D.length=n):=Lh h.l.len
 clear h hs
 by_cases h1:id=0∨st < 0∨3 < st
 ·have e:eE D id st=2:=by unfold eE; rw [if_pos h1]
  rw [e,if_neg (by decide)]
  clear e
  go_enter Tryz.func75,Tryz.ntmps75
  go_upto_region 1 with (fail)
  obtain ⟨F,a7⟩:∃ F,((w.alloc (.cells #[.slice A n c,.slice A2 n2 c2] 32)).alloc (.cells #[.slice none 0 0,.slice none 0 0] 32))=F:=⟨_,rfl⟩
  rw [a7] at a3 a4 a5 aq ⊢
  have I:=Lh a3
  have ac:=Lh a4
  have ad:=Lh a5
  obtain ⟨⟨f0,f1⟩,g0,g1⟩:=a4
  obtain ⟨⟨Q,Y⟩,z0,z1⟩:=a5
  clear a7 a3
  by_cases hz:id=0
  ·have q0:(id == 0)=true:=by simpa using hz
   clear h1 hz
   go_wp2_with fail
   have G:Below w.heap.size w ((F.setCell ⟨w.heap.size+1,0,none⟩ (.slice A n c)).setCell ⟨w.heap.size+1,1,none⟩ (.slice A2 n2 c2)):=
    ((I.out).setCell (p:=⟨w.heap.size+1,0,none⟩) (by show w.heap.size≤w.heap.size+1; omega) _).setCell (p:=⟨w.heap.size+1,1,none⟩) (by show w.heap.size≤w.heap.size+1; omega) _
   exact bodyPost_ret (v:=.tuple #[.agg #[.slice A n c,.slice A2 n2 c2],.int .i64 2]) (by simp [results,Tryz.results75,go_sem,Q,Y]) rfl ⟨_,_,_,rfl,u.out.later G,G⟩
  ·have q0:(id == 0)=false:=by simpa using hz
   by_cases h0:st < 0
   ·have q1:decide (st < 0)=true:=decide_eq_true h0
    clear h1 h0 hz
    go_wp2_with fail
    have G:Below w.heap.size w ((F.setCell ⟨w.heap.size+1,0,none⟩ (.slice A n c)).setCell ⟨w.heap.size+1,1,none⟩ (.slice A2 n2 c2)):=
     ((I.out).setCell (p:=⟨w.heap.size+1,0,none⟩) (by show w.heap.size≤w.heap.size+1; omega) _).setCell (p:=⟨w.heap.size+1,1,none⟩) (by show w.heap.size≤w.heap.size+1; omega) _
    exact bodyPost_ret (v:=.tuple #[.agg #[.slice A n c,.slice A2 n2 c2],.int .i64 2]) (by simp [results,Tryz.results75,go_sem,Q,Y]) rfl ⟨_,_,_,rfl,u.out.later G,G⟩
   ·have q1:decide (st < 0)=false:=decide_eq_false h0
    have q2:decide (3 < st)=true:=decide_eq_true (by omega)
    clear h1 h0 hz
    go_wp2_with fail
    have G:Below w.heap.size w ((F.setCell ⟨w.heap.size+1,0,none⟩ (.slice A n c)).setCell ⟨w.heap.size+1,1,none⟩ (.slice A2 n2 c2)):=
     ((I.out).setCell (p:=⟨w.heap.size+1,0,none⟩) (by show w.heap.size≤w.heap.size+1; omega) _).setCell (p:=⟨w.heap.size+1,1,none⟩) (by show w.heap.size≤w.heap.size+1; omega) _
    exact bodyPost_ret (v:=.tuple #[.agg #[.slice A n c,.slice A2 n2 c2],.int .i64 2]) (by simp [results,Tryz.results75,go_sem,Q,Y]) rfl ⟨_,_,_,rfl,u.out.later G,G⟩
 have q0:(id == 0)=false:=by (have:id≠0:=(by omega)); simpa using this
 have q1:decide (st < 0)=false:=decide_eq_false (by omega)
 have q2:decide (3 < st)=false:=decide_eq_false (by omega)
 rcases fx_cases D id with ⟨ae,aj⟩ | ⟨k,y,hk,bd,aj,ae⟩
 rotate_left
 ·have e:eE D id st=10:=by unfold eE; rw [if_neg h1,ae]; rfl
  rw [e,if_neg (by decide)]
  clear e
  have q3:decide ((0:Int)≤(k:Int))=true:=decide_eq_true (by omega)
  clear h1 hk bd ae
  go_enter Tryz.func75,Tryz.ntmps75
  go_upto_region 1 with (fail)
  obtain ⟨F,a7⟩:∃ F,((w.alloc (.cells #[.slice A n c,.slice A2 n2 c2] 32)).alloc (.cells #[.slice none 0 0,.slice none 0 0] 32))=F:=⟨_,rfl⟩
  rw [a7] at a3 a4 a5 aq ⊢
  have I:=Lh a3
  have ac:=Lh a4
  have ad:=Lh a5
  obtain ⟨⟨f0,f1⟩,g0,g1⟩:=a4
  obtain ⟨⟨Q,Y⟩,z0,z1⟩:=a5
  clear a7 a3
  have HF:=Lh (rfind_any A A2 n c n2 c2 F.heap.size D F id (u.out.later I.out).l (Nat.le_refl _) (by omega))
  rw [aj] at HF
  clear aj
  go_wp2_with fail
  refine HF.out.mono ?_
  rintro e z ⟨rfl,a1⟩
  have ag:=Lh (I.out.trans (a1.mono I.out.size))
  have VF:=Lh (ac.out.below a1 (by omega))
  have VR:=Lh (ad.out.below a1 (by omega))
  have be:w.heap.size+2≤z.heap.size:=by have:=a1.size; omega
  clear a1 ac ad I HF aq f0 f1 g0 g1 Q Y z0 z1
  obtain ⟨⟨f0,f1⟩,g0,g1⟩:=VF.out
  obtain ⟨⟨Q,Y⟩,z0,z1⟩:=VR.out
  go_wp2_with fail
  have G:Below w.heap.size w ((z.setCell ⟨w.heap.size+1,0,none⟩ (.slice A n c)).setCell ⟨w.heap.size+1,1,none⟩ (.slice A2 n2 c2)):=
   ((ag.out).setCell (p:=⟨w.heap.size+1,0,none⟩) (by show w.heap.size≤w.heap.size+1; omega) _).setCell (p:=⟨w.heap.size+1,1,none⟩) (by show w.heap.size≤w.heap.size+1; omega) _
  exact bodyPost_ret (v:=.tuple #[.agg #[.slice A n c,.slice A2 n2 c2],.int .i64 10]) (by simp [results,Tryz.results75,go_sem,Q,Y]) rfl ⟨_,_,_,rfl,u.out.later G,G⟩
 have e0:eE D id st=0:=by unfold eE; rw [if_neg h1,ae]; rfl
 have b2:Hid (∀ a∈D,a.1≠id):=Lh (fun a ha e=>fnd_no ae (List.mem_map.2 ⟨a,ha,e⟩))
 rw [e0,if_pos rfl]
 have q3:decide ((0:Int) ≤ -1)=false:=rfl
 clear h1 ae e0
 go_enter Tryz.func75,Tryz.ntmps75
 go_upto_region 1 with (fail)
 obtain ⟨F,a7⟩:∃ F,((w.alloc (.cells #[.slice A n c,.slice A2 n2 c2] 32)).alloc (.cells #[.slice none 0 0,.slice none 0 0] 32))=F:=⟨_,rfl⟩
 rw [a7] at a3 a4 a5 aq ⊢
 have I:=Lh a3
 have ac:=Lh a4
 have ad:=Lh a5
 obtain ⟨⟨f0,f1⟩,g0,g1⟩:=a4
 obtain ⟨⟨Q,Y⟩,z0,z1⟩:=a5
 clear a7 a3
 have HF:=Lh (rfind_any A A2 n c n2 c2 F.heap.size D F id (u.out.later I.out).l (Nat.le_refl _) (by omega))
 rw [aj] at HF
 clear aj
 go_wp2_with fail
 refine HF.out.mono ?_
 rintro e z ⟨rfl,a1⟩
 have ag:=Lh (I.out.trans (a1.mono I.out.size))
 have VF:=Lh (ac.out.below a1 (by omega))
 have VR:=Lh (ad.out.below a1 (by omega))
 have be:w.heap.size+2≤z.heap.size:=by have:=a1.size; omega
 clear a1 ac ad I HF aq f0 f1 g0 g1 Q Y z0 z1
 obtain ⟨⟨f0,f1⟩,g0,g1⟩:=VF.out
 go_upto_block 0 with fail
 go_cut [10] from 28 to 44 (fun bg wx=>∃ k:Nat,k≤n∧bg=.int .i64 k∧Hid (∀ a∈D.take k,a.1 < id)∧Hid (∀ a∈D.drop k,id < a.1)∧z=wx)
 case first=>
  go_wp2_with fail
  go_loopw [10] (fun i wr=>∃ k:Nat,k≤n∧i=.int .i64 k∧Hid (∀ a∈D.take k,a.1 < id)∧z=wr) (fun i _=>n - (intOf i).toNat)
  case atStart=>exact ⟨0,Nat.zero_le _,rfl,Lh (fun a ha=>by simp at ha),rfl⟩
  case round=>
   obtain ⟨k,hk,rfl,aH,rfl⟩:=hrel
   by_cases aU:k < n
   ·obtain ⟨b,o,x,wd,bo,si,pr,rfl,hb,ha,c0,c1,b7,b8,b9⟩:=five_at u.out.l aU
    have d0:=(ag.out.cell (p:=⟨b,o+k * 5,none⟩) (by simp only; omega)).trans c0
    have aA:=Lh ha
    have aT:k < c:=by have:=u.out.l.cap; have:n≤c:=this; omega
    clear c0 c1 b7 b8 b9 ha
    by_cases hx:x < id
    ·have e1:decide (x < id)=true:=decide_eq_true hx
     have b0:=Lh (take_below aH.out aA.out hx)
     clear hx
     go_wp2_with fail
     go_roundw
     case rel=>exact ⟨k+1,by omega,by go_num,b0,by trivial⟩
     case measure=>simp [intOf]; omega
    ·have e1:decide (x < id)=false:=decide_eq_false hx
     have a9:Hid (∀ a∈D.drop k,id < a.1):=Lh (ris_rest b3.out (fun a ha=>by
      have h9:=aA.out.symm.trans ha
      injection h9 with h9
      subst h9
      have:=b2.out _ (List.mem_of_getElem? aA.out)
      have h8:x≠id:=this
      show id < x
      omega))
     clear hx
     go_wp2_with fail
     go_meet
     case rel=>exact ⟨k,hk,rfl,aH,a9,rfl⟩
   ·have a9:Hid (∀ a∈D.drop k,id < a.1):=Lh (fun a ha=>by
     rw [List.drop_of_length_le (by have:=aB.out; omega)] at ha; cases ha)
    go_wp2_with fail
    go_meet
    case rel=>exact ⟨k,hk,rfl,aH,a9,rfl⟩
 case rest=>
  obtain ⟨k,hk,rfl,aM,a9,rfl⟩:=hcut
  obtain ⟨XL,ay⟩:∃ X,D.take k ++ (id,(⟨Wd.wOf st 0,now,now,now⟩:Ex)) :: D.drop k=X:=⟨_,rfl⟩
  have b4:Hid (XL=ins D id ⟨Wd.wOf st 0,now,now,now⟩):=Lh (by rw [← ay]; exact ins_at _ aM.out a9.out)
  have aY:Hid (flat enc5 (D.take k) ++ flat enc5 [(id,(⟨Wd.wOf st 0,now,now,now⟩:Ex))] = flat enc5 (D.take k ++ [(id,(⟨Wd.wOf st 0,now,now,now⟩:Ex))])):=Lh (flat_append _ _).symm
  have aK:Hid (flat enc5 (D.take k ++ [(id,(⟨Wd.wOf st 0,now,now,now⟩:Ex))]) ++ flat enc5 (D.drop k)=flat enc5 XL):=Lh (by rw [← flat_append,← ay,List.append_assoc]; rfl)
  have b5:Hid (XL.length=n+1):=Lh (by rw [← ay]; have h2:=aB.out; simp; omega)
  have aL:Hid (k+1+(n - k)=n+1):=Lh (by omega)
  clear ay aM a9
  go_upto_region 9 with (fail)
  go_cut [11] from 45 to 50 (fun bh wx=>∃ (A5:Option Addr) (c5:Nat),bh=.slice A5 k c5∧Hid (wx.ownsRow (w.heap.size+2) 215 5 (.slice A5 k c5) k (flat enc5 (D.take k)))∧Hid (Below (w.heap.size+2) z wx)∧z.heap.size≤wx.heap.size)
  case first=>
   rcases u.out.fl with ⟨hA,hc⟩ | ⟨b,o,hA⟩
   ·have hA:A=none:=hA
    have hc:c=0:=hc
    subst hA hc
    obtain rfl:n=0:=by have:n≤0:=u.out.l.cap; omega
    obtain rfl:k=0:=by omega
    have RF:Hid (Rb z z.heap.size none 0 0 (D.take 0)):=Lh (by rw [List.take_zero]; exact Rs.nil_)
    go_wp2_with (
     at_builtin
     refine append_rs enc5_len rfl _ _ 29 rfl (w.heap.size+2) 215 i0 _ 40 Tryz.underlying29 hi ar au av rfl (by decide) (.slice none 0 0) 0 [] rfl (World.ownsRow_nil _ _ _ _) _ none 0 0 (D.take 0) rfl RF.out enc5_one 0 (Nat.zero_add _) (flat enc5 (D.take 0)) rfl (by unfold maxLen; omega) (by omega) (by omega) ?_
     intro A5 c5 w5 an a8 aE
     have B5:=Lh ((Below.refl (w.heap.size+2) z).grown a8 (by omega) (fun j hj=>by cases hj))
     have aa:=Lh an
     have az:z.heap.size≤w5.heap.size:=a8.size
     clear an a8 aE)
    go_meet
    case rel=>exact ⟨A5,c5,rfl,aa,B5,az⟩
   ·have hA:A=some ⟨b,o,none⟩:=hA
    subst hA
    have RF:Hid (Rb z z.heap.size (some ⟨b,o,none⟩) k c (D.take k)):=Lh ((u.out.later ag.out).l.front (i:=k) hk)
    have bc:n≤c:=u.out.l.cap
    have aT:k≤c:=by omega
    go_wp2_with (
     at_builtin
     refine append_rs enc5_len rfl _ _ 29 rfl (w.heap.size+2) 215 i0 _ 40 Tryz.underlying29 hi ar au av rfl (by decide) (.slice none 0 0) 0 [] rfl (World.ownsRow_nil _ _ _ _) _ (some ⟨b,o,none⟩) k c (D.take k) rfl RF.out enc5_one k (Nat.zero_add _) (flat enc5 (D.take k)) rfl (by unfold maxLen; omega) (by omega) (by omega) ?_
     intro A5 c5 w5 an a8 aE
     have B5:=Lh ((Below.refl (w.heap.size+2) z).grown a8 (by omega) (fun j hj=>by cases hj))
     have aa:=Lh an
     have az:z.heap.size≤w5.heap.size:=a8.size
     clear an a8 aE)
    go_meet
    case rel=>exact ⟨A5,c5,rfl,aa,B5,az⟩
  case rest=>
   obtain ⟨A5,c5,rfl,aa,B5,az⟩:=hcut
   generalize wc=w5 at *
   have aO:=Lh (rs_one enc5_len w5 (id,(⟨Wd.wOf st 0,now,now,now⟩:Ex)) 215 (cs:=#[.int .u64 id,.int .u64 (Wd.wOf st 0),.int .u64 now,.int .u64 now,.int .u64 now]) rfl)
   have aC:=Lh (aa.out.alloc (.cells #[.int .u64 id,.int .u64 (Wd.wOf st 0),.int .u64 now,.int .u64 now,.int .u64 now] 215))
   have aJ:=Lh (B5.out.alloc (by omega) (.cells #[.int .u64 id,.int .u64 (Wd.wOf st 0),.int .u64 now,.int .u64 now,.int .u64 now] 215))
   have aN:=Lh (Wd.rof_any st 0 w5 (by decide) (by decide) aX.1 aX.2)
   clear aa B5 f0 f1 g0 g1
   go_wp2_with fail
   refine aN.out.mono ?_
   rintro e bp ⟨rfl,rfl⟩
   go_wp2_with (
    at_builtin
    refine append_rs enc5_len rfl _ _ 29 rfl (w.heap.size+2) 215 i0 _ 40 Tryz.underlying29 hi ar au av rfl (by decide) (.slice A5 k c5) k (flat enc5 (D.take k)) rfl aC.out _ _ 1 1 [(id,(⟨Wd.wOf st 0,now,now,now⟩:Ex))] rfl aO.out enc5_one (k+1) rfl (flat enc5 (D.take k ++ [(id,(⟨Wd.wOf st 0,now,now,now⟩:Ex))])) aY.out (by unfold maxLen; omega) (by omega) (by simp; omega) ?_
    intro A6 c6 w6 aV aG bb
    refine Hid.out ?_)
   refine Lh ?_
   have B6:=Lh (aJ.out.grown aG (by simp; omega) (fun j hj=>(aC.out.lt j hj).1))
   have bj:w.heap.size+2≤w6.heap.size:=by have:=aG.size; simp at this; omega
   have ah:=Lh aV
   have ax:=Lh (VF.out.below B6.out (by omega))
   have aD:=Lh (VR.out.below B6.out (by omega))
   have aw:=Lh (ag.out.trans (B6.out.mono (by omega)))
   obtain ⟨⟨f0,f1⟩,g0,g1⟩:=ax.out
   clear aV aG bb aO aC aJ VF VR B6 aN
   go_upto_region 11 with (fail)
   go_cut [] from 61 to 67 (fun wx=>∃ (A7:Option Addr) (c7:Nat),Hid (Vb wx w.heap.size (.slice A7 (n+1) c7) (.slice A2 n2 c2))∧Hid (Vb wx (w.heap.size+1) (.slice none 0 0) (.slice none 0 0))∧Hid (wx.ownsRow (w.heap.size+2) 215 5 (.slice A7 (n+1) c7) (n+1) (flat enc5 XL))∧Hid (Below w.heap.size w wx)∧w.heap.size+2≤wx.heap.size)
   case first=>
    rcases u.out.fl with ⟨hA,hc⟩ | ⟨b,o,hA⟩
    ·have hA:A=none:=hA
     have hc:c=0:=hc
     subst hA hc
     obtain rfl:n=0:=by have:n≤0:=u.out.l.cap; omega
     obtain rfl:k=0:=by omega
     have RB:Hid (Rb w6 w6.heap.size none 0 0 (D.drop 0)):=Lh (by rw [List.drop_of_length_le (by have:=aB.out; omega)]; exact Rs.nil_)
     go_wp2_with (
      at_builtin
      refine append_rs enc5_len rfl _ _ 29 rfl (w.heap.size+2) 215 i0 _ 40 Tryz.underlying29 hi ar au av rfl (by decide) (.slice A6 (0+1) c6) (0+1) (flat enc5 (D.take 0 ++ [(id,(⟨Wd.wOf st 0,now,now,now⟩:Ex))])) rfl ah.out _ none 0 0 (D.drop 0) rfl RB.out enc5_one (0+1) aL.out (flat enc5 XL) aK.out (by unfold maxLen; omega) (by omega) (by omega) ?_
      intro A7 c7 w7 ao al aF
      have a0:Below (w.heap.size+2) w6 w7:=(Below.refl _ _).grown al (by omega) (fun j hj=>(ah.out.lt j hj).1)
      have a6:=Lh ao
      have af:=Lh (aw.out.trans (a0.mono (by omega)))
      obtain ⟨⟨f0,f1⟩,g0,g1⟩:=ax.out.below a0 (by omega)
      have ai:=Lh (aD.out.below a0 (by omega))
      have aW:w.heap.size+2≤w7.heap.size:=by have:=a0.size; omega
      clear a0 ao al aF)
     go_meet
     case rel=>
      refine ⟨A7,c7,?_,?_,?_,?_,by simp; omega⟩
      ·exact Lh ⟨⟨by go_simp,by go_simp⟩,by go_simp,by go_simp⟩
      ·refine Lh ?_
       obtain ⟨⟨Q,Y⟩,z0,z1⟩:=ai.out
       exact ⟨⟨by go_simp,by go_simp⟩,by go_simp,by go_simp⟩
      ·refine Lh (Hi.own_same a6.out (fun J ak=>?_))
       have hg:=(a6.out.lt J ak).1
       rw [heap_setCell_other _ _ J _ (fun e=>by have e:J=w.heap.size:=e; omega)]
      ·exact Lh (af.out.setCell (Nat.le_refl _) _)
    ·have hA:A=some ⟨b,o,none⟩:=hA
     subst hA
     have bc:n≤c:=u.out.l.cap
     have aT:k≤c:=by omega
     have bn:c≤9223372036854775807:=u.out.l.top
     obtain ⟨A4,ba⟩:∃ A4:Option Addr,(if c=k then some (⟨b,o,none⟩:Addr) else some ⟨b,o+k * 5,none⟩)=A4:=⟨_,rfl⟩
     have aR:Rb w w.heap.size (some ⟨b,o,none⟩) n c D:=u.out.l
     have aP:Rb w w.heap.size A4 (n - k) (c - k) (D.drop k):=aR.back (i:=k) hk rfl (fun aU=>by rw [← ba,if_neg (by omega)])
     have RB:=Lh (aP.later aw.out)
     clear aR aP
     go_wp2_with (
      at_builtin
      refine append_rs enc5_len rfl _ _ 29 rfl (w.heap.size+2) 215 i0 _ 40 Tryz.underlying29 hi ar au av rfl (by decide) (.slice A6 (k+1) c6) (k+1) (flat enc5 (D.take k ++ [(id,(⟨Wd.wOf st 0,now,now,now⟩:Ex))])) rfl ah.out _ A4 (n - k) (c - k) (D.drop k) rfl RB.out enc5_one (n+1) aL.out (flat enc5 XL) aK.out (by unfold maxLen; omega) (by omega) (by omega) ?_
      intro A7 c7 w7 ao al aF
      have a0:Below (w.heap.size+2) w6 w7:=(Below.refl _ _).grown al (by omega) (fun j hj=>(ah.out.lt j hj).1)
      have a6:=Lh ao
      have af:=Lh (aw.out.trans (a0.mono (by omega)))
      obtain ⟨⟨f0,f1⟩,g0,g1⟩:=ax.out.below a0 (by omega)
      have ai:=Lh (aD.out.below a0 (by omega))
      have aW:w.heap.size+2≤w7.heap.size:=by have:=a0.size; omega
      clear a0 ao al aF)
     go_meet
     case rel=>
      refine ⟨A7,c7,?_,?_,?_,?_,by simp; omega⟩
      ·exact Lh ⟨⟨by go_simp,by go_simp⟩,by go_simp,by go_simp⟩
      ·refine Lh ?_
       obtain ⟨⟨Q,Y⟩,z0,z1⟩:=ai.out
       exact ⟨⟨by go_simp,by go_simp⟩,by go_simp,by go_simp⟩
      ·refine Lh (Hi.own_same a6.out (fun J ak=>?_))
       have hg:=(a6.out.lt J ak).1
       rw [heap_setCell_other _ _ J _ (fun e=>by have e:J=w.heap.size:=e; omega)]
      ·exact Lh (af.out.setCell (Nat.le_refl _) _)
   case rest=>
    obtain ⟨A7,c7,b6,ai,a6,af,aW⟩:=hcut
    clear ax aD ah aw f0 f1 g0 g1
    generalize wc=w7 at *
    obtain ⟨⟨f0,f1⟩,g0,g1⟩:=b6.out
    obtain ⟨⟨Q,Y⟩,z0,z1⟩:=ai.out
    go_wp2_with fail
    have G:Below w.heap.size w ((w7.setCell ⟨w.heap.size+1,0,none⟩ (.slice A7 (n+1) c7)).setCell ⟨w.heap.size+1,1,none⟩ (.slice A2 n2 c2)):=
     ((af.out).setCell (p:=⟨w.heap.size+1,0,none⟩) (by show w.heap.size≤w.heap.size+1; omega) _).setCell (p:=⟨w.heap.size+1,1,none⟩) (by show w.heap.size≤w.heap.size+1; omega) _
    have aI:((w7.setCell ⟨w.heap.size+1,0,none⟩ (.slice A7 (n+1) c7)).setCell ⟨w.heap.size+1,1,none⟩ (.slice A2 n2 c2)).ownsRow (w.heap.size+2) 215 5 (.slice A7 (n+1) c7) (n+1) (flat enc5 XL):=by
     refine Hi.own_same a6.out (fun J ak=>?_)
     have hg:=(a6.out.lt J ak).1
     rw [heap_setCell_other _ _ J _ (fun e=>by have e:J=w.heap.size+1:=e; omega),heap_setCell_other _ _ J _ (fun e=>by have e:J=w.heap.size+1:=e; omega)]
    have aS:=u.out.later G
    exact bodyPost_ret (v:=.tuple #[.agg #[.slice A7 (n+1) c7,.slice A2 n2 c2],.int .i64 0]) (by simp [results,Tryz.results75,go_sem,Q,Y]) rfl ⟨_,_,_,rfl,(by rw [← b4.out]; exact ⟨Rs.own_rs enc5_len b5.out aI,aS.s,own_flt aI,Kn.own aI (fun g hg=>aZ.out g (by omega)),aS.ks⟩),G⟩
end
end Go.Proofs.YtoiklelghfckgaaGreatDoor.Ba
namespace Go.Proofs.YtoiklelghfckgaaGreatDoor.Ba
open Go.ChangeShapes Go.WideShapes Go.ChangeAt Go.RowKit Go.Maps Rw Hi Mt
theorem rs_blk {α:Type} {enc:α→List Value} {z:Nat} {w w':World} {A:Option Addr} {n c:Nat} {xs:List α} {B B':Nat} (h:Rs enc z w B A n c xs) (I:B≤B') (hk:0 < n → ∀ b o,A=some ⟨b,o,none⟩→w'.heap[b]? = w.heap[b]?):Rs enc z w' B' A n c xs:=
 ⟨h.len,h.cap,h.top,fun hn=>by
  obtain ⟨b,o,e,G,hc⟩:=h.at_ hn
  exact ⟨b,o,e,by omega,fun j x hx i u hi F=>(World.cell?_of_block (hk hn b o e)).trans (hc j x hx i u hi F)⟩⟩
section
variable {K L E:Nat→Prop} {w w':World} {d:Db} {D:List (Int × Ex)} {S:List Int}
theorem Dq.mono (h:Dq K w d D S) (hk:∀ g,g < w.heap.size→K g→L g):Dq L w d D S:=
 ⟨h.l,h.s,h.fl,fun hn a e=>by
  obtain ⟨b,o,u,F,_⟩:=h.l.at_ hn
  have z:=h.kl hn a e
  rw [u] at e; injection e with e; subst e
  exact hk _ F z,fun hn a e=>by
  obtain ⟨b,o,u,F,_⟩:=h.s.at_ hn
  have z:=h.ks hn a e
  rw [u] at e; injection e with e; subst e
  exact hk _ F z⟩
theorem Dq.fz (h:Dq K w d D S) (z:Fz E w w') (I:∀ g,g < w.heap.size→K g → ¬ E g):Dq K w' d D S:=
 ⟨rs_blk h.l z.size fun hn b o e=>z.block b (by obtain ⟨b',G,u,F,_⟩:=h.l.at_ hn; rw [u] at e; injection e with e; injection e with e1; omega)
   (I b (by obtain ⟨b',G,u,F,_⟩:=h.l.at_ hn; rw [u] at e; injection e with e; injection e with e1; omega) (h.kl hn _ e)),
  rd_blk h.s z.size fun hn b o e=>z.block b (by obtain ⟨b',G,u,F,_⟩:=h.s.at_ hn; rw [u] at e; injection e with e; injection e with e1; omega)
   (I b (by obtain ⟨b',G,u,F,_⟩:=h.s.at_ hn; rw [u] at e; injection e with e; injection e with e1; omega) (h.ks hn _ e)),h.fl,h.kl,h.ks⟩
theorem Dq.nil_:Dq K w ⟨none,0,0,none,0,0⟩ [] []:=⟨Rs.nil_,Rd.nil_,.inl ⟨rfl,rfl⟩,Kn.nil_,Kn.nil_⟩
end
def put2 (w:World) (r:Nat) (d:Db):World:=(w.setCell ⟨r,0,none⟩ (.slice d.A d.n d.c)).setCell ⟨r,1,none⟩ (.slice d.A2 d.n2 d.c2)
theorem Vb.blk {w w':World} {g:Nat} {a b:Value} (h:Vb w g a b) (u:w'.heap[g]? = w.heap[g]?):Vb w' g a b:=by
 obtain ⟨⟨z,F⟩,f0,f1⟩:=h
 exact ⟨⟨(World.cell?_of_block (a:=⟨g,0,none⟩) u).trans z,(World.cell?_of_block (a:=⟨g,1,none⟩) u).trans F⟩,(World.frozen?_of_block (a:=⟨g,0,none⟩) u).trans f0,(World.frozen?_of_block (a:=⟨g,1,none⟩) u).trans f1⟩
theorem Vb.lt {w:World} {g:Nat} {a b:Value} (h:Vb w g a b):g < w.heap.size:=Lw.lt_heap h.1.1
section
variable {W w w':World} {p a r q:Nat} {e d:Db} {D D' D2:List (Int × Ex)} {S S' S2:List Int} {y:Ax} {C R C' R':Nat→Prop}
end
section
variable {W w w':World} {p a p2 a2 r q:Nat} {e d:Db} {D0 D D' D1:List (Int × Ex)} {S0 S S' S1:List Int} {C R C2 R2:Nat→Prop}
end
end Go.Proofs.YtoiklelghfckgaaGreatDoor.Ba
