/- A part of the claim: the texts BagRefE BagTold BagPlaysKit. -/
import Derived.Test.YtaeemilldmhbnaaGreatDoorXGBagRef
import Derived.Test.YtaeemilldmhbnaaGreatDoorXGSort
import Derived.Test.YtaeemilldmhbnaaGreatDoorXBase1
import Derived.Test.YtaeemilldmhbnaaGreatDoorXGBagG
import Derived.Test.YtaeemilldmhbnaaGreatDoorXGClone
import Derived.Deep.CutRange
import Derived.Deep.CutBlock
set_option maxRecDepth 100000
set_option maxHeartbeats 8000000
set_option linter.unusedVariables false
namespace Go.Proofs.YtaeemilldmhbnaaGreatDoor.Ba
open Go.ChangeShapes Go.WideShapes Go.ChangeAt Go.RowKit Go.Deep Go.Maps Rw Hi Mt
section
variable {β:Type} {D:List (Int × β)} {id:Int} {k:Nat}
theorem ris_rest (h:Ris D) (hk:∀ a,D[k]? = some a→id < a.1):∀ a∈D.drop k,id < a.1:=by
 intro a ha
 obtain ⟨j,z,rfl⟩:=List.mem_iff_getElem.1 ha
 rw [List.getElem_drop]
 rw [List.length_drop] at z
 have u:=hk _ (List.getElem?_eq_getElem (show k < D.length by omega))
 rcases Nat.eq_zero_or_pos j with e | e
 ·subst e; exact u
 ·have:=List.pairwise_iff_getElem.1 h k (k+j) (by omega) (by omega) (by omega)
  exact Int.lt_trans u this
theorem take_below {a:Int × β} (h:∀ a∈D.take k,a.1 < id) (hk:D[k]? = some a) (F:a.1 < id):∀ a∈D.take (k+1),a.1 < id:=by
 obtain ⟨z,rfl⟩:=List.getElem?_eq_some_iff.1 hk
 intro b u
 rw [List.take_succ_eq_append_getElem z] at u
 rcases List.mem_append.1 u with u | u
 ·exact h b u
 ·rw [List.mem_singleton.1 u]; exact F
theorem ins_at (x:β) (u:∀ a∈D.take k,a.1 < id) (h:∀ a∈D.drop k,id < a.1):D.take k ++ (id,x) :: D.drop k=ins D id x:=by
 have z:D.filter (fun q=>decide (q.1 < id))=D.take k:=by
  conv=>lhs; rw [← List.take_append_drop k D,List.filter_append]
  rw [List.filter_eq_self.2 (fun a ha=>by simpa using u a ha),List.filter_eq_nil_iff.2 (fun a ha=>by have:=h a ha; simp; omega),List.append_nil]
 have F:D.filter (fun q=>decide (id < q.1))=D.drop k:=by
  conv=>lhs; rw [← List.take_append_drop k D,List.filter_append]
  rw [List.filter_eq_nil_iff.2 (fun a ha=>by have:=u a ha; simp; omega),List.filter_eq_self.2 (fun a ha=>by simpa using h a ha),List.nil_append]
 show _=D.filter (fun q=>decide (q.1 < id)) ++ (id,x) :: D.filter (fun q=>decide (id < q.1))
 rw [z,F]
end
section
variable {K:Nat→Prop} (A A2:Option Addr) (n c n2 c2:Nat) (D:List (Int × Ex)) (S:List Int) (w:World)
theorem renter_any (id st now:Int) (h:Dq K w ⟨A,n,c,A2,n2,c2⟩ D S) (aQ:∀ g,w.heap.size≤g→K g) (hs:Ris D) (hid:U64 id) (aX:-9223372036854775808≤st∧st≤9223372036854775807) (bi:U64 now) (hn:n≤1000) :
  Calls Tryz.prog 57 #[.agg #[.slice A n c,.slice A2 n2 c2],.int .u64 id,.int .i64 st,.int .u64 now] w fun e w'=>∃ A' n' c',e=.returned (.tuple #[.agg #[.slice A' n' c',.slice A2 n2 c2],.int .i64 (eE D id st)]) ∧
   Dq K w' ⟨A',n',c',A2,n2,c2⟩ (if eE D id st=0 then ins D id ⟨Wd.wOf st 0,now,now,now⟩ else D) S∧Below w.heap.size w w':=by
 obtain ⟨i0,hi,ar,au,av⟩:=info_parts info_entry
 obtain ⟨a3,a4,a5,aq⟩:=two_boxes A A2 n c n2 c2 w
 have u:=Lh h
 have aZ:=Lh aQ
 clear aQ
 have b3:=Lh hs
 have aB:Hid (D.length=n):=Lh h.l.len
 clear h hs
 by_cases h1:id=0∨st < 0∨3 < st
 ·have e:eE D id st=2:=by unfold eE; rw [if_pos h1]
  rw [e,if_neg (by decide)]
  clear e
  go_enter Tryz.func57,Tryz.ntmps57
  go_upto_region 1 with (fail)
  obtain ⟨F,a7⟩:∃ F,((w.alloc (.cells #[.slice A n c,.slice A2 n2 c2] 40)).alloc (.cells #[.slice none 0 0,.slice none 0 0] 40))=F:=⟨_,rfl⟩
  rw [a7] at a3 a4 a5 aq ⊢
  have I:=Lh a3
  have ac:=Lh a4
  have ad:=Lh a5
  obtain ⟨⟨f0,f1⟩,g0,g1⟩:=a4
  obtain ⟨⟨N,Y⟩,z0,z1⟩:=a5
  clear a7 a3
  by_cases hz:id=0
  ·have q0:(id == 0)=true:=by simpa using hz
   clear h1 hz
   go_wp2_with fail
   have G:Below w.heap.size w ((F.setCell ⟨w.heap.size+1,0,none⟩ (.slice A n c)).setCell ⟨w.heap.size+1,1,none⟩ (.slice A2 n2 c2)):=
    ((I.out).setCell (p:=⟨w.heap.size+1,0,none⟩) (by show w.heap.size≤w.heap.size+1; omega) _).setCell (p:=⟨w.heap.size+1,1,none⟩) (by show w.heap.size≤w.heap.size+1; omega) _
   exact bodyPost_ret (v:=.tuple #[.agg #[.slice A n c,.slice A2 n2 c2],.int .i64 2]) (by simp [results,Tryz.results57,go_sem,N,Y]) rfl ⟨_,_,_,rfl,u.out.later G,G⟩
  ·have q0:(id == 0)=false:=by simpa using hz
   by_cases h0:st < 0
   ·have q1:decide (st < 0)=true:=decide_eq_true h0
    clear h1 h0 hz
    go_wp2_with fail
    have G:Below w.heap.size w ((F.setCell ⟨w.heap.size+1,0,none⟩ (.slice A n c)).setCell ⟨w.heap.size+1,1,none⟩ (.slice A2 n2 c2)):=
     ((I.out).setCell (p:=⟨w.heap.size+1,0,none⟩) (by show w.heap.size≤w.heap.size+1; omega) _).setCell (p:=⟨w.heap.size+1,1,none⟩) (by show w.heap.size≤w.heap.size+1; omega) _
    exact bodyPost_ret (v:=.tuple #[.agg #[.slice A n c,.slice A2 n2 c2],.int .i64 2]) (by simp [results,Tryz.results57,go_sem,N,Y]) rfl ⟨_,_,_,rfl,u.out.later G,G⟩
   ·have q1:decide (st < 0)=false:=decide_eq_false h0
    have q2:decide (3 < st)=true:=decide_eq_true (by omega)
    clear h1 h0 hz
    go_wp2_with fail
    have G:Below w.heap.size w ((F.setCell ⟨w.heap.size+1,0,none⟩ (.slice A n c)).setCell ⟨w.heap.size+1,1,none⟩ (.slice A2 n2 c2)):=
     ((I.out).setCell (p:=⟨w.heap.size+1,0,none⟩) (by show w.heap.size≤w.heap.size+1; omega) _).setCell (p:=⟨w.heap.size+1,1,none⟩) (by show w.heap.size≤w.heap.size+1; omega) _
    exact bodyPost_ret (v:=.tuple #[.agg #[.slice A n c,.slice A2 n2 c2],.int .i64 2]) (by simp [results,Tryz.results57,go_sem,N,Y]) rfl ⟨_,_,_,rfl,u.out.later G,G⟩
 have q0:(id == 0)=false:=by (have:id≠0:=(by omega)); simpa using this
 have q1:decide (st < 0)=false:=decide_eq_false (by omega)
 have q2:decide (3 < st)=false:=decide_eq_false (by omega)
 rcases fx_cases D id with ⟨ae,aj⟩ | ⟨k,y,hk,bd,aj,ae⟩
 rotate_left
 ·have e:eE D id st=10:=by unfold eE; rw [if_neg h1,ae]; rfl
  rw [e,if_neg (by decide)]
  clear e
  have q3:decide ((0:Int)≤(k:Int))=true:=decide_eq_true (by omega)
  clear h1 hk bd ae
  go_enter Tryz.func57,Tryz.ntmps57
  go_upto_region 1 with (fail)
  obtain ⟨F,a7⟩:∃ F,((w.alloc (.cells #[.slice A n c,.slice A2 n2 c2] 40)).alloc (.cells #[.slice none 0 0,.slice none 0 0] 40))=F:=⟨_,rfl⟩
  rw [a7] at a3 a4 a5 aq ⊢
  have I:=Lh a3
  have ac:=Lh a4
  have ad:=Lh a5
  obtain ⟨⟨f0,f1⟩,g0,g1⟩:=a4
  obtain ⟨⟨N,Y⟩,z0,z1⟩:=a5
  clear a7 a3
  have HF:=Lh (rfind_any A A2 n c n2 c2 F.heap.size D F id (u.out.later I.out).l (Nat.le_refl _) (by omega))
  rw [aj] at HF
  clear aj
  go_wp2_with fail
  refine HF.out.mono ?_
  rintro e z ⟨rfl,a1⟩
  have ag:=Lh (I.out.trans (a1.mono I.out.size))
  have VF:=Lh (ac.out.below a1 (by omega))
  have VR:=Lh (ad.out.below a1 (by omega))
  have be:w.heap.size+2≤z.heap.size:=by have:=a1.size; omega
  clear a1 ac ad I HF aq f0 f1 g0 g1 N Y z0 z1
  obtain ⟨⟨f0,f1⟩,g0,g1⟩:=VF.out
  obtain ⟨⟨N,Y⟩,z0,z1⟩:=VR.out
  go_wp2_with fail
  have G:Below w.heap.size w ((z.setCell ⟨w.heap.size+1,0,none⟩ (.slice A n c)).setCell ⟨w.heap.size+1,1,none⟩ (.slice A2 n2 c2)):=
   ((ag.out).setCell (p:=⟨w.heap.size+1,0,none⟩) (by show w.heap.size≤w.heap.size+1; omega) _).setCell (p:=⟨w.heap.size+1,1,none⟩) (by show w.heap.size≤w.heap.size+1; omega) _
  exact bodyPost_ret (v:=.tuple #[.agg #[.slice A n c,.slice A2 n2 c2],.int .i64 10]) (by simp [results,Tryz.results57,go_sem,N,Y]) rfl ⟨_,_,_,rfl,u.out.later G,G⟩
 have e0:eE D id st=0:=by unfold eE; rw [if_neg h1,ae]; rfl
 have b2:Hid (∀ a∈D,a.1≠id):=Lh (fun a ha e=>fnd_no ae (List.mem_map.2 ⟨a,ha,e⟩))
 rw [e0,if_pos rfl]
 have q3:decide ((0:Int) ≤ -1)=false:=rfl
 clear h1 ae e0
 go_enter Tryz.func57,Tryz.ntmps57
 go_upto_region 1 with (fail)
 obtain ⟨F,a7⟩:∃ F,((w.alloc (.cells #[.slice A n c,.slice A2 n2 c2] 40)).alloc (.cells #[.slice none 0 0,.slice none 0 0] 40))=F:=⟨_,rfl⟩
 rw [a7] at a3 a4 a5 aq ⊢
 have I:=Lh a3
 have ac:=Lh a4
 have ad:=Lh a5
 obtain ⟨⟨f0,f1⟩,g0,g1⟩:=a4
 obtain ⟨⟨N,Y⟩,z0,z1⟩:=a5
 clear a7 a3
 have HF:=Lh (rfind_any A A2 n c n2 c2 F.heap.size D F id (u.out.later I.out).l (Nat.le_refl _) (by omega))
 rw [aj] at HF
 clear aj
 go_wp2_with fail
 refine HF.out.mono ?_
 rintro e z ⟨rfl,a1⟩
 have ag:=Lh (I.out.trans (a1.mono I.out.size))
 have VF:=Lh (ac.out.below a1 (by omega))
 have VR:=Lh (ad.out.below a1 (by omega))
 have be:w.heap.size+2≤z.heap.size:=by have:=a1.size; omega
 clear a1 ac ad I HF aq f0 f1 g0 g1 N Y z0 z1
 obtain ⟨⟨f0,f1⟩,g0,g1⟩:=VF.out
 go_upto_block 0 with fail
 go_cut [10] from 28 to 44 (fun bg wx=>∃ k:Nat,k≤n∧bg=.int .i64 k∧Hid (∀ a∈D.take k,a.1 < id)∧Hid (∀ a∈D.drop k,id < a.1)∧z=wx)
 case first=>
  go_wp2_with fail
  go_loopw [10] (fun i wr=>∃ k:Nat,k≤n∧i=.int .i64 k∧Hid (∀ a∈D.take k,a.1 < id)∧z=wr) (fun i _=>n - (intOf i).toNat)
  case atStart=>exact ⟨0,Nat.zero_le _,rfl,Lh (fun a ha=>by simp at ha),rfl⟩
  case round=>
   obtain ⟨k,hk,rfl,aH,rfl⟩:=hrel
   by_cases aU:k < n
   ·obtain ⟨b,o,x,wd,bo,si,pr,rfl,hb,ha,c0,c1,b7,b8,b9⟩:=five_at u.out.l aU
    have d0:=(ag.out.cell (p:=⟨b,o+k * 5,none⟩) (by simp only; omega)).trans c0
    have aA:=Lh ha
    have aT:k < c:=by have:=u.out.l.cap; have:n≤c:=this; omega
    clear c0 c1 b7 b8 b9 ha
    by_cases hx:x < id
    ·have e1:decide (x < id)=true:=decide_eq_true hx
     have b0:=Lh (take_below aH.out aA.out hx)
     clear hx
     go_wp2_with fail
     go_roundw
     case rel=>exact ⟨k+1,by omega,by go_num,b0,by trivial⟩
     case measure=>simp [intOf]; omega
    ·have e1:decide (x < id)=false:=decide_eq_false hx
     have a9:Hid (∀ a∈D.drop k,id < a.1):=Lh (ris_rest b3.out (fun a ha=>by
      have h9:=aA.out.symm.trans ha
      injection h9 with h9
      subst h9
      have:=b2.out _ (List.mem_of_getElem? aA.out)
      have h8:x≠id:=this
      show id < x
      omega))
     clear hx
     go_wp2_with fail
     go_meet
     case rel=>exact ⟨k,hk,rfl,aH,a9,rfl⟩
   ·have a9:Hid (∀ a∈D.drop k,id < a.1):=Lh (fun a ha=>by
     rw [List.drop_of_length_le (by have:=aB.out; omega)] at ha; cases ha)
    go_wp2_with fail
    go_meet
    case rel=>exact ⟨k,hk,rfl,aH,a9,rfl⟩
 case rest=>
  obtain ⟨k,hk,rfl,aM,a9,rfl⟩:=hcut
  obtain ⟨XL,ay⟩:∃ X,D.take k ++ (id,(⟨Wd.wOf st 0,now,now,now⟩:Ex)) :: D.drop k=X:=⟨_,rfl⟩
  have b4:Hid (XL=ins D id ⟨Wd.wOf st 0,now,now,now⟩):=Lh (by rw [← ay]; exact ins_at _ aM.out a9.out)
  have aY:Hid (flat enc5 (D.take k) ++ flat enc5 [(id,(⟨Wd.wOf st 0,now,now,now⟩:Ex))] = flat enc5 (D.take k ++ [(id,(⟨Wd.wOf st 0,now,now,now⟩:Ex))])):=Lh (flat_append _ _).symm
  have aK:Hid (flat enc5 (D.take k ++ [(id,(⟨Wd.wOf st 0,now,now,now⟩:Ex))]) ++ flat enc5 (D.drop k)=flat enc5 XL):=Lh (by rw [← flat_append,← ay,List.append_assoc]; rfl)
  have b5:Hid (XL.length=n+1):=Lh (by rw [← ay]; have h2:=aB.out; simp; omega)
  have aL:Hid (k+1+(n - k)=n+1):=Lh (by omega)
  clear ay aM a9
  go_upto_region 9 with (fail)
  go_cut [11] from 45 to 50 (fun bh wx=>∃ (A5:Option Addr) (c5:Nat),bh=.slice A5 k c5∧Hid (wx.ownsRow (w.heap.size+2) 163 5 (.slice A5 k c5) k (flat enc5 (D.take k)))∧Hid (Below (w.heap.size+2) z wx)∧z.heap.size≤wx.heap.size)
  case first=>
   rcases u.out.fl with ⟨hA,hc⟩ | ⟨b,o,hA⟩
   ·have hA:A=none:=hA
    have hc:c=0:=hc
    subst hA hc
    obtain rfl:n=0:=by have:n≤0:=u.out.l.cap; omega
    obtain rfl:k=0:=by omega
    have RF:Hid (Rb z z.heap.size none 0 0 (D.take 0)):=Lh (by rw [List.take_zero]; exact Rs.nil_)
    go_wp2_with (
     at_builtin
     refine append_rs enc5_len rfl _ _ 37 rfl (w.heap.size+2) 163 i0 _ 40 Tryz.underlying37 hi ar au av rfl (by decide) (.slice none 0 0) 0 [] rfl (World.ownsRow_nil _ _ _ _) _ none 0 0 (D.take 0) rfl RF.out enc5_one 0 (Nat.zero_add _) (flat enc5 (D.take 0)) rfl (by unfold maxLen; omega) (by omega) (by omega) ?_
     intro A5 c5 w5 an a8 aE
     have B5:=Lh ((Below.refl (w.heap.size+2) z).grown a8 (by omega) (fun j hj=>by cases hj))
     have aa:=Lh an
     have az:z.heap.size≤w5.heap.size:=a8.size
     clear an a8 aE)
    go_meet
    case rel=>exact ⟨A5,c5,rfl,aa,B5,az⟩
   ·have hA:A=some ⟨b,o,none⟩:=hA
    subst hA
    have RF:Hid (Rb z z.heap.size (some ⟨b,o,none⟩) k c (D.take k)):=Lh ((u.out.later ag.out).l.front (i:=k) hk)
    have bc:n≤c:=u.out.l.cap
    have aT:k≤c:=by omega
    go_wp2_with (
     at_builtin
     refine append_rs enc5_len rfl _ _ 37 rfl (w.heap.size+2) 163 i0 _ 40 Tryz.underlying37 hi ar au av rfl (by decide) (.slice none 0 0) 0 [] rfl (World.ownsRow_nil _ _ _ _) _ (some ⟨b,o,none⟩) k c (D.take k) rfl RF.out enc5_one k (Nat.zero_add _) (flat enc5 (D.take k)) rfl (by unfold maxLen; omega) (by omega) (by omega) ?_
     intro A5 c5 w5 an a8 aE
     have B5:=Lh ((Below.refl (w.heap.size+2) z).grown a8 (by omega) (fun j hj=>by cases hj))
     have aa:=Lh an
     have az:z.heap.size≤w5.heap.size:=a8.size
     clear an a8 aE)
    go_meet
    case rel=>exact ⟨A5,c5,rfl,aa,B5,az⟩
  case rest=>
   obtain ⟨A5,c5,rfl,aa,B5,az⟩:=hcut
   generalize wc=w5 at *
   have aO:=Lh (rs_one enc5_len w5 (id,(⟨Wd.wOf st 0,now,now,now⟩:Ex)) 163 (cs:=#[.int .u64 id,.int .u64 (Wd.wOf st 0),.int .u64 now,.int .u64 now,.int .u64 now]) rfl)
   have aC:=Lh (aa.out.alloc (.cells #[.int .u64 id,.int .u64 (Wd.wOf st 0),.int .u64 now,.int .u64 now,.int .u64 now] 163))
   have aJ:=Lh (B5.out.alloc (by omega) (.cells #[.int .u64 id,.int .u64 (Wd.wOf st 0),.int .u64 now,.int .u64 now,.int .u64 now] 163))
   have aN:=Lh (Wd.rof_any st 0 w5 (by decide) (by decide) aX.1 aX.2)
   clear aa B5 f0 f1 g0 g1
   go_wp2_with fail
   refine aN.out.mono ?_
   rintro e bp ⟨rfl,rfl⟩
   go_wp2_with (
    at_builtin
    refine append_rs enc5_len rfl _ _ 37 rfl (w.heap.size+2) 163 i0 _ 40 Tryz.underlying37 hi ar au av rfl (by decide) (.slice A5 k c5) k (flat enc5 (D.take k)) rfl aC.out _ _ 1 1 [(id,(⟨Wd.wOf st 0,now,now,now⟩:Ex))] rfl aO.out enc5_one (k+1) rfl (flat enc5 (D.take k ++ [(id,(⟨Wd.wOf st 0,now,now,now⟩:Ex))])) aY.out (by unfold maxLen; omega) (by omega) (by simp; omega) ?_
    intro A6 c6 w6 aV aG bb
    refine Hid.out ?_)
   refine Lh ?_
   have B6:=Lh (aJ.out.grown aG (by simp; omega) (fun j hj=>(aC.out.lt j hj).1))
   have bj:w.heap.size+2≤w6.heap.size:=by have:=aG.size; simp at this; omega
   have ah:=Lh aV
   have ax:=Lh (VF.out.below B6.out (by omega))
   have aD:=Lh (VR.out.below B6.out (by omega))
   have aw:=Lh (ag.out.trans (B6.out.mono (by omega)))
   obtain ⟨⟨f0,f1⟩,g0,g1⟩:=ax.out
   clear aV aG bb aO aC aJ VF VR B6 aN
   go_upto_region 11 with (fail)
   go_cut [] from 61 to 67 (fun wx=>∃ (A7:Option Addr) (c7:Nat),Hid (Vb wx w.heap.size (.slice A7 (n+1) c7) (.slice A2 n2 c2))∧Hid (Vb wx (w.heap.size+1) (.slice none 0 0) (.slice none 0 0))∧Hid (wx.ownsRow (w.heap.size+2) 163 5 (.slice A7 (n+1) c7) (n+1) (flat enc5 XL))∧Hid (Below w.heap.size w wx)∧w.heap.size+2≤wx.heap.size)
   case first=>
    rcases u.out.fl with ⟨hA,hc⟩ | ⟨b,o,hA⟩
    ·have hA:A=none:=hA
     have hc:c=0:=hc
     subst hA hc
     obtain rfl:n=0:=by have:n≤0:=u.out.l.cap; omega
     obtain rfl:k=0:=by omega
     have RB:Hid (Rb w6 w6.heap.size none 0 0 (D.drop 0)):=Lh (by rw [List.drop_of_length_le (by have:=aB.out; omega)]; exact Rs.nil_)
     go_wp2_with (
      at_builtin
      refine append_rs enc5_len rfl _ _ 37 rfl (w.heap.size+2) 163 i0 _ 40 Tryz.underlying37 hi ar au av rfl (by decide) (.slice A6 (0+1) c6) (0+1) (flat enc5 (D.take 0 ++ [(id,(⟨Wd.wOf st 0,now,now,now⟩:Ex))])) rfl ah.out _ none 0 0 (D.drop 0) rfl RB.out enc5_one (0+1) aL.out (flat enc5 XL) aK.out (by unfold maxLen; omega) (by omega) (by omega) ?_
      intro A7 c7 w7 ao al aF
      have a0:Below (w.heap.size+2) w6 w7:=(Below.refl _ _).grown al (by omega) (fun j hj=>(ah.out.lt j hj).1)
      have a6:=Lh ao
      have af:=Lh (aw.out.trans (a0.mono (by omega)))
      obtain ⟨⟨f0,f1⟩,g0,g1⟩:=ax.out.below a0 (by omega)
      have ai:=Lh (aD.out.below a0 (by omega))
      have aW:w.heap.size+2≤w7.heap.size:=by have:=a0.size; omega
      clear a0 ao al aF)
     go_meet
     case rel=>
      refine ⟨A7,c7,?_,?_,?_,?_,by simp; omega⟩
      ·exact Lh ⟨⟨by go_simp,by go_simp⟩,by go_simp,by go_simp⟩
      ·refine Lh ?_
       obtain ⟨⟨N,Y⟩,z0,z1⟩:=ai.out
       exact ⟨⟨by go_simp,by go_simp⟩,by go_simp,by go_simp⟩
      ·refine Lh (Hi.own_same a6.out (fun J ak=>?_))
       have hg:=(a6.out.lt J ak).1
       rw [heap_setCell_other _ _ J _ (fun e=>by have e:J=w.heap.size:=e; omega)]
      ·exact Lh (af.out.setCell (Nat.le_refl _) _)
    ·have hA:A=some ⟨b,o,none⟩:=hA
     subst hA
     have bc:n≤c:=u.out.l.cap
     have aT:k≤c:=by omega
     have bn:c≤9223372036854775807:=u.out.l.top
     obtain ⟨A4,ba⟩:∃ A4:Option Addr,(if c=k then some (⟨b,o,none⟩:Addr) else some ⟨b,o+k * 5,none⟩)=A4:=⟨_,rfl⟩
     have aR:Rb w w.heap.size (some ⟨b,o,none⟩) n c D:=u.out.l
     have aP:Rb w w.heap.size A4 (n - k) (c - k) (D.drop k):=aR.back (i:=k) hk rfl (fun aU=>by rw [← ba,if_neg (by omega)])
     have RB:=Lh (aP.later aw.out)
     clear aR aP
     go_wp2_with (
      at_builtin
      refine append_rs enc5_len rfl _ _ 37 rfl (w.heap.size+2) 163 i0 _ 40 Tryz.underlying37 hi ar au av rfl (by decide) (.slice A6 (k+1) c6) (k+1) (flat enc5 (D.take k ++ [(id,(⟨Wd.wOf st 0,now,now,now⟩:Ex))])) rfl ah.out _ A4 (n - k) (c - k) (D.drop k) rfl RB.out enc5_one (n+1) aL.out (flat enc5 XL) aK.out (by unfold maxLen; omega) (by omega) (by omega) ?_
      intro A7 c7 w7 ao al aF
      have a0:Below (w.heap.size+2) w6 w7:=(Below.refl _ _).grown al (by omega) (fun j hj=>(ah.out.lt j hj).1)
      have a6:=Lh ao
      have af:=Lh (aw.out.trans (a0.mono (by omega)))
      obtain ⟨⟨f0,f1⟩,g0,g1⟩:=ax.out.below a0 (by omega)
      have ai:=Lh (aD.out.below a0 (by omega))
      have aW:w.heap.size+2≤w7.heap.size:=by have:=a0.size; omega
      clear a0 ao al aF)
     go_meet
     case rel=>
      refine ⟨A7,c7,?_,?_,?_,?_,by simp; omega⟩
      ·exact Lh ⟨⟨by go_simp,by go_simp⟩,by go_simp,by go_simp⟩
      ·refine Lh ?_
       obtain ⟨⟨N,Y⟩,z0,z1⟩:=ai.out
       exact ⟨⟨by go_simp,by go_simp⟩,by go_simp,by go_simp⟩
      ·refine Lh (Hi.own_same a6.out (fun J ak=>?_))
       have hg:=(a6.out.lt J ak).1
       rw [heap_setCell_other _ _ J _ (fun e=>by have e:J=w.heap.size:=e; omega)]
      ·exact Lh (af.out.setCell (Nat.le_refl _) _)
   case rest=>
    obtain ⟨A7,c7,b6,ai,a6,af,aW⟩:=hcut
    clear ax aD ah aw f0 f1 g0 g1
    generalize wc=w7 at *
    obtain ⟨⟨f0,f1⟩,g0,g1⟩:=b6.out
    obtain ⟨⟨N,Y⟩,z0,z1⟩:=ai.out
    go_wp2_with fail
    have G:Below w.heap.size w ((w7.setCell ⟨w.heap.size+1,0,none⟩ (.slice A7 (n+1) c7)).setCell ⟨w.heap.size+1,1,none⟩ (.slice A2 n2 c2)):=
     ((af.out).setCell (p:=⟨w.heap.size+1,0,none⟩) (by show w.heap.size≤w.heap.size+1; omega) _).setCell (p:=⟨w.heap.size+1,1,none⟩) (by show w.heap.size≤w.heap.size+1; omega) _
    have aI:((w7.setCell ⟨w.heap.size+1,0,none⟩ (.slice A7 (n+1) c7)).setCell ⟨w.heap.size+1,1,none⟩ (.slice A2 n2 c2)).ownsRow (w.heap.size+2) 163 5 (.slice A7 (n+1) c7) (n+1) (flat enc5 XL):=by
     refine Hi.own_same a6.out (fun J ak=>?_)
     have hg:=(a6.out.lt J ak).1
     rw [heap_setCell_other _ _ J _ (fun e=>by have e:J=w.heap.size+1:=e; omega),heap_setCell_other _ _ J _ (fun e=>by have e:J=w.heap.size+1:=e; omega)]
    have aS:=u.out.later G
    exact bodyPost_ret (v:=.tuple #[.agg #[.slice A7 (n+1) c7,.slice A2 n2 c2],.int .i64 0]) (by simp [results,Tryz.results57,go_sem,N,Y]) rfl ⟨_,_,_,rfl,(by rw [← b4.out]; exact ⟨Rs.own_rs enc5_len b5.out aI,aS.s,own_flt aI,Kn.own aI (fun g hg=>aZ.out g (by omega)),aS.ks⟩),G⟩
end
end Go.Proofs.YtaeemilldmhbnaaGreatDoor.Ba
namespace Go.Proofs.YtaeemilldmhbnaaGreatDoor.Ba
open Go.ChangeShapes Go.WideShapes Go.ChangeAt Go.RowKit Go.Maps Rw Hi Mt
theorem info_u64t:(Tryz.prog.info? 22).map (fun i=>(i.zero,i.size,i.bytes))=some (some (.int .u64 0),1,8):=by kernel_rfl
def F5 (w:World) (g:Nat) (x wd bo si pr:Int):Prop:=w.cell? ⟨g,0,none⟩=some (.int .u64 x)∧w.cell? ⟨g,1,none⟩=some (.int .u64 wd)∧w.cell? ⟨g,2,none⟩=some (.int .u64 bo)∧w.cell? ⟨g,3,none⟩=some (.int .u64 si)∧w.cell? ⟨g,4,none⟩=some (.int .u64 pr)
theorem F5.same {w w':World} {g:Nat} {x F u z pr:Int} (h:F5 w g x F u z pr) (hk:w'.heap[g]? = w.heap[g]?):F5 w' g x F u z pr:=by
 obtain ⟨G,I,J,N,Y⟩:=h
 exact ⟨(World.cell?_of_block (a:=⟨g,0,none⟩) hk).trans G,(World.cell?_of_block (a:=⟨g,1,none⟩) hk).trans I,(World.cell?_of_block (a:=⟨g,2,none⟩) hk).trans J,(World.cell?_of_block (a:=⟨g,3,none⟩) hk).trans N,(World.cell?_of_block (a:=⟨g,4,none⟩) hk).trans Y⟩
theorem F5.new (w:World) (t:TypeId) (x z h u pr:Int):F5 (w.alloc (.cells #[.int .u64 x,.int .u64 z,.int .u64 h,.int .u64 u,.int .u64 pr] t)) w.heap.size x z h u pr:=by
 refine ⟨?_,?_,?_,?_,?_⟩ <;> go_simp
theorem F5.lt {w:World} {g:Nat} {x F u z pr:Int} (h:F5 w g x F u z pr):g < w.heap.size:=Lw.lt_heap h.1
theorem same15_any (A A':Option Addr) (n c u:Nat) (xs:List Int) (B B':Nat) (w:World) (h:Rd (Value.int .u64) w B A n c xs) (z:Rd (Value.int .u64) w B' A' n u xs) :
  Calls Tryz.prog 75 #[.slice A n c,.slice A' n u] w fun e w'=>e=.returned (.bool true)∧Below w.heap.size w w':=
 (Sl.equal_any A A' n c n u xs xs B B' w h z).mono fun e w' ⟨F,q,G⟩=>⟨by rw [F,decide_eq_true rfl],G ▸ Rw.below_drewN (Below.refl _ _) q⟩
section
variable {C R K:Nat→Prop} (A A2:Option Addr) (n c n2 c2 p a:Nat) (D:List (Int × Ex)) (S:List Int) (w:World)
theorem told15_any (h:Bx C R w p a D S) (hd:Dq K w ⟨A,n,c,A2,n2,c2⟩ D S) (hn:n≤200) (bB:n2≤1000) :
  Calls Tryz.prog 67 #[ptr p,.agg #[.slice A n c,.slice A2 n2 c2]] w fun e w'=>e=.returned (.bool true)∧Below w.heap.size w w':=by
 obtain ⟨i0,hi,bv,bw,bz⟩:=info_parts info_u64t
 have HB:=Lh h
 have HD:=Lh hd
 have b6:Hid (Nd D):=Lh h.ri.nd
 have aE:=Lh h.ui
 have a6:Hid (D.length=n):=Lh hd.l.len
 have aD:Hid (S.length=n2):=Lh hd.s.len
 have B0:Hid (Below w.heap.size w (w.alloc (.cells #[.slice A n c,.slice A2 n2 c2] 40))):=Lh ((Below.refl _ _).alloc (Nat.le_refl _) _)
 have V0:Hid (Vb (w.alloc (.cells #[.slice A n c,.slice A2 n2 c2] 40)) w.heap.size (.slice A n c) (.slice A2 n2 c2)):=Lh ⟨⟨by go_simp,by go_simp⟩,by go_simp,by go_simp⟩
 have aC:Hid ((w.alloc (.cells #[.slice A n c,.slice A2 n2 c2] 40)).heap.size=w.heap.size+1):=Lh (by simp)
 clear h hd
 go_enter Tryz.func67,Tryz.ntmps67
 go_upto_region 1 with (fail)
 generalize (w.alloc (.cells #[.slice A n c,.slice A2 n2 c2] 40))=W0 at *
 obtain ⟨⟨f0,f1⟩,g0,g1⟩:=V0.out
 have aW:w.heap.size+1≤W0.heap.size:=by have:=aC.out; omega
 clear aC
 go_wp2_with fail
 go_loopw [5,16] (fun v i wr=>∃ (k c':Nat) (A':Option Addr),k≤n∧i=.int .i64 k∧v=.slice A' k c' ∧
   Hid (wr.ownsRow (w.heap.size+1) 22 1 (.slice A' k c') k ((D.take k).map (fun q=>.int .u64 q.1)))∧Hid (Below (w.heap.size+1) W0 wr)∧w.heap.size+1≤wr.heap.size) (fun _ i _=>n - (intOf i).toNat)
 case atStart=>exact ⟨0,0,none,Nat.zero_le _,rfl,rfl,World.ownsRow_nil _ _ _ _,Below.refl _ _,aW⟩
 case round=>
  obtain ⟨k,c',A',hk,rfl,rfl,a4,a1,bu⟩:=hrel
  have Y:=Lh (B0.out.trans (a1.out.mono (by omega)))
  by_cases hlt:k < n
  ·obtain ⟨b,o,x,z,F,G,pr,rfl,hb,ha,c0,c1,aJ,aK,aL⟩:=five_at HD.out.l hlt
   have d0:=(Y.out.cell (p:=⟨b,o+k * 5,none⟩) (by simp only; omega)).trans c0
   have d1:=(Y.out.cell (p:=⟨b,o+k * 5+1,none⟩) (by simp only; omega)).trans c1
   have d2:=(Y.out.cell (p:=⟨b,o+k * 5+2,none⟩) (by simp only; omega)).trans aJ
   have d3:=(Y.out.cell (p:=⟨b,o+k * 5+3,none⟩) (by simp only; omega)).trans aK
   have d4:=(Y.out.cell (p:=⟨b,o+k * 5+4,none⟩) (by simp only; omega)).trans aL
   have bA:k < c:=by have:=HD.out.l.cap; have:n≤c:=this; omega
   have b2:Hid (D.take (k+1)=D.take k ++ [(x,⟨z,F,G,pr⟩)]):=Lh (by
    obtain ⟨hl,e⟩:=List.getElem?_eq_some_iff.1 ha
    rw [List.take_succ_eq_append_getElem hl,e])
   have aa:Hid (fnd D x=some ⟨z,F,G,pr⟩):=Lh (fnd_mem b6.out (List.mem_of_getElem? ha))
   have aF:Hid (U64 x):=Lh (aE.out _ (List.mem_of_getElem? ha)).1
   clear c0 c1 aJ aK aL ha
   go_upto_region 5 with (fail)
   have X5:=Lh (F5.new wr 163 x z F G pr)
   have aA:=Lh (a4.out.alloc (.cells #[.int .u64 x,.int .u64 z,.int .u64 F,.int .u64 G,.int .u64 pr] 163))
   have B5:=Lh (a1.out.alloc bu (.cells #[.int .u64 x,.int .u64 z,.int .u64 F,.int .u64 G,.int .u64 pr] 163))
   have az:Hid (∀ g,(Value.slice A' k c').ownBlock=some g→g < wr.heap.size):=Lh (fun g e=>(a4.out.lt g e).2)
   have bn:(wr.alloc (.cells #[.int .u64 x,.int .u64 z,.int .u64 F,.int .u64 G,.int .u64 pr] 163)).heap.size=wr.heap.size+1:=by simp
   clear d0 d1 d2 d3 d4 a4 a1
   generalize (wr.alloc (.cells #[.int .u64 x,.int .u64 z,.int .u64 F,.int .u64 G,.int .u64 pr] 163))=W5 at *
   generalize wr.heap.size=r at *
   have bp:r+1≤W5.heap.size:=by omega
   clear bn
   obtain ⟨x0,x1,x2,x3,x4⟩:=X5.out
   have a7:=Lh (rd_one (enc:=Value.int .u64) W5 x 22)
   have ac:=Lh (aA.out.alloc (.cells #[.int .u64 x] 22))
   have al:=Lh (B5.out.alloc (by omega) (.cells #[.int .u64 x] 22))
   have ay:Hid ((D.take k).map (fun q=>Value.int .u64 q.1) ++ [x].map (Value.int .u64)=(D.take (k+1)).map (fun q=>Value.int .u64 q.1)):=Lh (by rw [b2.out]; simp)
   clear aA B5
   go_wp2_with (
    at_builtin
    go_loud (refine append_rd _ rfl _ _ 38 rfl (w.heap.size+1) 22 i0 (.int .u64 0) 8 Tryz.underlying38 hi bv bw bz rfl (.slice A' k c') k ((D.take k).map (fun q=>Value.int .u64 q.1)) rfl ac.out _ _ 1 1 [x] rfl a7.out (fun _=>rfl) (k+1) rfl _ ay.out (by unfold maxLen; omega) (by omega) (by simp; omega) ?_)
    go_loud (intro A6 c6 w6 aV a8 be)
    go_loud (have ad:=Lh aV)
    go_loud (have B6:=Lh (al.out.grown a8 (by simp; omega) (fun j hj=>(ac.out.lt j hj).1)))
    go_loud (have X6:Hid (F5 w6 r x z F G pr):=Lh (X5.out.same ((a8.block r (by simp; omega) (fun e=>by have:=az.out r e.symm; omega)).trans (Below.heap_alloc _ _ r X5.out.lt))))
    go_loud (have bD:r+1≤w6.heap.size:=by have:=a8.size; simp at this; omega)
    clear aV a8 be x0 x1 x2 x3 x4
    obtain ⟨x0,x1,x2,x3,x4⟩:=X6.out)
   clear X5 ac al a7 az ay bp
   have a9:=Lh (B0.out.trans (B6.out.mono (by omega)))
   have hE:=entry_any w6 p a D S x (HB.out.later a9.out) aF.out
   have aS:bE D x=.agg #[.int .u64 x,.int .u64 z,.int .u64 F,.int .u64 G,.int .u64 pr]:=by unfold bE; rw [aa.out]
   have ah:(fnd D x).isSome=true:=by rw [aa.out]; rfl
   have aT:bW D x=z:=by unfold bW; rw [aa.out]; rfl
   rw [aS,ah] at hE
   have aw:=Lh ah
   have aq:=Lh aT
   have HE:=Lh hE
   clear hE aS ah aT
   go_wp2_with fail
   refine HE.out.mono ?_
   rintro e w7 ⟨rfl,a0⟩
   have B7:=Lh (B6.out.trans (a0.mono (by omega)))
   have b3:=Lh (a9.out.trans (a0.mono (by omega)))
   have aB:=Lh (Hi.own_same ad.out (fun g' bj=>a0.block g' (ad.out.lt g' bj).2))
   have X7:=Lh (X6.out.same (a0.block r (by omega)))
   have bq:r+1≤w7.heap.size:=by have:=a0.size; omega
   clear a0 x0 x1 x2 x3 x4 HE ad X6 B6 a9
   go_upto_region 7 with (fail)
   have Y8:=Lh (F5.new w7 155 x z F G pr)
   have X8:=Lh (X7.out.same (Below.heap_alloc w7 (.cells #[.int .u64 x,.int .u64 z,.int .u64 F,.int .u64 G,.int .u64 pr] 155) r X7.out.lt))
   have b9:=Lh (aB.out.alloc (.cells #[.int .u64 x,.int .u64 z,.int .u64 F,.int .u64 G,.int .u64 pr] 155))
   have B8:=Lh (B7.out.alloc (by omega) (.cells #[.int .u64 x,.int .u64 z,.int .u64 F,.int .u64 G,.int .u64 pr] 155))
   have br:(w7.alloc (.cells #[.int .u64 x,.int .u64 z,.int .u64 F,.int .u64 G,.int .u64 pr] 155)).heap.size=w7.heap.size+1:=by simp
   clear B7 b3 aB X7
   generalize (w7.alloc (.cells #[.int .u64 x,.int .u64 z,.int .u64 F,.int .u64 G,.int .u64 pr] 155))=W8 at *
   generalize w7.heap.size=y at *
   have bt:w.heap.size+1≤W8.heap.size:=by omega
   clear br bq
   have an:=Lh (B0.out.trans (B8.out.mono (by omega)))
   have hL:=load_any W8 p a D S x (HB.out.later an.out) aF.out
   rw [aq.out,aw.out] at hL
   have HL:=Lh hL
   obtain ⟨x0,x1,x2,x3,x4⟩:=X8.out
   obtain ⟨y0,y1,y2,y3,y4⟩:=Y8.out
   clear hL
   go_wp2_with fail
   refine HL.out.mono ?_
   rintro e w9 ⟨rfl,rfl⟩
   have q1:(z != z)=false:=by simp
   clear HL aw aq X8 Y8 an
   go_wp2_with fail
   go_roundw
   case rel=>exact ⟨k+1,c6,A6,by omega,by go_num,rfl,b9,B8,bt⟩
   case measure=>simp [intOf]; omega
  ·obtain rfl:k=n:=by omega
   have a7:Hid (Rd (Value.int .u64) wr wr.heap.size A' k c' (D.map Prod.fst)):=Lh (by
    have h1:=a4.out
    rw [List.take_of_length_le (by have:=a6.out; omega),show D.map (fun q=>Value.int .u64 q.1)=(D.map Prod.fst).map (Value.int .u64) by simp] at h1
    exact Rd.own_rd h1)
   have V9:Hid (Vb wr w.heap.size (.slice A k c) (.slice A2 n2 c2)):=Lh (V0.out.below a1.out (by omega))
   clear a4 a1 aW f0 f1 g0 g1
   generalize wr=W9 at *
   have ag:∀ s:Int,(cnt D s != cnt D s)=false:=fun s=>by simp
   have bb:Hid (∀ q∈D,0≤q.2.word):=Lh (fun q hq=>(aE.out q hq).2.1.1)
   go_wp2_with fail
   go_loopw [67] (fun i wr=>∃ s:Nat,s≤4∧i=.int .i64 s∧Hid (Below W9.heap.size W9 wr)) (fun i _=>4 - (intOf i).toNat)
   case atStart=>exact ⟨0,by omega,rfl,Below.refl _ _⟩
   case round=>
    obtain ⟨s,bC,rfl,J⟩:=hrel
    have aX:=J.out.size
    have a3:∀ x:After wr,Below w.heap.size w x.1:=fun x=>Y.out.trans ((J.out.mono (by omega)).trans (x.2.mono (by omega)))
    by_cases hlt2:s < 4
    ·have q2:decide ((s:Int) < 4)=true:=decide_eq_true (by omega)
     have q3:=ag s
     have ar:∀ x:After wr,Bx C R x.1 p a D S:=fun x=>HB.out.later (a3 x)
     have au:∀ x:After wr,Rb x.1 w.heap.size A k c D:=fun x=>HD.out.l.below (a3 x)
     have av:∀ x:After wr,w.heap.size≤x.1.heap.size:=fun x=>(a3 x).size
     have ae:=V9.out.below J.out (by omega)
     have bg:∀ x:After wr,x.1.cell? ⟨w.heap.size,0,none⟩=some (.slice A k c):=fun x=>x.cell ae.1.1
     have bh:∀ x:After wr,x.1.cell? ⟨w.heap.size,1,none⟩=some (.slice A2 n2 c2):=fun x=>x.cell ae.1.2
     have bi:D.length≤1000:=by have:=a6.out; omega
     have ax:=Lh hlt2
     clear hlt2 ag
     go_upto_region 14 with (fail)
     refine region_after (by kernel_rfl) (by kernel_rfl) ?_
     repeat (go_big_quiet_step (first
      | (go_at_call 137; exact After.call (count_any _ p a D S (ar _) s bi))
      | (go_at_call 138; exact After.call (rcount_any A A2 k c n2 c2 w.heap.size D _ s (au _) bb.out (av _) (by omega)))))
     refine wpQuiet_nil ?_
     rintro W2 ⟨⟨_,aR⟩,rfl⟩
     have b4:=Lh (J.out.trans (aR.mono aX))
     clear aR ar au av bg bh ae a3 J
     go_wp2_with fail
     go_roundw
     case rel=>exact ⟨s+1,by have:=ax.out; omega,by go_num,b4⟩
     case measure=>(simp [intOf]; have:=ax.out; omega)
    ·-- LAST
     have a5:Hid (Below w.heap.size w wr):=Lh (Y.out.trans (J.out.mono (by omega)))
     have ao:=Lh (HB.out.later a5.out)
     have b8:=Lh (a7.out.below J.out |>.more aX)
     have bd:=Lh (V9.out.below J.out (by omega))
     have ba:=Lh (HD.out.later a5.out).s
     have b5:Hid (w.heap.size < wr.heap.size):=Lh (by omega)
     have b7:=Lh HB.out.nd
     have bc:=Lh HB.out.us
     obtain rfl:s=4:=by omega
     clear a3 ag J
     go_upto_region 17 with (fail)
     refine reg_start 13 (fun w'=>Below wr.heap.size wr w') (by kernel_rfl) (by kernel_rfl) ?_
     intro aM
     have N:=Lh aM
     clear aM
     have u:=Lh ((Below.refl wr.heap.size wr).drew)
     refine rq 0 N.out u.out rfl ?_
     refine rq 2 N.out u.out rfl ?_
     refine reg_only 1 rfl (by kernel_rfl) rfl ?_
     unfold Oper.wp
     go_simp
     refine (Iu.ids_any _ p a D S (ao.out.later u.out) (by have:=a6.out; omega)).mono ?_
     rintro e bG ⟨aZ,c10,rfl,aj,aN⟩
     rw [a6.out] at aj ⊢
     have I:=Lh (u.out.trans (aN.mono u.out.size))
     have aG:=Lh aj
     clear aN aj
     clear u
     have u:=I
     clear I
     refine ⟨u.out,?_⟩
     refine reg_only 3 rfl (by kernel_rfl) rfl ?_
     unfold Oper.wp
     go_simp
     refine (same15_any aZ A' k c10 c' _ _ _ _ aG.out (b8.out.below u.out)).mono ?_
     rintro e bH ⟨rfl,aO⟩
     have I:=Lh (u.out.trans (aO.mono u.out.size))
     clear aO aG
     clear u
     have u:=I
     clear I
     refine ⟨u.out,?_⟩
     refine rq 4 N.out u.out rfl ?_
     refine reg_load 5 N.out rfl (by kernel_rfl) (by decide) (fun _ _ _ _ h=>h) u.out (wanted_yes (g:=4) (p:=true) (d:=82) rfl (by kernel_rfl) (at_eq ((Nat.lt_of_lt_of_eq (m:=90) (by decide) rfl)))) ?_
     apply Exists.intro
     refine ⟨fun w' hw=>by (go_simp; exact rfl),?_⟩
     refine reg_load 8 N.out rfl (by kernel_rfl) (by decide) (fun _ _ _ _ h=>h) u.out (wanted_yes (g:=4) (p:=true) (d:=82) rfl (by kernel_rfl) (at_ne (by decide) (at_eq ((Nat.lt_of_lt_of_eq (m:=90) (by decide) rfl))))) ?_
     apply Exists.intro
     refine ⟨fun w' hw=>by (go_simp; exact rfl),?_⟩
     refine reg_load 9 N.out rfl (by kernel_rfl) (by decide) (fun _ _ _ _ h=>h) u.out (wanted_yes (g:=4) (p:=true) (d:=82) rfl (by kernel_rfl) (at_ne (by decide) (at_ne (by decide) (at_eq ((Nat.lt_of_lt_of_eq (m:=90) (by decide) rfl)))))) ?_
     apply Exists.intro
     refine ⟨fun w' hw=>by (have k1:=(hw.cell (p:=⟨w.heap.size,1,none⟩) b5.out).trans bd.out.1.2; go_simp; exact rfl),?_⟩
     refine reg_only 6 rfl (by kernel_rfl) (wanted_yes (g:=4) (p:=true) (d:=82) rfl (by kernel_rfl) (at_ne (by decide) (at_ne (by decide) (at_ne (by decide) (at_eq ((Nat.lt_of_lt_of_eq (m:=90) (by decide) rfl))))))) ?_
     unfold Oper.wp
     go_simp
     refine (blist_any _ p a D S (ao.out.later u.out)).mono ?_
     rintro e bI ⟨ak,aY,c12,rfl,aU,af⟩
     have I:=Lh (u.out.trans (af.mono u.out.size))
     have aH:=Lh (aU.later af)
     clear af aU
     clear u
     have u:=I
     clear I
     refine ⟨u.out,?_⟩
     refine reg_only 7 rfl (by kernel_rfl) (wanted_yes (g:=4) (p:=true) (d:=82) rfl (by kernel_rfl) (rfl)) ?_
     unfold Oper.wp
     go_simp
     refine (Sn.all_any (.agg #[.slice ak aY c12]) S _ ⟨⟨ak,aY,c12,rfl,aH.out⟩,b7.out,bc.out⟩ (by have:=aD.out; omega)).mono ?_
     rintro e bJ ⟨b0,c13,rfl,ai,aP⟩
     rw [aD.out] at ai ⊢
     have I:=Lh (u.out.trans (aP.mono u.out.size))
     have aI:=Lh (Rd.own_rd ai)
     clear aP ai aH
     clear u
     have u:=I
     clear I
     refine ⟨u.out,?_⟩
     refine reg_only 10 rfl (by kernel_rfl) (wanted_yes (g:=4) (p:=true) (d:=82) rfl (by kernel_rfl) (rfl)) ?_
     unfold Oper.wp
     go_simp
     refine (same15_any b0 A2 n2 c13 c2 _ _ _ _ aI.out (ba.out.later u.out)).mono ?_
     rintro e bM ⟨rfl,aQ⟩
     have I:=Lh (u.out.trans (aQ.mono u.out.size))
     clear aQ aI
     clear u
     have u:=I
     clear I
     refine ⟨u.out,?_⟩
     refine rq 11 N.out u.out rfl ?_
     refine rq 12 N.out u.out rfl ?_
     refine reg_done (by kernel_rfl) ?_
     have HZ:=Lh (a5.out.trans (u.out.mono a5.out.size))
     clear u
     go_wp2_with fail
     go_ret
     exact ⟨rfl,HZ.out⟩
end
theorem rs_blk {α:Type} {enc:α→List Value} {z:Nat} {w w':World} {A:Option Addr} {n c:Nat} {xs:List α} {B B':Nat} (h:Rs enc z w B A n c xs) (I:B≤B') (hk:0 < n → ∀ b o,A=some ⟨b,o,none⟩→w'.heap[b]? = w.heap[b]?):Rs enc z w' B' A n c xs:=
 ⟨h.len,h.cap,h.top,fun hn=>by
  obtain ⟨b,o,e,G,hc⟩:=h.at_ hn
  exact ⟨b,o,e,by omega,fun j x hx i u hi F=>(World.cell?_of_block (hk hn b o e)).trans (hc j x hx i u hi F)⟩⟩
section
variable {K L E:Nat→Prop} {w w':World} {d:Db} {D:List (Int × Ex)} {S:List Int}
theorem Dq.mono (h:Dq K w d D S) (hk:∀ g,g < w.heap.size→K g→L g):Dq L w d D S:=
 ⟨h.l,h.s,h.fl,fun hn a e=>by
  obtain ⟨b,o,u,F,_⟩:=h.l.at_ hn
  have z:=h.kl hn a e
  rw [u] at e; injection e with e; subst e
  exact hk _ F z,fun hn a e=>by
  obtain ⟨b,o,u,F,_⟩:=h.s.at_ hn
  have z:=h.ks hn a e
  rw [u] at e; injection e with e; subst e
  exact hk _ F z⟩
theorem Dq.fz (h:Dq K w d D S) (z:Fz E w w') (I:∀ g,g < w.heap.size→K g → ¬ E g):Dq K w' d D S:=
 ⟨rs_blk h.l z.size fun hn b o e=>z.block b (by obtain ⟨b',G,u,F,_⟩:=h.l.at_ hn; rw [u] at e; injection e with e; injection e with e1; omega)
   (I b (by obtain ⟨b',G,u,F,_⟩:=h.l.at_ hn; rw [u] at e; injection e with e; injection e with e1; omega) (h.kl hn _ e)),
  rd_blk h.s z.size fun hn b o e=>z.block b (by obtain ⟨b',G,u,F,_⟩:=h.s.at_ hn; rw [u] at e; injection e with e; injection e with e1; omega)
   (I b (by obtain ⟨b',G,u,F,_⟩:=h.s.at_ hn; rw [u] at e; injection e with e; injection e with e1; omega) (h.ks hn _ e)),h.fl,h.kl,h.ks⟩
theorem Dq.nil_:Dq K w ⟨none,0,0,none,0,0⟩ [] []:=⟨Rs.nil_,Rd.nil_,.inl ⟨rfl,rfl⟩,Kn.nil_,Kn.nil_⟩
end
def put2 (w:World) (r:Nat) (d:Db):World:=(w.setCell ⟨r,0,none⟩ (.slice d.A d.n d.c)).setCell ⟨r,1,none⟩ (.slice d.A2 d.n2 d.c2)
section
variable {W w w':World} {p a r q:Nat} {e d:Db} {D D' D2:List (Int × Ex)} {S S' S2:List Int} {y:Ax} {C R C' R':Nat→Prop}
end
section
variable {W w w':World} {p a p2 a2 r q:Nat} {e d:Db} {D0 D D' D1:List (Int × Ex)} {S0 S S' S1:List Int} {C R C2 R2:Nat→Prop}
end
end Go.Proofs.YtaeemilldmhbnaaGreatDoor.Ba
